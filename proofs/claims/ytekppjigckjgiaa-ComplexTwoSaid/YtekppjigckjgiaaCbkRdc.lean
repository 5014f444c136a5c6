/- The landed book: Reduce. -/
import Derived.Test.YtekppjigckjgiaaCbkCut
set_option linter.unusedSimpArgs false
namespace Go.Proofs.Ytekppjigckjgiaa
open Go.RowKit Go.Mem1 Go.CbkMath

/-- What Reduce tells. -/
def redV (D : Dk) (id u : Int) : Value := .tuple #[coV (redO D id u).1, .int .i64 (redO D id u).2]
theorem bk_same {w w' : World} {B g : Nat} {v1 v2 : Value} {D : Dk} (h : BkAt w' B g v1 v2 D) (hb : Below w.heap.size w w') : ∃ u1 u2, BkAt w' B g u1 u2 D ∧ Chg (BkO g v1 v2) w w' ∧ ∀ j, BkO g u1 u2 j → BkO g v1 v2 j ∨ w.heap.size ≤ j :=
  ⟨v1, v2, h, Chg.of_below hb _, fun _ hj => .inl hj⟩
/-- An order's units stored anew in its row. -/
theorem less_row {w : World} {B b c n : Nat} {t : TypeId} {L : List CO} (h : w.ownsRow B t 5 (.slice (some ⟨b, 0, none⟩) n c) n (L.flatMap co1)) {k : Nat} {o : CO} (hk : L[k]? = some o) (u : Int) :
    (w.setCell ⟨b, k * 5 + 4, none⟩ (.int .i64 (o.un - u))).ownsRow B t 5 (.slice (some ⟨b, 0, none⟩) n c) n ((L.set k (lessC u o)).flatMap co1) := by
  have hs := (h.stored (k * 5 + 4) (.int .i64 (o.un - u))).1
  rw [flat_set (f := co1) co1_len hk (y := lessC u o) (by omega) rfl] at hs
  exact hs
set_option maxHeartbeats 1000000 in
theorem bred_none {w : World} {B g : Nat} {v1 v2 : Value} {D : Dk} (h : BkAt w B g v1 v2 D) {id u : Int} (hr : get2 D id = none) :
    Calls Try.prog 14 #[.pointer (some ⟨g, 0, none⟩), .int .i64 id, .int .i64 u] w (BkDid w B g v1 v2 (redD D id u) (redV D id u)) := by
  obtain ⟨W, hW⟩ : ∃ W, w.alloc (.cells zeroB 31) = W := ⟨_, rfl⟩
  have BW : Below w.heap.size w W := by rw [← hW]; exact bel_new _ _
  have hX : Box W w.heap.size 31 zeroB := by rw [← hW]; exact Box.fresh w _ _ rfl
  have HF := Lib.hid (bfind_any (h.carry BW) id)
  have HX := Lib.hid (fun w' (hb : Below W.heap.size W w') => hX.kept_below hb hX.there)
  have HB := Lib.hid BW
  have HK := Lib.hid (fun w' (hb : Below W.heap.size W w') => (h.carry BW).carry hb)
  have HO := Lib.hid (fun j (hj : BkO g v1 v2 j) => (h.own_lt hj).2)
  have hNW := hX.there
  clear h hX BW
  unfold zeroB at hW
  unfold findV at HF
  unfold BkDid redV redD redO
  rw [hr] at HF ⊢
  dsimp only at HF ⊢
  go_enter Try.func14, Try.ntmps14
  go_wp2_with (go_at_call 35; refine Hid.out ?_)
  refine Lib.hid ?_
  refine HF.out.mono ?_
  rintro e w2 ⟨rfl, hb2⟩
  obtain ⟨z0, z1, z2, z3, z4, f0, f1, f2, f3, f4⟩ := zeroB_cells (HX.out w2 hb2)
  have HE := Lib.hid (HK.out w2 hb2)
  have hsz := Nat.lt_of_lt_of_le hNW hb2.size
  replace hb2 := Lib.hid (bel_trans HB.out hb2)
  go_wp2_with fail
  refine bodyPost_ret (v := .tuple #[coV zeroC, .int .i64 5]) (by simp [results, Try.results14, go_sem, coV, zeroC, z0, z1, z2, z3, z4, Try.isAgg31, Try.sizeOf31]) rfl ⟨rfl, ?_⟩
  exact bk_then hb2.out (Nat.le_refl _) hsz HO.out ⟨v1, v2, HE.out, Chg.refl _ _, fun j hj => .inl hj⟩ _ _ _ _ _
set_option maxHeartbeats 1000000 in
theorem bred_bad {w : World} {B g : Nat} {v1 v2 : Value} {D : Dk} (h : BkAt w B g v1 v2 D) {id u : Int} {k : Nat} {o : CO} (hr : get2 D id = some (k, o)) (hu : ¬ (1 ≤ u ∧ u ≤ o.un)) :
    Calls Try.prog 14 #[.pointer (some ⟨g, 0, none⟩), .int .i64 id, .int .i64 u] w (BkDid w B g v1 v2 (redD D id u) (redV D id u)) := by
  obtain ⟨W, hW⟩ : ∃ W, w.alloc (.cells zeroB 31) = W := ⟨_, rfl⟩
  have BW : Below w.heap.size w W := by rw [← hW]; exact bel_new _ _
  have hX : Box W w.heap.size 31 zeroB := by rw [← hW]; exact Box.fresh w _ _ rfl
  have HF := Lib.hid (bfind_any (h.carry BW) id)
  have HX := Lib.hid (fun w' (hb : Below W.heap.size W w') => hX.kept_below hb hX.there)
  have HB := Lib.hid BW
  have HK := Lib.hid (fun w' (hb : Below W.heap.size W w') => (h.carry BW).carry hb)
  have HO := Lib.hid (fun j (hj : BkO g v1 v2 j) => (h.own_lt hj).2)
  have hNW := hX.there
  clear h hX BW
  unfold zeroB at hW
  unfold findV at HF
  unfold BkDid redV redD redO
  have HR := Lib.hid hr
  rw [hr] at HF ⊢
  dsimp only at HF ⊢
  rw [if_neg hu, if_neg hu]
  clear hr
  go_enter Try.func14, Try.ntmps14
  go_wp2_with (go_at_call 35; refine Hid.out ?_)
  refine Lib.hid ?_
  refine HF.out.mono ?_
  rintro e w2 ⟨rfl, hb2⟩
  obtain ⟨z0, z1, z2, z3, z4, f0, f1, f2, f3, f4⟩ := zeroB_cells (HX.out w2 hb2)
  have hE := HK.out w2 hb2
  obtain ⟨i, b, n, c, hi, hs, hc, hn, hk, hnc, hm, hbw, _, hbg, _, _, k0, k1, k2, k3, k4, _⟩ := hE.found HR.out
  rw [hs]
  have HE := Lib.hid hE
  have hsz := Nat.lt_of_lt_of_le hNW hb2.size
  replace hb2 := Lib.hid (bel_trans HB.out hb2)
  have d1 : (k : Int) < (n : Int) := by omega
  have d2 : (0 : Int) ≤ (k : Int) := by omega
  clear hs hn hE
  by_cases hu1 : u < 1
  · have d3 : decide (u < 1) = true := by simp; omega
    go_wp2_with fail
    refine bodyPost_ret (v := .tuple #[coV zeroC, .int .i64 1]) (by simp [results, Try.results14, go_sem, coV, zeroC, z0, z1, z2, z3, z4, Try.isAgg31, Try.sizeOf31]) rfl ⟨rfl, ?_⟩
    exact bk_then hb2.out (Nat.le_refl _) hsz HO.out ⟨v1, v2, HE.out, Chg.refl _ _, fun j hj => .inl hj⟩ _ _ _ _ _
  · have d3 : decide (u < 1) = false := by simp; omega
    have d4 : decide (o.un < u) = true := by simp; omega
    go_wp2_with fail
    refine bodyPost_ret (v := .tuple #[coV zeroC, .int .i64 1]) (by simp [results, Try.results14, go_sem, coV, zeroC, z0, z1, z2, z3, z4, Try.isAgg31, Try.sizeOf31]) rfl ⟨rfl, ?_⟩
    exact bk_then hb2.out (Nat.le_refl _) hsz HO.out ⟨v1, v2, HE.out, Chg.refl _ _, fun j hj => .inl hj⟩ _ _ _ _ _
theorem set_same2 {v1 v2 v : Value} {i : Nat} (h : (#[v1, v2] : Array Value)[i]? = some v) : (#[v1, v2] : Array Value).setIfInBounds i v = #[v1, v2] := by
  match i, h with
  | 0, h => injection h with h; rw [← h]; rfl
  | 1, h => injection h with h; rw [← h]; rfl
  | i + 2, h => simp at h
/-- A number's order with less units, in memory. -/
theorem BkAt.less {w : World} {B g : Nat} {v1 v2 : Value} {D : Dk} (h : BkAt w B g v1 v2 D) {id u : Int} {k : Nat} {o : CO} (hg : get2 D id = some (k, o)) (hu : 1 ≤ u) (hu2 : u < o.un) {b n c i : Nat} (hi : (if o.si = 1 then 0 else 1) = i)
    (hv : w.cell? ⟨g, i, none⟩ = some (.slice (some ⟨b, 0, none⟩) n c)) :
    ∃ u1 u2, BkAt (w.setCell ⟨b, k * 5 + 4, none⟩ (.int .i64 (o.un - u))) B g u1 u2 (redD D id u) ∧ Chg (BkO g v1 v2) w (w.setCell ⟨b, k * 5 + 4, none⟩ (.int .i64 (o.un - u))) ∧ ∀ j, BkO g u1 u2 j → BkO g v1 v2 j ∨ w.heap.size ≤ j := by
  obtain ⟨i', v, hi', hv', hro, hm, hk, hs, hvo⟩ := h.pick hg
  have e : i' = i := hi'.symm.trans hi
  subst e
  have hvv : v = .slice (some ⟨b, 0, none⟩) n c := by
    have := (h.box.reads i').symm.trans hv
    rw [hv'] at this
    injection this
  subst hvv
  have hln : (rowD o.si D).length = n := by
    obtain ⟨A, c', e⟩ := own_slice hro
    injection e with _ e _
    exact e.symm
  rw [hln] at hro
  have hI := red_inv h.inv id u
  have hred : redD D id u = setD o.si ((rowD o.si D).set k (lessC u o)) D := by
    unfold redD
    rw [hg]
    dsimp only
    rw [if_pos ⟨hu, by omega⟩, if_neg (by omega)]
  rw [hred] at hI ⊢
  have hC : Chg (fun j => j = b) w (w.setCell ⟨b, k * 5 + 4, none⟩ (.int .i64 (o.un - u))) := Chg.setCell (S := fun j => j = b) (Chg.refl _ _) (p := ⟨b, k * 5 + 4, none⟩) (fun _ => rfl) _
  have hbg : ¬ g = b := fun e => h.box.off_row hro (by decide) (by rw [e]; rfl)
  have hx := h.box.kept hC hbg
  rw [← set_same2 hv'] at hx
  have hr2 := less_row hro hk u
  have hl2 : ((rowD o.si D).set k (lessC u o)).length = n := by rw [List.length_set, hln]
  refine h.row hs hi' hv' hx (by rw [hl2]; exact hr2) (hC.mono (fun j _ e => .inr (by rw [e]; rfl))) (fun j hj => .inl hj) hI
set_option maxHeartbeats 1000000 in
theorem bred_less {w : World} {B g : Nat} {v1 v2 : Value} {D : Dk} (h : BkAt w B g v1 v2 D) {id u : Int} {k : Nat} {o : CO} (hr : get2 D id = some (k, o)) (hu : 1 ≤ u) (hu2 : u < o.un) :
    Calls Try.prog 14 #[.pointer (some ⟨g, 0, none⟩), .int .i64 id, .int .i64 u] w (BkDid w B g v1 v2 (redD D id u) (redV D id u)) := by
  obtain ⟨W, hW⟩ : ∃ W, w.alloc (.cells zeroB 31) = W := ⟨_, rfl⟩
  have BW : Below w.heap.size w W := by rw [← hW]; exact bel_new _ _
  have hX : Box W w.heap.size 31 zeroB := by rw [← hW]; exact Box.fresh w _ _ rfl
  have HF := Lib.hid (bfind_any (h.carry BW) id)
  have HX := Lib.hid (fun w' (hb : Below W.heap.size W w') => hX.kept_below hb hX.there)
  have HB := Lib.hid BW
  have HK := Lib.hid (fun w' (hb : Below W.heap.size W w') => (h.carry BW).carry hb)
  have HO := Lib.hid (fun j (hj : BkO g v1 v2 j) => (h.own_lt hj).2)
  have hNW := hX.there
  have hou := (get2_some h.inv hr).2.2.1.2.2.2.1
  have hV : redV D id u = .tuple #[coV (lessC u o), .int .i64 0] := by
    unfold redV redO
    rw [hr]
    dsimp only
    rw [if_pos ⟨hu, by omega⟩]
  clear h hX BW
  unfold zeroB at hW
  unfold findV at HF
  unfold BkDid
  rw [hV]
  have HR := Lib.hid hr
  rw [hr] at HF
  dsimp only at HF ⊢
  clear hr hV
  go_enter Try.func14, Try.ntmps14
  go_wp2_with (go_at_call 35; refine Hid.out ?_)
  refine Lib.hid ?_
  refine HF.out.mono ?_
  rintro e w2 ⟨rfl, hb2⟩
  obtain ⟨z0, z1, z2, z3, z4, f0, f1, f2, f3, f4⟩ := zeroB_cells (HX.out w2 hb2)
  have hE := HK.out w2 hb2
  obtain ⟨i, b, n, c, hi, hs, hc, hn, hk, hnc, hm, hbw, _, hbg, _, _, k0, k1, k2, k3, k4, hbo, fz⟩ := hE.found HR.out
  have HL := Lib.hid (hE.less HR.out hu hu2 hs hc)
  rw [hs]
  have hsz := Nat.lt_of_lt_of_le hNW hb2.size
  have hbs : ¬ b = w.heap.size := by have := HO.out b hbo; omega
  have hf4 := fz (k * 5 + 4)
  replace hb2 := Lib.hid (bel_trans HB.out hb2)
  have d1 : (k : Int) < (n : Int) := by omega
  have d2 : (0 : Int) ≤ (k : Int) := by omega
  have d3 : decide (u < 1) = false := by simp; omega
  have d4 : decide (o.un < u) = false := by simp; omega
  have o1 : 0 ≤ o.un - u := by omega
  have o2 : o.un - u ≤ 1000000 := by omega
  have o3 : ((o.un - u) == 0) = false := by simp; omega
  clear hs hn hE fz hbo
  go_wp2_with fail
  refine bodyPost_ret (v := .tuple #[coV (lessC u o), .int .i64 0]) (by simp [results, Try.results14, go_sem, coV, lessC, z0, z1, z2, z3, z4, hbs, Try.isAgg31, Try.sizeOf31]) rfl ⟨rfl, ?_⟩
  exact bk_then hb2.out (Nat.le_refl _) hsz HO.out HL.out _ _ _ _ _
/-- What cut leaves of a row of which an order has no units any more. -/
theorem BkAt.gone {w w4 : World} {B g : Nat} {v1 v2 v' : Value} {D : Dk} (h : BkAt w B g v1 v2 D) {id u : Int} {k : Nat} {o : CO} (hg : get2 D id = some (k, o)) {b n c i : Nat} (hi : (if o.si = 1 then 0 else 1) = i)
    (hv : w.cell? ⟨g, i, none⟩ = some (.slice (some ⟨b, 0, none⟩) n c)) (hx : Box w4 g 67 ((#[v1, v2] : Array Value).setIfInBounds i v')) (hr : w4.ownsRow B 31 5 v' (n - 1) ((((rowD o.si D).set k (lessC u o)).eraseIdx k).flatMap co1))
    (hb : v'.ownBlock = some b) (hC : Chg (fun j => j = g ∨ j = b) (w.setCell ⟨b, k * 5 + 4, none⟩ (.int .i64 (o.un - u))) w4) :
    ∃ u1 u2, BkAt w4 B g u1 u2 (cutD D k o) ∧ Chg (BkO g v1 v2) w w4 ∧ ∀ j, BkO g u1 u2 j → BkO g v1 v2 j ∨ w.heap.size ≤ j := by
  obtain ⟨i', v, hi', hv', hro, hm, hk, hs, hvo⟩ := h.pick hg
  have e : i' = i := hi'.symm.trans hi
  subst e
  have hvv : v = .slice (some ⟨b, 0, none⟩) n c := by
    have := (h.box.reads i').symm.trans hv
    rw [hv'] at this
    injection this
  subst hvv
  have hln : (rowD o.si D).length = n := by
    obtain ⟨A, c', e⟩ := own_slice hro
    injection e with _ e _
    exact e.symm
  have he : ((rowD o.si D).set k (lessC u o)).eraseIdx k = (rowD o.si D).eraseIdx k := by
    rw [List.eraseIdx_set_eq]
  rw [he] at hr
  have hl2 : ((rowD o.si D).eraseIdx k).length = n - 1 := by rw [List.length_eraseIdx_of_lt (at_lt hk), hln]
  have hC0 : Chg (fun j => j = b) w (w.setCell ⟨b, k * 5 + 4, none⟩ (.int .i64 (o.un - u))) := Chg.setCell (S := fun j => j = b) (Chg.refl _ _) (p := ⟨b, k * 5 + 4, none⟩) (fun _ => rfl) _
  have hC1 : Chg (fun j => j = g ∨ (Value.slice (some ⟨b, 0, none⟩) n c).ownBlock = some j) w w4 := (hC0.mono (fun j _ e => .inr (by rw [e]; rfl))).then hC (fun j _ e => e.elim .inl (fun e => .inr (by rw [e]; rfl)))
  exact h.row hs hi' hv' hx (by rw [hl2]; exact hr) hC1 (fun j hj => .inl (by rw [hb] at hj; exact hj)) (cut_inv h.inv k o hs)
set_option maxHeartbeats 1000000 in
theorem bred_gone {w : World} {B g : Nat} {v1 v2 : Value} {D : Dk} (h : BkAt w B g v1 v2 D) {id u : Int} {k : Nat} {o : CO} (hr : get2 D id = some (k, o)) (hu : 1 ≤ u) (hu2 : u = o.un) :
    Calls Try.prog 14 #[.pointer (some ⟨g, 0, none⟩), .int .i64 id, .int .i64 u] w (BkDid w B g v1 v2 (redD D id u) (redV D id u)) := by
  obtain ⟨W, hW⟩ : ∃ W, w.alloc (.cells zeroB 31) = W := ⟨_, rfl⟩
  have BW : Below w.heap.size w W := by rw [← hW]; exact bel_new _ _
  have hX : Box W w.heap.size 31 zeroB := by rw [← hW]; exact Box.fresh w _ _ rfl
  have HF := Lib.hid (bfind_any (h.carry BW) id)
  have HX := Lib.hid (fun w' (hb : Below W.heap.size W w') => hX.kept_below hb hX.there)
  have HB := Lib.hid BW
  have HK := Lib.hid (fun w' (hb : Below W.heap.size W w') => (h.carry BW).carry hb)
  have HO := Lib.hid (fun j (hj : BkO g v1 v2 j) => (h.own_lt hj).2)
  have hNW := hX.there
  have hou := (get2_some h.inv hr).2.2.1.2.2.2.1
  have hV : redV D id u = .tuple #[coV (lessC u o), .int .i64 0] := by
    unfold redV redO
    rw [hr]
    dsimp only
    rw [if_pos ⟨hu, by omega⟩]
  have hD : redD D id u = cutD D k o := by
    unfold redD
    rw [hr]
    dsimp only
    rw [if_pos ⟨hu, by omega⟩, if_pos hu2]
  clear h hX BW
  unfold zeroB at hW
  unfold findV at HF
  unfold BkDid
  rw [hV, hD]
  have HR := Lib.hid hr
  rw [hr] at HF
  dsimp only at HF ⊢
  have d3 : decide (u < 1) = false := by simp; omega
  have d4 : decide (o.un < u) = false := by simp; omega
  have o1 : 0 ≤ o.un - u := by omega
  have o2 : o.un - u ≤ 1000000 := by omega
  have o3 : ((o.un - u) == 0) = true := by simp; omega
  clear hr hV hD hu2
  go_enter Try.func14, Try.ntmps14
  go_wp2_with (go_at_call 35; refine Hid.out ?_)
  refine Lib.hid ?_
  refine HF.out.mono ?_
  rintro e w2 ⟨rfl, hb2⟩
  have hE := HK.out w2 hb2
  obtain ⟨i, b, n, c, hi, hs, hc, hn, hk, hnc, hm, hbw, _, hbg, hrw, hkk, k0, k1, k2, k3, k4, hbo, fz⟩ := hE.found HR.out
  have hsz := Nat.lt_of_lt_of_le hNW hb2.size
  have hbs : ¬ b = w.heap.size := by have := HO.out b hbo; omega
  have hgs : ¬ g = w.heap.size := by have := HO.out g (.inl rfl); omega
  have HG := Lib.hid (fun w4 v' hx hr hb hC => BkAt.gone (w4 := w4) (v' := v') (u := u) hE HR.out hs hc hx hr hb hC)
  have hC0 : Chg (fun j => j = b) w2 (w2.setCell ⟨b, k * 5 + 4, none⟩ (.int .i64 (o.un - u))) := Chg.setCell (S := fun j => j = b) (Chg.refl _ _) (p := ⟨b, k * 5 + 4, none⟩) (fun _ => rfl) _
  have hx3 := hE.box.kept hC0 (fun e => hbg e.symm)
  have hi3 : (#[v1, v2] : Array Value)[i]? = some (.slice (some ⟨b, 0, none⟩) n c) := (hE.box.reads i).symm.trans hc
  have hr3 := less_row hrw hkk u
  have hl3 : ((rowD o.si D).set k (lessC u o)).length = n := by rw [List.length_set, hn]
  have hk3 : ((rowD o.si D).set k (lessC u o))[k]? = some (lessC u o) := by rw [List.getElem?_set_self (by omega)]
  have HC := Lib.hid (bcut_any (k := k) hx3 hi3 (by rw [hl3]; exact hr3) (by omega) hk3)
  have HZ := (HX.out w2 hb2).kept hC0 (fun e => hbs e.symm)
  have hz2 := Lib.hid HZ
  rw [hs]
  have hf4 := fz (k * 5 + 4)
  replace hb2 := Lib.hid (bel_trans HB.out hb2)
  have d1 : (k : Int) < (n : Int) := by omega
  have d2 : (0 : Int) ≤ (k : Int) := by omega
  unfold CutPost at HC
  rw [hl3] at HC
  clear hs hn hE fz hbo HZ hrw hkk hx3 hi3 hr3 hl3 hk3 hC0
  go_wp2_with (go_at_call 36; refine Hid.out ?_)
  refine Lib.hid ?_
  refine HC.out.mono ?_
  rintro e w4 ⟨rfl, v', hx4, hr4, hv4, hC4⟩
  have hZ := hz2.out.kept hC4 (fun e => by
    rcases e with e | e
    · exact hgs e.symm
    · injection e with e
      exact hbs e)
  obtain ⟨z0, z1, z2, z3, z4, f0, f1, f2, f3, f4⟩ := zeroB_cells hZ
  have HL := Lib.hid (HG.out w4 v' hx4 hr4 hv4 (hC4.mono (fun j _ e => e.elim .inl (fun e => .inr (by injection e with e; exact e.symm)))))
  clear hx4 hr4 hv4 hC4 hZ HX HK HR
  unfold coV
  go_wp2_with fail
  refine bodyPost_ret (v := .tuple #[coV (lessC u o), .int .i64 0]) (by simp [results, Try.results14, go_sem, coV, lessC, z0, z1, z2, z3, z4, hbs, Try.isAgg31, Try.sizeOf31]) rfl ⟨rfl, ?_⟩
  exact bk_then hb2.out (Nat.le_refl _) hsz HO.out HL.out _ _ _ _ _
theorem bred_any {w : World} {B g : Nat} {v1 v2 : Value} {D : Dk} (h : BkAt w B g v1 v2 D) (id u : Int) :
    Calls Try.prog 14 #[.pointer (some ⟨g, 0, none⟩), .int .i64 id, .int .i64 u] w (BkDid w B g v1 v2 (redD D id u) (redV D id u)) := by
  cases hg : get2 D id with
  | none => exact bred_none h hg
  | some p =>
    obtain ⟨k, o⟩ := p
    by_cases hu : 1 ≤ u ∧ u ≤ o.un
    · by_cases he : u = o.un
      · exact bred_gone h hg hu.1 he
      · exact bred_less h hg hu.1 (by omega)
    · exact bred_bad h hg hu
end Go.Proofs.Ytekppjigckjgiaa

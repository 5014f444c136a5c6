/- The landed book: an order taken out of a row (half.cut), Remove, Reduce. -/
import Derived.Test.YtekppjigckjgiaaCbkFnd
import Derived.Test.YtekppjigckjgiaaCbkSDel
set_option linter.unusedSimpArgs false
namespace Go.Proofs.Ytekppjigckjgiaa
open Go.RowKit Go.Mem1 Go.CbkMath

theorem bchg_set5 (w : World) (k : Nat) (a b c d e : Value) : Chg (fun j => j = k) w (((((w.setCell ⟨k, 0, none⟩ a).setCell ⟨k, 1, none⟩ b).setCell ⟨k, 2, none⟩ c).setCell ⟨k, 3, none⟩ d).setCell ⟨k, 4, none⟩ e) :=
  ((((Chg.setCell (S := fun j => j = k) (Chg.refl _ w) (p := ⟨k, 0, none⟩) (fun _ => rfl) a).setCell (p := ⟨k, 1, none⟩) (fun _ => rfl) b).setCell (p := ⟨k, 2, none⟩) (fun _ => rfl) c).setCell (p := ⟨k, 3, none⟩) (fun _ => rfl) d).setCell (p := ⟨k, 4, none⟩) (fun _ => rfl) e
/-- What cut leaves. -/
def CutPost (w : World) (B g i k : Nat) (cs : Array Value) (v : Value) (L : List CO) (o : CO) (e : Ending) (w' : World) : Prop :=
  e = .returned (coV o) ∧ ∃ v', Box w' g 67 (cs.setIfInBounds i v') ∧ w'.ownsRow B 31 5 v' (L.length - 1) ((L.eraseIdx k).flatMap co1) ∧ v'.ownBlock = v.ownBlock ∧ Chg (fun j => j = g ∨ v.ownBlock = some j) w w'
set_option maxRecDepth 100000 in
set_option maxHeartbeats 1000000 in
theorem bcut_any {w : World} {B g i k : Nat} {cs : Array Value} {v : Value} {L : List CO} {o : CO} (hx : Box w g 67 cs) (hi : cs[i]? = some v) (hr : w.ownsRow B 31 5 v L.length (L.flatMap co1)) (hm : L.length ≤ 256) (hk : L[k]? = some o) :
    Calls Try.prog 36 #[.pointer (some ⟨g, i, none⟩), .int .i64 k] w (CutPost w B g i k cs v L o) := by
  obtain ⟨W1, hW1⟩ : ∃ W, w.alloc (.cells zeroB 31) = W := ⟨_, rfl⟩
  have B1 : Below w.heap.size w W1 := by rw [← hW1]; exact bel_new _ _
  have hX : Box W1 w.heap.size 31 zeroB := by rw [← hW1]; exact Box.fresh w _ _ rfl
  obtain ⟨b, c, e, hkn, hbw, hBb, hnc, k0, k1, k2, k3, k4, _⟩ := co_cells (own_keep hr B1) hk
  have hc : W1.cell? ⟨g, i, none⟩ = some v := ((hx.kept_below B1 hx.there).reads i).trans hi
  obtain ⟨W2, hW2⟩ : ∃ W, W1.alloc (.cells (co1 o).toArray 31) = W := ⟨_, rfl⟩
  have B2' : Below W1.heap.size W1 W2 := by rw [← hW2]; exact bel_new _ _
  have B2 : Below w.heap.size w W2 := bel_trans B1 B2'
  have hX2 : Box W2 w.heap.size 31 zeroB := hX.kept_below B2' hX.there
  have hO2 : Box W2 W1.heap.size 31 (co1 o).toArray := by rw [← hW2]; exact Box.fresh W1 _ _ rfl
  have hx2 := hx.kept_below B2 hx.there
  have hc2 : W2.cell? ⟨g, i, none⟩ = some v := (hx2.reads i).trans hi
  have hr2 := own_keep hr B2
  have hgv : v.ownBlock ≠ some g := hx.off_row hr (by decide)
  have hkl := at_lt hk
  have HD := Lib.hid (sdel_any hr2 hkl hm)
  have HR := Lib.hid (fun w3 (v' : Value) (ho : w3.ownsRow B 31 5 v' (L.length - 1) ((L.eraseIdx k).flatMap co1)) (hC : Chg (fun j => v.ownBlock = some j) W2 w3) (hv : v'.ownBlock = v.ownBlock) =>
    (show Box (w3.setCell ⟨g, i, none⟩ v') g 67 (cs.setIfInBounds i v') ∧ (w3.setCell ⟨g, i, none⟩ v').ownsRow B 31 5 v' (L.length - 1) ((L.eraseIdx k).flatMap co1) ∧
        Chg (fun j => j = g ∨ v.ownBlock = some j) w (w3.setCell ⟨g, i, none⟩ v') ∧ Box w3 w.heap.size 31 zeroB ∧ Box w3 W1.heap.size 31 (co1 o).toArray from by
      have hlt : ∀ j, v.ownBlock = some j → j < w.heap.size := fun j hj => (World.ownsRow.lt hr j hj).2
      have hs : Chg (fun j => j = g) w3 (w3.setCell ⟨g, i, none⟩ v') := Chg.setCell (S := fun j => j = g) (Chg.refl _ _) (p := ⟨g, i, none⟩) (fun _ => rfl) v'
      have hgl := hx.there
      have hsz := B1.size
      refine ⟨(hx2.kept hC hgv).wrote i v', own_chg ho hs (fun j hj e => hgv (by rw [← hv, hj, e])), ?_, ?_, ?_⟩
      · exact ((Chg.of_below B2 _).then (hC.mono (fun j _ e => .inr e)) (fun j _ e => e)).then (hs.mono (fun j _ e => .inl e)) (fun j _ e => e)
      · exact hX2.kept hC (fun e => by have := hlt _ e; omega)
      · exact hO2.kept hC (fun e => by have := hlt _ e; omega)))
  have hfz : ∀ w3, Chg (fun j => v.ownBlock = some j) W2 w3 → w3.frozen? ⟨g, i, none⟩ = false ∧ w3.cell? ⟨g, i, none⟩ = some v := fun w3 hC => ⟨(hx2.kept hC hgv).unmarked i, ((hx2.kept hC hgv).reads i).trans hi⟩
  have HZ := Lib.hid hfz
  have hbO : b < w.heap.size := (World.ownsRow.lt hr b (by rw [e]; rfl)).2
  have q1 : ¬ g = w.heap.size := by have := hx.there; omega
  have q2 : ¬ g = W1.heap.size := by have := hx.there; have := B1.size; omega
  have q3 : ¬ w.heap.size = W1.heap.size := by have := hX.there; omega
  unfold zeroB at hW1
  have hW2' : W1.alloc (.cells #[.int .i64 o.id, .int .i64 o.ow, .int .i64 o.si, .int .i64 o.ne, .int .i64 o.un] 31) = W2 := hW2
  clear hW2 hfz hx hx2 hX hX2 hO2 hi hr2 B2 B2' hgv hk
  have d1 : (k : Int) < (L.length : Int) := by omega
  have d2 : (0 : Int) ≤ (k : Int) := by omega
  subst e
  clear hr
  obtain ⟨n, hn⟩ : ∃ n, L.length = n := ⟨_, rfl⟩
  rw [hn] at hc hc2 d1 HD HR hkn hnc hm
  unfold CutPost
  unfold SDelPost at HD
  rw [hn] at HD ⊢
  have hsl := B1.size
  clear hn hkl
  go_enter Try.func36, Try.ntmps36
  go_wp2_with (go_at_call 43; refine Hid.out ?_)
  refine Lib.hid ?_
  refine HD.out.mono ?_
  rintro e w3 ⟨v', rfl, ho, hC, hv⟩
  obtain ⟨r1, r2, r3, r4, r5⟩ := HR.out w3 v' ho hC hv
  obtain ⟨fz, cz⟩ := HZ.out w3 hC
  obtain ⟨A', c', rfl⟩ := own_slice ho
  clear ho hC
  have z := zeroB_cells r4
  obtain ⟨z0, z1, z2, z3, z4, f0, f1, f2, f3, f4⟩ := z
  have y0 : w3.cell? ⟨W1.heap.size, 0, none⟩ = some (.int .i64 o.id) := r5.reads 0
  have y1 : w3.cell? ⟨W1.heap.size, 1, none⟩ = some (.int .i64 o.ow) := r5.reads 1
  have y2 : w3.cell? ⟨W1.heap.size, 2, none⟩ = some (.int .i64 o.si) := r5.reads 2
  have y3 : w3.cell? ⟨W1.heap.size, 3, none⟩ = some (.int .i64 o.ne) := r5.reads 3
  have y4 : w3.cell? ⟨W1.heap.size, 4, none⟩ = some (.int .i64 o.un) := r5.reads 4
  have HE := Lib.hid (And.intro r1 (And.intro r2 (And.intro hv r3)))
  clear r1 r2 r3 r4 r5 hv
  go_wp2_with fail
  refine bodyPost_ret (v := coV o) (by simp [results, Try.results36, go_sem, coV, z0, z1, z2, z3, z4, q1, Try.isAgg31, Try.sizeOf31]) rfl ⟨rfl, ?_⟩
  obtain ⟨r1, r2, hv, r3⟩ := HE.out
  obtain ⟨W4, hW4⟩ : ∃ W, w3.setCell ⟨g, i, none⟩ (.slice A' (n - 1) c') = W := ⟨_, rfl⟩
  rw [hW4] at r1 r2 r3 ⊢
  have hC := bchg_set5 W4 w.heap.size (.int .i64 o.id) (.int .i64 o.ow) (.int .i64 o.si) (.int .i64 o.ne) (.int .i64 o.un)
  refine ⟨_, r1.kept hC q1, own_chg r2 hC (fun j hj e => ?_), hv, r3.then hC (fun j hj e => by omega)⟩
  rw [hv] at hj
  injection hj with hj
  have : b = j := hj
  have := hbO
  omega
/-- What a writing call leaves. -/
def BkDid (w : World) (B g : Nat) (v1 v2 : Value) (D' : Dk) (r : Value) (e : Ending) (w' : World) : Prop :=
  e = .returned r ∧ ∃ u1 u2, BkAt w' B g u1 u2 D' ∧ Chg (BkO g v1 v2) w w' ∧ ∀ j, BkO g u1 u2 j → BkO g v1 v2 j ∨ w.heap.size ≤ j
/-- The row in which a number's order stands. -/
theorem BkAt.pick {w : World} {B g : Nat} {v1 v2 : Value} {D : Dk} (h : BkAt w B g v1 v2 D) {id : Int} {k : Nat} {o : CO} (hg : get2 D id = some (k, o)) :
    ∃ i v, (if o.si = 1 then 0 else 1) = i ∧ (#[v1, v2] : Array Value)[i]? = some v ∧ w.ownsRow B 31 5 v (rowD o.si D).length ((rowD o.si D).flatMap co1) ∧ (rowD o.si D).length ≤ 256 ∧ (rowD o.si D)[k]? = some o ∧ (o.si = 1 ∨ o.si = 2) ∧ ∀ j, v.ownBlock = some j → BkO g v1 v2 j := by
  obtain ⟨g1, g2, g3, g4⟩ := get2_some h.inv hg
  have hm := row_len h.inv o.si
  rcases g4 with ⟨hs, _⟩ | ⟨hs, _⟩
  · rw [hs] at g1 hm ⊢
    exact ⟨0, v1, rfl, rfl, h.b, hm, g1, .inl rfl, fun j hj => .inr (.inl hj)⟩
  · rw [hs] at g1 hm ⊢
    exact ⟨1, v2, rfl, rfl, h.s, hm, g1, .inr rfl, fun j hj => .inr (.inr hj)⟩
/-- A row put in another's place. -/
theorem BkAt.row {w w' : World} {B g : Nat} {v1 v2 : Value} {D : Dk} (h : BkAt w B g v1 v2 D) {s : Int} (hs : s = 1 ∨ s = 2) {i : Nat} (hi : (if s = 1 then 0 else 1) = i) {v v' : Value} {L' : List CO} (hv : (#[v1, v2] : Array Value)[i]? = some v)
    (hx : Box w' g 67 ((#[v1, v2] : Array Value).setIfInBounds i v')) (hr : w'.ownsRow B 31 5 v' L'.length (L'.flatMap co1)) (hC : Chg (fun j => j = g ∨ v.ownBlock = some j) w w')
    (hn : ∀ j, v'.ownBlock = some j → v.ownBlock = some j ∨ w.heap.size ≤ j) (hinv : Inv (setD s L' D)) :
    ∃ u1 u2, BkAt w' B g u1 u2 (setD s L' D) ∧ Chg (BkO g v1 v2) w w' ∧ ∀ j, BkO g u1 u2 j → BkO g v1 v2 j ∨ w.heap.size ≤ j := by
  have hne := h.apart
  rcases hs with rfl | rfl
  · subst hi
    injection hv with hv
    subst hv
    refine ⟨v', v2, ⟨hx, h.low, hr, own_chg h.s hC (fun j hj e => ?_), fun j hj hj2 => ?_, hinv⟩, hC.mono (fun j _ e => e.elim .inl (fun e => .inr (.inl e))), fun j hj => ?_⟩
    · rcases e with e | e
      · exact hne.2 (by rw [hj, e])
      · exact h.two j e hj
    · rcases hn j hj with e | e
      · exact h.two j e hj2
      · have := (World.ownsRow.lt h.s j hj2).2
        omega
    · rcases hj with hj | hj | hj
      · exact .inl (.inl hj)
      · exact (hn j hj).elim (fun e => .inl (.inr (.inl e))) .inr
      · exact .inl (.inr (.inr hj))
  · subst hi
    injection hv with hv
    subst hv
    refine ⟨v1, v', ⟨hx, h.low, own_chg h.b hC (fun j hj e => ?_), hr, fun j hj hj2 => ?_, hinv⟩, hC.mono (fun j _ e => e.elim .inl (fun e => .inr (.inr e))), fun j hj => ?_⟩
    · rcases e with e | e
      · exact hne.1 (by rw [hj, e])
      · exact h.two j hj e
    · rcases hn j hj2 with e | e
      · exact h.two j hj e
      · have := (World.ownsRow.lt h.b j hj).2
        omega
    · rcases hj with hj | hj | hj
      · exact .inl (.inl hj)
      · exact .inl (.inr (.inl hj))
      · exact (hn j hj).elim (fun e => .inl (.inr (.inr e))) .inr
/-- What a call leaves that writes its result's box besides. -/
theorem bk_then {w W w3 : World} {B g k : Nat} {v1 v2 : Value} {D' : Dk} (hW : Below w.heap.size w W) (hk : w.heap.size ≤ k) (hkW : k < W.heap.size) (hO : ∀ j, BkO g v1 v2 j → j < w.heap.size)
    (h : ∃ u1 u2, BkAt w3 B g u1 u2 D' ∧ Chg (BkO g v1 v2) W w3 ∧ ∀ j, BkO g u1 u2 j → BkO g v1 v2 j ∨ W.heap.size ≤ j) (a b c d e : Value) :
    ∃ u1 u2, BkAt (((((w3.setCell ⟨k, 0, none⟩ a).setCell ⟨k, 1, none⟩ b).setCell ⟨k, 2, none⟩ c).setCell ⟨k, 3, none⟩ d).setCell ⟨k, 4, none⟩ e) B g u1 u2 D' ∧ Chg (BkO g v1 v2) w (((((w3.setCell ⟨k, 0, none⟩ a).setCell ⟨k, 1, none⟩ b).setCell ⟨k, 2, none⟩ c).setCell ⟨k, 3, none⟩ d).setCell ⟨k, 4, none⟩ e) ∧ ∀ j, BkO g u1 u2 j → BkO g v1 v2 j ∨ w.heap.size ≤ j := by
  obtain ⟨u1, u2, h1, h2, h3⟩ := h
  have hC := bchg_set5 w3 k a b c d e
  refine ⟨u1, u2, h1.kept hC (fun j hj e => ?_), ((Chg.of_below hW _).then h2 (fun _ _ e => e)).then hC (fun j hj e => by omega), fun j hj => ?_⟩
  · rcases h3 j hj with h4 | h4
    · have := hO j h4
      omega
    · omega
  · rcases h3 j hj with h4 | h4
    · exact .inl h4
    · exact .inr (Nat.le_trans hW.size h4)
set_option maxHeartbeats 1000000 in
theorem brem_any {w : World} {B g : Nat} {v1 v2 : Value} {D : Dk} (h : BkAt w B g v1 v2 D) (id : Int) :
    Calls Try.prog 12 #[.pointer (some ⟨g, 0, none⟩), .int .i64 id] w (BkDid w B g v1 v2 (remD D id) (optV (get2 D id))) := by
  obtain ⟨W, hW⟩ : ∃ W, w.alloc (.cells zeroB 31) = W := ⟨_, rfl⟩
  have BW : Below w.heap.size w W := by rw [← hW]; exact bel_new _ _
  have hX : Box W w.heap.size 31 zeroB := by rw [← hW]; exact Box.fresh w _ _ rfl
  have HF := Lib.hid (bfind_any (h.carry BW) id)
  have HX := Lib.hid (fun w' (hb : Below W.heap.size W w') => hX.kept_below hb hX.there)
  have HB := Lib.hid BW
  have HK := Lib.hid (fun w' (hb : Below W.heap.size W w') => (h.carry BW).carry hb)
  have HO := Lib.hid (fun j (hj : BkO g v1 v2 j) => (h.own_lt hj).2)
  have HI := Lib.hid h.inv
  have hNW := hX.there
  clear h hX BW
  unfold zeroB at hW
  obtain ⟨r, hr⟩ : ∃ r, get2 D id = r := ⟨_, rfl⟩
  unfold findV at HF
  unfold BkDid remD
  rw [hr] at HF ⊢
  cases r with
  | none =>
    dsimp only at HF ⊢
    go_enter Try.func12, Try.ntmps12
    go_wp2_with (go_at_call 35; refine Hid.out ?_)
    refine Lib.hid ?_
    refine HF.out.mono ?_
    rintro e w2 ⟨rfl, hb2⟩
    obtain ⟨z0, z1, z2, z3, z4, f0, f1, f2, f3, f4⟩ := zeroB_cells (HX.out w2 hb2)
    have HE := Lib.hid (HK.out w2 hb2)
    have hsz := Nat.lt_of_lt_of_le hNW hb2.size
    replace hb2 := Lib.hid (bel_trans HB.out hb2)
    go_wp2_with fail
    refine bodyPost_ret (v := .tuple #[coV zeroC, .bool false]) (by simp [results, Try.results12, go_sem, coV, zeroC, z0, z1, z2, z3, z4, Try.isAgg31, Try.sizeOf31]) rfl ⟨rfl, ?_⟩
    exact bk_then hb2.out (Nat.le_refl _) hsz HO.out ⟨v1, v2, HE.out, Chg.refl _ _, fun j hj => .inl hj⟩ _ _ _ _ _
  | some p =>
    obtain ⟨k, o⟩ := p
    dsimp only at HF ⊢
    go_enter Try.func12, Try.ntmps12
    go_wp2_with (go_at_call 35; refine Hid.out ?_)
    refine Lib.hid ?_
    refine HF.out.mono ?_
    rintro e w2 ⟨rfl, hb2⟩
    have HE := HK.out w2 hb2
    obtain ⟨i, v, hi, hv, hro, hm, hk, hs, hvo⟩ := HE.pick hr
    have HC := Lib.hid (bcut_any HE.box hv hro hm hk)
    rw [hi]
    go_wp2_with (go_at_call 36; refine Hid.out ?_)
    refine Lib.hid ?_
    refine HC.out.mono ?_
    rintro e w3 ⟨rfl, v', hx3, hr3, hv3, hC3⟩
    have hZ := (HX.out w2 hb2).kept hC3 (fun e => by
      rcases e with e | e
      · have := HO.out g (.inl rfl); omega
      · have := HO.out _ (hvo _ e); omega)
    obtain ⟨z0, z1, z2, z3, z4, f0, f1, f2, f3, f4⟩ := zeroB_cells hZ
    rw [← List.length_eraseIdx_of_lt (at_lt hk)] at hr3
    have HR := Lib.hid (HE.row hs hi hv hx3 hr3 hC3 (fun j hj => .inl (by rw [← hv3]; exact hj)) (cut_inv HI.out k o hs))
    have hsz := Nat.lt_of_lt_of_le hNW hb2.size
    replace hb2 := Lib.hid (bel_trans HB.out hb2)
    clear HE hi hv hro hm hk hs hvo HC hx3 hr3 hv3 hC3 hZ HX HK hr
    unfold coV
    go_wp2_with fail
    refine bodyPost_ret (v := .tuple #[coV o, .bool true]) (by simp [results, Try.results12, go_sem, coV, z0, z1, z2, z3, z4, Try.isAgg31, Try.sizeOf31]) rfl ⟨rfl, ?_⟩
    exact bk_then hb2.out (Nat.le_refl _) hsz HO.out HR.out _ _ _ _ _
end Go.Proofs.Ytekppjigckjgiaa

/- The landed book: slices.IndexFunc over a row, find, Get, waits. -/
import Derived.Test.YtekppjigckjgiaaCbkMem
import Derived.Test.YtekppjigckjgiaaShelf6
import Derived.Lib.SliceRun
set_option linter.unusedSimpArgs false
namespace Go.Proofs.Ytekppjigckjgiaa
open Go.RowKit Go.Mem1 Go.CbkMath

theorem idpred (id : Int) (b : Nat) (w : World) (hb : b < w.heap.size) (h : Box w b 2 #[.int .i64 id]) :
    PredBelow Try.prog 42 #[.pointer (some ⟨b, 0, none⟩)] (fun x : CO => .agg (co1 x).toArray) (fun x => decide (x.id = id)) w := fun W x hB => by
  have k := h.kept_below hB hb
  have k0 : ∀ o, (W.alloc o).cell? ⟨b, 0, none⟩ = some (.int .i64 id) := fun o => (k.kept_below (bel_new W o) k.there).reads 0
  obtain ⟨i1, o1, s1, n1, u1⟩ := x
  show Calls Try.prog 42 #[.agg #[.int .i64 i1, .int .i64 o1, .int .i64 s1, .int .i64 n1, .int .i64 u1], .pointer (some ⟨b, 0, none⟩)] W (fun e' w' => e' = .returned (.bool (decide (i1 = id))) ∧ Below w.heap.size w w')
  have H := Lib.hid hB
  clear hB k h
  go_enter Try.func42, Try.ntmps42
  go_wp2_with fail
  go_ret
  exact ⟨rfl, H.out.alloc H.out.size _⟩
/-- A number's place in a row; -1: none has it. -/
def idxI (L : List CO) (id : Int) : Int := match seekC L id with
  | none => -1
  | some (k, _) => k
theorem idxI_is (L : List CO) (id : Int) : Lib.idxBy (fun _ (y : CO) => decide (y.id = id)) L default = idxI L id := by
  have gen : ∀ (l : List CO) (i : Nat), Lib.idxByFrom (fun _ (y : CO) => decide (y.id = id)) default l i = match seekFrom id l i with
      | none => -1
      | some (k, _) => (k : Int) := by
    intro l
    induction l with
    | nil => intro i; rfl
    | cons y l ih =>
      intro i
      unfold Lib.idxByFrom seekFrom
      by_cases h : y.id = id
      · simp [h]
      · simp [h, ih]
  exact gen L 0
set_option maxHeartbeats 1000000 in
theorem idx_empty (A : Option Addr) (c : Nat) (fv : Value) (w : World) :
    Calls Try.prog 41 #[.slice A 0 c, fv] w fun e w' => e = .returned (.int .i64 (-1)) ∧ w = w' := by
  go_enter Try.func41, Try.ntmps41
  go_wp2
  refine wp_loop_rounds 1 ?_
  rw [rounds_succ]
  go_wp2
  go_ret
  exact ⟨rfl, rfl⟩
theorem idx_any (id : Int) (b : Nat) (w : World) (hb : b < w.heap.size) (h : Box w b 2 #[.int .i64 id])
    {B : Nat} {v : Value} {L : List CO} (hr : w.ownsRow B 31 5 v L.length (L.flatMap co1)) (hm : L.length ≤ 256) :
    Calls Try.prog 41 #[v, .func (.func 42) #[] #[.pointer (some ⟨b, 0, none⟩)]] w fun e w' => e = .returned (.int .i64 (idxI L id)) ∧ Below w.heap.size w w' := by
  have key : ∀ A c, v = .slice A 0 c → L = [] → Calls Try.prog 41 #[v, .func (.func 42) #[] #[.pointer (some ⟨b, 0, none⟩)]] w fun e w' => e = .returned (.int .i64 (idxI L id)) ∧ Below w.heap.size w w' := fun A c e e2 => by
    subst e; subst e2
    exact (idx_empty _ _ _ w).mono fun e w' ⟨he, hw⟩ => ⟨by rw [he]; rfl, hw ▸ Below.refl _ _⟩
  rcases own_form hr with ⟨rfl, h0⟩ | ⟨g, c, rfl, hB, hg, hc⟩
  · exact key _ _ rfl (List.eq_nil_of_length_eq_zero h0)
  · have eg : ∀ args w, (callFunc 42 args).run Try.prog w = .ok (.enter 42 args) w := enters_of Try.func42 (by kernel_rfl) rfl
    have hcon := AnyQ.slices_IndexFunc Try.idxL 5 Try.isAgg31 Try.sizeOf31 co1 (fun _ => rfl) (fun x => decide (x.id = id)) 42 #[.pointer (some ⟨b, 0, none⟩)] eg g 0 L.length c L w
      (idpred id b w hb h) (Nat.le_refl _) (by omega) hg (fun j hj i v hi => by
        have e : L[j]? = some L[j]! := by rw [List.getElem?_eq_getElem hj, getElem!_pos L j hj]
        have := own_cell hr (flat_at co1_len e hi)
        rw [Nat.zero_add]
        exact this)
    rw [List.take_of_length_le (Nat.le_refl _), idxI_is] at hcon
    exact hcon
/-- What find tells. -/
def findV (g : Nat) (D : Dk) (id : Int) : Value := match get2 D id with
  | none => .tuple #[.pointer none, .int .i64 0]
  | some (k, o) => .tuple #[.pointer (some ⟨g, if o.si = 1 then 0 else 1, none⟩), .int .i64 k]
set_option maxRecDepth 100000 in
set_option maxHeartbeats 2000000 in
theorem bfind_any {w : World} {B g : Nat} {v1 v2 : Value} {D : Dk} (h : BkAt w B g v1 v2 D) (id : Int) :
    Calls Try.prog 35 #[.pointer (some ⟨g, 0, none⟩), .int .i64 id] w fun e w' => e = .returned (findV g D id) ∧ Below w.heap.size w w' := by
  have HC := Lib.hid (fun w' (hb : Below w.heap.size w w') => h.carry hb)
  have HI1 := Lib.hid (fun w' (hb : Below w.heap.size w w') (hx : Box w' w.heap.size 2 #[.int .i64 id]) => idx_any id w.heap.size w' hx.there hx (h.carry hb).b (by have := h.inv.most; omega))
  have HI2 := Lib.hid (fun w' (hb : Below w.heap.size w w') (hx : Box w' w.heap.size 2 #[.int .i64 id]) => idx_any id w.heap.size w' hx.there hx (h.carry hb).s (by have := h.inv.most; omega))
  have hI := Lib.hid h.inv
  obtain ⟨A1, k1, e1⟩ := own_slice h.b
  obtain ⟨A2, k2, e2⟩ := own_slice h.s
  obtain ⟨n1, hn1⟩ : ∃ n1, D.1.length = n1 := ⟨_, rfl⟩
  obtain ⟨n2, hn2⟩ : ∃ n2, D.2.length = n2 := ⟨_, rfl⟩
  rw [hn1] at e1
  rw [hn2] at e2
  subst e1; subst e2
  clear h hn1 hn2
  go_enter Try.func35, Try.ntmps35
  go_wp2_with fail
  go_loopw [9] (fun v9 wr => (v9 = .int .i64 0 ∧ Hid (Below w.heap.size w wr ∧ Box wr w.heap.size 2 #[.int .i64 id])) ∨ (v9 = .int .i64 1 ∧ Hid (Below w.heap.size w wr ∧ Box wr w.heap.size 2 #[.int .i64 id] ∧ seekC D.1 id = none)) ∨ (v9 = .int .i64 2 ∧ Hid (Below w.heap.size w wr ∧ seekC D.1 id = none ∧ seekC D.2 id = none))) (fun v9 _ => 2 - (intOf v9).toNat)
  case atStart => exact .inl ⟨rfl, Lib.hid ⟨bel_new _ _, Box.fresh w _ _ rfl⟩⟩
  case round =>
    rcases hrel with ⟨rfl, hJ⟩ | ⟨rfl, hJ⟩ | ⟨rfl, hJ⟩
    · obtain ⟨hB, hX⟩ := hJ.out
      have c0 := (HC.out wr hB).c0
      have HI := Lib.hid (HI1.out wr hB hX)
      obtain ⟨rs, hs⟩ : ∃ rs, seekC D.1 id = rs := ⟨_, rfl⟩
      cases rs with
      | none =>
        have hi : idxI D.1 id = -1 := by unfold idxI; rw [hs]
        rw [hi] at HI
        have HN := Lib.hid (fun w2 (hb : Below wr.heap.size wr w2) => (show Below w.heap.size w w2 ∧ Box w2 w.heap.size 2 #[.int .i64 id] ∧ seekC D.1 id = none from ⟨bel_trans hB hb, hX.kept_below hb hX.there, hs⟩))
        clear hJ hB hX hs hi
        go_wp2_with (go_at_call 41; refine HI.out.mono ?_; rintro e w2 ⟨rfl, hb2⟩; replace hb2 := Lib.hid hb2)
        go_roundw
        case rel => exact .inr (.inl ⟨rfl, Lib.hid (HN.out _ hb2.out)⟩)
        case measure => simp [intOf]
      | some p =>
        obtain ⟨k, o⟩ := p
        have hi : idxI D.1 id = k := by unfold idxI; rw [hs]
        rw [hi] at HI
        have hg : get2 D id = some (k, o) := by unfold get2; rw [hs]; rfl
        have ho : o.si = 1 := by
          rcases (get2_some hI.out hg).2.2.2 with ⟨h1, _⟩ | ⟨_, h2, _⟩
          · exact h1
          · rw [hs] at h2; cases h2
        have HF := Lib.hid (show findV g D id = .tuple #[.pointer (some ⟨g, 0, none⟩), .int .i64 k] by unfold findV; rw [hg]; simp only [ho, if_pos])
        have HB := Lib.hid hB
        have d1 : (0 : Int) ≤ (k : Int) := by omega
        clear hJ hB hX hs hi hg ho
        go_wp2_with (go_at_call 41; refine HI.out.mono ?_; rintro e w2 ⟨rfl, hb2⟩; replace hb2 := Lib.hid hb2)
        go_ret2
        exact ⟨by rw [HF.out]; rfl, bel_trans HB.out hb2.out⟩
    · obtain ⟨hB, hX, hs1⟩ := hJ.out
      have c1 := (HC.out wr hB).c1
      have HI := Lib.hid (HI2.out wr hB hX)
      obtain ⟨rs, hs⟩ : ∃ rs, seekC D.2 id = rs := ⟨_, rfl⟩
      cases rs with
      | none =>
        have hi : idxI D.2 id = -1 := by unfold idxI; rw [hs]
        rw [hi] at HI
        have HN := Lib.hid (fun w2 (hb : Below wr.heap.size wr w2) => (show Below w.heap.size w w2 ∧ seekC D.1 id = none ∧ seekC D.2 id = none from ⟨bel_trans hB hb, hs1, hs⟩))
        clear hJ hB hX hs hi hs1
        go_wp2_with (go_at_call 41; refine HI.out.mono ?_; rintro e w2 ⟨rfl, hb2⟩; replace hb2 := Lib.hid hb2)
        go_roundw
        case rel => exact .inr (.inr ⟨rfl, Lib.hid (HN.out _ hb2.out)⟩)
        case measure => simp [intOf]
      | some p =>
        obtain ⟨k, o⟩ := p
        have hi : idxI D.2 id = k := by unfold idxI; rw [hs]
        rw [hi] at HI
        have hg : get2 D id = some (k, o) := by unfold get2; rw [hs1, hs]; rfl
        have ho : o.si = 2 := by
          rcases (get2_some hI.out hg).2.2.2 with ⟨_, h2⟩ | ⟨h1, _⟩
          · rw [hs1] at h2; cases h2
          · exact h1
        have HF := Lib.hid (show findV g D id = .tuple #[.pointer (some ⟨g, 1, none⟩), .int .i64 k] by unfold findV; rw [hg]; simp only [ho]; rfl)
        have HB := Lib.hid hB
        have d1 : (0 : Int) ≤ (k : Int) := by omega
        clear hJ hB hX hs hi hg ho hs1
        go_wp2_with (go_at_call 41; refine HI.out.mono ?_; rintro e w2 ⟨rfl, hb2⟩; replace hb2 := Lib.hid hb2)
        go_ret2
        exact ⟨by rw [HF.out]; rfl, bel_trans HB.out hb2.out⟩
    · obtain ⟨hB, hs1, hs2⟩ := hJ.out
      have HF := Lib.hid (show findV g D id = .tuple #[.pointer none, .int .i64 0] by unfold findV get2; rw [hs1, hs2]; rfl)
      have HB := Lib.hid hB
      clear hJ hB hs1 hs2
      go_wp2_with fail
      go_ret2
      exact ⟨by rw [HF.out]; rfl, HB.out⟩
/-- The value that Get tells. -/
def optV (o : Option (Nat × CO)) : Value := match o with
  | none => .tuple #[coV zeroC, .bool false]
  | some (_, o) => .tuple #[coV o, .bool true]
theorem rem_opt (D : Dk) (id : Int) : Value.tuple #[coV (remO D id).1, .bool (remO D id).2] = optV (get2 D id) := by
  unfold remO optV
  cases get2 D id with
  | none => rfl
  | some p => rfl
/-- Where a number's order stands, as cells. -/
theorem BkAt.found {w : World} {B g : Nat} {v1 v2 : Value} {D : Dk} (h : BkAt w B g v1 v2 D) {id : Int} {k : Nat} {o : CO} (hg : get2 D id = some (k, o)) :
    ∃ i b n c, i < 2 ∧ (if o.si = 1 then 0 else 1) = i ∧ w.cell? ⟨g, i, none⟩ = some (.slice (some ⟨b, 0, none⟩) n c) ∧ (rowD o.si D).length = n ∧ k < n ∧ n ≤ c ∧ n ≤ 256 ∧ b < w.heap.size ∧ B ≤ b ∧ b ≠ g ∧
      w.ownsRow B 31 5 (.slice (some ⟨b, 0, none⟩) n c) n ((rowD o.si D).flatMap co1) ∧ (rowD o.si D)[k]? = some o ∧
      w.cell? ⟨b, k * 5, none⟩ = some (.int .i64 o.id) ∧ w.cell? ⟨b, k * 5 + 1, none⟩ = some (.int .i64 o.ow) ∧ w.cell? ⟨b, k * 5 + 2, none⟩ = some (.int .i64 o.si) ∧ w.cell? ⟨b, k * 5 + 3, none⟩ = some (.int .i64 o.ne) ∧ w.cell? ⟨b, k * 5 + 4, none⟩ = some (.int .i64 o.un) ∧ BkO g v1 v2 b ∧ ∀ i, w.frozen? ⟨b, i, none⟩ = false := by
  obtain ⟨g1, g2, g3, g4⟩ := get2_some h.inv hg
  have hm := h.inv.most
  have hne := h.apart
  rcases g4 with ⟨hs, _⟩ | ⟨hs, _⟩
  · rw [hs] at g1 ⊢
    obtain ⟨b, c, e, h1, h2, h3, h4, k0, k1, k2, k3, k4, fz⟩ := co_cells h.b g1
    have hbo : BkO g v1 v2 b := .inr (.inl (by rw [e]; rfl))
    have hc := h.c0
    have hr := h.b
    rw [e] at hc hr hne
    rw [hs] at k2
    exact ⟨0, b, _, c, by omega, rfl, hc, rfl, h1, h4, (by show D.1.length ≤ 256; omega), h2, h3, fun e => hne.1 (by rw [e]; rfl), hr, g1, k0, k1, k2, k3, k4, hbo, fz⟩
  · rw [hs] at g1 ⊢
    obtain ⟨b, c, e, h1, h2, h3, h4, k0, k1, k2, k3, k4, fz⟩ := co_cells h.s g1
    have hbo : BkO g v1 v2 b := .inr (.inr (by rw [e]; rfl))
    have hc := h.c1
    have hr := h.s
    rw [e] at hc hr hne
    rw [hs] at k2
    exact ⟨1, b, _, c, by omega, rfl, hc, rfl, h1, h4, (by show D.2.length ≤ 256; omega), h2, h3, fun e => hne.2 (by rw [e]; rfl), hr, g1, k0, k1, k2, k3, k4, hbo, fz⟩
/-- Five cells of zero, a result's. -/
def zeroB : Array Value := #[.int .i64 0, .int .i64 0, .int .i64 0, .int .i64 0, .int .i64 0]
theorem zeroB_cells {w : World} {r : Nat} {t : TypeId} (h : Box w r t zeroB) : w.cell? ⟨r, 0, none⟩ = some (.int .i64 0) ∧ w.cell? ⟨r, 1, none⟩ = some (.int .i64 0) ∧ w.cell? ⟨r, 2, none⟩ = some (.int .i64 0) ∧ w.cell? ⟨r, 3, none⟩ = some (.int .i64 0) ∧ w.cell? ⟨r, 4, none⟩ = some (.int .i64 0) ∧
    w.frozen? ⟨r, 0, none⟩ = false ∧ w.frozen? ⟨r, 1, none⟩ = false ∧ w.frozen? ⟨r, 2, none⟩ = false ∧ w.frozen? ⟨r, 3, none⟩ = false ∧ w.frozen? ⟨r, 4, none⟩ = false :=
  ⟨h.reads 0, h.reads 1, h.reads 2, h.reads 3, h.reads 4, h.unmarked 0, h.unmarked 1, h.unmarked 2, h.unmarked 3, h.unmarked 4⟩
theorem bel_set1 {w wr : World} (h : Below w.heap.size w wr) (k i : Nat) (hk : w.heap.size ≤ k) (u : Value) : Below w.heap.size w (wr.setCell ⟨k, i, none⟩ u) :=
  Chg.toBelow h (Chg.setCell (S := fun j => j = k) (Chg.refl _ _) (p := ⟨k, i, none⟩) (fun _ => rfl) u) h.size (fun j hj e => by omega)
theorem bbel_set5 {w wr : World} (h : Below w.heap.size w wr) (k : Nat) (hk : w.heap.size ≤ k) (a b c d e : Value) : Below w.heap.size w (((((wr.setCell ⟨k, 0, none⟩ a).setCell ⟨k, 1, none⟩ b).setCell ⟨k, 2, none⟩ c).setCell ⟨k, 3, none⟩ d).setCell ⟨k, 4, none⟩ e) :=
  bel_set1 (bel_set1 (bel_set1 (bel_set1 (bel_set1 h k 0 hk a) k 1 hk b) k 2 hk c) k 3 hk d) k 4 hk e
set_option maxHeartbeats 1000000 in
theorem bget_any {w : World} {B g : Nat} {v1 v2 : Value} {D : Dk} (h : BkAt w B g v1 v2 D) (id : Int) :
    Calls Try.prog 19 #[.pointer (some ⟨g, 0, none⟩), .int .i64 id] w fun e w' => e = .returned (optV (get2 D id)) ∧ Below w.heap.size w w' := by
  obtain ⟨W, hW⟩ : ∃ W, w.alloc (.cells zeroB 31) = W := ⟨_, rfl⟩
  have BW : Below w.heap.size w W := by rw [← hW]; exact bel_new _ _
  have hX : Box W w.heap.size 31 zeroB := by rw [← hW]; exact Box.fresh w _ _ rfl
  have HF := Lib.hid (bfind_any (h.carry BW) id)
  have HX := Lib.hid (fun w' (hb : Below W.heap.size W w') => hX.kept_below hb hX.there)
  have HB := Lib.hid BW
  have HG := Lib.hid (fun k o (hg : get2 D id = some (k, o)) w' (hb : Below W.heap.size W w') => ((h.carry BW).carry hb).found hg)
  have hgw : g < w.heap.size := h.there
  have HL := Lib.hid (fun j (hj : BkO g v1 v2 j) => (h.own_lt hj).2)
  clear h hX BW
  unfold zeroB at hW
  obtain ⟨r, hr⟩ : ∃ r, get2 D id = r := ⟨_, rfl⟩
  unfold findV at HF
  rw [hr] at HF ⊢
  cases r with
  | none =>
    clear HG
    dsimp only at HF
    go_enter Try.func19, Try.ntmps19
    go_wp2_with (go_at_call 35; refine Hid.out ?_)
    refine Lib.hid ?_
    refine HF.out.mono ?_
    rintro e w2 ⟨rfl, hb2⟩
    obtain ⟨z0, z1, z2, z3, z4, f0, f1, f2, f3, f4⟩ := zeroB_cells (HX.out w2 hb2)
    replace hb2 := Lib.hid (bel_trans HB.out hb2)
    go_wp2_with fail
    refine bodyPost_ret (v := .tuple #[coV zeroC, .bool false]) (by simp [results, Try.results19, go_sem, coV, zeroC, z0, z1, z2, z3, z4, Try.isAgg31, Try.sizeOf31]) rfl ⟨rfl, ?_⟩
    exact bbel_set5 hb2.out _ (Nat.le_refl _) _ _ _ _ _
  | some p =>
    obtain ⟨k, o⟩ := p
    dsimp only at HF
    go_enter Try.func19, Try.ntmps19
    go_wp2_with (go_at_call 35; refine Hid.out ?_)
    refine Lib.hid ?_
    refine HF.out.mono ?_
    rintro e w2 ⟨rfl, hb2⟩
    obtain ⟨z0, z1, z2, z3, z4, f0, f1, f2, f3, f4⟩ := zeroB_cells (HX.out w2 hb2)
    obtain ⟨i, b, n, c, hi, hs, hc, hn, hk, hnc, hm, hbw, _, hbg, _, _, k0, k1, k2, k3, k4, _⟩ := HG.out k o hr w2 hb2
    rw [hs]
    replace hb2 := Lib.hid (bel_trans HB.out hb2)
    have d1 : (k : Int) < (n : Int) := by omega
    have d2 : (0 : Int) ≤ (k : Int) := by omega
    clear hs hn
    go_wp2_with fail
    refine bodyPost_ret (v := .tuple #[coV o, .bool true]) (by simp [results, Try.results19, go_sem, coV, z0, z1, z2, z3, z4, Try.isAgg31, Try.sizeOf31]) rfl ⟨rfl, ?_⟩
    exact bbel_set5 hb2.out _ (Nat.le_refl _) _ _ _ _ _
set_option maxHeartbeats 1000000 in
theorem bwaits_any {w : World} {B g : Nat} {v1 v2 : Value} {D : Dk} (h : BkAt w B g v1 v2 D) (id : Int) :
    Calls Try.prog 28 #[.pointer (some ⟨g, 0, none⟩), .int .i64 id] w fun e w' => e = .returned (.bool (get2 D id).isSome) ∧ Below w.heap.size w w' := by
  have HF := Lib.hid (bget_any h id)
  clear h
  obtain ⟨r, hr⟩ : ∃ r, get2 D id = r := ⟨_, rfl⟩
  rw [hr] at HF ⊢
  clear hr
  cases r with
  | none =>
    unfold optV coV at HF
    dsimp only [zeroC] at HF
    go_enter Try.func28, Try.ntmps28
    go_wp2_with (go_at_call 19; refine HF.out.mono ?_; rintro e w2 ⟨rfl, hb2⟩; replace hb2 := Lib.hid hb2)
    go_ret
    exact ⟨rfl, bel_alloc hb2.out _⟩
  | some p =>
    obtain ⟨k, o⟩ := p
    unfold optV coV at HF
    dsimp only at HF
    go_enter Try.func28, Try.ntmps28
    go_wp2_with (go_at_call 19; refine HF.out.mono ?_; rintro e w2 ⟨rfl, hb2⟩; replace hb2 := Lib.hid hb2)
    go_ret
    exact ⟨rfl, bel_alloc hb2.out _⟩
/-- Row: a side's orders, in a row of their own. -/
def RowPost (w : World) (L : List CO) (e : Ending) (w' : World) : Prop := ∃ v, e = .returned v ∧ w'.ownsRow w.heap.size 31 5 v L.length (L.flatMap co1) ∧ Below w.heap.size w w'
theorem order_info : (Try.prog.info? 31).map (fun i => (i.zero, i.size, i.bytes)) = some (some (.agg #[.int .i64 0, .int .i64 0, .int .i64 0, .int .i64 0, .int .i64 0]), 5, 40) := by kernel_rfl
theorem bclone_any {w : World} {B : Nat} {v : Value} {L : List CO} (h : w.ownsRow B 31 5 v L.length (L.flatMap co1)) (hm : L.length ≤ 256) :
    Calls Try.prog 38 #[v] w (RowPost w L) := by
  obtain ⟨i0, hi0, hz0, hz1, hz2⟩ := info_parts order_info
  rcases own_form h with ⟨rfl, h0⟩ | ⟨b, c, rfl, _⟩
  · obtain rfl : L = [] := List.eq_nil_of_length_eq_zero h0
    exact (AnyE.slices_Clone_nil Try.cloneL 0 0 w).mono fun e w' ⟨he, hw⟩ => ⟨_, he, World.ownsRow_nil _ _ _ _, hw ▸ Below.refl _ _⟩
  · exact (AnyE.slices_Clone Try.cloneL i0 _ 5 40 hi0 hz0 hz1 hz2 rfl (by omega) Try.sizeOf31 b 0 L.length c (L.flatMap co1) w (flat_len co1_len L) (by simp only [maxLen]; omega) (by omega) (fun j u hu => by rw [Nat.zero_add]; exact own_cell h hu) (cos_one L)).mono fun e w' ⟨v', he, ho, _, hb⟩ => ⟨v', he, ho, hb⟩
theorem row_len {D : Dk} (h : Inv D) (s : Int) : (rowD s D).length ≤ 256 := by
  have := h.most
  unfold rowD
  split
  · omega
  · split
    · omega
    · simp
set_option maxHeartbeats 1000000 in
theorem brow_any {w : World} {B g : Nat} {v1 v2 : Value} {D : Dk} (h : BkAt w B g v1 v2 D) (s : Int) :
    Calls Try.prog 26 #[.pointer (some ⟨g, 0, none⟩), .int .i64 s] w (RowPost w (rowD s D)) := by
  have HO := Lib.hid (bof_any h s)
  have hm := row_len h.inv s
  clear h
  go_enter Try.func26, Try.ntmps26
  go_wp2_with (go_at_call 29; refine Hid.out ?_)
  refine Lib.hid ?_
  refine HO.out.mono ?_
  rintro e w2 ⟨p, v, rfl, hb2, hc, hr, _⟩
  have HC := Lib.hid (bclone_any hr hm)
  replace hb2 := Lib.hid hb2
  obtain ⟨A, c, rfl⟩ := own_slice hr
  clear hr
  go_wp2_with (go_at_call 38; refine Hid.out ?_)
  refine Lib.hid ?_
  refine HC.out.mono ?_
  rintro e w3 ⟨v', rfl, ho, hb3⟩
  have HE := Lib.hid (show ∃ v, Ending.returned v' = .returned v ∧ w3.ownsRow w.heap.size 31 5 v (rowD s D).length ((rowD s D).flatMap co1) ∧ Below w.heap.size w w3 from ⟨v', rfl, own_wider ho hb2.out.size, bel_trans hb2.out hb3⟩)
  obtain ⟨A', c', rfl⟩ := own_slice ho
  clear ho hb3
  go_wp2_with fail
  go_ret
  exact HE.out
set_option maxHeartbeats 1000000 in
theorem bfront_any {w : World} {B g : Nat} {v1 v2 : Value} {D : Dk} (h : BkAt w B g v1 v2 D) (s : Int) :
    Calls Try.prog 17 #[.pointer (some ⟨g, 0, none⟩), .int .i64 s] w fun e w' => e = .returned (.tuple #[coV ((rowD s D).headD zeroC), .bool (!(rowD s D).isEmpty)]) ∧ Below w.heap.size w w' := by
  obtain ⟨W, hW⟩ : ∃ W, w.alloc (.cells zeroB 31) = W := ⟨_, rfl⟩
  have BW : Below w.heap.size w W := by rw [← hW]; exact bel_new _ _
  have hX : Box W w.heap.size 31 zeroB := by rw [← hW]; exact Box.fresh w _ _ rfl
  have HX := Lib.hid (fun w' (hb : Below W.heap.size W w') => hX.kept_below hb hX.there)
  have HB := Lib.hid BW
  have HO := Lib.hid (bof_any (h.carry BW) s)
  clear h hX BW
  unfold zeroB at hW
  obtain ⟨L, hL⟩ : ∃ L, rowD s D = L := ⟨_, rfl⟩
  unfold OfPost at HO
  rw [hL] at HO ⊢
  go_enter Try.func17, Try.ntmps17
  go_wp2_with (go_at_call 29; refine Hid.out ?_)
  refine Lib.hid ?_
  refine HO.out.mono ?_
  rintro e w2 ⟨p, v, rfl, hb2, hc, hr, _⟩
  obtain ⟨z0, z1, z2, z3, z4, f0, f1, f2, f3, f4⟩ := zeroB_cells (HX.out w2 hb2)
  replace hb2 := Lib.hid (bel_trans HB.out hb2)
  cases L with
  | nil =>
    obtain ⟨A, c, rfl⟩ := own_slice hr
    clear hr
    dsimp only [List.length, List.headD, List.isEmpty]
    go_wp2_with fail
    refine bodyPost_ret (v := .tuple #[coV zeroC, .bool false]) (by simp [results, Try.results17, go_sem, coV, zeroC, z0, z1, z2, z3, z4, Try.isAgg31, Try.sizeOf31]) rfl ⟨rfl, ?_⟩
    exact bbel_set5 hb2.out _ (Nat.le_refl _) _ _ _ _ _
  | cons o L =>
    obtain ⟨b, c, e, h1, h2, h3, h4, k0, k1, k2, k3, k4, _⟩ := co_cells hr (k := 0) (o := o) rfl
    subst e
    obtain ⟨n, hn⟩ : ∃ n, (o :: L).length = n + 1 := ⟨_, rfl⟩
    rw [hn] at hc
    rw [Nat.zero_mul] at k0 k1 k2 k3 k4
    rw [Nat.zero_add] at k1 k2 k3 k4
    have d1 : ¬ (((n + 1 : Nat) : Int) = 0) := by omega
    have d2 : (0 : Int) < ((n + 1 : Nat) : Int) := by omega
    clear hr hn
    dsimp only [List.headD, List.isEmpty]
    go_wp2_with fail
    refine bodyPost_ret (v := .tuple #[coV o, .bool true]) (by simp [results, Try.results17, go_sem, coV, z0, z1, z2, z3, z4, Try.isAgg31, Try.sizeOf31]) rfl ⟨rfl, ?_⟩
    exact bbel_set5 hb2.out _ (Nat.le_refl _) _ _ _ _ _
end Go.Proofs.Ytekppjigckjgiaa

/- Contracts of the directory's at, State, fault, Find, Table, Grid. -/
import Derived.Test.YtoilgeahfdbhlaaGreatDoorDirMem
import Derived.Test.YtoilgeahfdbhlaaGreatDoorShelf3
import Derived.Laws.StructEq
import Derived.Lib.SliceRun
set_option linter.unusedSimpArgs false
namespace Go.Proofs.YtoilgeahfdbhlaaGreatDoor
open Go.RowKit Go.Mem1 Go.GridMath Go.DirMath

theorem eqS_run (x y : Ser) (w : World) : (binOp .eql 35 (serV x) (serV y)).run Tryz.prog w = .ok (.bool (eqS x y)) w := by
  have u0 := Tryz.underlying9
  have u1 := Tryz.underlying2
  have u2 := Tryz.underlying3
  have a0 := Tryz.isAgg9
  have a1 := Tryz.isAgg2
  have a2 := Tryz.isAgg3
  have z0 := Tryz.sizeOf9
  have z1 := Tryz.sizeOf2
  have z2 := Tryz.sizeOf3
  have hS : Tryz.prog.underlying 35 = some (.struct (Tryz.prog.fieldsOf 35)) := by kernel_rfl
  have hp : Tryz.prog.stoodInHeld 35 = false := by kernel_rfl
  obtain ⟨a, b, c, d⟩ := x
  obtain ⟨a', b', c', d'⟩ := y
  unfold serV eqS
  rw [run_eql_struct, show (10000 : Nat) = 9999 + 1 from rfl, run_equalIn_agg w 9999 35 _ _ hS hp]
  simp only [Program.fieldsOf, Tryz.underlying35]
  go_simp
  by_cases h1 : a.toList = a'.toList <;> by_cases h2 : b = b' <;> by_cases h3 : c = c' <;> by_cases h4 : d = d' <;> simp [h1, h2, h3, h4]
theorem eqS_guard (x y : Ser) (w : World) (o p : Operand) : (eqGuard .eql 35 o p (serV x) (serV y)).run Tryz.prog w = .ok () w :=
  run_eqGuard_agg w .eql 35 o p _ _ (by kernel_rfl)
theorem fpred (s : Ser) (b : Nat) (w : World) (hb : b < w.heap.size) (h : Box w b 35 #[.string s.cls, .int .i64 s.ex, .int .i64 s.st, .int .i64 s.rt]) :
    PredBelow Tryz.prog 51 #[.pointer (some ⟨b, 0, none⟩)] (fun x : Lst => .agg (lst1 x).toArray) (fun x => eqS x.1 s) w := fun W x hB => by
  have k := h.kept_below hB hb
  have ka := fun o => k.kept_below (bel_new W o) k.there
  have k0 : ∀ o, (W.alloc o).cell? ⟨b, 0, none⟩ = some (.string s.cls) := fun o => (ka o).reads 0
  have k1 : ∀ o, (W.alloc o).cell? ⟨b, 1, none⟩ = some (.int .i64 s.ex) := fun o => (ka o).reads 1
  have k2 : ∀ o, (W.alloc o).cell? ⟨b, 2, none⟩ = some (.int .i64 s.st) := fun o => (ka o).reads 2
  have k3 : ∀ o, (W.alloc o).cell? ⟨b, 3, none⟩ = some (.int .i64 s.rt) := fun o => (ka o).reads 3
  obtain ⟨⟨c, e, t, r⟩, st⟩ := x
  have e1 := eqS_run ⟨c, e, t, r⟩ s
  have e2 := eqS_guard ⟨c, e, t, r⟩ s
  obtain ⟨R, hR⟩ : ∃ R, eqS ⟨c, e, t, r⟩ s = R := ⟨_, rfl⟩
  rw [hR] at e1
  show Calls Tryz.prog 51 #[.agg #[.string c, .int .i64 e, .int .i64 t, .int .i64 r, .int .i64 st], .pointer (some ⟨b, 0, none⟩)] W (fun e' w' => e' = .returned (.bool (eqS ⟨c, e, t, r⟩ s)) ∧ Below w.heap.size w w')
  rw [hR]
  clear hR h
  obtain ⟨sc, se, st', sr⟩ := s
  dsimp only at k0 k1 k2 k3 e1 e2
  have H := Lib.hid hB
  clear hB k ka
  go_enter Tryz.func51, Tryz.ntmps51
  go_wp2_with fail
  go_ret
  exact ⟨rfl, H.out.alloc H.out.size _⟩
/-- Where the first one lies that is s; -1: none is. -/
def findI (L : List Lst) (s : Ser) : Int := Lib.idxBy (fun _ (y : Lst) => eqS y.1 s) L default
theorem findI_bd (L : List Lst) (s : Ser) : -1 ≤ findI L s ∧ findI L s < L.length := by
  have gen : ∀ (l : List Lst) (i : Nat), -1 ≤ Lib.idxByFrom (fun _ (y : Lst) => eqS y.1 s) default l i ∧ Lib.idxByFrom (fun _ (y : Lst) => eqS y.1 s) default l i < (i : Int) + l.length := by
    intro l
    induction l with
    | nil => intro i; simp [Lib.idxByFrom]; omega
    | cons z l ih =>
      intro i
      unfold Lib.idxByFrom
      split
      · simp; omega
      · have := ih (i + 1); simp; omega
  have := gen L 0
  unfold findI Lib.idxBy
  omega
set_option maxHeartbeats 1000000 in
theorem idx_empty (A : Option Addr) (c : Nat) (fv : Value) (w : World) :
    Calls Tryz.prog 50 #[.slice A 0 c, fv] w fun e w' => e = .returned (.int .i64 (-1)) ∧ w = w' := by
  go_enter Tryz.func50, Tryz.ntmps50
  go_wp2
  refine wp_loop_rounds 1 ?_
  rw [rounds_succ]
  go_wp2
  go_ret
  exact ⟨rfl, rfl⟩
theorem idx_any (s : Ser) (b : Nat) (w : World) (hb : b < w.heap.size) (h : Box w b 35 #[.string s.cls, .int .i64 s.ex, .int .i64 s.st, .int .i64 s.rt])
    {B : Nat} {vL : Value} {L : List Lst} (hr : w.ownsRow B 104 5 vL L.length (L.flatMap lst1)) (hm : L.length ≤ 64) :
    Calls Tryz.prog 50 #[vL, .func (.func 51) #[] #[.pointer (some ⟨b, 0, none⟩)]] w fun e w' => e = .returned (.int .i64 (findI L s)) ∧ Below w.heap.size w w' := by
  rcases own_form hr with ⟨rfl, h0⟩ | ⟨g, c, rfl, hB, hg, hc⟩
  · obtain rfl : L = [] := List.eq_nil_of_length_eq_zero h0
    exact (idx_empty _ _ _ w).mono fun e w' ⟨he, hw⟩ => ⟨by rw [he]; rfl, hw ▸ Below.refl _ _⟩
  · have eg : ∀ args w, (callFunc 51 args).run Tryz.prog w = .ok (.enter 51 args) w := enters_of Tryz.func51 (by kernel_rfl) rfl
    have hcon := AnyQ.slices_IndexFunc Tryz.idxL 5 Tryz.isAgg104 Tryz.sizeOf104 lst1 (fun _ => rfl) (fun x => eqS x.1 s) 51 #[.pointer (some ⟨b, 0, none⟩)] eg g 0 L.length c L w
      (fpred s b w hb h) (Nat.le_refl _) (by omega) hg (fun j hj i v hi => by
        have e : L[j]? = some L[j]! := by rw [List.getElem?_eq_getElem hj, getElem!_pos L j hj]
        have := own_cell hr (flat_at lst1_len e hi)
        rw [Nat.zero_add]
        exact this)
    rw [List.take_of_length_le (Nat.le_refl _)] at hcon
    exact hcon
set_option maxHeartbeats 1000000 in
theorem find_any {w : World} {B g : Nat} {vC vL : Value} {cs : List Cl} {L : List Lst} {day : Int} (h : DirAt w B g vC vL cs L day) (s : Ser) :
    Calls Tryz.prog 26 #[.pointer (some ⟨g, 0, none⟩), serV s] w fun e w' => e = .returned (.tuple #[.int .i64 (findI L s + 1), .bool (decide (0 ≤ findI L s))]) ∧ Below w.heap.size w w' := by
  obtain ⟨sc, se, st, sr⟩ := s
  have hb := findI_bd L ⟨sc, se, st, sr⟩
  have hm := h.mostL
  have c1 := h.c1
  have hg := h.there
  obtain ⟨W1, hW⟩ : ∃ W1, w.alloc (.cells #[.string sc, .int .i64 se, .int .i64 st, .int .i64 sr] 35) = W1 := ⟨_, rfl⟩
  have B1 : Below w.heap.size w W1 := by rw [← hW]; exact bel_new _ _
  have hI := idx_any ⟨sc, se, st, sr⟩ w.heap.size W1 (by rw [← hW]; simp) (by rw [← hW]; exact Box.fresh w _ _ rfl) (own_keep h.rowL B1) hm
  have d1 := (B1.cell (p := ⟨g, 1, none⟩) hg).trans c1
  obtain ⟨A, c, hv⟩ := h.formL
  rw [hv] at hI d1
  obtain ⟨R, hR⟩ : ∃ R, findI L ⟨sc, se, st, sr⟩ = R := ⟨_, rfl⟩
  rw [hR] at hI hb ⊢
  obtain ⟨n, hn⟩ : ∃ n, L.length = n := ⟨_, rfl⟩
  rw [hn] at hI hb hm d1
  obtain ⟨hb1, hb2⟩ := hb
  have HI := Lib.hid hI
  have HB := Lib.hid B1
  have hb3 : R < 64 := by omega
  clear h c1 hI hv hR hn B1 hb2 hm
  go_enter Tryz.func26, Tryz.ntmps26
  go_wp2_with (go_at_call 50; refine HI.out.mono ?_; rintro e w' ⟨rfl, hb'⟩; replace hb' := Lib.hid hb')
  go_ret2
  exact ⟨rfl, bel_trans HB.out hb'.out⟩
end Go.Proofs.YtoilgeahfdbhlaaGreatDoor

/- The law's Of, Row: of the same orders. -/
import Derived.Test.YtekppjigckjgiaaCbkRef
import Derived.Laws.StructEq
import Derived.Deep.RegionLaw
import Derived.Deep.RegionHeld3
import Derived.BigQuiet
set_option linter.unusedSimpArgs false
namespace Go.Proofs.Ytekppjigckjgiaa
open Go.RowKit Go.Mem1 Go.CbkMath

/-- An order is not another one than itself. -/
theorem neqC (o : CO) (w : World) : (binOp .neq 37 (coV o) (coV o)).run Try.prog w = .ok (.bool false) w := by
  have u1 := Try.underlying2
  have u2 := Try.underlying3
  have a1 := Try.isAgg2
  have a2 := Try.isAgg3
  have z1 := Try.sizeOf2
  have z2 := Try.sizeOf3
  have hS : Try.prog.underlying 37 = some (.struct (Try.prog.fieldsOf 37)) := by kernel_rfl
  have hp : Try.prog.stoodInHeld 37 = false := by kernel_rfl
  obtain ⟨a, b, c, d, e⟩ := o
  unfold coV
  rw [run_neq_struct, show (10000 : Nat) = 9999 + 1 from rfl, run_equalIn_agg w 9999 37 _ _ hS hp]
  simp only [Program.fieldsOf, Try.underlying37]
  go_simp
theorem neqC_guard (x y : CO) (w : World) (o p : Operand) : (eqGuard .neq 37 o p (coV x) (coV y)).run Try.prog w = .ok () w :=
  run_eqGuard_agg w .neq 37 o p _ _ (by kernel_rfl)
/-- An order is itself. -/
theorem eqlC (o : CO) (w : World) : (binOp .eql 37 (coV o) (coV o)).run Try.prog w = .ok (.bool true) w := by
  have u1 := Try.underlying2
  have u2 := Try.underlying3
  have a1 := Try.isAgg2
  have a2 := Try.isAgg3
  have z1 := Try.sizeOf2
  have z2 := Try.sizeOf3
  have hS : Try.prog.underlying 37 = some (.struct (Try.prog.fieldsOf 37)) := by kernel_rfl
  have hp : Try.prog.stoodInHeld 37 = false := by kernel_rfl
  obtain ⟨a, b, c, d, e⟩ := o
  unfold coV
  rw [run_eql_struct, show (10000 : Nat) = 9999 + 1 from rfl, run_equalIn_agg w 9999 37 _ _ hS hp]
  simp only [Program.fieldsOf, Try.underlying37]
  go_simp
theorem eqlC_guard (x y : CO) (w : World) (o p : Operand) : (eqGuard .eql 37 o p (coV x) (coV y)).run Try.prog w = .ok () w :=
  run_eqGuard_agg w .eql 37 o p _ _ (by kernel_rfl)
theorem of_any (o : CO) (w : World) : Calls Try.prog 11 #[coV o] w fun e w' => e = .returned (coV o) ∧ Below w.heap.size w w' := by
  obtain ⟨oi, oo, os, on, ou⟩ := o
  unfold coV
  dsimp only
  go_enter Try.func11, Try.ntmps11
  go_wp2_with fail
  refine bodyPost_ret (v := .agg #[.int .i64 oi, .int .i64 oo, .int .i64 os, .int .i64 on, .int .i64 ou]) (by simp [results, Try.results11, go_sem, Try.isAgg37, Try.sizeOf37]) rfl ⟨rfl, ?_⟩
  exact bel_alloc (bel_new _ _) _
set_option maxRecDepth 100000 in
set_option maxHeartbeats 2000000 in
/-- Row, of the same orders. -/
theorem row_any {w : World} {B1 B2 : Nat} {va vb : Value} {L : List CO} (h1 : w.ownsRow B1 31 5 va L.length (L.flatMap co1)) (h2 : w.ownsRow B2 37 5 vb L.length (L.flatMap co1)) (hm : L.length ≤ 256) :
    Calls Try.prog 37 #[va, vb] w fun e w' => e = .returned (.bool true) ∧ Below w.heap.size w w' := by
  have H1 := Lib.hid h1
  have H2 := Lib.hid h2
  obtain ⟨Aa, ca, rfl⟩ := own_slice h1
  obtain ⟨Ab, cb, rfl⟩ := own_slice h2
  obtain ⟨n, hn⟩ : ∃ n, L.length = n := ⟨_, rfl⟩
  have HN := Lib.hid hn
  rw [hn] at H1 H2 hm ⊢
  clear h1 h2 hn
  go_enter Try.func37, Try.ntmps37
  go_wp2_with fail
  go_loopw [5] (fun v5 wr => ∃ i : Nat, i ≤ n ∧ v5 = .int .i64 i ∧ Hid (Below w.heap.size w wr)) (fun v5 _ => n - (intOf v5).toNat)
  case atStart => exact ⟨0, by omega, rfl, Lib.hid (Below.refl _ _)⟩
  case round =>
    obtain ⟨i, hi, rfl, hB⟩ := hrel
    by_cases hlt : i < n
    · obtain ⟨o, hk⟩ : ∃ o, L[i]? = some o := ⟨_, List.getElem?_eq_getElem (by rw [HN.out]; exact hlt)⟩
      have hr1 := own_keep H1.out hB.out
      have hr2 := own_keep H2.out hB.out
      rw [← HN.out] at hr1 hr2
      obtain ⟨b1, c1, e1, _, hb1, _, hc1, j0, j1, j2, j3, j4, _⟩ := co_cells hr1 hk
      obtain ⟨b2, c2, e2, _, hb2, _, hc2, k0, k1, k2, k3, k4, _⟩ := co_cells hr2 hk
      rw [HN.out] at e1 e2 hc1 hc2
      injection e1 with e1 _ e3
      injection e2 with e2 _ e4
      subst e1; subst e2; subst e3; subst e4
      have HO := Lib.hid (of_any o)
      have HQ := Lib.hid (neqC o)
      have HQ2 := Lib.hid (neqC_guard o o)
      obtain ⟨oi, oo, os, on, ou⟩ := o
      dsimp only at j0 j1 j2 j3 j4 k0 k1 k2 k3 k4
      unfold coV at HO HQ HQ2
      have q1 := HQ.out
      have q2 := HQ2.out
      have i1 : (0 : Int) ≤ (i : Int) := by omega
      have i2 : (i : Int) < (n : Int) := by omega
      clear hk hr1 hr2 HQ HQ2
      go_wp2_with fail
      go_region_held3 (fun w' => World.cell? w' ⟨b1, i * 5, Option.none⟩ = some (.int .i64 oi) ∧ World.cell? w' ⟨b1, i * 5 + 1, Option.none⟩ = some (.int .i64 oo) ∧ World.cell? w' ⟨b1, i * 5 + 2, Option.none⟩ = some (.int .i64 os) ∧ World.cell? w' ⟨b1, i * 5 + 3, Option.none⟩ = some (.int .i64 on) ∧ World.cell? w' ⟨b1, i * 5 + 4, Option.none⟩ = some (.int .i64 ou) ∧ World.cell? w' ⟨b2, i * 5, Option.none⟩ = some (.int .i64 oi) ∧ World.cell? w' ⟨b2, i * 5 + 1, Option.none⟩ = some (.int .i64 oo) ∧ World.cell? w' ⟨b2, i * 5 + 2, Option.none⟩ = some (.int .i64 os) ∧ World.cell? w' ⟨b2, i * 5 + 3, Option.none⟩ = some (.int .i64 on) ∧ World.cell? w' ⟨b2, i * 5 + 4, Option.none⟩ = some (.int .i64 ou)) (first | exact ⟨j0, j1, j2, j3, j4, k0, k1, k2, k3, k4⟩ | exact ⟨m0, m1, m2, m3, m4, n0, n1, n2, n3, n4⟩) ((first
        | (go_at_call 11; refine (HO.out _).mono ?_; rintro e w4 ⟨rfl, hb4⟩; have B4 : Below wr.heap.size wr w4 := (by first | exact ((Below.refl _ _).drew).trans hb4 | exact hb4); have m0 := (B4.cell (p := ⟨b1, i * 5, Option.none⟩) hb1).trans j0; have m1 := (B4.cell (p := ⟨b1, i * 5 + 1, Option.none⟩) hb1).trans j1; have m2 := (B4.cell (p := ⟨b1, i * 5 + 2, Option.none⟩) hb1).trans j2; have m3 := (B4.cell (p := ⟨b1, i * 5 + 3, Option.none⟩) hb1).trans j3; have m4 := (B4.cell (p := ⟨b1, i * 5 + 4, Option.none⟩) hb1).trans j4; have n0 := (B4.cell (p := ⟨b2, i * 5, Option.none⟩) hb2).trans k0; have n1 := (B4.cell (p := ⟨b2, i * 5 + 1, Option.none⟩) hb2).trans k1; have n2 := (B4.cell (p := ⟨b2, i * 5 + 2, Option.none⟩) hb2).trans k2; have n3 := (B4.cell (p := ⟨b2, i * 5 + 3, Option.none⟩) hb2).trans k3; have n4 := (B4.cell (p := ⟨b2, i * 5 + 4, Option.none⟩) hb2).trans k4; replace B4 := Lib.hid B4; clear hb4)))
      all_goals
        go_wp2_with fail
        go_roundw
        case rel => exact ⟨i + 1, by omega, by go_num, Lib.hid (bel_trans hB.out B4.out)⟩
        case measure => simp [intOf] <;> omega
    · obtain rfl : i = n := by omega
      go_wp2_with fail
      go_ret
      exact ⟨rfl, hB.out⟩
end Go.Proofs.Ytekppjigckjgiaa

/- The reference's Get: a number looked up in both rows. -/
import Derived.Test.YtekppjigckjgiaaCbkRef
set_option linter.unusedSimpArgs false
namespace Go.Proofs.Ytekppjigckjgiaa
open Go.RowKit Go.Mem1 Go.CbkMath

/-- What Get answers. -/
def getV (D : Dk) (id : Int) : Value := match get2 D id with
  | none => .tuple #[coV zeroC, .int .i64 (-1)]
  | some (k, o) => .tuple #[coV o, .int .i64 k]
/-- None so far. -/
def NoId (L : List CO) (id : Int) (k : Nat) : Prop := ∀ a x, a < k → L[a]? = some x → x.id ≠ id
theorem NoId.zero (L : List CO) (id : Int) : NoId L id 0 := fun _ _ h => absurd h (Nat.not_lt_zero _)
theorem NoId.succ {L : List CO} {id : Int} {k : Nat} {o : CO} (h : NoId L id k) (hk : L[k]? = some o) (hn : o.id ≠ id) : NoId L id (k + 1) := fun a x ha hx => by
  rcases Nat.lt_or_ge a k with h1 | h1
  · exact h a x h1 hx
  · obtain rfl : a = k := by omega
    rw [hk] at hx
    injection hx with hx
    rw [← hx]; exact hn
theorem NoId.all {L : List CO} {id : Int} (h : NoId L id L.length) : seekC L id = Option.none := seek_none.2 fun x hx => by
  obtain ⟨a, ha⟩ := List.mem_iff_getElem?.1 hx
  exact h a x (at_lt ha) ha
/-- The rows ahead of side s do not have it. -/
def Past (D : Dk) (id : Int) (s : Nat) : Prop := (2 ≤ s → seekC D.1 id = Option.none) ∧ (3 ≤ s → seekC D.2 id = Option.none)
theorem Past.one (D : Dk) (id : Int) : Past D id 1 := ⟨fun h => by omega, fun h => by omega⟩
theorem Past.next {D : Dk} {id : Int} {s : Nat} (h : Past D id s) (h1 : 1 ≤ s) (h3 : s < 3) (hn : NoId (rowD s D) id (rowD s D).length) : Past D id (s + 1) := by
  have hx := hn.all
  rcases (show s = 1 ∨ s = 2 by omega) with rfl | rfl
  · exact ⟨fun _ => hx, fun h => by omega⟩
  · exact ⟨fun _ => h.1 (by omega), fun _ => hx⟩
theorem Past.found {D : Dk} {id : Int} {s : Nat} (h : Past D id s) (h1 : 1 ≤ s) (h3 : s < 3) {k : Nat} {o : CO} (hk : (rowD s D)[k]? = some o) (ho : o.id = id) (hn : NoId (rowD s D) id k) : getV D id = .tuple #[coV o, .int .i64 k] := by
  have hx := seek_at hk ho hn
  unfold getV get2
  rcases (show s = 1 ∨ s = 2 by omega) with rfl | rfl
  · have hx : seekC D.1 id = some (k, o) := hx
    rw [hx]; rfl
  · have hx : seekC D.2 id = some (k, o) := hx
    rw [h.1 (by omega), hx]; rfl
theorem Past.none {D : Dk} {id : Int} (h : Past D id 3) : getV D id = .tuple #[coV zeroC, .int .i64 (-1)] := by
  unfold getV get2
  rw [h.1 (by omega), h.2 (by omega)]; rfl
/-- A side's row. -/
theorem RefAt.row {w : World} {B g : Nat} {v1 v2 : Value} {D : Dk} (h : RefAt w B g v1 v2 D) {s : Int} (hs : s = 1 ∨ s = 2) : w.ownsRow B 37 5 (sideV v1 v2 s) (rowD s D).length ((rowD s D).flatMap co1) := by
  rcases hs with rfl | rfl
  · exact h.b
  · exact h.s
theorem bel_set {w wr : World} (h : Below w.heap.size w wr) (k i : Nat) (hk : w.heap.size ≤ k) (u : Value) : Below w.heap.size w (wr.setCell ⟨k, i, Option.none⟩ u) :=
  Chg.toBelow h (Chg.setCell (S := fun j => j = k) (Chg.refl _ _) (p := ⟨k, i, Option.none⟩) (fun _ => rfl) u) h.size (fun j hj e => by omega)
/-- Five cells of zero, a result's. -/
def zero5 : Array Value := #[.int .i64 0, .int .i64 0, .int .i64 0, .int .i64 0, .int .i64 0]
structure Zero5 (w : World) (r : Nat) (t : TypeId) : Prop where
  box : Box w r t zero5
theorem Zero5.cells {w : World} {r : Nat} {t : TypeId} (h : Zero5 w r t) : w.cell? ⟨r, 0, Option.none⟩ = some (.int .i64 0) ∧ w.cell? ⟨r, 1, Option.none⟩ = some (.int .i64 0) ∧ w.cell? ⟨r, 2, Option.none⟩ = some (.int .i64 0) ∧ w.cell? ⟨r, 3, Option.none⟩ = some (.int .i64 0) ∧ w.cell? ⟨r, 4, Option.none⟩ = some (.int .i64 0) ∧
    w.frozen? ⟨r, 0, Option.none⟩ = false ∧ w.frozen? ⟨r, 1, Option.none⟩ = false ∧ w.frozen? ⟨r, 2, Option.none⟩ = false ∧ w.frozen? ⟨r, 3, Option.none⟩ = false ∧ w.frozen? ⟨r, 4, Option.none⟩ = false :=
  ⟨h.box.reads 0, h.box.reads 1, h.box.reads 2, h.box.reads 3, h.box.reads 4, h.box.unmarked 0, h.box.unmarked 1, h.box.unmarked 2, h.box.unmarked 3, h.box.unmarked 4⟩
set_option maxRecDepth 100000 in
set_option maxHeartbeats 2000000 in
theorem rget_any {w : World} {B g : Nat} {v1 v2 : Value} {D : Dk} (h : RefAt w B g v1 v2 D) (hm : D.1.length + D.2.length ≤ 256) (id : Int) :
    Calls Try.prog 20 #[.pointer (some ⟨g, 0, none⟩), .int .i64 id] w fun e w' => e = .returned (getV D id) ∧ Below w.heap.size w w' := by
  have HL := Lib.hid (fun w' (hb : Below w.heap.size w w') => h.carry hb)
  have HS := Lib.hid (fun w' (hb : Below w.heap.size w w') (s : Int) => rside_any (h.carry hb) s)
  have HR := Lib.hid (fun s (hs : s = 1 ∨ s = 2) => h.row hs)
  have HM := Lib.hid hm
  clear h hm
  go_enter Try.func20, Try.ntmps20
  go_wp2_with fail
  go_loopw [6] (fun v6 wr => ∃ s : Nat, 1 ≤ s ∧ s ≤ 3 ∧ v6 = .int .i64 s ∧ Hid (Below w.heap.size w wr ∧ Zero5 wr w.heap.size 37 ∧ Past D id s)) (fun v6 _ => 3 - (intOf v6).toNat)
  case atStart => exact ⟨1, by omega, by omega, rfl, Lib.hid ⟨bel_new _ _, ⟨Box.fresh w _ _ rfl⟩, Past.one D id⟩⟩
  case round =>
    obtain ⟨s, hs1, hs3, rfl, hJ⟩ := hrel
    obtain ⟨hB, hZ, hP⟩ := hJ.out
    by_cases hlt : s < 3
    · have hs : (s : Int) = 1 ∨ (s : Int) = 2 := by omega
      have HC := Lib.hid (HS.out wr hB s)
      have hrow := HR.out s hs
      obtain ⟨A, c, hv⟩ := own_slice hrow
      obtain ⟨n, hn⟩ : ∃ n, (rowD s D).length = n := ⟨_, rfl⟩
      have hn2 : n ≤ 256 := by
        have := HM.out
        rw [← hn]
        rcases hs with e | e <;> rw [e] <;> simp [rowD] <;> omega
      rw [hv, hn] at hrow
      rw [hv] at HC
      rw [hn] at HC
      replace hP := Lib.hid hP
      replace hB := Lib.hid hB
      replace hrow := Lib.hid hrow
      replace hn := Lib.hid hn
      replace hZ := Lib.hid hZ
      have d1 : decide ((s : Int) ≤ 2) = true := by simp; omega
      clear hJ hv hs
      go_wp2_with (go_at_call 18; refine HC.out.mono ?_; rintro e w' ⟨rfl, rfl⟩)
      go_loopw [8] (fun v8 wr2 => ∃ i : Nat, i ≤ n ∧ v8 = .int .i64 i ∧ Hid (Below w.heap.size w wr2 ∧ Zero5 wr2 w.heap.size 37 ∧ NoId (rowD s D) id i)) (fun v8 _ => n - (intOf v8).toNat)
      case atStart => exact ⟨0, by omega, rfl, Lib.hid ⟨hB.out, hZ.out, NoId.zero _ _⟩⟩
      case round =>
        clear hZ
        obtain ⟨i, hi, rfl, hJ⟩ := hrel
        obtain ⟨hB2, hZ, hN⟩ := hJ.out
        by_cases hil : i < n
        · obtain ⟨o, hk⟩ : ∃ o, (rowD s D)[i]? = some o := ⟨_, List.getElem?_eq_getElem (by rw [hn.out]; exact hil)⟩
          have hr2 := own_keep hrow.out hB2
          rw [← hn.out] at hr2
          obtain ⟨b, c', e1, _, hb, _, hc, k0, k1, k2, k3, k4, _⟩ := co_cells hr2 hk
          have hbw : b < w.heap.size := by
            rw [hn.out] at e1
            have := (hrow.out.lt b (by rw [e1]; rfl)).2
            exact this
          rw [hn.out] at e1 hc
          injection e1 with e1 e3 e2
          clear e3
          subst e1; subst e2
          by_cases ho : o.id = id
          · have HF := Lib.hid (hP.out.found hs1 hlt hk ho hN)
            obtain ⟨z0, z1, z2, z3, z4, f0, f1, f2, f3, f4⟩ := hZ.cells
            replace hB2 := Lib.hid hB2
            have hbr : b ≠ w.heap.size := by omega
            have d2 : decide ((i : Int) < (n : Int)) = true := by simp; omega
            obtain ⟨oi, oo, os, on, ou⟩ := o
            dsimp only at k0 k1 k2 k3 k4 ho
            subst ho
            clear hk hr2 hJ hN hZ
            go_wp2_with fail
            refine bodyPost_ret (v := .tuple #[coV ⟨oi, oo, os, on, ou⟩, .int .i64 i]) (by simp [results, Try.results20, go_sem, coV, z0, z1, z2, z3, z4, Try.isAgg37, Try.sizeOf37]) rfl ⟨by rw [HF.out], ?_⟩
            exact bel_set (bel_set (bel_set (bel_set (bel_set hB2.out _ 0 (Nat.le_refl _) _) _ 1 (Nat.le_refl _) _) _ 2 (Nat.le_refl _) _) _ 3 (Nat.le_refl _) _) _ 4 (Nat.le_refl _) _
          · have HN := Lib.hid (hN.succ hk ho)
            replace hB2 := Lib.hid hB2
            replace hZ := Lib.hid hZ
            have d2 : decide ((i : Int) < (n : Int)) = true := by simp; omega
            obtain ⟨oi, oo, os, on, ou⟩ := o
            dsimp only at k0 k1 k2 k3 k4 ho
            clear hk hr2 hJ hN
            go_wp2_with fail
            go_roundw
            case rel => exact ⟨i + 1, by omega, by go_num, Lib.hid ⟨hB2.out, hZ.out, HN.out⟩⟩
            case measure => simp [intOf]; omega
        · obtain rfl : i = n := by omega
          have hx := hn.out
          have HP := Lib.hid (hP.out.next hs1 hlt (by rw [hx]; exact hN))
          replace hB2 := Lib.hid hB2
          replace hZ := Lib.hid hZ
          have d2 : decide ((i : Int) < (i : Int)) = false := by simp
          clear hJ hN hx
          go_wp2_with fail
          go_roundw
          case rel => exact ⟨s + 1, by omega, by omega, by go_num, Lib.hid ⟨hB2.out, hZ.out, HP.out⟩⟩
          case measure => simp [intOf]; omega
    · obtain rfl : s = 3 := by omega
      have HF := Lib.hid hP.none
      obtain ⟨z0, z1, z2, z3, z4, f0, f1, f2, f3, f4⟩ := hZ.cells
      replace hB := Lib.hid hB
      clear hP hJ hZ
      go_wp2_with fail
      refine bodyPost_ret (v := .tuple #[coV zeroC, .int .i64 (-1)]) (by simp [results, Try.results20, go_sem, coV, zeroC, z0, z1, z2, z3, z4, Try.isAgg37, Try.sizeOf37]) rfl ⟨by rw [HF.out], ?_⟩
      exact bel_set (bel_set (bel_set (bel_set (bel_set hB.out _ 0 (Nat.le_refl _) _) _ 1 (Nat.le_refl _) _) _ 2 (Nat.le_refl _) _) _ 3 (Nat.le_refl _) _) _ 4 (Nat.le_refl _) _
end Go.Proofs.Ytekppjigckjgiaa

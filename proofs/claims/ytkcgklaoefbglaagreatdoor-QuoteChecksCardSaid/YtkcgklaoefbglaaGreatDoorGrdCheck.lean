/- Check: what may not be about a table. -/
import Derived.Test.YtkcgklaoefbglaaGreatDoorGrdWrong
set_option linter.unusedSimpArgs false
namespace Go.Proofs.YtkcgklaoefbglaaGreatDoor
open Go.RowKit Go.Mem1 Go.GridMath

/-- The word 'step'. -/
def stepBytes : ByteArray := ⟨#[115, 116, 101, 112]⟩
/-- A Fault 'step' at a place. -/
def StepErr (w : World) (B : Nat) (k x : Int) (v : Value) : Prop :=
  ∃ b, v = .iface 63 (.pointer (some ⟨b, 0, none⟩)) ∧ b < B ∧ w.cell? ⟨b, 0, none⟩ = some (.string stepBytes) ∧ w.cell? ⟨b, 1, none⟩ = some (.int .i64 k) ∧ w.cell? ⟨b, 2, none⟩ = some (.iface 62 (.int .i64 x))
theorem gfault_any (k x : Int) (w : World) :
    Calls Tryz.prog 75 #[.int .i64 k, .iface 62 (.int .i64 x)] w fun e w' => ∃ v, e = .returned v ∧ StepErr w' w'.heap.size k x v ∧ Below w.heap.size w w' := by
  go_enter Tryz.func75, Tryz.ntmps75
  go_wp2_with fail
  go_ret
  refine ⟨_, rfl, ⟨_, rfl, by simp, by simp [stepBytes], by simp, by simp⟩, by first | exact bel_new _ _ | exact bel_alloc (bel_new _ _) _⟩
/-- What Check answers. -/
def ChkPost (l : List Stp) (w : World) (e : Ending) (w' : World) : Prop :=
  Below w.heap.size w w' ∧ match chk l with
    | none => e = .returned .nilIface
    | some (k, x) => ∃ v, e = .returned v ∧ StepErr w' w'.heap.size k x v
theorem ChkPost.bad {l : List Stp} {w w' : World} {k : Nat} {x : Int} {v : Value} (h : chk l = some (k, x)) (hb : Below w.heap.size w w') (hv : StepErr w' w'.heap.size k x v) : ChkPost l w (.returned v) w' := by
  unfold ChkPost; rw [h]; exact ⟨hb, _, rfl, hv⟩
theorem ChkPost.good {l : List Stp} {w w' : World} (h : chk l = none) (hb : Below w.heap.size w w') : ChkPost l w (.returned .nilIface) w' := by
  unfold ChkPost; rw [h]; exact ⟨hb, rfl⟩
theorem wrong_any (A : Option Addr) (n c k : Nat) (l : List Stp) (w : World) (h : TabAt w w.heap.size A n l) (hn : k < n) (hk : n ≤ 1000000) (hq : ∀ j < k, wrongAt l j = 0) :
    Calls Tryz.prog 76 #[.slice A n c, .int .i64 (k : Int)] w fun e w' => e = .returned (.int .i64 (wrongAt l k)) ∧ Below w.heap.size w w' := by
  cases k with
  | zero => exact wrong_zero A n c l w h hn
  | succ k => exact wrong_succ A n c k l w h hn hk (fine_at k (fun i hi => hq i (by omega)))
set_option maxRecDepth 100000 in
set_option maxHeartbeats 1000000 in
theorem check_any (A : Option Addr) (n c : Nat) (l : List Stp) (w : World) (h : TabAt w w.heap.size A n l) (hn : n ≤ 1000000) :
    Calls Tryz.prog 73 #[.slice A n c] w (ChkPost l w) := by
  have hl := h.len
  by_cases h0 : n = 0
  · subst h0
    have hc : chk l = some (0, 1) := by unfold chk; rw [if_pos hl]
    have HC := Lib.hid hc
    clear h hl hc
    go_enter Tryz.func73, Tryz.ntmps73
    go_wp2_with (go_at_call 75; refine (gfault_any _ _ _).mono ?_; rintro e w1 ⟨v, rfl, hv, hb⟩)
    go_ret
    exact ChkPost.bad HC.out hb hv
  · have t0 : ((n : Int) == 0) = false := by simp; omega
    by_cases h8 : 8 < n
    · have hc : chk l = some (8, 1) := by unfold chk; rw [if_neg (by omega), if_pos (by omega)]
      have HC := Lib.hid hc
      have t1 : decide ((8 : Int) < (n : Int)) = true := by simp; omega
      clear h hl hc
      go_enter Tryz.func73, Tryz.ntmps73
      go_wp2_with (go_at_call 75; refine (gfault_any _ _ _).mono ?_; rintro e w1 ⟨v, rfl, hv, hb⟩)
      go_ret
      exact ChkPost.bad HC.out hb hv
    · have t1 : decide ((8 : Int) < (n : Int)) = false := by simp; omega
      have H := Lib.hid h
      have HL := Lib.hid hl
      clear h hl
      go_enter Tryz.func73, Tryz.ntmps73
      go_wp2_with fail
      go_loopw [19] (fun v19 wr => ∃ k : Nat, k ≤ n ∧ v19 = .int .i64 k ∧ Hid (∀ j < k, wrongAt l j = 0) ∧ Hid (Below w.heap.size w wr)) (fun v19 _ => n - (intOf v19).toNat)
      case atStart => exact ⟨0, by omega, rfl, Lib.hid (fun j hj => absurd hj (Nat.not_lt_zero _)), Lib.hid (Below.refl _ _)⟩
      case round =>
        obtain ⟨k, hk, rfl, hq, hB⟩ := hrel
        by_cases hlt : k < n
        · have HW := Lib.hid (wrong_any A n c k l wr ((H.out.carry hB.out).wider hB.out.size) hlt hn hq.out)
          go_wp2_with (go_at_call 76; refine Hid.out ?_)
          refine Lib.hid ?_
          obtain ⟨R, hR⟩ : ∃ R, wrongAt l k = R := ⟨_, rfl⟩
          have HR := Lib.hid hR
          rw [hR] at HW
          clear hR
          refine HW.out.mono ?_
          rintro e w1 ⟨rfl, hb1⟩
          have hB1 := Lib.hid (bel_trans hB.out hb1)
          clear hb1
          by_cases hz : R = 0
          · subst hz
            go_wp2_with fail
            go_roundw
            case rel => exact ⟨k + 1, by omega, by go_num, Lib.hid (fun j hj => by
              rcases Nat.lt_or_ge j k with h | h
              · exact hq.out j h
              · obtain rfl : j = k := by omega
                exact HR.out), hB1⟩
            case measure => simp [intOf]; omega
          · have hz' : (R != 0) = true := by simpa using hz
            go_wp2_with (go_at_call 75; refine (gfault_any _ _ _).mono ?_; rintro e w2 ⟨v, rfl, hv, hb⟩)
            go_ret
            exact ChkPost.bad (by have := chk_some (by rw [HL.out]; omega) (by rw [HL.out]; exact hlt) hq.out (by rw [HR.out]; exact hz); rw [HR.out] at this; exact this) (bel_trans hB1.out hb) hv
        · obtain rfl : k = n := by omega
          go_wp2_with fail
          go_ret
          exact ChkPost.good (chk_none (by rw [HL.out]; omega) (by rw [HL.out]; omega) (by rw [HL.out]; exact hq.out)) hB.out
end Go.Proofs.YtkcgklaoefbglaaGreatDoor

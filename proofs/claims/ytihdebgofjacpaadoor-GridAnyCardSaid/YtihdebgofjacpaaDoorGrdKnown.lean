/- The law's known. -/
import Derived.Test.YtihdebgofjacpaaDoorGrdCount
set_option linter.unusedSimpArgs false
namespace Go.Proofs.YtihdebgofjacpaaDoor
open Go.RowKit Go.Mem1 Go.GridMath

def kn2 : List Stp := [(1, 1), (101, 5)]
set_option maxRecDepth 100000 in
set_option maxHeartbeats 1000000 in
theorem gknown_ok (w : World) : Calls Tryd.prog 4 #[] w fun e w' => e = .returned (.bool true) ∧ Below w.heap.size w w' := by
  have hc : chk kn2 = none := by decide
  obtain ⟨W1, hW⟩ : ∃ W1, w.alloc (.cells #[.int .i64 1, .int .i64 1, .int .i64 101, .int .i64 5] 46) = W1 := ⟨_, rfl⟩
  have T1 : TabAt W1 W1.heap.size (some ⟨w.heap.size, 0, none⟩) 2 kn2 := by
    rw [← hW]
    exact TabAt.made w _ _ _ 2 kn2 rfl (fun k s hs => by
      match k, hs with
      | 0, hs => injection hs with hs; subst hs; exact ⟨rfl, rfl⟩
      | 1, hs => injection hs with hs; subst hs; exact ⟨rfl, rfl⟩) rfl rfl
  have B1 : Below w.heap.size w W1 := by rw [← hW]; exact bel_new _ _
  have KU := Lib.hid (fun w' (hb : Below W1.heap.size W1 w') => (up_any _ 2 2 kn2 100 w' ((T1.carry hb).wider hb.size) hc).mono (R' := fun e w2 => e = .returned (.tuple #[.int .i64 101, .bool true]) ∧ Hid (Below W1.heap.size W1 w2)) (fun e w2 ⟨he, h2⟩ => ⟨by rw [he, show upT kn2 100 = (101, true) by decide], hb.trans (h2.mono hb.size)⟩))
  have KD := Lib.hid (fun w' (hb : Below W1.heap.size W1 w') => (down_any _ 2 2 kn2 106 w' ((T1.carry hb).wider hb.size) hc).mono (R' := fun e w2 => e = .returned (.tuple #[.int .i64 101, .bool true]) ∧ Hid (Below W1.heap.size W1 w2)) (fun e w2 ⟨he, h2⟩ => ⟨by rw [he, show downT kn2 106 = (101, true) by decide], hb.trans (h2.mono hb.size)⟩))
  have KC := Lib.hid (fun w' (hb : Below W1.heap.size W1 w') => (check_any _ 2 2 kn2 w' ((T1.carry hb).wider hb.size) (by omega)).mono (R' := fun e w2 => e = .returned .nilIface ∧ Hid (Below W1.heap.size W1 w2)) (fun e w2 h2 => by
    unfold ChkPost at h2; rw [hc] at h2; exact ⟨h2.2, hb.trans (h2.1.mono hb.size)⟩))
  have KO := Lib.hid (fun w' (hb : Below W1.heap.size W1 w') => (on_any _ 2 2 kn2 106 w' ((T1.carry hb).wider hb.size) hc).mono (R' := fun e w2 => e = .returned (.bool true) ∧ Hid (Below W1.heap.size W1 w2)) (fun e w2 ⟨he, h2⟩ => ⟨by rw [he, show onT kn2 106 = true by decide], hb.trans (h2.mono hb.size)⟩))
  have KP := Lib.hid (fun w' (hb : Below W1.heap.size W1 w') => (on_any _ 2 2 kn2 105 w' ((T1.carry hb).wider hb.size) hc).mono (R' := fun e w2 => e = .returned (.bool false) ∧ Hid (Below W1.heap.size W1 w2)) (fun e w2 ⟨he, h2⟩ => ⟨by rw [he, show onT kn2 105 = false by decide], hb.trans (h2.mono hb.size)⟩))
  have KN := Lib.hid (fun w' (hb : Below W1.heap.size W1 w') => (count_any _ 2 2 kn2 99 111 w' ((T1.carry hb).wider hb.size) hc (by omega)).mono (R' := fun e w2 => e = .returned (.int .i64 5) ∧ Hid (Below W1.heap.size W1 w2)) (fun e w2 ⟨he, h2⟩ => ⟨by rw [he, show countT kn2 99 111 = 5 by decide], hb.trans (h2.mono hb.size)⟩))
  have KR := Lib.hid (fun w' (hb : Below W1.heap.size W1 w') => (near_any _ 2 2 kn2 110 w' ((T1.carry hb).wider hb.size) hc).mono (R' := fun e w2 => e = .returned (.int .i64 106) ∧ Hid (Below W1.heap.size W1 w2)) (fun e w2 ⟨he, h2⟩ => ⟨by rw [he, show nearT kn2 110 = 106 by decide], hb.trans (h2.mono hb.size)⟩))
  have KZ := Lib.hid (fun w' (hb : Below W1.heap.size W1 w') => (check_any none 0 0 [] w' (TabAt.empty _ _ _) (by omega)).mono (R' := fun e w2 => ∃ b : Nat, e = .returned (.iface 53 (.pointer (some ⟨b, 0, none⟩))) ∧ Hid (Below W1.heap.size W1 w2)) (fun e w2 h2 => by
    unfold ChkPost at h2; rw [show chk [] = some (0, 1) from rfl] at h2
    obtain ⟨h3, v, he, b, hv, _⟩ := h2
    exact ⟨b, by rw [he, hv], hb.trans (h3.mono hb.size)⟩))
  have hb : Hid (Below W1.heap.size W1 W1) := Below.refl _ _
  have HB := Lib.hid B1
  clear T1 hc B1
  go_enter Tryd.func4, Tryd.ntmps4
  go_wp2_with (go_at_call 9; refine Hid.out ?_)
  clear hW
  refine Lib.hid ?_
  refine (KU.out _ hb.out).mono ?_
  rintro e w2 ⟨rfl, hb⟩
  go_wp2_with ((first
    | (go_at_call 11; refine (KD.out _ hb.out).mono ?_; clear KD; rintro e w2 ⟨rfl, hb⟩)
    | (go_at_call 8; refine (KC.out _ hb.out).mono ?_; clear KC; rintro e w2 ⟨rfl, hb⟩)
    | (go_at_call 13; refine (KO.out _ hb.out).mono ?_; clear KO; rintro e w2 ⟨rfl, hb⟩)
    | (go_at_call 13; refine (KP.out _ hb.out).mono ?_; clear KP; rintro e w2 ⟨rfl, hb⟩)
    | (go_at_call 17; refine (KN.out _ hb.out).mono ?_; clear KN; rintro e w2 ⟨rfl, hb⟩)
    | (go_at_call 15; refine (KR.out _ hb.out).mono ?_; clear KR; rintro e w2 ⟨rfl, hb⟩)
    | (go_at_call 8; refine (KZ.out _ hb.out).mono ?_; clear KZ; rintro e w2 ⟨b, rfl, hb⟩)))
  go_ret
  exact ⟨rfl, HB.out.trans (hb.out.mono HB.out.size)⟩
end Go.Proofs.YtihdebgofjacpaaDoor

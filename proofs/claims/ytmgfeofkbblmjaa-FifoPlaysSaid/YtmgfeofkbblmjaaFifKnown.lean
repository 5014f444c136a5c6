/- straddlelaw9.known answers true. -/
import Derived.Test.YtmgfeofkbblmjaaFifInv
set_option linter.unusedSimpArgs false
namespace Go.Proofs.Ytmgfeofkbblmjaa
open Go.RowKit Go.Mem1 Go.FifMath

/-- An arena of known, in the world. -/
def KA (w0 : World) (B g : Nat) (M : List (Nat × Nat × Int)) (F : List Nat) (w : World) : Prop := Ar w B g 2 3 M F ∧ Below B w0 w
section
variable {w0 w : World} {B g : Nat} {M : List (Nat × Nat × Int)} {F : List Nat}
theorem KA.push (h : KA w0 B g M F w) (row : Nat) (hr : row < 2) (hM : M.length < 3) (v : Int) :
    Calls Try.prog 8 #[.pointer (some ⟨g, 0, none⟩), .int .i64 row, .int .i64 v] w fun e w' => e = .returned (.tuple #[.int .i64 (nextC M F), .int .i64 0]) ∧ KA w0 B g (M ++ [(nextC M F, row, v)]) F.tail w' :=
  (ar_push h.1 hr hM v).mono fun _ _ ⟨h1, h2, h3⟩ => ⟨h1, h2, h.2.trans h3.below⟩
theorem KA.remove {M1 M2 : List (Nat × Nat × Int)} {c row : Nat} {v : Int} (h : KA w0 B g (M1 ++ (c, row, v) :: M2) F w) :
    Calls Try.prog 9 #[.pointer (some ⟨g, 0, none⟩), .int .i64 c] w fun e w' => e = .returned (.bool true) ∧ KA w0 B g (M1 ++ M2) (c :: F) w' :=
  (ar_remove h.1).mono fun _ _ ⟨h1, h2, h3⟩ => ⟨h1, h2, h.2.trans h3.below⟩
end
set_option maxRecDepth 100000 in
set_option maxHeartbeats 2000000 in
theorem fknown_ok (w : World) : Calls Try.prog 6 #[] w fun e w' => e = .returned (.bool true) ∧ Below w.heap.size w w' := by
  have K0 := Lib.hid (ar_new w (R := 2) (C := 3) (by omega) (by omega))
  have K1 := Lib.hid (fun (B g : Nat) (w1 : World) (h : KA w B g [] [] w1) => (KA.push h 1 (by omega) (by simp) 10 : Calls Try.prog 8 #[.pointer (some ⟨g, 0, none⟩), .int .i64 1, .int .i64 10] w1 fun e w' => e = .returned (.tuple #[.int .i64 0, .int .i64 0]) ∧ KA w B g [(0, 1, 10)] [] w'))
  have K2 := Lib.hid (fun (B g : Nat) (w1 : World) (h : KA w B g [(0, 1, 10)] [] w1) => (KA.push h 1 (by omega) (by simp) 20 : Calls Try.prog 8 #[.pointer (some ⟨g, 0, none⟩), .int .i64 1, .int .i64 20] w1 fun e w' => e = .returned (.tuple #[.int .i64 1, .int .i64 0]) ∧ KA w B g [(0, 1, 10), (1, 1, 20)] [] w'))
  have K3 := Lib.hid (fun (B g : Nat) (w1 : World) (h : KA w B g [(0, 1, 10), (1, 1, 20)] [] w1) => (ar_front h.1 (row := 1) (by omega) : Calls Try.prog 11 #[.pointer (some ⟨g, 0, none⟩), .int .i64 1] w1 fun e w' => e = .returned (.tuple #[.int .i64 0, .bool true]) ∧ w1 = w'))
  have K4 := Lib.hid (fun (B g : Nat) (w1 : World) (h : KA w B g [(0, 1, 10), (1, 1, 20)] [] w1) => (ar_next h.1 (row := 1) (k := 0) (x := (0, 10)) (by omega) rfl : Calls Try.prog 13 #[.pointer (some ⟨g, 0, none⟩), .int .i64 0] w1 fun e w' => e = .returned (.tuple #[.int .i64 1, .bool true]) ∧ w1 = w'))
  have K5 := Lib.hid (fun (B g : Nat) (w1 : World) (h : KA w B g [(0, 1, 10), (1, 1, 20)] [] w1) => (ar_value h.1 (x := (1, 1, 20)) (by simp) : Calls Try.prog 12 #[.pointer (some ⟨g, 0, none⟩), .int .i64 1] w1 fun e w' => e = .returned (.tuple #[.int .i64 20, .bool true]) ∧ w1 = w'))
  have K6 := Lib.hid (fun (B g : Nat) (w1 : World) (h : KA w B g [(0, 1, 10), (1, 1, 20)] [] w1) => (KA.remove (M1 := []) h : Calls Try.prog 9 #[.pointer (some ⟨g, 0, none⟩), .int .i64 0] w1 fun e w' => e = .returned (.bool true) ∧ KA w B g [(1, 1, 20)] [0] w'))
  have K7 := Lib.hid (fun (B g : Nat) (w1 : World) (h : KA w B g [(1, 1, 20)] [0] w1) => (KA.push h 0 (by omega) (by simp) 30 : Calls Try.prog 8 #[.pointer (some ⟨g, 0, none⟩), .int .i64 0, .int .i64 30] w1 fun e w' => e = .returned (.tuple #[.int .i64 0, .int .i64 0]) ∧ KA w B g [(1, 1, 20), (0, 0, 30)] [] w'))
  have K8 := Lib.hid (fun w1 => new_bad w1 0 1 (by omega))
  have K9 := Lib.hid (fun (B g : Nat) (w1 : World) (h : KA w B g [(1, 1, 20), (0, 0, 30)] [] w1) => (ar_row h.1 (row := 1) (by omega) : Calls Try.prog 10 #[.pointer (some ⟨g, 0, none⟩), .int .i64 1] w1 (RowAns [(1, 20)] w1)))
  have K10 := Lib.hid (fun (B g : Nat) (w1 : World) (h : KA w B g [(1, 1, 20), (0, 0, 30)] [] w1) => (ar_len h.1 (row := 0) (by omega) : Calls Try.prog 14 #[.pointer (some ⟨g, 0, none⟩), .int .i64 0] w1 fun e w' => e = .returned (.int .i64 1) ∧ w1 = w'))
  have K11 := Lib.hid (fun (B g : Nat) (w1 : World) (h : KA w B g [(1, 1, 20), (0, 0, 30)] [] w1) => (ar_free h.1 : Calls Try.prog 15 #[.pointer (some ⟨g, 0, none⟩)] w1 fun e w' => e = .returned (.int .i64 1) ∧ w1 = w'))
  go_enter Try.func6, Try.ntmps6
  go_wp2_with (go_at_call 7; refine Hid.out ?_)
  refine Lib.hid ?_
  refine K0.out.mono ?_
  rintro _ w1 ⟨g, rfl, hA, hB⟩
  have HA := Lib.hid (show KA w w.heap.size g [] [] w1 from ⟨hA, hB⟩)
  clear hA hB K0
  go_wp2_with (go_at_call 8; refine Hid.out ?_)
  refine Lib.hid ?_
  refine (K1.out _ g w1 HA.out).mono ?_
  rintro _ w2 ⟨rfl, hA⟩
  clear HA K1
  have HA := Lib.hid hA
  clear hA
  go_wp2_with (go_at_call 8; refine Hid.out ?_)
  refine Lib.hid ?_
  refine (K2.out _ g w2 HA.out).mono ?_
  rintro _ w3 ⟨rfl, hA⟩
  clear HA K2
  have HA := Lib.hid hA
  clear hA
  go_wp2_with ((first
    | (go_at_call 11; refine (K3.out _ g _ HA.out).mono ?_; rintro _ _ ⟨rfl, rfl⟩)
    | (go_at_call 13; refine (K4.out _ g _ HA.out).mono ?_; rintro _ _ ⟨rfl, rfl⟩)
    | (go_at_call 12; refine (K5.out _ g _ HA.out).mono ?_; rintro _ _ ⟨rfl, rfl⟩)
    | (go_at_call 9; refine Hid.out ?_)))
  refine Lib.hid ?_
  refine (K6.out _ g w3 HA.out).mono ?_
  rintro _ w4 ⟨rfl, hA⟩
  clear HA K6 K3 K4 K5
  have HA := Lib.hid hA
  clear hA
  go_wp2_with (go_at_call 8; refine Hid.out ?_)
  refine Lib.hid ?_
  refine (K7.out _ g w4 HA.out).mono ?_
  rintro _ w5 ⟨rfl, hA⟩
  clear HA K7
  have HA := Lib.hid hA
  clear hA
  go_wp2_with ((first
    | (go_at_call 7; refine (K8.out _).mono ?_; rintro _ _ ⟨rfl, rfl⟩)
    | (go_at_call 10; refine Hid.out ?_)))
  refine Lib.hid ?_
  refine (K9.out _ g w5 HA.out).mono ?_
  rintro _ w6 ⟨A6, c6, rfl, _, hb6⟩
  have hA6 : KA w w.heap.size g [(1, 1, 20), (0, 0, 30)] [] w6 := ⟨HA.out.1.carry hb6, HA.out.2.trans (hb6.mono HA.out.2.size)⟩
  clear HA K8 K9 hb6
  have HA := Lib.hid hA6
  clear hA6
  go_wp2_with ((first
    | (go_at_call 14; refine (K10.out _ g _ HA.out).mono ?_; rintro _ _ ⟨rfl, rfl⟩)
    | (go_at_call 15; refine (K11.out _ g _ HA.out).mono ?_; rintro _ _ ⟨rfl, rfl⟩)))
  go_ret
  exact ⟨rfl, HA.out.2⟩
end Go.Proofs.Ytmgfeofkbblmjaa

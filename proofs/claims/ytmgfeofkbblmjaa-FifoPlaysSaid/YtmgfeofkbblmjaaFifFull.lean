/- straddlelaw9.FifoFull returns true. -/
import Derived.Test.YtmgfeofkbblmjaaFifKnown
set_option linter.unusedSimpArgs false
namespace Go.Proofs.Ytmgfeofkbblmjaa
open Go.RowKit Go.Mem1 Go.FifMath

/-- What is taken when k values were put to three rows in turn. -/
def turnM (k : Nat) : List (Nat × Nat × Int) := (List.range k).map fun i => (i, i % 3, (i : Int))
theorem turnM_len (k : Nat) : (turnM k).length = k := by simp [turnM]
theorem turnM_succ (k : Nat) : turnM (k + 1) = turnM k ++ [(k, k % 3, (k : Int))] := by simp [turnM, List.range_succ]
theorem turnM_at {n k : Nat} (h : k < n) : (turnM n)[k]? = some (k, k % 3, (k : Int)) := by simp [turnM, h]
theorem cut_at {α : Type} {l : List α} {k : Nat} {x : α} (h : l[k]? = some x) : l = l.take k ++ x :: l.drop (k + 1) := by
  have hk : k < l.length := by
    rcases Nat.lt_or_ge k l.length with h' | h'
    · exact h'
    · rw [List.getElem?_eq_none h'] at h; cases h
  rw [List.getElem?_eq_getElem hk] at h
  injection h with h
  rw [← h, ← List.drop_eq_getElem_cons hk, List.take_append_drop]
theorem turnM_rows {n : Nat} {x : Nat × Nat × Int} (h : x ∈ turnM n) : x.2.1 < 3 := by
  obtain ⟨i, _, rfl⟩ := List.mem_map.1 h
  exact Nat.mod_lt _ (by omega)
/-- Of three rows the cells are those of all. -/
theorem three_rows (M : List (Nat × Nat × Int)) (h : ∀ x ∈ M, x.2.1 < 3) : (rowOf M 0).length + (rowOf M 1).length + (rowOf M 2).length = M.length := by
  induction M with
  | nil => rfl
  | cons x M ih =>
    have hx := h x (List.mem_cons_self ..)
    have := ih (fun y hy => h y (List.mem_cons_of_mem _ hy))
    obtain ⟨c, r, v⟩ := x
    rw [← List.singleton_append]
    simp only [rowOf_append, rowOf_one, List.length_append, List.length_singleton] at *
    rcases (show r = 0 ∨ r = 1 ∨ r = 2 by omega) with rfl | rfl | rfl <;> simp <;> omega
/-- While the cells are filled. -/
def FullJ (w0 : World) (B g n k : Nat) (w : World) : Prop := Ar w B g 3 n (turnM k) [] ∧ Below B w0 w
theorem FullJ.step {w0 w : World} {B g n k : Nat} (h : FullJ w0 B g n k w) (hk : k < n) :
    Calls Try.prog 8 #[.pointer (some ⟨g, 0, none⟩), .int .i64 ((k : Int) % 3), .int .i64 k] w fun e w' => e = .returned (.tuple #[.int .i64 k, .int .i64 0]) ∧ FullJ w0 B g n (k + 1) w' := by
  have := ar_push h.1 (row := k % 3) (Nat.mod_lt _ (by omega)) (by rw [turnM_len]; exact hk) (k : Int)
  rw [show ((k % 3 : Nat) : Int) = (k : Int) % 3 by omega] at this
  refine this.mono fun e w' ⟨h1, h2, h3⟩ => ?_
  have e1 : nextC (turnM k) [] = k := turnM_len k
  rw [e1] at h1 h2
  rw [← turnM_succ] at h2
  exact ⟨h1, h2, h.2.trans h3.below⟩
/-- One out. -/
def outM (n K : Nat) : List (Nat × Nat × Int) := (turnM n).take K ++ (turnM n).drop (K + 1)
theorem outM_len {n K : Nat} (h : K < n) : (outM n K).length + 1 = n := by
  unfold outM
  rw [List.length_append, List.length_take, List.length_drop, turnM_len]
  omega
theorem FullJ.last {w0 w : World} {B g n : Nat} (h : FullJ w0 B g n n w) :
    Calls Try.prog 8 #[.pointer (some ⟨g, 0, none⟩), .int .i64 0, .int .i64 7] w fun e w' => e = .returned (.tuple #[.int .i64 0, .int .i64 8]) ∧ w = w' :=
  ar_push_full h.1 (row := 0) (by omega) (by omega) (turnM_len n) 7
def FullO (w0 : World) (B g n K : Nat) (w : World) : Prop := Ar w B g 3 n (outM n K) [K] ∧ Below B w0 w
theorem FullJ.out {w0 w : World} {B g n K : Nat} (h : FullJ w0 B g n n w) (hK : K < n) :
    Calls Try.prog 9 #[.pointer (some ⟨g, 0, none⟩), .int .i64 K] w fun e w' => e = .returned (.bool true) ∧ FullO w0 B g n K w' := by
  have h1 := h.1
  rw [cut_at (turnM_at hK)] at h1
  exact (ar_remove h1).mono fun e w' ⟨a, b, c⟩ => ⟨a, b, h.2.trans c.below⟩
def FullE (w0 : World) (B g n K : Nat) (w : World) : Prop := Ar w B g 3 n (outM n K ++ [(K, 2, 99)]) [] ∧ Below B w0 w
theorem FullO.in_ {w0 w : World} {B g n K : Nat} (h : FullO w0 B g n K w) (hK : K < n) :
    Calls Try.prog 8 #[.pointer (some ⟨g, 0, none⟩), .int .i64 2, .int .i64 99] w fun e w' => e = .returned (.tuple #[.int .i64 K, .int .i64 0]) ∧ FullE w0 B g n K w' :=
  (ar_push h.1 (row := 2) (by omega) (by have := outM_len hK; omega) 99).mono fun e w' ⟨a, b, c⟩ => ⟨a, b, h.2.trans c.below⟩
theorem FullE.value {w0 w : World} {B g n K : Nat} (h : FullE w0 B g n K w) :
    Calls Try.prog 12 #[.pointer (some ⟨g, 0, none⟩), .int .i64 K] w fun e w' => e = .returned (.tuple #[.int .i64 99, .bool true]) ∧ w = w' := ar_value h.1 (x := (K, 2, 99)) (by simp)
theorem FullE.free {w0 w : World} {B g n K : Nat} (h : FullE w0 B g n K w) (hK : K < n) :
    Calls Try.prog 15 #[.pointer (some ⟨g, 0, none⟩)] w fun e w' => e = .returned (.int .i64 0) ∧ w = w' := by
  have := ar_free h.1
  rw [List.length_append, List.length_singleton, outM_len hK, Int.sub_self] at this
  exact this
theorem FullE.lens {w0 w : World} {B g n K : Nat} (h : FullE w0 B g n K w) (hK : K < n) : ∃ a b c : Nat, a + b + c = n ∧
    (Calls Try.prog 14 #[.pointer (some ⟨g, 0, none⟩), .int .i64 0] w fun e w' => e = .returned (.int .i64 a) ∧ w = w') ∧
    (Calls Try.prog 14 #[.pointer (some ⟨g, 0, none⟩), .int .i64 1] w fun e w' => e = .returned (.int .i64 b) ∧ w = w') ∧
    (Calls Try.prog 14 #[.pointer (some ⟨g, 0, none⟩), .int .i64 2] w fun e w' => e = .returned (.int .i64 c) ∧ w = w') := by
  have h3 := three_rows (outM n K ++ [(K, 2, 99)]) (fun x hx => by
    rcases List.mem_append.1 hx with hx | hx
    · unfold outM at hx
      rcases List.mem_append.1 hx with hx | hx
      · exact turnM_rows (List.mem_of_mem_take hx)
      · exact turnM_rows (List.mem_of_mem_drop hx)
    · rw [List.mem_singleton.1 hx]; show 2 < 3; omega)
  have hl := outM_len hK
  rw [List.length_append, List.length_singleton] at h3
  exact ⟨_, _, _, h3.trans hl, ar_len h.1 (row := 0) (by omega), ar_len h.1 (row := 1) (by omega), ar_len h.1 (row := 2) (by omega)⟩
set_option maxRecDepth 100000 in
set_option maxHeartbeats 2000000 in
theorem full_main (x y : Int) (w : World) (hx0 : 0 ≤ x) (hx1 : x < 256) (hy0 : 0 ≤ y) (hy1 : y < 256) :
    Calls Try.prog 4 #[.int .u8 x, .int .u8 y] w fun e w' => e = .returned (.bool true) ∧ Below w.heap.size w w' := by
  obtain ⟨n, hn⟩ : ∃ n : Nat, 1 + x % 60 = (n : Int) := ⟨(1 + x % 60).toNat, by omega⟩
  have hn1 : 1 ≤ n ∧ n ≤ 60 := by omega
  obtain ⟨K, hK⟩ : ∃ K : Nat, y % (n : Int) = (K : Int) := ⟨(y % (n : Int)).toNat, by
    have := Int.emod_nonneg y (show (n : Int) ≠ 0 by omega)
    omega⟩
  have hKn : K < n := by
    have := Int.emod_lt_of_pos y (show (0 : Int) < (n : Int) by omega)
    omega
  obtain ⟨hn1, hn2⟩ := hn1
  have HK := Lib.hid hK
  have HN := Lib.hid (fun w1 => ar_new w1 (R := 3) (C := n) (by omega) (by omega))
  clear hK
  go_enter Try.func4, Try.ntmps4
  go_wp2_with ((first
    | (go_at_call 6; refine (fknown_ok _).mono ?_; rintro e w0 ⟨rfl, hb0⟩; replace hb0 := Lib.hid hb0)
    | (go_at_call 7; refine Hid.out ?_)))
  refine Lib.hid ?_
  refine (HN.out w0).mono ?_
  rintro _ w1 ⟨g, rfl, hA, hB⟩
  have HJ0 : Hid (FullJ w0 w0.heap.size g n 0 w1) := Lib.hid ⟨hA, hB⟩
  have HX := Lib.hid hn
  clear hA hB HN
  go_wp2_with fail
  clear hn
  obtain ⟨B, hBq⟩ : ∃ B, w0.heap.size = B := ⟨_, rfl⟩
  rw [hBq] at HJ0
  have HBq := Lib.hid hBq
  clear hBq
  go_loopw [8] (fun v8 wr => ∃ k : Nat, k ≤ n ∧ v8 = .int .i64 k ∧ Hid (FullJ w0 B g n k wr)) (fun v8 _ => n - (intOf v8).toNat)
  case atStart => exact ⟨0, by omega, rfl, HJ0⟩
  case round =>
    obtain ⟨k, hk, rfl, hJ⟩ := hrel
    clear HJ0
    by_cases hlt : k < n
    · have HS := Lib.hid (hJ.out.step hlt)
      clear hJ
      go_wp2_with (go_at_call 8; refine Hid.out ?_)
      refine Lib.hid ?_
      refine HS.out.mono ?_
      rintro _ w2 ⟨rfl, hJ⟩
      have HJ := Lib.hid hJ
      clear hJ HS
      go_wp2_with fail
      go_roundw
      case rel => exact ⟨k + 1, by omega, by go_num, HJ⟩
      case measure => simp [intOf]; omega
    · obtain rfl : k = n := by omega
      have HL := Lib.hid hJ.out.last
      have HO := Lib.hid (hJ.out.out hKn)
      have hK := HK.out
      have hk0 : (k : Int) ≠ 0 := by omega
      clear hJ
      go_wp2_with ((first
        | (go_at_call 8; refine HL.out.mono ?_; rintro _ _ ⟨rfl, rfl⟩)
        | (go_at_call 9; refine Hid.out ?_)))
      refine Lib.hid ?_
      refine HO.out.mono ?_
      rintro _ w2 ⟨rfl, hO⟩
      have HI := Lib.hid (hO.in_ hKn)
      clear hO HL HO
      go_wp2_with (go_at_call 8; refine Hid.out ?_)
      refine Lib.hid ?_
      refine HI.out.mono ?_
      rintro _ w3 ⟨rfl, hE⟩
      have HV := Lib.hid hE.value
      have HF := Lib.hid (hE.free hKn)
      obtain ⟨a, b, c, habc, l0, l1, l2⟩ := hE.lens hKn
      have L0 := Lib.hid l0
      have L1 := Lib.hid l1
      have L2 := Lib.hid l2
      have HB := Lib.hid hE.2
      clear HI hE l0 l1 l2
      have e1 : (a : Int) + (b : Int) + (c : Int) = (k : Int) := by omega
      have a1 : a ≤ 60 := by omega
      have b1 : b ≤ 60 := by omega
      have c1 : c ≤ 60 := by omega
      clear habc
      have E1 := Lib.hid e1
      clear e1
      go_wp2_with ((first
        | (go_at_call 12; (with_reducible refine HV.out.mono ?_); rintro _ _ ⟨rfl, rfl⟩)
        | (go_at_call 15; (with_reducible refine HF.out.mono ?_); rintro _ _ ⟨rfl, rfl⟩)
        | (go_at_call 14; refine Hid.out ?_)))
      refine Lib.hid ?_
      refine L0.out.mono ?_
      rintro _ _ ⟨rfl, rfl⟩
      clear L0 HV HF
      go_wp2_with (go_at_call 14; refine Hid.out ?_)
      refine Lib.hid ?_
      refine L1.out.mono ?_
      rintro _ _ ⟨rfl, rfl⟩
      clear L1
      go_wp2_with (go_at_call 14; refine Hid.out ?_)
      refine Lib.hid ?_
      refine L2.out.mono ?_
      rintro _ _ ⟨rfl, rfl⟩
      clear L2
      have t9 : ((a : Int) + (b : Int) + (c : Int) == (k : Int)) = true := by rw [E1.out]; simp
      go_wp2_with fail
      go_ret
      refine ⟨rfl, hb0.out.trans (HB.out.mono (by rw [← HBq.out]; exact hb0.out.size))⟩
end Go.Proofs.Ytmgfeofkbblmjaa

/- straddlelaw9.FifoOrder returns true. -/
import Derived.Test.YtmgfeofkbblmjaaFifOrderM
import Derived.Test.YtmgfeofkbblmjaaBy
set_option linter.unusedSimpArgs false
namespace Go.Proofs.Ytmgfeofkbblmjaa
open Go.RowKit Go.Mem1 Go.FifMath

/-- While the values are put. -/
def OrdJ1 (w0 : World) (B g : Nat) (l : List Nat) (k : Nat) (w : World) : Prop := Ar w B g 8 100 (orderM (l.take k)) [] ∧ Below B w0 w
/-- While the rows are emptied. -/
def OrdJ2 (w0 : World) (B g : Nat) (l : List Nat) (r i : Nat) (w : World) : Prop := (∃ F, Ar w B g 8 100 (restM l r i) F) ∧ Below B w0 w
section
variable {w0 w : World} {B g : Nat} {l : List Nat}
theorem OrdJ1.step {k x : Nat} (h : OrdJ1 w0 B g l k w) (hx : l[k]? = some x) (hk : k < 100) :
    Calls Try.prog 8 #[.pointer (some ⟨g, 0, none⟩), .int .i64 ((x : Int) % 8), .int .i64 k] w fun e w' => ∃ c : Nat, e = .returned (.tuple #[.int .i64 c, .int .i64 0]) ∧ OrdJ1 w0 B g l (k + 1) w' := by
  have hkl : k < l.length := by
    rcases Nat.lt_or_ge k l.length with h' | h'
    · exact h'
    · rw [List.getElem?_eq_none h'] at hx; cases hx
  have hlen : (orderM (l.take k)).length = k := by rw [orderM_len, List.length_take]; omega
  have := ar_push h.1 (row := x % 8) (Nat.mod_lt _ (by omega)) (by rw [hlen]; exact hk) (k : Int)
  rw [show ((x % 8 : Nat) : Int) = (x : Int) % 8 by omega] at this
  refine this.mono fun e w' ⟨h1, h2, h3⟩ => ⟨_, h1, ?_, h.2.trans h3.below⟩
  have e1 : nextC (orderM (l.take k)) [] = k := hlen
  rw [e1, ← orderM_snoc hx] at h2
  exact h2
theorem OrdJ1.done (h : OrdJ1 w0 B g l l.length w) : OrdJ2 w0 B g l 0 0 w := by
  obtain ⟨h1, h2⟩ := h
  rw [List.take_length] at h1
  exact ⟨⟨_, by rw [rest_start]; exact h1⟩, h2⟩
theorem OrdJ2.skip {r i x : Nat} (h : OrdJ2 w0 B g l r i w) (hx : l[i]? = some x) (hr : x % 8 ≠ r) : OrdJ2 w0 B g l r (i + 1) w := by
  unfold OrdJ2
  rw [rest_skip hx hr]
  exact h
theorem OrdJ2.next {r : Nat} (h : OrdJ2 w0 B g l r l.length w) : OrdJ2 w0 B g l (r + 1) 0 w := by
  unfold OrdJ2
  rw [← rest_next]
  exact h
theorem OrdJ2.front {r i x : Nat} (h : OrdJ2 w0 B g l r i w) (hx : l[i]? = some x) (hr : x % 8 = r) :
    (Calls Try.prog 11 #[.pointer (some ⟨g, 0, none⟩), .int .i64 r] w fun e w' => e = .returned (.tuple #[.int .i64 i, .bool true]) ∧ w = w') ∧
    (Calls Try.prog 12 #[.pointer (some ⟨g, 0, none⟩), .int .i64 i] w fun e w' => e = .returned (.tuple #[.int .i64 i, .bool true]) ∧ w = w') ∧
    (Calls Try.prog 9 #[.pointer (some ⟨g, 0, none⟩), .int .i64 i] w fun e w' => e = .returned (.bool true) ∧ OrdJ2 w0 B g l r (i + 1) w') := by
  obtain ⟨⟨F, h1⟩, h2⟩ := h
  obtain ⟨M1, M2, e1, e2, e3⟩ := rest_take hx hr
  have hf := ar_front h1 (row := r) (by have := Nat.mod_lt x (show 0 < 8 by omega); omega)
  rw [e3] at hf
  rw [e1] at h1
  exact ⟨hf, ar_value h1 (x := (i, r, (i : Int))) (by simp), (ar_remove h1).mono fun e w' ⟨a, b, c⟩ => ⟨a, ⟨_, by rw [e2]; exact b⟩, h2.trans c.below⟩⟩
theorem OrdJ2.over {r : Nat} (h : OrdJ2 w0 B g l r l.length w) (hr : r < 8) :
    (Calls Try.prog 11 #[.pointer (some ⟨g, 0, none⟩), .int .i64 r] w fun e w' => e = .returned (.tuple #[.int .i64 0, .bool false]) ∧ w = w') ∧
    (Calls Try.prog 14 #[.pointer (some ⟨g, 0, none⟩), .int .i64 r] w fun e w' => e = .returned (.int .i64 0) ∧ w = w') := by
  obtain ⟨⟨F, h1⟩, h2⟩ := h
  have hf := ar_front h1 (row := r) hr
  have hl := ar_len h1 (row := r) hr
  rw [rest_row_end] at hf hl
  exact ⟨hf, hl⟩
theorem OrdJ2.free (h : OrdJ2 w0 B g l 8 0 w) :
    Calls Try.prog 15 #[.pointer (some ⟨g, 0, none⟩)] w fun e w' => e = .returned (.int .i64 100) ∧ w = w' := by
  obtain ⟨⟨F, h1⟩, h2⟩ := h
  have := ar_free h1
  rw [rest_end] at this
  exact this
end
set_option maxRecDepth 100000 in
set_option maxHeartbeats 2000000 in
theorem order_main (A : Option Addr) (n c : Nat) (l : List Nat) (w : World) (hA : Byt w w.heap.size A n l) (hn : n ≤ 100) :
    Calls Try.prog 5 #[.slice A n c] w fun e w' => e = .returned (.bool true) ∧ Below w.heap.size w w' := by
  have HA := Lib.hid hA
  have HLEN := Lib.hid hA.len
  have t0 : decide ((100 : Int) < (n : Int)) = false := by simp; omega
  have HN := Lib.hid (fun w1 => ar_new w1 (R := 8) (C := 100) (by omega) (by omega))
  clear hA
  go_enter Try.func5, Try.ntmps5
  go_wp2_with ((first
    | (go_at_call 6; refine (fknown_ok _).mono ?_; rintro e w0 ⟨rfl, hb0⟩; replace hb0 := Lib.hid hb0)
    | (go_at_call 7; refine Hid.out ?_)))
  refine Lib.hid ?_
  refine (HN.out w0).mono ?_
  rintro _ w1 ⟨g, rfl, hA, hB⟩
  have HJ0 : Hid (OrdJ1 w0 w0.heap.size g l 0 w1) := Lib.hid ⟨hA, hB⟩
  clear hA hB HN
  obtain ⟨B, hBq⟩ : ∃ B, w0.heap.size = B := ⟨_, rfl⟩
  rw [hBq] at HJ0
  have HW0 : Hid (w.heap.size ≤ B) := Lib.hid (by rw [← hBq]; exact hb0.out.size)
  clear hBq t0
  go_wp2_with fail
  go_loopw [5] (fun v5 wr => ∃ k : Nat, k ≤ n ∧ v5 = .int .i64 k ∧ Hid (OrdJ1 w0 B g l k wr)) (fun v5 _ => n - (intOf v5).toNat)
  case atStart => exact ⟨0, by omega, rfl, HJ0⟩
  case round =>
    obtain ⟨k, hk, rfl, hJ⟩ := hrel
    clear HJ0
    by_cases hlt : k < n
    · obtain ⟨b, off, X, rfl, hbl, hX, hEk, hcell⟩ := HA.out.at_ hlt
      have hwr : Below w.heap.size w wr := hb0.out.trans (hJ.out.2.mono HW0.out)
      have d0 := (hwr.cell (p := ⟨b, off + k, none⟩) hbl).trans hcell
      have HS := Lib.hid (hJ.out.step hEk (by omega))
      have hX0 : (0 : Int) ≤ (X : Int) := by omega
      have hX1 : (X : Int) < 256 := by omega
      clear hEk hcell hwr hJ
      go_wp2_with (go_at_call 8; refine Hid.out ?_)
      refine Lib.hid ?_
      refine HS.out.mono ?_
      rintro _ w2 ⟨cc, rfl, hJ⟩
      have HJ := Lib.hid hJ
      clear hJ HS d0
      go_wp2_with fail
      go_roundw
      case rel => exact ⟨k + 1, by omega, by go_num, HJ⟩
      case measure => simp [intOf]; omega
    · obtain rfl : k = n := by omega
      have HJ1 : Hid (OrdJ2 w0 B g l 0 0 wr) := Lib.hid (OrdJ1.done (by rw [HLEN.out]; exact hJ.out))
      clear hJ
      obtain ⟨wA, rfl⟩ : ∃ wA, wA = wr := ⟨_, rfl⟩
      go_wp2_with fail
      go_loopw [8] (fun v8 wr => ∃ r : Nat, r ≤ 8 ∧ v8 = .int .i64 r ∧ Hid (OrdJ2 w0 B g l r 0 wr)) (fun v8 _ => 8 - (intOf v8).toNat)
      case atStart => exact ⟨0, by omega, rfl, HJ1⟩
      case round =>
        obtain ⟨r, hr, rfl, hJ⟩ := hrel
        clear HJ1
        by_cases hr8 : r < 8
        · obtain ⟨wC, rfl⟩ : ∃ wC, wC = wr := ⟨_, rfl⟩
          have HJ2 := hJ
          have t8 : decide ((r : Int) < 8) = true := by simp; omega
          clear hJ
          go_wp2_with fail
          go_loopw [9] (fun v9 wr => ∃ i : Nat, i ≤ k ∧ v9 = .int .i64 i ∧ Hid (OrdJ2 w0 B g l r i wr)) (fun v9 _ => k - (intOf v9).toNat)
          case atStart => exact ⟨0, by omega, rfl, HJ2⟩
          case round =>
            obtain ⟨i, hi, rfl, hJ⟩ := hrel
            clear HJ2
            by_cases hlt2 : i < k
            · obtain ⟨b, off, X, rfl, hbl, hX, hEk, hcell⟩ := HA.out.at_ hlt2
              have hwr : Below w.heap.size w wr := hb0.out.trans (hJ.out.2.mono HW0.out)
              have d0 := (hwr.cell (p := ⟨b, off + i, none⟩) hbl).trans hcell
              have hX0 : (0 : Int) ≤ (X : Int) := by omega
              have hX1 : (X : Int) < 256 := by omega
              by_cases hXr : X % 8 = r
              · obtain ⟨hF, hV, hR⟩ := hJ.out.front hEk hXr
                have HF := Lib.hid hF
                have HV := Lib.hid hV
                have HR := Lib.hid hR
                have t1 : ((X : Int) % 8 != (r : Int)) = false := by simp; omega
                clear hF hV hR hEk hcell hwr hJ hXr
                go_wp2_with ((first
                  | (go_at_call 11; refine HF.out.mono ?_; rintro _ _ ⟨rfl, rfl⟩)
                  | (go_at_call 12; refine HV.out.mono ?_; rintro _ _ ⟨rfl, rfl⟩)
                  | (go_at_call 9; refine Hid.out ?_)))
                refine Lib.hid ?_
                refine HR.out.mono ?_
                rintro _ w2 ⟨rfl, hJ⟩
                have HJ := Lib.hid hJ
                clear hJ HF HV HR d0
                go_wp2_with fail
                go_roundw
                case rel => exact ⟨i + 1, by omega, by go_num, HJ⟩
                case measure => simp [intOf]; omega
              · have HJ := Lib.hid (hJ.out.skip hEk hXr)
                have t1 : ((X : Int) % 8 != (r : Int)) = true := by simp; omega
                clear hEk hcell hwr hJ hXr
                go_wp2_with fail
                go_roundw
                case rel => exact ⟨i + 1, by omega, by go_num, HJ⟩
                case measure => simp [intOf]; omega
            · obtain rfl : i = k := by omega
              have hJ' : OrdJ2 w0 B g l r l.length wr := by rw [HLEN.out]; exact hJ.out
              obtain ⟨hF, hL⟩ := hJ'.over hr8
              have HF := Lib.hid hF
              have HL := Lib.hid hL
              have HJ := Lib.hid hJ'.next
              clear hF hL hJ hJ'
              go_wp2_with ((first
                | (go_at_call 11; refine HF.out.mono ?_; rintro _ _ ⟨rfl, rfl⟩)
                | (go_at_call 14; refine HL.out.mono ?_; rintro _ _ ⟨rfl, rfl⟩)))
              go_roundw
              case rel => exact ⟨r + 1, by omega, by go_num, HJ⟩
              case measure => simp [intOf]; omega
        · obtain rfl : r = 8 := by omega
          have HF := Lib.hid hJ.out.free
          have HB := Lib.hid hJ.out.2
          clear hJ
          go_wp2_with (go_at_call 15; refine HF.out.mono ?_; rintro _ _ ⟨rfl, rfl⟩)
          go_ret
          exact ⟨rfl, hb0.out.trans (HB.out.mono HW0.out)⟩
set_option maxHeartbeats 1000000 in
theorem order_many (A : Option Addr) (n c : Nat) (w : World) (h : 100 < n) :
    Calls Try.prog 5 #[.slice A n c] w fun e w' => e = .returned (.bool true) ∧ Below w.heap.size w w' := by
  have t1 : decide ((100 : Int) < (n : Int)) = true := by simp; omega
  clear h
  go_enter Try.func5, Try.ntmps5
  go_wp2_with (go_at_call 6; refine (fknown_ok _).mono ?_; rintro e w0 ⟨rfl, hb0⟩; replace hb0 := Lib.hid hb0)
  go_ret
  exact ⟨rfl, hb0.out⟩
end Go.Proofs.Ytmgfeofkbblmjaa

/- straddlelaw21.ComplexFull returns true. -/
import Derived.Test.YtekppjigckjgiaaCbkPl
set_option linter.unusedSimpArgs false
namespace Go.Proofs.Ytekppjigckjgiaa
open Go.RowKit Go.Mem1 Go.CbkMath

/-- The i-th order that comes. -/
def fullO (i : Nat) : CO := ⟨i, 0, 1 + (i : Int) % 2, i, 1⟩
/-- Behind k orders: all of them wait, none has a number above k. -/
structure FullD (D : Dk) (k : Nat) : Prop where
  inv : Inv D
  many : D.1.length + D.2.length = k
  low : ∀ x ∈ D.1 ++ D.2, x.id ≤ k
theorem fullO_ok {i : Nat} (h1 : 1 ≤ i) (h2 : i ≤ 1000) : okC (fullO i) := by
  refine ⟨?_, ?_, ?_, ?_, ?_, ?_⟩ <;> simp only [fullO] <;> omega
theorem full_fresh {D : Dk} {k : Nat} (h : ∀ x ∈ D.1 ++ D.2, x.id ≤ k) {i : Nat} (hi : k < i) : get2 D i = none := by
  unfold get2
  rw [seek_none.2 (fun x hx e => ?_), seek_none.2 (fun x hx e => ?_)]
  · rfl
  · have := h x (List.mem_append_right _ hx); omega
  · have := h x (List.mem_append_left _ hx); omega
theorem FullD.next {D : Dk} {k : Nat} (h : FullD D k) (hk : k < 256) : insE D (fullO (k + 1)) = 0 ∧ FullD (insD D (fullO (k + 1))) (k + 1) := by
  have hok := fullO_ok (i := k + 1) (by omega) (by omega)
  have hf := full_fresh h.low (i := k + 1) (by omega)
  have hE : insE D (fullO (k + 1)) = 0 := by
    unfold insE
    rw [if_neg (by simpa using hok), if_neg (by rw [show (fullO (k + 1)).id = ((k + 1 : Nat) : Int) from rfl, hf]; simp), if_neg (by have := h.many; omega)]
  refine ⟨hE, ins_inv h.inv _, ?_, ?_⟩
  · unfold insD
    rw [if_pos hE]
    have := h.many
    rcases hok.2.1 with e | e
    · rw [e]
      show (putC _ D.1).length + D.2.length = k + 1
      rw [put_len]; omega
    · rw [e]
      show D.1.length + (putC _ D.2).length = k + 1
      rw [put_len]; omega
  · unfold insD
    rw [if_pos hE]
    intro x hx
    rcases hok.2.1 with e | e
    · rw [e] at hx
      rcases List.mem_append.1 (show x ∈ putC _ D.1 ++ D.2 from hx) with hx | hx
      · rcases put_mem.1 hx with rfl | hx
        · exact Int.le_refl _
        · have := h.low x (List.mem_append_left _ hx); omega
      · have := h.low x (List.mem_append_right _ hx); omega
    · rw [e] at hx
      rcases List.mem_append.1 (show x ∈ D.1 ++ putC _ D.2 from hx) with hx | hx
      · have := h.low x (List.mem_append_left _ hx); omega
      · rcases put_mem.1 hx with rfl | hx
        · exact Int.le_refl _
        · have := h.low x (List.mem_append_right _ hx); omega
theorem FullD.full {D : Dk} (h : FullD D 256) {i : Nat} (hi : 256 < i) (hi2 : i ≤ 1000) : insE D (fullO i) = 8 ∧ insD D (fullO i) = D := by
  have hok := fullO_ok (i := i) (by omega) hi2
  have hf := full_fresh h.low hi
  have hE : insE D (fullO i) = 8 := by
    unfold insE
    rw [if_neg (by simpa using hok), if_neg (by rw [show (fullO i).id = (i : Int) from rfl, hf]; simp), if_pos (by have := h.many; omega)]
  exact ⟨hE, by unfold insD; rw [if_neg (by rw [hE]; decide)]⟩
/-- At the head of a round: i - 1 have come. -/
def FullJ (B g : Nat) (i : Nat) (w : World) : Prop := ∃ D O, CbAt w B g D O ∧ FullD D (min (i - 1) 256)
set_option maxRecDepth 100000 in
set_option maxHeartbeats 4000000 in
theorem full_main (more : Nat) (hmore : more < 256) (w : World) : Calls Try.prog 5 #[.int .u8 more] w fun e w' => e = .returned (.bool true) ∧ Below w.heap.size w w' := by
  go_enter Try.func5, Try.ntmps5
  go_wp2_with ((first
    | (go_at_call 7; refine (cknown_ok _).mono ?_; rintro e w0 ⟨rfl, hb0⟩; replace hb0 := Lib.hid hb0)
    | (go_at_call 8; refine Hid.out ?_)))
  refine Lib.hid ?_
  refine (cb_new w0).mono ?_
  rintro _ w1 ⟨g, O, rfl, hN, hNb⟩
  have HJ0 := Lib.hid (show FullJ w0.heap.size g 1 w1 from ⟨_, O, hN, ⟨Inv.nil, rfl, fun x hx => by simp at hx⟩⟩)
  have HNb := Lib.hid (hb0.out.trans (hNb.mono hb0.out.size))
  obtain ⟨B, hB⟩ : ∃ B, w0.heap.size = B := ⟨_, rfl⟩
  have HWB : Hid (w.heap.size ≤ B) := Lib.hid (by rw [← hB]; exact hb0.out.size)
  rw [hB] at HJ0
  clear hN hNb hB
  go_wp2_with fail
  go_loopw [4] (fun v4 wr => ∃ i : Nat, 1 ≤ i ∧ i ≤ 257 + more % 4 ∧ v4 = .int .i64 i ∧ Hid (FullJ B g i wr ∧ Below w.heap.size w wr)) (fun v4 _ => 300 - (intOf v4).toNat)
  case atStart => exact ⟨1, by omega, by omega, rfl, Lib.hid ⟨HJ0.out, HNb.out⟩⟩
  case round =>
    obtain ⟨i, hi1, hi2, rfl, hJ⟩ := hrel
    obtain ⟨⟨D, O, hA, hF⟩, hB⟩ := hJ.out
    clear HJ0
    by_cases hlt : i ≤ 256 + more % 4
    · have hins := cb_ins hA (fullO i)
      by_cases h256 : i ≤ 256
      · rw [show min (i - 1) 256 = i - 1 by omega] at hF
        obtain ⟨hE, hN⟩ := hF.next (by omega)
        rw [show i - 1 + 1 = i by omega] at hE hN
        rw [hE] at hins
        have HN := Lib.hid hN
        have HINS := Lib.hid hins
        have hO : ∀ j, j < w.heap.size → ¬ O j := fun j hj e => by have := (hA.own j e).1; have := HWB.out; omega
        clear hins hA hF hN hE hJ
        unfold fullO coV at HINS
        go_wp2_with (go_at_call 9; refine Hid.out ?_)
        refine Lib.hid ?_
        refine HINS.out.mono ?_
        rintro _ w2 ⟨rfl, O2, hA2, hC2, _⟩
        have HJ2 := Lib.hid (show FullJ B g (i + 1) w2 from ⟨_, O2, hA2, by rw [show min (i + 1 - 1) 256 = i by omega]; exact HN.out⟩)
        have HB2 := Lib.hid (Chg.toBelow hB hC2 hB.size hO)
        have d1 : decide ((i : Int) ≤ 256) = true := by simp; omega
        have d2 : decide ((256 : Int) < (i : Int)) = false := by simp; omega
        clear hA2 hC2 HINS HN hO hB
        go_wp2_with fail
        go_roundw
        case rel => exact ⟨i + 1, by omega, by omega, by go_num, Lib.hid ⟨HJ2.out, HB2.out⟩⟩
        case measure => simp [intOf] <;> omega
      · rw [show min (i - 1) 256 = 256 by omega] at hF
        obtain ⟨hE, hN⟩ := hF.full (i := i) (by omega) (by omega)
        rw [hE, hN] at hins
        have HN := Lib.hid hF
        have HINS := Lib.hid hins
        have hO : ∀ j, j < w.heap.size → ¬ O j := fun j hj e => by have := (hA.own j e).1; have := HWB.out; omega
        clear hins hA hF hN hE hJ
        unfold fullO coV at HINS
        go_wp2_with (go_at_call 9; refine Hid.out ?_)
        refine Lib.hid ?_
        refine HINS.out.mono ?_
        rintro _ w2 ⟨rfl, O2, hA2, hC2, _⟩
        have HJ2 := Lib.hid (show FullJ B g (i + 1) w2 from ⟨_, O2, hA2, by rw [show min (i + 1 - 1) 256 = 256 by omega]; exact HN.out⟩)
        have HB2 := Lib.hid (Chg.toBelow hB hC2 hB.size hO)
        have d1 : decide ((i : Int) ≤ 256) = false := by simp; omega
        have d2 : decide ((256 : Int) < (i : Int)) = true := by simp; omega
        clear hA2 hC2 HINS HN hO hB
        go_wp2_with fail
        go_roundw
        case rel => exact ⟨i + 1, by omega, by omega, by go_num, Lib.hid ⟨HJ2.out, HB2.out⟩⟩
        case measure => simp [intOf] <;> omega
    · have hi : i = 257 + more % 4 := by omega
      rw [show min (i - 1) 256 = 256 by omega] at hF
      have hlen := cb_len hA
      rw [hF.many] at hlen
      have HLEN := Lib.hid hlen
      replace hB := Lib.hid hB
      clear hlen hA hF hJ
      go_wp2_with (go_at_call 25; refine HLEN.out.mono ?_; rintro e w9 ⟨rfl, hb9⟩; replace hb9 := Lib.hid hb9)
      go_ret
      exact ⟨rfl, bel_trans hB.out hb9.out⟩
end Go.Proofs.Ytekppjigckjgiaa

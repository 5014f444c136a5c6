/- Plain mathematics: a message's bytes without their end are no message. -/
import Derived.Test.YtegjimagphdncaaDoorMsgRound
namespace Go.Proofs.YtegjimagphdncaaDoor
open Go.RowKit Go.Mem1 Go.CodMath

theorem intSt_bad {s : St} (h : s.e ≠ 0) : (intSt s).e ≠ 0 := by
  unfold intSt failSt
  split
  · exact h
  · first | (rw [if_neg h]; exact h) | exact h
theorem intsSt_bad : ∀ (n : Nat) {s : St}, s.e ≠ 0 → (intsSt n s).e ≠ 0
  | 0, _, h => h
  | n + 1, s, h => by rw [intsSt]; exact intsSt_bad n (intSt_bad h)
theorem rowsSt_ints : ∀ (n : Nat) (s : St), rowsSt n s = intsSt (n * 5) s
  | 0, s => by rw [rowsSt, Nat.zero_mul, intsSt]
  | n + 1, s => by rw [rowsSt, rowsSt_ints n, show (n + 1) * 5 = 5 + n * 5 by omega, intsSt_add]
/-- Numbers of which the end is cut off. -/
theorem ints_cut : ∀ (zs : List Int) (j p : Nat), (∀ z ∈ zs, -9223372036854775808 ≤ z ∧ z ≤ 9223372036854775807) → j < (zs.flatMap ien).length → (intsSt zs.length ⟨(zs.flatMap ien).take j, p, 0⟩).e ≠ 0
  | [], j, p, _, hj => by simp at hj
  | z :: zs, j, p, h, hj => by
    have hz := h z (List.mem_cons_self ..)
    rw [List.flatMap_cons] at hj ⊢
    rw [List.length_cons, intsSt]
    rcases Nat.lt_or_ge j (ien z).length with hlt | hge
    · refine intsSt_bad _ ?_
      have e : (ien z ++ zs.flatMap ien).take j = (ien z).take j := by rw [List.take_append_of_le_length (by omega)]
      have hn : num ((ien z).take j) = (0, 0, 3) := num_cut (zz_lt hz.1 hz.2) hlt
      rw [e]
      unfold intSt failSt
      simp only [hn]
      simp
    · have e : (ien z ++ zs.flatMap ien).take j = ien z ++ (zs.flatMap ien).take (j - (ien z).length) := by rw [List.take_append, List.take_of_length_le hge]
      rw [e, mintSt hz]
      rw [List.length_append] at hj
      exact ints_cut zs (j - (ien z).length) _ (fun y hy => h y (List.mem_cons_of_mem _ hy)) (by omega)
theorem decOut_cut (h : Hd) (rs : List R5) (j : Nat) (hok : h.ok) (hoks : ∀ x ∈ rs, x.ok) (hn : rs.length ≤ 1000) (hc : MsgMath.chk h.k h.s (rs.length : Int) = 0) (hj : j < (encOf h rs).length) : (decOut ((encOf h rs).take j)).err ≠ 0 := by
  have hzs : ∀ z ∈ h.l ++ [(rs.length : Int)], -9223372036854775808 ≤ z ∧ z ≤ 9223372036854775807 := fun z hz => by
    rcases List.mem_append.1 hz with hz | hz
    · exact hok z hz
    · simp at hz; omega
  have e : encOf h rs = (h.l ++ [(rs.length : Int)]).flatMap ien ++ (rs.flatMap R5.l).flatMap ien := by
    unfold encOf
    rw [List.flatMap_append, List.flatMap_assoc]
    simp
  have e9 : (h.l ++ [(rs.length : Int)]).length = 9 := rfl
  rcases Nat.lt_or_ge j ((h.l ++ [(rs.length : Int)]).flatMap ien).length with hlt | hge
  · have hh : (headSt ((encOf h rs).take j)).e ≠ 0 := by
      have h1 := ints_cut (h.l ++ [(rs.length : Int)]) j 0 hzs hlt
      rw [e9] at h1
      unfold headSt
      rw [e, List.take_append_of_le_length (by omega)]
      exact h1
    unfold decOut
    rw [if_pos hh]
    simpa only [Out.bad] using hh
  · have et : (encOf h rs).take j = h.l.flatMap ien ++ ien (rs.length : Int) ++ ((rs.flatMap R5.l).flatMap ien).take (j - ((h.l ++ [(rs.length : Int)]).flatMap ien).length) := by
      rw [e, List.take_append, List.take_of_length_le hge]
      simp
    obtain ⟨q, h1, h2, h3, h4, h5⟩ := head_back h (rs.length : Int) (((rs.flatMap R5.l).flatMap ien).take (j - ((h.l ++ [(rs.length : Int)]).flatMap ien).length)) hok ⟨by omega, by omega⟩
    rw [← et] at h1 h2 h3 h4 h5
    have hl5 : (rs.flatMap R5.l).length = rs.length * 5 := by
      clear hc hj hge et h1 h2 h3 h4 h5 e hzs hn hoks e9
      induction rs with
      | nil => rfl
      | cons x r ih => rw [List.flatMap_cons, List.length_append, ih, List.length_cons]; simp [R5.l]; omega
    have hall : (allSt ((encOf h rs).take j)).e ≠ 0 := by
      unfold allSt
      rw [h4, h1, Int.toNat_natCast, rowsSt_ints, ← hl5]
      refine ints_cut _ _ q (fun z hz => ?_) ?_
      · obtain ⟨x, hx, hz⟩ := List.mem_flatMap.1 hz
        exact hoks x hx z hz
      · rw [e, List.length_append] at hj
        omega
    unfold decOut
    rw [h2, h3, h4, h1, if_neg (by simp), if_neg (by simp [hc]), if_pos hall]
    simpa only [Out.bad] using hall
end Go.Proofs.YtegjimagphdncaaDoor

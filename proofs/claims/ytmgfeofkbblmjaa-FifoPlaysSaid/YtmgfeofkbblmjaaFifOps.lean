/- The contracts of an arena's calls that only read. -/
import Derived.Test.YtmgfeofkbblmjaaFifMem
set_option linter.unusedSimpArgs false
namespace Go.Proofs.Ytmgfeofkbblmjaa
open Go.RowKit Go.Mem1 Go.FifMath

/-- Is a cell in a row? -/
def tkB (s : Aren) (c : Int) : Bool := if c < 0 then false else match s.cs[c.toNat]? with
  | none => false
  | some l => !(l.r == -1)
theorem tkB_at {s : Aren} {k : Nat} {l : Lnk} (h : s.cs[k]? = some l) : tkB s (k : Int) = !(l.r == -1) := by
  unfold tkB
  rw [if_neg (by omega), toNat_cast, h]
theorem tkB_low {s : Aren} {c : Int} (h : c < 0) : tkB s c = false := by unfold tkB; rw [if_pos h]
theorem tkB_high {s : Aren} {c : Int} (h : (s.cs.length : Int) ≤ c) : tkB s c = false := by
  unfold tkB
  rw [if_neg (by omega), List.getElem?_eq_none (by omega)]
theorem tkB_true {s : Aren} {c : Int} (h : tkB s c = true) : ∃ (k : Nat) (l : Lnk), c = k ∧ s.cs[k]? = some l ∧ l.r ≠ -1 := by
  by_cases h0 : c < 0
  · rw [tkB_low h0] at h; cases h
  · obtain ⟨k, rfl⟩ : ∃ k : Nat, c = k := ⟨c.toNat, by omega⟩
    cases hl : s.cs[k]? with
    | none =>
      unfold tkB at h
      rw [if_neg (by omega), toNat_cast, hl] at h
      cases h
    | some l =>
      rw [tkB_at hl] at h
      exact ⟨k, l, rfl, hl, by simpa using h⟩
set_option maxHeartbeats 1000000 in
theorem taken_any {w : World} {B g : Nat} {vR vC : Value} {s : Aren} (h : ArenaAt w B g vR vC s) (c : Int) : Calls Try.prog 19 #[.pointer (some ⟨g, 0, none⟩), .int .i64 c] w fun e w' => e = .returned (.bool (tkB s c)) ∧ w = w' := by
  have c1 := h.c1
  have hm := h.mostC
  by_cases h1 : c < 0
  · rw [tkB_low h1]
    obtain ⟨A, c', hv⟩ := h.formC
    rw [hv] at c1
    have t1 : decide (0 ≤ c) = false := by simp; omega
    clear h hv h1
    go_enter Try.func19, Try.ntmps19
    go_wp2_with fail
    go_ret
    exact ⟨rfl, rfl⟩
  · obtain ⟨k, rfl⟩ : ∃ k : Nat, c = k := ⟨c.toNat, by omega⟩
    rcases Nat.lt_or_ge k s.cs.length with hk | hk
    · obtain ⟨l, hl⟩ : ∃ l, s.cs[k]? = some l := ⟨_, List.getElem?_eq_getElem hk⟩
      obtain ⟨b, c', hv, _, hlt, _, hbg, k0, k1, k2, k3, hf⟩ := h.link hl
      rw [hv] at c1
      rw [tkB_at hl]
      obtain ⟨n, hn⟩ : ∃ n, s.cs.length = n := ⟨_, rfl⟩
      rw [hn] at c1 hk hm
      obtain ⟨R, hR⟩ : ∃ R, (l.r == -1) = R := ⟨_, rfl⟩
      obtain ⟨x, hx⟩ : ∃ x, l.r = x := ⟨_, rfl⟩
      rw [hx] at k1 hR
      rw [show (!(l.r == -1)) = !R by rw [hx, hR]]
      have hR2 : (x != -1) = !R := by rw [bne, hR]
      clear h hv hl hn k0 k2 k3 hf h1 hbg
      go_enter Try.func19, Try.ntmps19
      go_wp2_with fail
      go_ret
      exact ⟨rfl, rfl⟩
    · obtain ⟨A, c', hv⟩ := h.formC
      rw [hv] at c1
      rw [tkB_high (by omega)]
      obtain ⟨n, hn⟩ : ∃ n, s.cs.length = n := ⟨_, rfl⟩
      rw [hn] at c1 hk hm
      clear h hv hn h1
      go_enter Try.func19, Try.ntmps19
      go_wp2_with fail
      go_ret
      exact ⟨rfl, rfl⟩
theorem knB_at {s : Aren} {k : Nat} (h : k < s.rs.length) : knB s (k : Int) = true := by unfold knB; simp; omega
/-- What a look at a number of a cell tells. -/
def fnd (c : Int) : Value := .tuple #[.int .i64 (if c = -1 then 0 else c), .bool (decide (c ≠ -1))]
theorem fnd_none : fnd (-1) = .tuple #[.int .i64 0, .bool false] := rfl
theorem fnd_some (k : Nat) : fnd (k : Int) = .tuple #[.int .i64 k, .bool true] := by
  unfold fnd
  rw [if_neg (by omega), decide_eq_true (by omega)]
theorem found_f (c : Int) (w : World) : Calls Try.prog 21 #[.int .i64 c] w fun e w' => e = .returned (fnd c) ∧ w = w' := found_any c w
theorem found_none (w : World) : Calls Try.prog 21 #[.int .i64 (-1)] w fun e w' => e = .returned (.tuple #[.int .i64 0, .bool false]) ∧ w = w' := found_any (-1) w
theorem found_some {c : Int} (hc : c ≠ -1) (w : World) : Calls Try.prog 21 #[.int .i64 c] w fun e w' => e = .returned (.tuple #[.int .i64 c, .bool true]) ∧ w = w' := (found_any c w).mono fun e w' ⟨h1, h2⟩ => ⟨by rw [h1, if_neg hc, decide_eq_true hc], h2⟩
section
variable {w : World} {B g : Nat} {vR vC : Value} {s : Aren}
set_option maxHeartbeats 1000000 in
theorem front_bad (h : ArenaAt w B g vR vC s) {row : Int} (hr : knB s row = false) : Calls Try.prog 11 #[.pointer (some ⟨g, 0, none⟩), .int .i64 row] w fun e w' => e = .returned (.tuple #[.int .i64 0, .bool false]) ∧ w = w' := by
  have HK := Lib.hid (known_any h row)
  rw [hr] at HK
  clear h hr
  go_enter Try.func11, Try.ntmps11
  go_wp2_with (go_at_call 16; refine HK.out.mono ?_; rintro e w' ⟨rfl, rfl⟩)
  go_ret2
  exact ⟨rfl, rfl⟩
set_option maxHeartbeats 1000000 in
theorem front_any (h : ArenaAt w B g vR vC s) {row : Nat} {e : Tip} (he : s.rs[row]? = some e) : Calls Try.prog 11 #[.pointer (some ⟨g, 0, none⟩), .int .i64 row] w fun e' w' => e' = .returned (fnd e.a) ∧ w = w' := by
  have c0 := h.c0
  obtain ⟨b, c, hv, hk, hlt, _, hbg, k0, k1, k2, hf⟩ := h.ends he
  rw [hv] at c0
  have hm := h.mostR
  have HK := Lib.hid (known_any h (row : Int))
  rw [knB_at hk] at HK
  obtain ⟨n, hn⟩ : ∃ n, s.rs.length = n := ⟨_, rfl⟩
  rw [hn] at c0 hk hm
  obtain ⟨x, hx⟩ : ∃ x, e.a = x := ⟨_, rfl⟩
  rw [hx] at k0 ⊢
  clear h hv hn he hx k1 k2 hf
  by_cases hc : x = -1
  · subst hc
    go_enter Try.func11, Try.ntmps11
    go_wp2_with ((first
      | (go_at_call 16; refine HK.out.mono ?_; rintro e w' ⟨rfl, rfl⟩)
      | (go_at_call 21; refine (found_none _).mono ?_; rintro e w' ⟨rfl, rfl⟩)))
    go_ret2
    exact ⟨rfl, rfl⟩
  · have HF := Lib.hid (fun w => found_some hc w)
    rw [show fnd x = .tuple #[.int .i64 x, .bool true] by unfold fnd; rw [if_neg hc, decide_eq_true hc]]
    clear hc
    go_enter Try.func11, Try.ntmps11
    go_wp2_with ((first
      | (go_at_call 16; refine HK.out.mono ?_; rintro e w' ⟨rfl, rfl⟩)
      | (go_at_call 21; refine (HF.out _).mono ?_; rintro e w' ⟨rfl, rfl⟩)))
    go_ret2
    exact ⟨rfl, rfl⟩
set_option maxHeartbeats 1000000 in
theorem len_bad (h : ArenaAt w B g vR vC s) {row : Int} (hr : knB s row = false) : Calls Try.prog 14 #[.pointer (some ⟨g, 0, none⟩), .int .i64 row] w fun e w' => e = .returned (.int .i64 0) ∧ w = w' := by
  have HK := Lib.hid (known_any h row)
  rw [hr] at HK
  clear h hr
  go_enter Try.func14, Try.ntmps14
  go_wp2_with (go_at_call 16; refine HK.out.mono ?_; rintro e w' ⟨rfl, rfl⟩)
  go_ret
  exact ⟨rfl, rfl⟩
set_option maxHeartbeats 1000000 in
theorem len_any (h : ArenaAt w B g vR vC s) {row : Nat} {e : Tip} (he : s.rs[row]? = some e) : Calls Try.prog 14 #[.pointer (some ⟨g, 0, none⟩), .int .i64 row] w fun e' w' => e' = .returned (.int .i64 e.k) ∧ w = w' := by
  have c0 := h.c0
  obtain ⟨b, c, hv, hk, hlt, _, hbg, k0, k1, k2, hf⟩ := h.ends he
  rw [hv] at c0
  have hm := h.mostR
  have HK := Lib.hid (known_any h (row : Int))
  rw [knB_at hk] at HK
  obtain ⟨n, hn⟩ : ∃ n, s.rs.length = n := ⟨_, rfl⟩
  rw [hn] at c0 hk hm
  obtain ⟨x, hx⟩ : ∃ x, e.k = x := ⟨_, rfl⟩
  rw [hx] at k2 ⊢
  clear h hv hn he hx k0 k1 hf
  go_enter Try.func14, Try.ntmps14
  go_wp2_with (go_at_call 16; refine HK.out.mono ?_; rintro e w' ⟨rfl, rfl⟩)
  go_ret
  exact ⟨rfl, rfl⟩
set_option maxHeartbeats 1000000 in
theorem value_bad (h : ArenaAt w B g vR vC s) {c : Int} (hr : tkB s c = false) : Calls Try.prog 12 #[.pointer (some ⟨g, 0, none⟩), .int .i64 c] w fun e w' => e = .returned (.tuple #[.int .i64 0, .bool false]) ∧ w = w' := by
  have HK := Lib.hid (taken_any h c)
  rw [hr] at HK
  clear h hr
  go_enter Try.func12, Try.ntmps12
  go_wp2_with (go_at_call 19; refine HK.out.mono ?_; rintro e w' ⟨rfl, rfl⟩)
  go_ret2
  exact ⟨rfl, rfl⟩
set_option maxHeartbeats 1000000 in
theorem value_any (h : ArenaAt w B g vR vC s) {k : Nat} {l : Lnk} (hl : s.cs[k]? = some l) (hr : l.r ≠ -1) : Calls Try.prog 12 #[.pointer (some ⟨g, 0, none⟩), .int .i64 k] w fun e' w' => e' = .returned (.tuple #[.int .i64 l.v, .bool true]) ∧ w = w' := by
  have c1 := h.c1
  obtain ⟨b, c, hv, hk, hlt, _, hbg, k0, k1, k2, k3, hf⟩ := h.link hl
  rw [hv] at c1
  have hm := h.mostC
  have HK := Lib.hid (taken_any h (k : Int))
  rw [tkB_at hl, show (!(l.r == -1)) = true by simpa using hr] at HK
  obtain ⟨n, hn⟩ : ∃ n, s.cs.length = n := ⟨_, rfl⟩
  rw [hn] at c1 hk hm
  obtain ⟨x, hx⟩ : ∃ x, l.v = x := ⟨_, rfl⟩
  rw [hx] at k0 ⊢
  clear h hv hn hl hr hx k1 k2 k3 hf
  go_enter Try.func12, Try.ntmps12
  go_wp2_with (go_at_call 19; refine HK.out.mono ?_; rintro e w' ⟨rfl, rfl⟩)
  go_ret2
  exact ⟨rfl, rfl⟩
set_option maxHeartbeats 1000000 in
theorem next_bad (h : ArenaAt w B g vR vC s) {c : Int} (hr : tkB s c = false) : Calls Try.prog 13 #[.pointer (some ⟨g, 0, none⟩), .int .i64 c] w fun e w' => e = .returned (.tuple #[.int .i64 0, .bool false]) ∧ w = w' := by
  have HK := Lib.hid (taken_any h c)
  rw [hr] at HK
  clear h hr
  go_enter Try.func13, Try.ntmps13
  go_wp2_with (go_at_call 19; refine HK.out.mono ?_; rintro e w' ⟨rfl, rfl⟩)
  go_ret2
  exact ⟨rfl, rfl⟩
set_option maxHeartbeats 1000000 in
theorem next_any (h : ArenaAt w B g vR vC s) {k : Nat} {l : Lnk} (hl : s.cs[k]? = some l) (hr : l.r ≠ -1) : Calls Try.prog 13 #[.pointer (some ⟨g, 0, none⟩), .int .i64 k] w fun e' w' => e' = .returned (fnd l.n) ∧ w = w' := by
  have c1 := h.c1
  obtain ⟨b, c, hv, hk, hlt, _, hbg, k0, k1, k2, k3, hf⟩ := h.link hl
  rw [hv] at c1
  have hm := h.mostC
  have HK := Lib.hid (taken_any h (k : Int))
  rw [tkB_at hl, show (!(l.r == -1)) = true by simpa using hr] at HK
  obtain ⟨n, hn⟩ : ∃ n, s.cs.length = n := ⟨_, rfl⟩
  rw [hn] at c1 hk hm
  obtain ⟨x, hx⟩ : ∃ x, l.n = x := ⟨_, rfl⟩
  rw [hx] at k3 ⊢
  clear h hv hn hl hr hx k0 k1 k2 hf
  by_cases hc : x = -1
  · subst hc
    go_enter Try.func13, Try.ntmps13
    go_wp2_with ((first
      | (go_at_call 19; refine HK.out.mono ?_; rintro e w' ⟨rfl, rfl⟩)
      | (go_at_call 21; refine (found_none _).mono ?_; rintro e w' ⟨rfl, rfl⟩)))
    go_ret2
    exact ⟨rfl, rfl⟩
  · have HF := Lib.hid (fun w => found_some hc w)
    rw [show fnd x = .tuple #[.int .i64 x, .bool true] by unfold fnd; rw [if_neg hc, decide_eq_true hc]]
    clear hc
    go_enter Try.func13, Try.ntmps13
    go_wp2_with ((first
      | (go_at_call 19; refine HK.out.mono ?_; rintro e w' ⟨rfl, rfl⟩)
      | (go_at_call 21; refine (HF.out _).mono ?_; rintro e w' ⟨rfl, rfl⟩)))
    go_ret2
    exact ⟨rfl, rfl⟩
end
end Go.Proofs.Ytmgfeofkbblmjaa

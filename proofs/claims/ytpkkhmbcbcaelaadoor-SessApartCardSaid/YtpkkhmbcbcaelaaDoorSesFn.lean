/- The landed desk's contracts: New, line, next, On, Next, Out. -/
import Derived.Test.YtpkkhmbcbcaelaaDoorSesDid
import Derived.Deep.Grids
import Derived.Deep.RegionHeld3
import Derived.BigQuiet
set_option linter.unusedSimpArgs false
namespace Go.Proofs.YtpkkhmbcbcaelaaDoor
open Go.RowKit Go.Mem1 Go.SesMath

set_option maxRecDepth 100000 in
theorem desk_new (T : Int) : Tryd.zeroCells62.setIfInBounds 0 (.int .i64 T) = deskC T newS := by kernel_rfl
set_option maxRecDepth 100000 in
set_option maxHeartbeats 1000000 in
theorem sd_new {T : Int} (h0 : 1 ≤ T) (h1 : T ≤ 1000000) (w : World) : Calls Tryd.prog 8 #[.int .i64 T] w fun e w' => ∃ g O, e = .returned (.tuple #[.pointer (some ⟨g, 0, none⟩), .int .i64 0]) ∧ SdAt w' w.heap.size g T newS O ∧ Below w.heap.size w w' := by
  have t1 : decide (T < 1) = false := by simp; omega
  have t2 : decide ((1000000 : Int) < T) = false := by simp; omega
  go_enter Tryd.func8, Tryd.ntmps8
  go_wp2_with fail
  rw [desk_new]
  exact bodyPost_ret (v := .tuple #[.pointer (some ⟨w.heap.size, 0, none⟩), .int .i64 0]) (by simp [results, Tryd.results8, go_sem]) rfl ⟨_, fun j => j = w.heap.size, rfl, ⟨Box.fresh _ _ _ rfl, Nat.le_refl _, fun _ => Iff.rfl, h0, h1⟩, bel_new _ _⟩
set_option maxRecDepth 100000 in
set_option maxHeartbeats 1000000 in
theorem sd_new_bad {T : Int} (h : T < 1 ∨ 1000000 < T) (w : World) : Calls Tryd.prog 8 #[.int .i64 T] w fun e w' => e = .returned (.tuple #[.pointer none, .int .i64 1]) ∧ Below w.heap.size w w' := by
  rcases h with h | h
  · have t1 : decide (T < 1) = true := by simp; omega
    go_enter Tryd.func8, Tryd.ntmps8
    go_wp2_with fail
    exact bodyPost_ret (v := .tuple #[.pointer none, .int .i64 1]) (by simp [results, Tryd.results8, go_sem]) rfl ⟨rfl, Below.refl _ _⟩
  · have t1 : decide (T < 1) = false := by simp; omega
    have t2 : decide ((1000000 : Int) < T) = true := by simp; omega
    go_enter Tryd.func8, Tryd.ntmps8
    go_wp2_with fail
    exact bodyPost_ret (v := .tuple #[.pointer none, .int .i64 1]) (by simp [results, Tryd.results8, go_sem]) rfl ⟨rfl, Below.refl _ _⟩
theorem isS_form {s : Int} (h : isS s = true) : ∃ k : Nat, k < 64 ∧ s = (k : Int) + 1 := by
  unfold isS at h
  have h' : 1 ≤ s ∧ s ≤ 64 := by simpa using h
  exact ⟨(s - 1).toNat, by omega, by omega⟩
theorem isS_not {s : Int} (h : isS s = false) : s < 1 ∨ 64 < s := by
  unfold isS at h
  have : ¬ (1 ≤ s ∧ s ≤ 64) := by simpa using h
  omega
theorem isS_at {k : Nat} (h : k < 64) : isS ((k : Int) + 1) = true := by
  unfold isS
  simp
  omega
/-- What line tells. -/
def lineV (g : Nat) (s : Int) : Value := .pointer (if isS s then some ⟨g, 1 + (s - 1).toNat * 4, none⟩ else none)
theorem lineV_at {g k : Nat} (h : k < 64) : lineV g ((k : Int) + 1) = .pointer (some ⟨g, 1 + k * 4, none⟩) := by
  unfold lineV
  rw [if_pos (isS_at h)]
  congr 4
  omega
theorem lineV_none {g : Nat} {s : Int} (h : isS s = false) : lineV g s = .pointer none := by
  unfold lineV
  rw [h]
  rfl
set_option maxRecDepth 100000 in
set_option maxHeartbeats 1000000 in
theorem line_none {w : World} {g : Nat} {s : Int} (hs : isS s = false) : Calls Tryd.prog 18 #[.pointer (some ⟨g, 0, none⟩), .int .i64 s] w fun e w' => e = .returned (.pointer none) ∧ w' = w := by
  rcases isS_not hs with h1 | h1
  · have t1 : decide (s < 1) = true := by simpa using h1
    go_enter Tryd.func18, Tryd.ntmps18
    go_wp2_with fail
    go_ret
    exact ⟨rfl, rfl⟩
  · have t1 : decide (s < 1) = false := by simp; omega
    have t2 : decide ((64 : Int) < s) = true := by simpa using h1
    go_enter Tryd.func18, Tryd.ntmps18
    go_wp2_with fail
    go_ret
    exact ⟨rfl, rfl⟩
set_option maxRecDepth 100000 in
set_option maxHeartbeats 1000000 in
theorem line_some {w : World} {g : Nat} {k : Nat} (hk : k < 64) : Calls Tryd.prog 18 #[.pointer (some ⟨g, 0, none⟩), .int .i64 ((k : Int) + 1)] w fun e w' => e = .returned (.pointer (some ⟨g, 1 + k * 4, none⟩)) ∧ w' = w := by
  have t1 : decide ((k : Int) + 1 < 1) = false := by simp; omega
  have t2 : decide ((64 : Int) < (k : Int) + 1) = false := by simp; omega
  have i0 : (k : Int) < 64 := by omega
  go_enter Tryd.func18, Tryd.ntmps18
  go_wp2_with fail
  go_ret
  exact ⟨rfl, rfl⟩
set_option maxHeartbeats 1000000 in
theorem lnext_any {w : World} {g p : Nat} {x : Int} (c : w.cell? ⟨g, p + 2, none⟩ = some (.int .i64 (x - 1))) (h0 : 1 ≤ x) (h1 : x ≤ 2000) : Calls Tryd.prog 20 #[.pointer (some ⟨g, p, none⟩)] w fun e w' => e = .returned (.int .i64 x) ∧ w' = w := by
  have ew : IntKind.i64.wrap (x - 1 + 1) = x := by rw [IntKind.wrap_i64]; omega
  go_enter Tryd.func20, Tryd.ntmps20
  go_wp2_with fail
  go_ret
  exact ⟨rfl, rfl⟩
section
variable {w w' : World} {B g : Nat} {T : Int} {D : Sk} {O : Nat → Prop} {n : Int}
set_option maxRecDepth 100000 in
set_option maxHeartbeats 1000000 in
theorem sd_on (h : SdAt w B g T D O) (_ : Mild n D) (_ : n ≤ 1000) (s : Int) : Calls Tryd.prog 15 #[.pointer (some ⟨g, 0, none⟩), .int .i64 s] w fun e w' => e = .returned (.bool (onD D s)) ∧ Below w.heap.size w w' := by
  unfold onD
  cases hs : isS s with
  | false =>
    have HK := Lib.hid (fun w' => line_none (w := w') (g := g) hs)
    go_enter Tryd.func15, Tryd.ntmps15
    go_wp2_with (go_at_call 18; refine (HK.out _).mono ?_; rintro e w1 ⟨rfl, rfl⟩)
    go_ret
    exact ⟨rfl, Below.refl _ _⟩
  | true =>
    obtain ⟨k, hk, rfl⟩ := isS_form hs
    have HK := Lib.hid (fun w' => line_some (w := w') (g := g) hk)
    have c0 := h.cell0 hk
    go_enter Tryd.func15, Tryd.ntmps15
    go_wp2_with (go_at_call 18; refine (HK.out _).mono ?_; rintro e w1 ⟨rfl, rfl⟩)
    go_ret
    exact ⟨rfl, Below.refl _ _⟩
set_option maxRecDepth 100000 in
set_option maxHeartbeats 1000000 in
theorem sd_next (h : SdAt w B g T D O) (hm : Mild n D) (hn : n ≤ 1000) (s : Int) : Calls Tryd.prog 16 #[.pointer (some ⟨g, 0, none⟩), .int .i64 s] w fun e w' => e = .returned (.int .i64 (nextD D s)) ∧ Below w.heap.size w w' := by
  unfold nextD
  cases hs : isS s with
  | false =>
    have HK := Lib.hid (fun w' => line_none (w := w') (g := g) hs)
    go_enter Tryd.func16, Tryd.ntmps16
    go_wp2_with (go_at_call 18; refine (HK.out _).mono ?_; rintro e w1 ⟨rfl, rfl⟩)
    go_ret
    exact ⟨rfl, Below.refl _ _⟩
  | true =>
    obtain ⟨k, hk, rfl⟩ := isS_form hs
    have HK := Lib.hid (fun w' => line_some (w := w') (g := g) hk)
    have c1 := h.cell hk (i := 2) rfl
    obtain ⟨m1, m2⟩ := hm.nx ((k : Int) + 1)
    obtain ⟨x, hx⟩ : ∃ x, (D ((k : Int) + 1)).nx = x := ⟨_, rfl⟩
    rw [hx] at c1 m1 m2
    have HX := Lib.hid (lnext_any (p := 1 + k * 4) c1 m1 (by omega))
    go_enter Tryd.func16, Tryd.ntmps16
    go_wp2_with ((first
      | (go_at_call 18; refine (HK.out _).mono ?_; rintro e w1 ⟨rfl, rfl⟩)
      | (go_at_call 20; refine HX.out.mono ?_; rintro e w1 ⟨rfl, rfl⟩)))
    go_ret
    exact ⟨rfl, Below.refl _ _⟩
set_option maxRecDepth 100000 in
set_option maxHeartbeats 1000000 in
theorem sd_out (h : SdAt w B g T D O) (hm : Mild n D) (hn : n ≤ 1000) {s : Int} (hs : isS s = true) : Calls Tryd.prog 12 #[.pointer (some ⟨g, 0, none⟩), .int .i64 s] w (SdDid w B g T O (outD D s) (.int .i64 ((D s).out + 1))) := by
  obtain ⟨k, hk, rfl⟩ := isS_form hs
  have HK := Lib.hid (fun w' => line_some (w := w') (g := g) hk)
  have c1 := h.cell hk (i := 3) rfl
  have f1 := h.unmarked (1 + k * 4 + 3)
  obtain ⟨m1, m2⟩ := hm.out ((k : Int) + 1)
  obtain ⟨x, hx⟩ : ∃ x, (D ((k : Int) + 1)).out = x := ⟨_, rfl⟩
  have h2 := h.wrote hk 3 (by decide) (.int .i64 (x + 1)) (y := ⟨(D ((k : Int) + 1)).on, (D ((k : Int) + 1)).nx, x + 1, (D ((k : Int) + 1)).last⟩) rfl
  have hT := h.turned (1 + k * 4 + 3) (.int .i64 (x + 1))
  have c2 := h2.cell hk (i := 3) (u := .int .i64 (x + 1)) (by unfold updS; rw [if_pos rfl]; rfl)
  have hd : outD D ((k : Int) + 1) = updS D ((k : Int) + 1) ⟨(D ((k : Int) + 1)).on, (D ((k : Int) + 1)).nx, x + 1, (D ((k : Int) + 1)).last⟩ := by rw [← hx]; rfl
  have H2 := Lib.hid (h2.carry (Below.refl _ _).drew)
  have HT := Lib.hid hT.drew
  have H3 := Lib.hid h2
  have HT3 := Lib.hid hT
  have c3 : (w.setCell ⟨g, 1 + k * 4 + 3, none⟩ (.int .i64 (x + 1))).drew.cell? ⟨g, 1 + k * 4 + 3, none⟩ = some (.int .i64 (x + 1)) := c2
  rw [hx] at c1 m1 m2 ⊢
  rw [hd]
  have ew : IntKind.i64.wrap (x + 1) = x + 1 := by rw [IntKind.wrap_i64]; omega
  clear h2 hT hd
  go_enter Tryd.func12, Tryd.ntmps12
  go_wp2_with (go_at_call 18; refine (HK.out _).mono ?_; rintro e w1 ⟨rfl, rfl⟩)
  go_ret
  exact ⟨rfl, O, (by first | exact H3.out | exact H2.out), (by first | exact HT3.out | exact HT.out), fun _ hj => .inl hj⟩
end
end Go.Proofs.YtpkkhmbcbcaelaaDoor

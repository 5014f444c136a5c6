/- The landed desk's contracts: In. -/
import Derived.Test.YtpkkhmbcbcaelaaDoorSesTake
set_option linter.unusedSimpArgs false
namespace Go.Proofs.YtpkkhmbcbcaelaaDoor
open Go.RowKit Go.Mem1 Go.SesMath
theorem in_form {D : Sk} {s k q : Int} (he : inE D s k q = 0) : isS s = true ∧ (D s).on = !decide (k = 1) ∧ q = (D s).nx := by
  unfold inE at he
  split at he
  · cases he
  · split at he
    · cases he
    · split at he
      · cases he
      · rename_i h1 h2 h3
        refine ⟨by simpa using h1, ?_, by simpa using h3⟩
        cases ho : (D s).on <;> simp_all
section
variable {w w' : World} {B g : Nat} {T : Int} {D : Sk} {O : Nat → Prop} {n : Int}
/-- What In answers, of what its message lies in. -/
def msgC (k q : Int) : Array Value := #[.int .i64 k, .int .i64 q, .int .i64 0, .int .i64 0, .int .i64 0, .int .i64 0, .int .i64 0, .int .i64 0, .slice none 0 0]
theorem in_took {k : Nat} {K now : Int} (ho : (D ((k : Int) + 1)).on = !decide (K = 1)) : updS D ((k : Int) + 1) (tookS (D ((k : Int) + 1)) K now) = inD D ((k : Int) + 1) K now := by
  funext j
  unfold updS inD tookS
  split
  · rw [ho]
    by_cases h3 : K = 3
    · subst h3; simp
    · by_cases h1 : K = 1
      · subst h1; simp
      · simp [h3, h1]
  · rfl
set_option maxRecDepth 100000 in
set_option maxHeartbeats 1000000 in
theorem sd_in (h : SdAt w B g T D O) (hm : Mild n D) (hn : n ≤ 1000) (s k q now : Int) (_ : 0 ≤ now) (_ : now ≤ 1099511627776) (he : inE D s k q = 0) :
    Calls Tryd.prog 9 #[.pointer (some ⟨g, 0, none⟩), .int .i64 s, bareV k q, .int .i64 now] w (SdDid w B g T O (inD D s k now) .nilIface) := by
  obtain ⟨hs, ho, hq⟩ := in_form he
  obtain ⟨i, hi, rfl⟩ := isS_form hs
  have HK := Lib.hid (fun w' => line_some (w := w') (g := g) hi)
  have hin := in_took (now := now) ho
  obtain ⟨m1, m2⟩ := hm.nx ((i : Int) + 1)
  have HT := Lib.hid (fun w' (hb : Below w.heap.size w w') => take_any (h.carry hb) hi rfl m1 (by omega) k now)
  rw [hin] at HT
  have HX := Lib.hid (fun w' (hb : Below w.heap.size w w') => lnext_any (p := 1 + i * 4) ((h.carry hb).cell hi (i := 2) rfl) m1 (by omega))
  have HC := Lib.hid (fun w' (hb : Below w.heap.size w w') => (h.carry hb).cell0 hi)
  rw [ho] at HC
  rw [← hq] at HX
  have tb : ((!decide (k = 1)) == (k == 1)) = false := by
    by_cases hk : k = 1 <;> simp [hk]
  generalize (!decide (k = 1)) = bo at HC tb
  have tq : (q != q) = false := by simp
  clear he hs ho hq hin m1 m2
  obtain ⟨W1, hW1⟩ : ∃ W1, w.alloc (.cells #[.int .i64 k, .int .i64 q, .int .i64 0, .int .i64 0, .int .i64 0, .int .i64 0, .int .i64 0, .int .i64 0, .slice none 0 0] 39) = W1 := ⟨_, rfl⟩
  have X1 : Box W1 w.heap.size 39 #[.int .i64 k, .int .i64 q, .int .i64 0, .int .i64 0, .int .i64 0, .int .i64 0, .int .i64 0, .int .i64 0, .slice none 0 0] := by rw [← hW1]; exact Box.fresh _ _ _ rfl
  have B1 : Below w.heap.size w W1 := by rw [← hW1]; exact bel_new _ _
  have x0 : W1.cell? ⟨w.heap.size, 0, none⟩ = some (.int .i64 k) := X1.reads 0
  have x1 : W1.cell? ⟨w.heap.size, 1, none⟩ = some (.int .i64 q) := X1.reads 1
  have c0 := HC.out W1 B1
  have y0 : W1.drew.cell? ⟨w.heap.size, 0, none⟩ = some (.int .i64 k) := x0
  have y1 : W1.drew.cell? ⟨w.heap.size, 1, none⟩ = some (.int .i64 q) := x1
  have z0 : W1.drew.drew.cell? ⟨w.heap.size, 0, none⟩ = some (.int .i64 k) := x0
  have HX1 := Lib.hid (HX.out W1.drew.drew B1.drew.drew)
  have z1 : W1.drew.drew.cell? ⟨w.heap.size, 1, none⟩ = some (.int .i64 q) := x1
  have HT1 := Lib.hid (HT.out W1.drew.drew B1.drew.drew)
  have HB1 := Lib.hid B1
  have HW1 : w.heap.size < W1.heap.size := by rw [← hW1]; simp
  clear B1 X1 HX HT HC
  go_enter Tryd.func9, Tryd.ntmps9
  unfold bareV
  go_wp2_with (go_at_call 18; refine (HK.out _).mono ?_; rintro e w1 ⟨rfl, rfl⟩)
  go_region
  all_goals (go_wp2_with fail)
  all_goals (go_region_held3 (fun w' => w'.cell? ⟨w.heap.size, 1, none⟩ = some (.int .i64 q)) (first | go_keep | exact x1 | exact y1 | exact z1) ((go_at_call 20; (with_reducible refine HX1.out.mono ?_); rintro _ w3 ⟨rfl, rfl⟩)))
  all_goals (go_wp2_with (go_at_call 21; (with_reducible refine HT1.out.mono ?_); rintro e w5 ⟨rfl, hd, hc⟩))
  all_goals go_ret
  all_goals exact ⟨rfl, O, hd, Chg.trans (U := O) (Chg.of_below HB1.out.drew.drew O) hc (fun _ _ e => e) (fun _ _ e => e), fun _ hj => .inl hj⟩
theorem SdBad.up {w w1 w2 : World} {s : Int} {x : Nat} {e : Ending} (hb : Below w.heap.size w w1) (h : SdBad w1 s x e w2) : SdBad w s x e w2 := by
  obtain ⟨b, h1, h2, h3, h4⟩ := h
  exact ⟨b, h1, Nat.le_trans hb.size h2, h3, hb.trans (h4.mono hb.size)⟩
set_option maxRecDepth 100000 in
set_option maxHeartbeats 1000000 in
theorem in_bad1 (g : Nat) (s k q now : Int) (hs : isS s = false) (w : World) :
    Calls Tryd.prog 9 #[.pointer (some ⟨g, 0, none⟩), .int .i64 s, bareV k q, .int .i64 now] w (SdBad w s 1) := by
  have HK := Lib.hid (fun w' => line_none (w := w') (g := g) hs)
  have HF := Lib.hid (fun w' => sfault_any s 1 w')
  have B1 : Hid (∀ o, Below w.heap.size w (w.alloc o)) := Lib.hid fun o => bel_new w o
  clear hs
  go_enter Tryd.func9, Tryd.ntmps9
  unfold bareV
  go_wp2_with ((first
    | (go_at_call 18; refine (HK.out _).mono ?_; rintro e w1 ⟨rfl, rfl⟩)
    | (go_at_call 19; refine (HF.out _).mono ?_; rintro e w1 hB; obtain ⟨b, rfl, hb1, hb2, hb3⟩ := hB)))
  go_ret
  exact SdBad.up (B1.out _) ⟨b, rfl, hb1, hb2, hb3⟩
set_option maxRecDepth 100000 in
set_option maxHeartbeats 1000000 in
theorem in_bad7 (h : SdAt w B g T D O) {i : Nat} (hi : i < 64) (k q now : Int) (hb : (D ((i : Int) + 1)).on = decide (k = 1)) :
    Calls Tryd.prog 9 #[.pointer (some ⟨g, 0, none⟩), .int .i64 ((i : Int) + 1), bareV k q, .int .i64 now] w (SdBad w ((i : Int) + 1) 7) := by
  have HK := Lib.hid (fun w' => line_some (w := w') (g := g) hi)
  have HF := Lib.hid (fun w' => sfault_any ((i : Int) + 1) 7 w')
  have HC := Lib.hid (fun w' (hb : Below w.heap.size w w') => (h.carry hb).cell0 hi)
  rw [hb] at HC
  have tb : ((decide (k = 1)) == (k == 1)) = true := by
    by_cases hk : k = 1 <;> simp [hk]
  generalize (decide (k = 1)) = bo at HC tb
  clear hb h
  obtain ⟨W1, hW1⟩ : ∃ W1, w.alloc (.cells #[.int .i64 k, .int .i64 q, .int .i64 0, .int .i64 0, .int .i64 0, .int .i64 0, .int .i64 0, .int .i64 0, .slice none 0 0] 39) = W1 := ⟨_, rfl⟩
  have X1 : Box W1 w.heap.size 39 #[.int .i64 k, .int .i64 q, .int .i64 0, .int .i64 0, .int .i64 0, .int .i64 0, .int .i64 0, .int .i64 0, .slice none 0 0] := by rw [← hW1]; exact Box.fresh _ _ _ rfl
  have B1 : Below w.heap.size w W1 := by rw [← hW1]; exact bel_new _ _
  have x0 : W1.cell? ⟨w.heap.size, 0, none⟩ = some (.int .i64 k) := X1.reads 0
  have y0 : W1.drew.cell? ⟨w.heap.size, 0, none⟩ = some (.int .i64 k) := x0
  have c0 := HC.out W1 B1
  have HB1 := Lib.hid B1.drew
  have HW1 : w.heap.size < W1.heap.size := by rw [← hW1]; simp
  clear B1 X1 HC
  go_enter Tryd.func9, Tryd.ntmps9
  unfold bareV
  go_wp2_with (go_at_call 18; refine (HK.out _).mono ?_; rintro e w1 ⟨rfl, rfl⟩)
  go_region
  all_goals (go_wp2_with (go_at_call 19; refine (HF.out _).mono ?_; rintro e w1 hB; obtain ⟨b, rfl, hb1, hb2, hb3⟩ := hB))
  all_goals go_ret
  all_goals exact SdBad.up HB1.out ⟨b, rfl, hb1, hb2, hb3⟩
set_option maxRecDepth 100000 in
set_option maxHeartbeats 1000000 in
theorem in_bad13 (h : SdAt w B g T D O) {i : Nat} (hi : i < 64) (k q now : Int) (hb : (D ((i : Int) + 1)).on ≠ decide (k = 1)) {x : Int} (hx : (D ((i : Int) + 1)).nx = x) (m1 : 1 ≤ x) (m2 : x ≤ 2000) (hq : q ≠ x) :
    Calls Tryd.prog 9 #[.pointer (some ⟨g, 0, none⟩), .int .i64 ((i : Int) + 1), bareV k q, .int .i64 now] w (SdBad w ((i : Int) + 1) 13) := by
  have HK := Lib.hid (fun w' => line_some (w := w') (g := g) hi)
  have HF := Lib.hid (fun w' => sfault_any ((i : Int) + 1) 13 w')
  have HC := Lib.hid (fun w' (hb : Below w.heap.size w w') => (h.carry hb).cell0 hi)
  have HX := Lib.hid (fun w' (hb : Below w.heap.size w w') => lnext_any (p := 1 + i * 4) ((h.carry hb).cell hi (i := 2) (u := .int .i64 (x - 1)) (by rw [← hx]; rfl)) m1 m2)
  obtain ⟨bo, hbo⟩ : ∃ bo, (D ((i : Int) + 1)).on = bo := ⟨_, rfl⟩
  rw [hbo] at HC hb
  have tb : (bo == (k == 1)) = false := by
    cases bo <;> cases hc : (k == (1 : Int)) <;> simp_all
  have tq : (q != x) = true := by simpa using hq
  clear hb hbo h hx hq
  obtain ⟨W1, hW1⟩ : ∃ W1, w.alloc (.cells #[.int .i64 k, .int .i64 q, .int .i64 0, .int .i64 0, .int .i64 0, .int .i64 0, .int .i64 0, .int .i64 0, .slice none 0 0] 39) = W1 := ⟨_, rfl⟩
  have X1 : Box W1 w.heap.size 39 #[.int .i64 k, .int .i64 q, .int .i64 0, .int .i64 0, .int .i64 0, .int .i64 0, .int .i64 0, .int .i64 0, .slice none 0 0] := by rw [← hW1]; exact Box.fresh _ _ _ rfl
  have B1 : Below w.heap.size w W1 := by rw [← hW1]; exact bel_new _ _
  have x0 : W1.cell? ⟨w.heap.size, 0, none⟩ = some (.int .i64 k) := X1.reads 0
  have x1 : W1.cell? ⟨w.heap.size, 1, none⟩ = some (.int .i64 q) := X1.reads 1
  have y0 : W1.drew.cell? ⟨w.heap.size, 0, none⟩ = some (.int .i64 k) := x0
  have y1 : W1.drew.cell? ⟨w.heap.size, 1, none⟩ = some (.int .i64 q) := x1
  have z1 : W1.drew.drew.cell? ⟨w.heap.size, 1, none⟩ = some (.int .i64 q) := x1
  have c0 := HC.out W1 B1
  have HX1 := Lib.hid (HX.out W1.drew.drew B1.drew.drew)
  have HB1 := Lib.hid B1.drew.drew
  have HW1 : w.heap.size < W1.heap.size := by rw [← hW1]; simp
  clear B1 X1 HC HX
  go_enter Tryd.func9, Tryd.ntmps9
  unfold bareV
  go_wp2_with (go_at_call 18; refine (HK.out _).mono ?_; rintro e w1 ⟨rfl, rfl⟩)
  go_region
  all_goals (go_wp2_with fail)
  all_goals (go_region_held3 (fun w' => w'.cell? ⟨w.heap.size, 1, none⟩ = some (.int .i64 q)) (first | go_keep | exact x1 | exact y1 | exact z1) ((go_at_call 20; (with_reducible refine HX1.out.mono ?_); rintro _ w3 ⟨rfl, rfl⟩)))
  all_goals (go_wp2_with (go_at_call 19; refine (HF.out _).mono ?_; rintro e w1 hB; obtain ⟨b, rfl, hb1, hb2, hb3⟩ := hB))
  all_goals go_ret
  all_goals exact SdBad.up HB1.out ⟨b, rfl, hb1, hb2, hb3⟩
theorem sd_in_bad (h : SdAt w B g T D O) (hm : Mild n D) (hn : n ≤ 1000) (s k q now : Int) {x : Nat} (he : inE D s k q = x) (hx : x ≠ 0) :
    Calls Tryd.prog 9 #[.pointer (some ⟨g, 0, none⟩), .int .i64 s, bareV k q, .int .i64 now] w (SdBad w s x) := by
  subst he
  unfold inE at hx ⊢
  split at hx
  · rename_i hs
    rw [if_pos hs]
    exact in_bad1 g s k q now hs w
  · rename_i hs
    rw [if_neg hs]
    obtain ⟨i, hi, rfl⟩ := isS_form (by simpa using hs)
    split at hx
    · rename_i hb
      rw [if_pos hb]
      exact in_bad7 h hi k q now hb
    · rename_i hb
      rw [if_neg hb]
      split at hx
      · rename_i hq
        rw [if_pos hq]
        exact in_bad13 h hi k q now hb rfl (hm.nx _).1 (by have := (hm.nx ((i : Int) + 1)).2; omega) hq
      · exact absurd rfl hx
end
end Go.Proofs.YtpkkhmbcbcaelaaDoor

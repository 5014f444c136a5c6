/- The contract of an arena's New. -/
import Derived.Test.YtmgfeofkbblmjaaFifTake
import Derived.Laws.MakeOwn
set_option linter.unusedSimpArgs false
namespace Go.Proofs.Ytmgfeofkbblmjaa
open Go.RowKit Go.Mem1 Go.FifMath

/-- An arena whose first k rows are laid. -/
def fresh0 (R C k : Nat) : Aren := ⟨List.replicate k ⟨-1, -1, 0⟩ ++ List.replicate (R - k) ⟨0, 0, 0⟩, [], -1, C⟩
theorem fresh0_all (R C : Nat) : fresh0 R C R = fresh R C := by simp [fresh0, fresh]
theorem fresh0_len {R C k : Nat} (h : k ≤ R) : (fresh0 R C k).rs.length = R := by simp [fresh0]; omega
theorem fresh0_at {R C k : Nat} (h : k < R) : (fresh0 R C k).rs[k]? = some ⟨0, 0, 0⟩ := by
  unfold fresh0
  dsimp only
  rw [List.getElem?_append_right (by simp), List.length_replicate, Nat.sub_self, List.getElem?_replicate, if_pos (by omega)]
theorem fresh0_succ {R C k : Nat} (h : k < R) : (fresh0 R C k).atRow k (fun _ => (⟨-1, -1, 0⟩ : Tip)) = fresh0 R C (k + 1) := by
  have e : (List.replicate k (⟨-1, -1, 0⟩ : Tip) ++ List.replicate (R - k) (⟨0, 0, 0⟩ : Tip)).modify k (fun _ => (⟨-1, -1, 0⟩ : Tip)) = List.replicate (k + 1) (⟨-1, -1, 0⟩ : Tip) ++ List.replicate (R - (k + 1)) (⟨0, 0, 0⟩ : Tip) := by
    have h0 : (List.replicate k (⟨-1, -1, 0⟩ : Tip) ++ List.replicate (R - k) (⟨0, 0, 0⟩ : Tip))[k]? = some ⟨0, 0, 0⟩ := fresh0_at (C := 0) h
    rw [mod_set h0, List.set_append_right _ _ (by simp), List.length_replicate, Nat.sub_self, show R - k = (R - (k + 1)) + 1 by omega, List.replicate_succ, List.set_cons_zero, List.replicate_succ', List.append_assoc]
    rfl
  unfold fresh0 Aren.atRow
  dsimp only
  rw [e]
theorem ends_info : (Try.prog.info? 54).map (fun i => (i.zero, i.size, i.bytes)) = some (some (.agg #[.int .i64 0, .int .i64 0, .int .i64 0]), 3, 24) := by kernel_rfl
theorem made_three (n : Nat) : (madeCells #[Value.int .i64 0, .int .i64 0, .int .i64 0] n).toList = List.replicate n (.int .i64 0) := by
  apply List.ext_getElem?
  intro j
  by_cases hj : j < n
  · have : j % 3 < 3 := Nat.mod_lt _ (by omega)
    have h3 : j % 3 = 0 ∨ j % 3 = 1 ∨ j % 3 = 2 := by omega
    rw [List.getElem?_replicate, if_pos hj]
    rcases h3 with h | h | h <;> simp [madeCells, hj, h]
  · rw [List.getElem?_eq_none (by simp [madeCells]; omega), List.getElem?_eq_none (by simp; omega)]
theorem flat_three (n : Nat) : (List.replicate n (⟨0, 0, 0⟩ : Tip)).flatMap end1 = List.replicate (n * 3) (.int .i64 0) := by
  induction n with
  | zero => rfl
  | succ n ih => rw [List.replicate_succ, List.flatMap_cons, ih, show (n + 1) * 3 = 3 + n * 3 by omega, ← List.replicate_append_replicate]; rfl
theorem make_rows (R : Nat) (hR : R ≤ 1024) : ∃ M : Array Value, M.toList = (List.replicate R (⟨0, 0, 0⟩ : Tip)).flatMap end1 ∧ M.size = R * 3 ∧ ∀ W : World, (Instr.makeSlice 49 (.int .i64 (R : Int)) (.int .i64 (R : Int))).run Try.prog W = .ok (.slice (some ⟨W.heap.size, 0, none⟩) R R) (W.alloc (.cells M 54)) := by
  obtain ⟨i0, hi0, hz0, hz1, hz2⟩ := info_parts ends_info
  refine ⟨_, (made_three (R * 3)).trans (flat_three R).symm, size_madeCells _ _, fun W => ?_⟩
  have h := run_make (P := Try.prog) W 49 54 i0 _ Try.underlying49 hi0 hz0 .i64 .i64 (R : Int) (R : Int) (by omega) (by omega) (by rw [hz2]; omega) (by omega)
  rw [hz1, Int.toNat_natCast] at h
  exact h
theorem storeEnds {w : World} {B g : Nat} {vR vC : Value} {s : Aren} (h : ArenaAt w B g vR vC s) {b c n : Nat} (hv : vR = .slice (some ⟨b, 0, none⟩) n c) {k : Nat} {e : Tip} (hk : s.rs[k]? = some e) (m : Tip) :
    Wrote w B g vR vC (s.atRow k fun _ => m) (((w.setCell ⟨b, k * 3, none⟩ (.int .i64 m.a)).setCell ⟨b, k * 3 + 1, none⟩ (.int .i64 m.z)).setCell ⟨b, k * 3 + 2, none⟩ (.int .i64 m.k)) := by
  have h0 := h.storeR hv hk (fun l => ⟨m.a, l.z, l.k⟩) 0 (.int .i64 m.a) (by omega) rfl
  have k0 := mod_at (f := fun l : Tip => (⟨m.a, l.z, l.k⟩ : Tip)) hk
  have h1 := h0.1.storeR hv k0 (fun l => ⟨l.a, m.z, l.k⟩) 1 (.int .i64 m.z) (by omega) rfl
  have k1 := mod_at (f := fun l : Tip => (⟨l.a, m.z, l.k⟩ : Tip)) k0
  have h2 := h1.1.storeR hv k1 (fun l => ⟨l.a, l.z, m.k⟩) 2 (.int .i64 m.k) (by omega) rfl
  have e : ((s.atRow k fun l => ⟨m.a, l.z, l.k⟩).atRow k fun l => ⟨l.a, m.z, l.k⟩).atRow k (fun l => ⟨l.a, l.z, m.k⟩) = s.atRow k fun _ => m := by
    unfold Aren.atRow
    simp only [List.modify_modify_eq]
    rfl
  have := (Wrote.then h0 h1).then h2
  rw [e] at this
  exact this
/-- What New answers. -/
def NewOk (R C : Nat) (w : World) (e : Ending) (w' : World) : Prop := ∃ g vR vC, e = .returned (.tuple #[.pointer (some ⟨g, 0, none⟩), .int .i64 0]) ∧ ArenaAt w' w.heap.size g vR vC (fresh R C) ∧ Below w.heap.size w w'
/-- At the head of a round. -/
def NewJ (w : World) (B R C k : Nat) (wr : World) : Prop := ArenaAt wr B (B + 1) (.slice (some ⟨B, 0, none⟩) R R) (.slice none 0 0) (fresh0 R C k) ∧ Below B w wr
theorem NewJ.step {w wr : World} {B R C k : Nat} (h : NewJ w B R C k wr) (hk : k < R) :
    wr.cell? ⟨B + 1, 0, none⟩ = some (.slice (some ⟨B, 0, none⟩) R R) ∧ wr.cell? ⟨B, k * 3, none⟩ = some (.int .i64 0) ∧ wr.cell? ⟨B, k * 3 + 1, none⟩ = some (.int .i64 0) ∧ wr.cell? ⟨B, k * 3 + 2, none⟩ = some (.int .i64 0) ∧ (∀ i, wr.frozen? ⟨B, i, none⟩ = false) ∧
    NewJ w B R C (k + 1) (((wr.setCell ⟨B, k * 3, none⟩ (.int .i64 (-1))).setCell ⟨B, k * 3 + 1, none⟩ (.int .i64 (-1))).setCell ⟨B, k * 3 + 2, none⟩ (.int .i64 0)) := by
  obtain ⟨h1, h2⟩ := h
  obtain ⟨b, c, hv, _, hlt, _, _, k0, k1, k2, hf⟩ := h1.ends (fresh0_at (C := C) hk)
  injection hv with hv _ _
  injection hv with hv
  injection hv with hv
  subst hv
  have h3 := storeEnds h1 rfl (fresh0_at (C := C) hk) ⟨-1, -1, 0⟩
  rw [fresh0_succ hk] at h3
  exact ⟨h1.c0, k0, k1, k2, hf, h3.1, h2.trans (h1.keep h3.2).below⟩
set_option maxHeartbeats 2000000 in
theorem new_ok (w : World) {R C : Nat} (hR : 1 ≤ R ∧ R ≤ 1024) (hC : 1 ≤ C ∧ C ≤ 4096) :
    Calls Try.prog 7 #[.int .i64 R, .int .i64 C] w (NewOk R C w) := by
  obtain ⟨M, hM, hMs, hmk⟩ := make_rows R hR.2
  obtain ⟨hR1, hR2⟩ := hR
  obtain ⟨hC1, hC2⟩ := hC
  have HJ0 : Hid (∀ w1, w1 = (w.alloc (.cells M 54)).alloc (.cells #[.slice (some ⟨w.heap.size, 0, none⟩) R R, .slice none 0 0, .int .i64 (-1), .int .i64 C] 52) → NewJ w w.heap.size R C 0 w1) := Lib.hid (by
    rintro w1 rfl
    have hown := World.ownsRow_lit (base := w.heap.size) (e := 54) (size := 3) w M R (Nat.le_refl _) (by simp only [maxLen]; omega) hMs
    rw [hM] at hown
    refine ⟨⟨Box.fresh _ _ _ (by simp), by omega, ?_, World.ownsRow_nil _ _ _ _, by simp [fresh0]; omega, by simp [fresh0]⟩, ((Below.refl _ _).alloc (Nat.le_refl _) _).alloc (by simp) _⟩
    rw [fresh0_len (by omega)]
    exact own_alloc (by simpa [fresh0] using hown) _)
  have HMK := Lib.hid hmk
  have t1 : decide ((R : Int) < 1) = false := by simp; omega
  have t2 : decide ((1024 : Int) < (R : Int)) = false := by simp; omega
  have t3 : decide ((C : Int) < 1) = false := by simp; omega
  have t4 : decide ((4096 : Int) < (C : Int)) = false := by simp; omega
  have hmk0 := hmk w
  have q1 : ∀ W : World, (W.alloc (.cells #[.slice (some ⟨w.heap.size, 0, none⟩) R R, .slice none 0 0, .int .i64 (-1), .int .i64 C] 52)).cell? ⟨W.heap.size, 0, none⟩ = some (.slice (some ⟨w.heap.size, 0, none⟩) R R) := fun W => by simp
  clear hM hMs hmk
  go_enter Try.func7, Try.ntmps7
  go_wp2_with fail
  have HJ := Lib.hid (HJ0.out _ rfl)
  obtain ⟨B, hB⟩ : ∃ B, w.heap.size = B := ⟨_, rfl⟩
  have HB := Lib.hid hB
  rw [hB] at HJ
  clear HMK HJ0 q1 hmk0 t1 t2 t3 t4
  simp only [hB]
  clear hB
  go_loopw [32] (fun v32 wr => ∃ k : Nat, k ≤ R ∧ v32 = .int .i64 k ∧ Hid (NewJ w B R C k wr)) (fun v32 _ => R - (intOf v32).toNat)
  case atStart => exact ⟨0, by omega, rfl, HJ⟩
  case round =>
    obtain ⟨k, hk, rfl, hJ⟩ := hrel
    clear HJ
    by_cases hlt : k < R
    · obtain ⟨q0, k0, k1, k2, hf, hN⟩ := hJ.out.step hlt
      have f0 := hf (k * 3)
      have f1 := hf (k * 3 + 1)
      have f2 := hf (k * 3 + 2)
      have HN := Lib.hid hN
      clear hf hN hJ
      go_wp2_with fail
      go_roundw
      case rel => exact ⟨k + 1, by omega, by go_num, HN⟩
      case measure => simp [intOf]; omega
    · obtain rfl : k = R := by omega
      go_wp2_with fail
      go_ret2
      have h := hJ.out
      unfold NewJ at h
      rw [fresh0_all] at h
      refine ⟨B + 1, .slice (some ⟨B, 0, none⟩) k k, .slice none 0 0, rfl, ?_, ?_⟩
      · rw [HB.out]; exact h.1
      · rw [HB.out]; exact h.2
set_option maxHeartbeats 1000000 in
/-- New's refusals. -/
theorem new_bad (w : World) (r c : Int) (h : r < 1 ∨ 1024 < r ∨ c < 1 ∨ 4096 < c) :
    Calls Try.prog 7 #[.int .i64 r, .int .i64 c] w fun e w' => e = .returned (.tuple #[.pointer none, .int .i64 1]) ∧ w = w' := by
  by_cases h1 : r < 1
  · have t1 : decide (r < 1) = true := by simpa using h1
    clear h h1
    go_enter Try.func7, Try.ntmps7
    go_wp2_with fail
    go_ret2
    exact ⟨rfl, rfl⟩
  · have t1 : decide (r < 1) = false := by simpa using h1
    by_cases h2 : 1024 < r
    · have t2 : decide (1024 < r) = true := by simpa using h2
      clear h h1 h2
      go_enter Try.func7, Try.ntmps7
      go_wp2_with fail
      go_ret2
      exact ⟨rfl, rfl⟩
    · have t2 : decide (1024 < r) = false := by simpa using h2
      by_cases h3 : c < 1
      · have t3 : decide (c < 1) = true := by simpa using h3
        clear h h1 h2 h3
        go_enter Try.func7, Try.ntmps7
        go_wp2_with fail
        go_ret2
        exact ⟨rfl, rfl⟩
      · have t3 : decide (c < 1) = false := by simpa using h3
        have t4 : decide (4096 < c) = true := by simp; omega
        clear h h1 h2 h3
        go_enter Try.func7, Try.ntmps7
        go_wp2_with fail
        go_ret2
        exact ⟨rfl, rfl⟩
end Go.Proofs.Ytmgfeofkbblmjaa

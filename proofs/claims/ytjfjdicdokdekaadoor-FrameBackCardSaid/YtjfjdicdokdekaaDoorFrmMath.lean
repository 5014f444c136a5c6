/- Plain mathematics of frames: bytes taken one by one; whole frames; what is told. -/
import Derived.Test.YtjfjdicdokdekaaDoorFCrcSaid
set_option linter.unusedSimpArgs false
namespace Go.Proofs.YtjfjdicdokdekaaDoor

def frameBytes : ByteArray := ⟨#[102, 114, 97, 109, 101]⟩
namespace FM
/-- The length that two bytes tell. -/
def size (h : List Nat) : Nat := h.getD 0 0 + h.getD 1 0 * 256
/-- A stream: what is held, how many were told in all, what is told now, its error (0: none) with its parts. -/
structure FS where
  h : List Nat
  k : Nat
  out : List (List Nat)
  e : Nat
  p : List (ByteArray × Int)
def look (s : FS) : FS :=
  if s.h.length < 2 then s
  else if 1024 < size s.h then ⟨[], s.k, s.out, 4, [(frameBytes, (s.k : Int))]⟩
  else if s.h.length < 6 + size s.h then s
  else if 4 ≤ (s.h.drop 2).length ∧ (s.h.drop 2).drop ((s.h.drop 2).length - 4) = le4 (sumOf ((s.h.drop 2).take ((s.h.drop 2).length - 4))) then ⟨[], s.k + 1, s.out ++ [(s.h.drop 2).take (size s.h)], 0, s.p⟩
  else ⟨[], s.k, s.out, 14, [(frameBytes, (s.k : Int)), (sumBytes, ((s.h.length - 2 : Nat) : Int))]⟩
def step (s : FS) (x : Nat) : FS := if s.e ≠ 0 then s else look { s with h := s.h ++ [x] }
def run (s : FS) (b : List Nat) : FS := b.foldl step s
/-- Nothing is whole yet. -/
def Live (s : FS) : Prop := s.e = 0 ∧ (2 ≤ s.h.length → size s.h ≤ 1024 ∧ s.h.length < 6 + size s.h)
/-- How long what is held must be to be looked at. -/
def goal (s : FS) : Nat := if s.h.length < 2 then 2 else 6 + size s.h
theorem run_nil (s : FS) : run s [] = s := rfl
theorem run_append (s : FS) (a b : List Nat) : run s (a ++ b) = run (run s a) b := by simp [run, List.foldl_append]
theorem run_dead {s : FS} (h : s.e ≠ 0) : ∀ (b : List Nat), run s b = s
  | [] => rfl
  | x :: b => by
    show run (step s x) b = s
    have : step s x = s := by unfold step; rw [if_pos h]
    rw [this]; exact run_dead h b
theorem Live.goal_lt {s : FS} (h : Live s) : s.h.length < goal s := by
  unfold goal
  split
  · assumption
  · exact (h.2 (by omega)).2
theorem goal_le {s : FS} (h : Live s) : goal s ≤ 1030 := by
  unfold goal
  split
  · omega
  · have := (h.2 (by omega)).1; omega
theorem size_app {h : List Nat} (hl : 2 ≤ h.length) (x : List Nat) : size (h ++ x) = size h := by
  unfold size
  match h, hl with
  | a :: b :: r, _ => rfl
theorem look_live {s : FS} (h : Live s) : look s = s := by
  unfold look
  split
  · rfl
  · have := h.2 (by omega)
    rw [if_neg (by omega), if_pos this.2]
theorem live_more {s : FS} (h : Live s) (x : List Nat) (hx : s.h.length + x.length < goal s) : Live { s with h := s.h ++ x } ∧ goal { s with h := s.h ++ x } = goal s := by
  unfold goal at hx ⊢
  split at hx
  · rename_i hl
    refine ⟨⟨h.1, fun h2 => ?_⟩, ?_⟩
    · simp at h2; omega
    · rw [if_pos (by simp; omega), if_pos hl]
  · rename_i hl
    have h2 := h.2 (by omega)
    have e := size_app (h := s.h) (by omega) x
    refine ⟨⟨h.1, fun _ => ?_⟩, ?_⟩
    · simp only [e, List.length_append]; omega
    · rw [if_neg (by simp; omega), if_neg hl]; simp only [e]
/-- As many bytes as are wanted, or less, are put to what is held, and looked at once. -/
theorem run_more : ∀ (p : List Nat) {s : FS}, Live s → p ≠ [] → s.h.length + p.length ≤ goal s → run s p = look { s with h := s.h ++ p }
  | [], _, _, hp, _ => absurd rfl hp
  | [x], s, h, _, _ => by
    show step s x = _
    unfold step
    rw [if_neg (by simp [h.1])]
  | x :: y :: q, s, h, _, hl => by
    have h1 : s.h.length + [x].length < goal s := by simp at hl ⊢; omega
    obtain ⟨L, G⟩ := live_more h [x] h1
    show run (step s x) (y :: q) = _
    have : step s x = { s with h := s.h ++ [x] } := by unfold step; rw [if_neg (by simp [h.1]), look_live L]
    rw [this, run_more (y :: q) L (by simp) (by rw [G]; simp at hl ⊢; omega)]
    simp
/-- What was told ahead is no matter. -/
def pre (o : List (List Nat)) (s : FS) : FS := { s with out := o ++ s.out }
theorem look_pre (o : List (List Nat)) (s : FS) : look (pre o s) = pre o (look s) := by
  unfold look pre
  dsimp only
  split
  · rfl
  · split
    · rfl
    · split
      · rfl
      · split
        · simp
        · rfl
theorem step_pre (o : List (List Nat)) (s : FS) (x : Nat) : step (pre o s) x = pre o (step s x) := by
  unfold step
  by_cases h : s.e ≠ 0
  · rw [if_pos (show (pre o s).e ≠ 0 from h), if_pos h]
  · rw [if_neg (show ¬ (pre o s).e ≠ 0 from h), if_neg h, ← look_pre]; rfl
theorem run_pre (o : List (List Nat)) : ∀ (b : List Nat) (s : FS), run (pre o s) b = pre o (run s b)
  | [], _ => rfl
  | x :: b, s => by
    show run (step (pre o s) x) b = pre o (run (step s x) b)
    rw [step_pre, run_pre o b]
/-- Live behind each byte, or dead. -/
theorem look_ok {s : FS} (h0 : s.e = 0) : Live (look s) ∨ (look s).e ≠ 0 := by
  unfold look
  split
  · exact .inl ⟨h0, fun h => by omega⟩
  · split
    · exact .inr (by simp)
    · split
      · exact .inl ⟨h0, fun _ => ⟨by omega, by assumption⟩⟩
      · split
        · exact .inl ⟨rfl, fun h => by simp at h⟩
        · exact .inr (by simp)
theorem look_dead {s : FS} (h0 : s.e = 0) (h : (look s).e ≠ 0) : (look s).h = [] := by
  unfold look at h ⊢
  split at h
  · exact absurd h0 h
  · rename_i h1
    rw [if_neg h1]
    split at h
    · rename_i h2; rw [if_pos h2]
    · rename_i h2
      rw [if_neg h2]
      split at h
      · exact absurd h0 h
      · rename_i h3
        rw [if_neg h3]
        split at h
        · exact absurd rfl h
        · rename_i h4; rw [if_neg h4]
/-- A frame. -/
def wrapL (l : List Nat) : List Nat := [l.length % 256, l.length / 256 % 256] ++ (l ++ le4 (sumOf l))
theorem wrapL_len (l : List Nat) : (wrapL l).length = l.length + 6 := by simp [wrapL, le4]
theorem wrapL_bnd {l : List Nat} (h : ∀ x ∈ l, x < 256) : ∀ x ∈ wrapL l, x < 256 := by
  intro x hx
  simp only [wrapL, le4, List.mem_append, List.mem_cons, List.not_mem_nil, or_false] at hx
  rcases hx with (rfl | rfl) | hx | rfl | rfl | rfl | rfl
  · omega
  · omega
  · exact h x hx
  all_goals omega
theorem two_size {n : Nat} (hn : n ≤ 1024) : size [n % 256, n / 256 % 256] = n := by
  unfold size
  simp only [List.getD_cons_zero, List.getD_cons_succ]
  omega
/-- The first two bytes of a length that may be. -/
theorem run_two {s : FS} (he : s.e = 0) (hh : s.h = []) {n : Nat} (hn : n ≤ 1024) : run s [n % 256, n / 256 % 256] = { s with h := [n % 256, n / 256 % 256] } ∧ Live { s with h := [n % 256, n / 256 % 256] } := by
  have hL : Live s := ⟨he, fun h => by rw [hh] at h; simp at h⟩
  have hs := two_size hn
  have hL2 : Live { s with h := [n % 256, n / 256 % 256] } := ⟨he, fun _ => ⟨by dsimp only; rw [hs]; exact hn, by dsimp only; rw [hs]; simp; omega⟩⟩
  refine ⟨?_, hL2⟩
  rw [run_more _ hL (by simp) (by unfold goal; rw [hh]; simp)]
  rw [hh, List.nil_append]
  exact look_live hL2
theorem run_wrap {s : FS} (he : s.e = 0) (hh : s.h = []) {l : List Nat} (hl : l.length ≤ 1024) : run s (wrapL l) = { s with k := s.k + 1, out := s.out ++ [l] } := by
  unfold wrapL
  rw [run_append]
  obtain ⟨e1, L1⟩ := run_two he hh hl
  rw [e1]
  have hs := two_size hl
  have h4 : (le4 (sumOf l)).length = 4 := rfl
  have hg : goal { s with h := [l.length % 256, l.length / 256 % 256] } = 6 + l.length := by
    unfold goal
    rw [if_neg (by simp)]
    dsimp only; rw [hs]
  rw [run_more _ L1 (by
    intro h
    have := congrArg List.length h
    rw [List.length_append, h4] at this
    simp at this) (by rw [hg]; simp [h4]; omega)]
  have hsz : size ([l.length % 256, l.length / 256 % 256] ++ (l ++ le4 (sumOf l))) = l.length := by rw [size_app (by simp), hs]
  have hd : ([l.length % 256, l.length / 256 % 256] ++ (l ++ le4 (sumOf l))).drop 2 = l ++ le4 (sumOf l) := rfl
  have hln : (l ++ le4 (sumOf l)).length - 4 = l.length := by rw [List.length_append, h4]; omega
  unfold look
  dsimp only
  rw [hsz, hd, hln, List.drop_left' rfl, List.take_left' rfl]
  rw [if_neg (by simp), if_neg (by omega), if_neg (by simp [h4]; omega), if_pos ⟨by rw [List.length_append, h4]; omega, rfl⟩]
  cases s
  simp_all
theorem run_wraps {s : FS} (he : s.e = 0) (hh : s.h = []) : ∀ (ls : List (List Nat)), (∀ l ∈ ls, l.length ≤ 1024) → run s (ls.flatMap wrapL) = { s with k := s.k + ls.length, out := s.out ++ ls }
  | [], _ => by simp [run]
  | l :: ls, h => by
    rw [List.flatMap_cons, run_append, run_wrap he hh (h l (List.mem_cons_self ..))]
    rw [run_wraps (s := { s with k := s.k + 1, out := s.out ++ [l] }) he hh ls (fun x hx => h x (List.mem_cons_of_mem _ hx))]
    simp [Nat.add_assoc, Nat.add_comm 1]
/-- A length that may not be. -/
theorem run_ff {s : FS} (he : s.e = 0) (hh : s.h = []) : run s [255, 255] = ⟨[], s.k, s.out, 4, [(frameBytes, (s.k : Int))]⟩ := by
  have hL : Live s := ⟨he, fun h => by rw [hh] at h; simp at h⟩
  rw [run_more _ hL (by simp) (by unfold goal; rw [hh]; simp)]
  rw [hh, List.nil_append]
  unfold look
  dsimp only
  rw [if_neg (by simp), if_pos (by decide)]
end FM
end Go.Proofs.YtjfjdicdokdekaaDoor

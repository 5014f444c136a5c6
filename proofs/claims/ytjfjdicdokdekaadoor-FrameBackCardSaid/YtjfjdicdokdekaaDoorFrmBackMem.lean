/- What straddlelaw5.FrameBack holds while it goes: frames' bytes, what is wanted, what was got. -/
import Derived.Test.YtjfjdicdokdekaaDoorFrmDead
import Derived.Test.YtjfjdicdokdekaaDoorFrmRefWrap
set_option linter.unusedSimpArgs false
namespace Go.Proofs.YtjfjdicdokdekaaDoor
open Go.RowKit Go.Mem1

/-- Those bodies that may be. -/
def short (ls : List (List Nat)) : List (List Nat) := ls.filter (fun l => decide (l.length ≤ 1024))
theorem short_len {ls : List (List Nat)} : ∀ l ∈ short ls, l.length ≤ 1024 := by
  intro l hl
  have := (List.mem_filter.1 hl).2
  simpa using this
theorem short_step {ls : List (List Nat)} {k : Nat} {l : List Nat} (h : ls[k]? = some l) : short (ls.take (k + 1)) = short (ls.take k) ++ (if l.length ≤ 1024 then [l] else []) := by
  obtain ⟨hk, rfl⟩ := List.getElem?_eq_some_iff.1 h
  unfold short
  rw [List.take_succ_eq_append_getElem hk, List.filter_append]
  congr 1
  by_cases hl : ls[k].length ≤ 1024
  · rw [if_pos hl]; simp [hl]
  · rw [if_neg hl]; simp [hl]
/-- What is wanted: a row of the law's own of bodies that came in. -/
def WantAt (w0 w : World) (base : Nat) (v : Value) (ls : List (List Nat)) : Prop :=
  ∃ vs, w.ownsRow base 22 1 v ls.length vs ∧ vs.length = ls.length ∧ ∀ (i : Nat) (u : Value) (l : List Nat), vs[i]? = some u → ls[i]? = some l → ∃ (A1 : Option Addr) (n1 c1 : Nat), u = Value.slice A1 n1 c1 ∧ (A1 = none → c1 = 0) ∧ Byt w0 w0.heap.size A1 n1 l
theorem WantAt.parts {w0 w : World} {base n c : Nat} {A : Option Addr} {ls : List (List Nat)} (h : WantAt w0 w base (.slice A n c) ls) (hn : ls.length = n) (hb : Below w0.heap.size w0 w) : Parts w w.heap.size A n ls := by
  obtain ⟨vs, h1, h2, h3⟩ := h
  subst hn
  exact ⟨vs, Rd.ofOwn h1, h2, fun i v l hv hl => by
    obtain ⟨A1, n1, c1, e, h4, h5⟩ := h3 i v l hv hl
    exact ⟨A1, n1, c1, e, h4, (h5.carry hb).wider hb.size⟩⟩
theorem WantAt.snoc {w0 w' : World} {base : Nat} {v' : Value} {ls : List (List Nat)} {l : List Nat} {A1 : Option Addr} {n1 c1 : Nat} (vs : List Value) (h2 : vs.length = ls.length)
    (h3 : ∀ (i : Nat) (u : Value) (l : List Nat), vs[i]? = some u → ls[i]? = some l → ∃ (A1 : Option Addr) (n1 c1 : Nat), u = Value.slice A1 n1 c1 ∧ (A1 = none → c1 = 0) ∧ Byt w0 w0.heap.size A1 n1 l)
    (hown : w'.ownsRow base 22 1 v' (ls.length + 1) (vs ++ [.slice A1 n1 c1])) (h4 : A1 = none → c1 = 0) (h5 : Byt w0 w0.heap.size A1 n1 l) : WantAt w0 w' base v' (ls ++ [l]) := by
  refine ⟨vs ++ [.slice A1 n1 c1], by rw [show (ls ++ [l]).length = ls.length + 1 by simp]; exact hown, by simp [h2], fun i v l' hv hl => ?_⟩
  rcases Nat.lt_or_ge i vs.length with hi | hi
  · rw [List.getElem?_append_left hi] at hv
    rw [List.getElem?_append_left (by rw [← h2]; exact hi)] at hl
    exact h3 i v l' hv hl
  · rw [List.getElem?_append_right hi] at hv
    rw [List.getElem?_append_right (by rw [← h2]; exact hi), ← h2] at hl
    match hj : i - vs.length with
    | 0 =>
      rw [hj] at hv hl
      injection hv with hv; injection hl with hl
      subst hv; subst hl
      exact ⟨A1, n1, c1, rfl, h4, h5⟩
    | j + 1 => rw [hj] at hv; simp at hv
theorem WantAt.kept {w0 w w' : World} {base : Nat} {v : Value} {ls : List (List Nat)} {S : Nat → Prop} (h : WantAt w0 w base v ls) (hc : Chg S w w') (hne : ∀ k, v.ownBlock = some k → ¬ S k) : WantAt w0 w' base v ls := by
  obtain ⟨vs, h1, h2, h3⟩ := h
  exact ⟨vs, own_chg h1 hc hne, h2, h3⟩
/-- The frames of the first bodies, and what is wanted of them. -/
def FrsI (w w1 : World) (ls : List (List Nat)) (k : Nat) (vb vw : Value) (wr : World) : Prop :=
  (∃ A m c, vb = .slice A m c ∧ wr.ownsRow w1.heap.size 5 1 (.slice A m c) m (((short (ls.take k)).flatMap FM.wrapL).map bv) ∧ m ≤ 1030 * k) ∧
  (∃ A c, vw = .slice A (short (ls.take k)).length c ∧ WantAt w wr w1.heap.size (.slice A (short (ls.take k)).length c) (short (ls.take k)) ∧ (short (ls.take k)).length ≤ k) ∧ Below w1.heap.size w1 wr

theorem FM.run_live : ∀ (b : List Nat) {s : FM.FS}, FM.Live s ∨ s.e ≠ 0 → FM.Live (FM.run s b) ∨ (FM.run s b).e ≠ 0
  | [], _, h => h
  | x :: b, s, h => by
    show FM.Live (FM.run (FM.step s x) b) ∨ (FM.run (FM.step s x) b).e ≠ 0
    refine FM.run_live b ?_
    unfold FM.step
    split
    · exact .inr (by assumption)
    · rename_i he
      exact FM.look_ok (s := { s with h := s.h ++ [x] }) (by simpa using he)
/-- Whole frames: no part of their bytes is a fault. -/
theorem FM.part_live {ls : List (List Nat)} (h : ∀ l ∈ ls, l.length ≤ 1024) (m : Nat) : FM.Live (FM.run FM.fs0 ((ls.flatMap FM.wrapL).take m)) := by
  rcases FM.run_live ((ls.flatMap FM.wrapL).take m) (.inl FM.fs0_live) with h1 | h1
  · exact h1
  · exfalso
    have h2 := FM.run_wraps (s := FM.fs0) rfl rfl ls h
    have h3 := FM.run_append FM.fs0 ((ls.flatMap FM.wrapL).take m) ((ls.flatMap FM.wrapL).drop m)
    rw [List.take_append_drop, FM.run_dead h1, h2] at h3
    rw [← h3] at h1
    exact h1 rfl
theorem FM.run_k : ∀ (b : List Nat) (s : FM.FS), (FM.run s b).k ≤ s.k + b.length ∧ (FM.run s b).out.length ≤ s.out.length + b.length
  | [], _ => by simp [FM.run]
  | x :: b, s => by
    have h1 := FM.run_k b (FM.step s x)
    have h2 : (FM.step s x).k ≤ s.k + 1 ∧ (FM.step s x).out.length ≤ s.out.length + 1 := by
      unfold FM.step
      split
      · omega
      · exact FM.look_k { s with h := s.h ++ [x] }
    show (FM.run (FM.step s x) b).k ≤ _ ∧ (FM.run (FM.step s x) b).out.length ≤ _
    simp only [List.length_cons]
    omega
theorem BodsAt.append {w : World} {vs us : List Value} {ls ms : List (List Nat)} {F : Nat → Prop} (h : BodsAt w vs ls F) (h' : BodsAt w us ms F) : BodsAt w (vs ++ us) (ls ++ ms) F := by
  refine ⟨by simp [h.1, h'.1], fun i v l hv hl => ?_⟩
  rcases Nat.lt_or_ge i vs.length with hi | hi
  · rw [List.getElem?_append_left hi] at hv
    rw [List.getElem?_append_left (by rw [← h.1]; exact hi)] at hl
    exact h.2 i v l hv hl
  · rw [List.getElem?_append_right hi] at hv
    rw [List.getElem?_append_right (by rw [← h.1]; exact hi), ← h.1] at hl
    exact h'.2 _ v l hv hl
/-- What was got, behind one more Feed, before its bodies are put behind the others. -/
theorem FeedJ.more {w0 wr w' : World} {B g : Nat} {R R' R'' : Option Nat} {s s1 : FM.FS} {v x : Value} (h : FeedJ w0 B g R R' s v wr) (hg0 : g < w0.heap.size) (h' : FeedJ wr B g R' R'' s1 x w') :
    RowOk w0 R R'' ∧ Chg (StrSet g R) w0 w' ∧ ∃ vs, w'.ownsRow w0.heap.size 22 1 v s.out.length vs ∧ BodsAt w' vs s.out (StrSet g R'') := by
  obtain ⟨h1, h2, h3, vs, h4, h5⟩ := h
  obtain ⟨k1, k2, k3, us, k4, k5⟩ := h'
  refine ⟨h2.next k2 h3.size, h3.then k3 (fun i hi hs => h2.set hi hs), vs, ?_, ?_⟩
  · refine own_chg h4 k3 (fun k hk hs => ?_)
    rcases hs with hs | hs
    · have := (h4.lt k hk).1; omega
    · obtain ⟨A, c, v0, hr, _, ho, _⟩ := h1
      exact own_apart h4 ho (by decide) k hk (by rw [← hr, ← hs])
  · have a1 : BodsAt wr vs s.out (fun i => StrSet g R' i ∨ StrSet g R'' i) := h5.sets (fun i hi _ hs => hs.elim id (fun hs => k2.set hi hs))
    exact (a1.kept k3 (fun _ _ _ hs => .inl hs)).sets (fun _ _ _ hs => .inr hs)
/-- They are put behind the others. -/
theorem FeedJ.got {w0 w' w7 : World} {B g : Nat} {R R'' : Option Nat} {s1 : FM.FS} {o : List (List Nat)} {A A7 : Option Addr} {c c7 : Nat} {vs us : List Value} (hg0 : g < w0.heap.size) (he : s1.e = 0)
    (hS : StrAt w' B g R'' s1) (hro : RowOk w0 R R'') (hch : Chg (StrSet g R) w0 w') (hown : w'.ownsRow w0.heap.size 22 1 (.slice A o.length c) o.length vs) (hb : BodsAt w' vs o (StrSet g R'')) (hb2 : BodsAt w' us s1.out (StrSet g R''))
    (hown7 : w7.ownsRow w0.heap.size 22 1 (.slice A7 (o.length + s1.out.length) c7) (o.length + s1.out.length) (vs ++ us)) (hgr : w'.grownBy w7 (Value.slice A o.length c).ownBlock) :
    FeedJ w0 B g R R'' { s1 with out := o ++ s1.out } (.slice A7 (o ++ s1.out).length c7) w7 := by
  have hk : ∀ k, (Value.slice A o.length c).ownBlock = some k → w0.heap.size ≤ k ∧ k ≠ g ∧ R'' ≠ some k := by
    intro k hk
    have h1 := (hown.lt k hk).1
    refine ⟨h1, by omega, ?_⟩
    obtain ⟨A, c, v, hr, _, hox, _⟩ := hS
    rw [hr]
    exact own_apart hown hox (by decide) k hk
  have hC7 : Chg (fun k => some k = (Value.slice A o.length c).ownBlock) w' w7 := Chg.of_grown hgr
  refine ⟨(hS.keptOff he hC7 (fun e => (hk g e.symm).2.1 rfl) (fun k hk' e => (hk k e.symm).2.2 hk')).withOut _, hro, hch.then hC7 (fun i hi e => by have := (hk i e.symm).1; omega), vs ++ us, by dsimp only; rw [List.length_append]; exact hown7, ?_⟩
  have a1 : BodsAt w' (vs ++ us) (o ++ s1.out) (fun k => StrSet g R'' k ∨ some k = (Value.slice A o.length c).ownBlock) :=
    (hb.append hb2).sets (fun i _ hb hs => hs.elim id (fun e => absurd e.symm (row_bod hown (by decide) hb)))
  exact (a1.kept hC7 (fun _ _ _ hs => .inr hs)).sets (fun _ _ _ hs => .inl hs)
end Go.Proofs.YtjfjdicdokdekaaDoor

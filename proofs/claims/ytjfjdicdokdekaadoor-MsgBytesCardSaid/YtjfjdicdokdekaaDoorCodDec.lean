/- Contracts of the landed codec's Dec: fail, pass, Int, Raw, Left, Err; Of. -/
import Derived.Test.YtjfjdicdokdekaaDoorCodNum
namespace Go.Proofs.YtjfjdicdokdekaaDoor
open Go.RowKit Go.Mem1 Go.CodMath

theorem Byt.cutAny {w : World} {B : Nat} {A : Option Addr} {n k : Nat} {l : List Nat} (h : Byt w B A n l) (hk : k ≤ n) : Byt w B (A.map fun x => x.add k) (n - k) (l.drop k) := by
  have hl := h.len
  rcases Nat.eq_zero_or_pos (n - k) with h0 | h0
  · rw [h0, List.drop_eq_nil_of_le (by omega)]
    exact Byt.empty _ _ _
  · obtain ⟨b, o, rfl, _, _⟩ := h.rd.cells (by omega)
    have := h.cut hk
    rw [Option.map_some, Addr.add_lit]
    exact this
theorem Byt.gone {w : World} {B : Nat} {A A' : Option Addr} {n k : Nat} {l : List Nat} (h : Byt w B A n l) (hk : n ≤ k) : Byt w B A' (n - k) (l.drop k) := by
  have hl := h.len
  rw [List.drop_eq_nil_of_le (by omega), show n - k = 0 by omega]
  exact Byt.empty _ _ _

/-- A Dec's state: what is left, where, what is wrong. -/
structure St where
  l : List Nat
  p : Nat
  e : Nat
/-- A Dec in block g; its bytes lie below that block. -/
def DecAt (w : World) (B g : Nat) (s : St) : Prop :=
  ∃ A n c, Box w g 138 #[.slice A n c, .int .i64 (s.p : Int), .int .i64 (s.e : Int)] ∧ Byt w g A n s.l ∧ (A = none → c = 0) ∧ n ≤ c ∧ B ≤ g ∧ s.p + n ≤ 1000000
theorem Byt.low {w w' : World} {B : Nat} {A : Option Addr} {n : Nat} {l : List Nat} {S : Nat → Prop} (h : Byt w B A n l) (hc : Chg S w w') (hS : ∀ b, b < B → ¬ S b) : Byt w' B A n l :=
  ⟨⟨h.rd.len, fun hn => by
    obtain ⟨b, o, e, hlt, hcell⟩ := h.rd.cells hn
    exact ⟨b, o, e, hlt, fun k u hu => hc.cell (hcell k u hu) (hS b hlt)⟩⟩, h.bnd⟩
theorem DecAt.drew {w : World} {B g : Nat} {s : St} (h : DecAt w B g s) : DecAt w.drew B g s := by
  obtain ⟨A, n, c, h1, h2, h3, h4, h5, h6⟩ := h
  exact ⟨A, n, c, h1, h2.drew, h3, h4, h5, h6⟩
theorem DecAt.there {w : World} {B g : Nat} {s : St} (h : DecAt w B g s) : B ≤ g ∧ g < w.heap.size := by
  obtain ⟨A, n, c, h1, h2, h3, h4, h5, h6⟩ := h
  exact ⟨h5, h1.there⟩
theorem DecAt.below {w w' : World} {B g : Nat} {s : St} (h : DecAt w B g s) (hb : Below w.heap.size w w') : DecAt w' B g s := by
  obtain ⟨A, n, c, h1, h2, h3, h4, h5, h6⟩ := h
  exact ⟨A, n, c, h1.kept_below hb h1.there, h2.carry (hb.mono (Nat.le_of_lt h1.there)), h3, h4, h5, h6⟩
theorem DecAt.kept {w w' : World} {B g : Nat} {s : St} {S : Nat → Prop} (h : DecAt w B g s) (hc : Chg S w w') (hS : ∀ b, b ≤ g → ¬ S b) : DecAt w' B g s := by
  obtain ⟨A, n, c, h1, h2, h3, h4, h5, h6⟩ := h
  exact ⟨A, n, c, h1.kept hc (hS g (Nat.le_refl _)), h2.low hc (fun b hb => hS b (Nat.le_of_lt hb)), h3, h4, h5, h6⟩
def failSt (s : St) (x : Nat) : St := if s.e = 0 then ⟨[], s.p, x⟩ else s

def DecPost (w : World) (B g : Nat) (s : St) (w' : World) : Prop := DecAt w' B g s ∧ Chg (· = g) w w'
set_option maxHeartbeats 1000000 in
theorem fail_any (g B : Nat) (s : St) (x : Nat) (w : World) (h : DecAt w B g s) (_hx : x ≤ 100) :
    Calls Tryd.prog 76 #[.pointer (some ⟨g, 0, none⟩), .int .i64 (x : Int)] w fun e w' => e = .returned (.tuple #[]) ∧ DecPost w B g (failSt s x) w' := by
  have HD := Lib.hid h
  obtain ⟨A, n, c, hb, hy, hc0, hnc, hB, hp⟩ := h
  have c0 := hb.reads 0
  have c2 := hb.reads 2
  have f0 := hb.unmarked 0
  have f2 := hb.unmarked 2
  have hgl := hb.there
  simp at c0 c2
  by_cases he : s.e = 0
  · rw [he] at c2
    have hfin : DecPost w B g (failSt s x) ((w.setCell ⟨g, 0, none⟩ (.slice none 0 0)).setCell ⟨g, 2, none⟩ (.int .i64 (x : Int))) := by
      unfold failSt
      rw [if_pos he]
      refine ⟨⟨none, 0, 0, ?_, Byt.empty _ _ _, fun _ => rfl, Nat.le_refl _, hB, by simp; omega⟩, ?_⟩
      · simpa using (hb.wrote 0 (.slice none 0 0)).wrote 2 (.int .i64 (x : Int))
      · exact ((Chg.refl (· = g) w).setCell (fun _ => rfl) _).setCell (fun _ => rfl) _
    have HF := Lib.hid hfin
    have HE := Lib.hid he
    clear hfin hb hy he
    go_enter Tryd.func76, Tryd.ntmps76
    go_wp2_with fail
    go_end0
    exact ⟨rfl, HF.out⟩
  · have hne : ((s.e : Int) == 0) = false := by simp; omega
    have hfin : DecPost w B g (failSt s x) w := by
      unfold failSt
      rw [if_neg he]
      exact ⟨HD.out, Chg.refl _ _⟩
    have HF := Lib.hid hfin
    clear hfin hb hy he
    go_enter Tryd.func76, Tryd.ntmps76
    go_wp2_with fail
    go_end0
    exact ⟨rfl, HF.out⟩

theorem pass_end {w : World} {B g : Nat} {s : St} {A A' : Option Addr} {n c k c' : Nat} (hb : Box w g 138 #[.slice A n c, .int .i64 (s.p : Int), .int .i64 (s.e : Int)]) (hk : k ≤ n)
    (hy : Byt w g A' (n - k) (s.l.drop k)) (hc : A' = none → c' = 0) (hnc : n - k ≤ c') (hB : B ≤ g) (hp : s.p + n ≤ 1000000) :
    DecPost w B g ⟨s.l.drop k, s.p + k, s.e⟩ ((w.setCell ⟨g, 0, none⟩ (.slice A' (n - k) c')).setCell ⟨g, 1, none⟩ (.int .i64 ((s.p : Int) + (k : Int)))) := by
  have hch : Chg (· = g) w ((w.setCell ⟨g, 0, none⟩ (.slice A' (n - k) c')).setCell ⟨g, 1, none⟩ (.int .i64 ((s.p : Int) + (k : Int)))) :=
    ((Chg.refl (· = g) w).setCell (fun _ => rfl) _).setCell (fun _ => rfl) _
  refine ⟨⟨A', n - k, c', ?_, hy.low hch (fun b hb e => by omega), hc, by omega, hB, by simp; omega⟩, hch⟩
  simpa using (hb.wrote 0 (.slice A' (n - k) c')).wrote 1 (.int .i64 ((s.p : Int) + (k : Int)))
set_option maxHeartbeats 1000000 in
theorem pass_any (g B : Nat) (s : St) (k : Nat) (w : World) (h : DecAt w B g s) (hk : k ≤ s.l.length) :
    Calls Tryd.prog 77 #[.pointer (some ⟨g, 0, none⟩), .int .i64 (k : Int)] w fun e w' => e = .returned (.tuple #[]) ∧ DecPost w B g ⟨s.l.drop k, s.p + k, s.e⟩ w' := by
  obtain ⟨A, n, c, hb, hy, hc0, hnc, hB, hp⟩ := h
  have c0 := hb.reads 0
  have c1 := hb.reads 1
  have f0 := hb.unmarked 0
  have f1 := hb.unmarked 1
  have hgl := hb.there
  simp at c0 c1
  have hl := hy.len
  have q1 : (0 : Int) ≤ (k : Int) := by omega
  have q2 : (k : Int) ≤ (n : Int) := by omega
  have q3 : (n : Int) ≤ (c : Int) := by omega
  have q4 : (k : Int) ≤ (c : Int) := by omega
  have hyy := Lib.hid hy
  have HL := Lib.hid hl
  have HC := Lib.hid hc0
  have HB := Lib.hid hb
  clear hl hb hy hc0
  have K1 := pass_end (k := k) (c' := c - k) HB.out (by omega) (hyy.out.cutAny (by omega)) (fun h => by
    have := HC.out (by cases A with
      | none => rfl
      | some a => cases h)
    omega) (by omega) hB hp
  have HK1 := Lib.hid K1
  clear K1
  by_cases hck : c = k
  · have K2 := pass_end (A' := A) (c' := 0) HB.out (show k ≤ n by omega) (hyy.out.gone (by omega)) (fun _ => rfl) (by omega) hB hp
    have HK2 := Lib.hid K2
    clear K2 HC HL hyy HK1
    go_enter Tryd.func77, Tryd.ntmps77
    go_wp2_with fail
    go_end0
    exact ⟨rfl, HK2.out⟩
  · clear HC HL hyy
    go_enter Tryd.func77, Tryd.ntmps77
    go_wp2_with fail
    go_end0
    exact ⟨rfl, HK1.out⟩

/-- What Int and Raw tell, and what is behind them. -/
def intVal (l : List Nat) : Int := if (num l).2.2 = 0 then unz (num l).1 else 0
def intSt (s : St) : St := if (num s.l).2.2 = 0 then ⟨s.l.drop (num s.l).2.1, s.p + (num s.l).2.1, s.e⟩ else failSt s (num s.l).2.2
def rawOk (l : List Nat) : Prop := (num l).2.2 = 0 ∧ 0 ≤ unz (num l).1 ∧ unz (num l).1 ≤ (l.length : Int) - ((num l).2.1 : Int)
instance (l : List Nat) : Decidable (rawOk l) := by unfold rawOk; infer_instance
def rawVal (l : List Nat) : List Nat := if rawOk l then (l.drop (num l).2.1).take (unz (num l).1).toNat else []
def rawSt (s : St) : St := if rawOk s.l then ⟨s.l.drop ((num s.l).2.1 + (unz (num s.l).1).toNat), s.p + ((num s.l).2.1 + (unz (num s.l).1).toNat), s.e⟩ else failSt s (if (num s.l).2.2 ≠ 0 then (num s.l).2.2 else if unz (num s.l).1 < 0 then 2 else 3)

set_option maxHeartbeats 1000000 in
theorem decInt_any (g B : Nat) (s : St) (w : World) (h : DecAt w B g s) :
    Calls Tryd.prog 45 #[.pointer (some ⟨g, 0, none⟩)] w fun e w' => e = .returned (.int .i64 (intVal s.l)) ∧ DecPost w B g (intSt s) w' := by
  have HD := Lib.hid h
  obtain ⟨A, n, c, hb, hy, hc0, hnc, hB, hp⟩ := h
  have c0 := hb.reads 0
  simp at c0
  have hl := hy.len
  have hbd := num_bd hy.bnd
  have hnum := number_any A n c s.l w g (by omega) hy
  by_cases hok : (num s.l).2.2 = 0
  · have hv : intVal s.l = unz (num s.l).1 := if_pos hok
    have hs : intSt s = ⟨s.l.drop (num s.l).2.1, s.p + (num s.l).2.1, s.e⟩ := if_pos hok
    have hpa := pass_any g B s (num s.l).2.1 w HD.out hbd.2.1
    unfold NumRet at hnum
    rw [if_pos hok, hok] at hnum
    rw [hv, hs]
    generalize (num s.l).2.1 = k at *
    generalize unz (num s.l).1 = v at *
    have HN := Lib.hid hnum
    have HP := Lib.hid hpa
    clear hnum hpa hb hy hc0 hl hbd hv hs hok
    go_enter Tryd.func45, Tryd.ntmps45
    go_wp2_with fail
    refine HN.out.mono ?_
    rintro e w1 ⟨rfl, rfl⟩
    go_wp2_with fail
    refine HP.out.mono ?_
    rintro e w1 ⟨rfl, hw1⟩
    have HW := Lib.hid hw1
    clear hw1
    go_wp2_with fail
    go_ret
    exact ⟨rfl, HW.out⟩
  · have hv : intVal s.l = 0 := if_neg hok
    have hs : intSt s = failSt s (num s.l).2.2 := if_neg hok
    have hx : (num s.l).2.2 ≤ 100 := by
      rcases hbd.2.2.2 with h | h | h
      · omega
      · rw [h]; decide
      · rw [h]; decide
    have hfa := fail_any g B s (num s.l).2.2 w HD.out hx
    unfold NumRet at hnum
    rw [if_neg hok] at hnum
    rw [hv, hs]
    have hne : (((num s.l).2.2 : Int) != 0) = true := by simp; omega
    generalize (num s.l).2.2 = x at *
    generalize (num s.l).2.1 = k at *
    have HN := Lib.hid hnum
    have HP := Lib.hid hfa
    clear hnum hfa hb hy hc0 hl hbd hv hs hok
    go_enter Tryd.func45, Tryd.ntmps45
    go_wp2_with fail
    refine HN.out.mono ?_
    rintro e w1 ⟨rfl, rfl⟩
    go_wp2_with fail
    refine HP.out.mono ?_
    rintro e w1 ⟨rfl, hw1⟩
    have HW := Lib.hid hw1
    clear hw1
    go_wp2_with fail
    go_ret
    exact ⟨rfl, HW.out⟩

theorem decLeft_any (g B : Nat) (s : St) (w : World) (h : DecAt w B g s) :
    Calls Tryd.prog 50 #[.pointer (some ⟨g, 0, none⟩)] w fun e w' => e = .returned (.int .i64 (s.l.length : Int)) ∧ w = w' := by
  obtain ⟨A, n, c, hb, hy, hc0, hnc, hB, hp⟩ := h
  have c0 := hb.reads 0
  simp at c0
  rw [hy.len]
  clear hb hy hc0
  go_enter Tryd.func50, Tryd.ntmps50
  go_wp2_with fail
  go_ret
  exact ⟨rfl, rfl⟩
end Go.Proofs.YtjfjdicdokdekaaDoor

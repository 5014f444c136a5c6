/- The stream's die. -/
import Derived.Test.YtjfjdicdokdekaaDoorFrmErr
set_option linter.unusedSimpArgs false
namespace Go.Proofs.YtjfjdicdokdekaaDoor
open Go.RowKit Go.Mem1

theorem IsErr.off {w w' : World} {B g : Nat} {t : TypeId} {cs : Array Value} (hb : Box w g t cs) (h0 : ∀ s, cs[0]? ≠ some (.string s)) (hc : Chg (· = g) w w') : ∀ {l : List (ByteArray × Int)} {n : Int} {v : Value}, IsErr w B l n v → IsErr w' B l n v
  | [], _, _, h => h
  | (_, _) :: _, _, _, ⟨b, u, e, hlt, h1, h2, h3, hr⟩ => by
    have hne : b ≠ g := by
      rintro rfl
      rw [hb.reads 0] at h1
      exact h0 _ h1
    exact ⟨b, u, e, hlt, hc.cell h1 hne, hc.cell h2 hne, hc.cell h3 hne, IsErr.off hb h0 hc hr⟩
def set02 (w : World) (g : Nat) (v0 v2 : Value) : World := (w.setCell ⟨g, 0, none⟩ v0).setCell ⟨g, 2, none⟩ v2
theorem set02_def (w : World) (g : Nat) (v0 v2 : Value) : (w.setCell ⟨g, 0, none⟩ v0).setCell ⟨g, 2, none⟩ v2 = set02 w g v0 v2 := rfl
theorem set02_chg (w : World) (g : Nat) (v0 v2 : Value) : Chg (· = g) w (set02 w g v0 v2) :=
  ((Chg.refl (· = g) w).setCell (p := ⟨g, 0, none⟩) (fun _ => rfl) v0).setCell (p := ⟨g, 2, none⟩) (fun _ => rfl) v2
theorem set02_box {w : World} {g : Nat} {t : TypeId} {c0 c1 c2 : Value} (h : Box w g t #[c0, c1, c2]) (v0 v2 : Value) : Box (set02 w g v0 v2) g t #[v0, c1, v2] := by
  have := (h.wrote 0 v0).wrote 2 v2
  simpa [set02] using this
theorem set02_size (w : World) (g : Nat) (v0 v2 : Value) : (set02 w g v0 v2).heap.size = w.heap.size := by simp [set02, World.setCell]
/-- Dead of it. -/
def FM.dead (s : FM.FS) (l : List (ByteArray × Int)) (n : Nat) : FM.FS := ⟨[], s.k, s.out, n, (frameBytes, (s.k : Int)) :: l⟩
set_option maxHeartbeats 400000 in
theorem strDie {w : World} {B g : Nat} {R : Option Nat} {s : FM.FS} (h : StrAt w B g R s) (l : List (ByteArray × Int)) (n : Nat) (v : Value) (hE : IsErr w w.heap.size l n v) (hn : n ≠ 0) :
    Calls Tryd.prog 57 #[.pointer (some ⟨g, 0, none⟩), v] w fun e w' => e = .returned (.tuple #[]) ∧ StrAt w' B g none (FM.dead s l n) ∧ Chg (· = g) w w' := by
  obtain ⟨A, c, v0, hr, hb, ho, hx, hB, hl, _, _⟩ := h
  have c1 := (hb.reads 1).trans (show _ = some (Value.int .i64 (s.k : Int)) from rfl)
  have fin : ∀ (w1 : World) (b : Nat), Below w.heap.size w w1 → IsErr w1 w1.heap.size ((frameBytes, (s.k : Int)) :: l) (n : Int) (.iface 78 (.pointer (some ⟨b, 0, none⟩))) →
      StrAt (set02 w1 g (.slice none 0 0) (.iface 78 (.pointer (some ⟨b, 0, none⟩)))) B g none (FM.dead s l n) ∧ Chg (· = g) w (set02 w1 g (.slice none 0 0) (.iface 78 (.pointer (some ⟨b, 0, none⟩)))) := by
    intro w1 b hB1 hE1
    have hb1 := hb.kept_below hB1 hb.there
    refine ⟨⟨none, 0, _, rfl, set02_box hb1 _ _, World.ownsRow_nil _ _ _ _, fun x hx => by (cases hx), hB, by simp [FM.dead], fun h => absurd h hn, fun _ => ⟨b, rfl, ?_⟩⟩, ?_⟩
    · rw [set02_size]
      exact hE1.off hb1 (fun s h => by simp at h) (set02_chg _ _ _ _)
    · exact ((Chg.refl (· = g) w).below hB1).then (set02_chg _ _ _ _) (fun _ _ h => h)
  have HF := Lib.hid (fun w' (hb' : Below w.heap.size w w') => frmFault (s.k : Int) l n v w' ((hE.carry hb').wider hb'.size))
  have FIN := Lib.hid fin
  have HB := Lib.hid hb
  clear fin ho hx hB hl hr hE hb
  generalize (s.k : Int) = k at *
  go_enter Tryd.func57, Tryd.ntmps57
  go_wp2_with fail
  refine (HF.out _ (Below.refl _ _)).mono ?_
  rintro e w1 ⟨B1, b, rfl, hE1⟩
  have hb1 := HB.out.kept_below B1 HB.out.there
  have f0 := hb1.unmarked 0
  have f2 := hb1.unmarked 2
  have r0 := (hb1.reads 0).trans (show _ = some (Value.slice A s.h.length c) from rfl)
  have r2 := (hb1.reads 2).trans (show _ = some v0 from rfl)
  have HF1 := Lib.hid (FIN.out w1 b B1 hE1)
  clear hb1 hE1 B1
  go_wp2_with fail
  rw [set02_def]
  go_end0
  exact ⟨rfl, HF1.out⟩
end Go.Proofs.YtjfjdicdokdekaaDoor

/- A row of the reference's parts, kept where one block is written; two cells written. -/
import Derived.Test.YtjfjdicdokdekaaDoorMsgOf
import Derived.Deep.RegionHeld3
set_option linter.unusedSimpArgs false
namespace Go.Proofs.YtjfjdicdokdekaaDoor
open Go.RowKit Go.Mem1 Go.CodMath

theorem PartsAt.chg {w w' : World} {B g n : Nat} {t : TypeId} {cs : Array Value} {A : Option Addr} {l : List (ByteArray × Int)} (h : PartsAt w B A n l) (hb : Box w g t cs) (h0 : ∀ (i : Nat) (s : ByteArray), cs[i]? ≠ some (Value.string s)) (hc : Chg (· = g) w w') : PartsAt w' B A n l :=
  ⟨h.len, fun i x hx => by
    obtain ⟨b, off, e, hlt, h1, h2⟩ := h.at_ i x hx
    have hne : b ≠ g := by
      rintro rfl
      rw [hb.reads] at h1
      exact h0 _ _ h1
    exact ⟨b, off, e, hlt, hc.cell h1 hne, hc.cell h2 hne⟩⟩
def set2 (w : World) (g : Nat) (v0 v1 : Value) : World := (w.setCell ⟨g, 0, none⟩ v0).setCell ⟨g, 1, none⟩ v1
theorem set2_def (w : World) (g : Nat) (v0 v1 : Value) : (w.setCell ⟨g, 0, none⟩ v0).setCell ⟨g, 1, none⟩ v1 = set2 w g v0 v1 := rfl
theorem set2_chg (w : World) (g : Nat) (v0 v1 : Value) : Chg (· = g) w (set2 w g v0 v1) :=
  ((Chg.refl (· = g) w).setCell (p := ⟨g, 0, none⟩) (fun _ => rfl) v0).setCell (p := ⟨g, 1, none⟩) (fun _ => rfl) v1
theorem set2_box {w : World} {g : Nat} {t : TypeId} {c0 c1 : Value} (h : Box w g t #[c0, c1]) (v0 v1 : Value) : Box (set2 w g v0 v1) g t #[v0, v1] := by
  have := (h.wrote 0 v0).wrote 1 v1
  simpa [set2] using this
theorem set2_size (w : World) (g : Nat) (v0 v1 : Value) : (set2 w g v0 v1).heap.size = w.heap.size := by simp [set2, World.setCell]
end Go.Proofs.YtjfjdicdokdekaaDoor

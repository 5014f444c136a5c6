/- All, of bytes that are whole frames. -/
import Derived.Test.YtjfjdicdokdekaaDoorFrmWrap
set_option linter.unusedSimpArgs false
namespace Go.Proofs.YtjfjdicdokdekaaDoor
open Go.RowKit Go.Mem1

/-- A new stream. -/
def FM.fs0 : FM.FS := ⟨[], 0, [], 0, []⟩
theorem FM.fs0_live : FM.Live FM.fs0 := ⟨rfl, fun h => by simp [FM.fs0] at h⟩
theorem FeedI.parts {w : World} {B g : Nat} {R : Option Nat} {s1 : FM.FS} {A : Option Addr} {c : Nat} {w' : World} (h : FeedI w B g R s1 (.slice A s1.out.length c) w') : Parts w' w'.heap.size A s1.out.length s1.out ∧ (A = none → c = 0) := by
  obtain ⟨R', _, _, _, vs, h4, h5⟩ := h
  refine ⟨h5.parts (Rd.ofOwn h4), ?_⟩
  rintro rfl
  rcases h4.2 with ⟨hv, _⟩ | ⟨_, _, _, hv, _⟩
  · injection hv
  · injection hv with hv; cases hv
theorem FeedI.held {w : World} {B g : Nat} {R : Option Nat} {s1 : FM.FS} {v : Value} {w' : World} (h : FeedI w B g R s1 v w') : ∃ R', StrAt w' B g R' s1 := by
  obtain ⟨R', h1, _⟩ := h
  exact ⟨R', h1⟩
theorem FeedI.small {w : World} {B g : Nat} {R : Option Nat} {s1 : FM.FS} {v : Value} {w' : World} (h : FeedI w B g R s1 v w') (hB : B ≤ w.heap.size) (hg : B ≤ g) (hR : ∀ k, R = some k → B ≤ k) : Below B w w' := by
  obtain ⟨R', _, _, h3, _⟩ := h
  refine h3.small hB (fun i hi hs => ?_)
  rcases hs with hs | hs
  · omega
  · have := hR i hs.symm; omega
def AllPost (w : World) (ls : List (List Nat)) (e : Ending) (w' : World) : Prop :=
  Below w.heap.size w w' ∧ ∃ A c, e = .returned (.tuple #[.slice A ls.length c, .nilIface]) ∧ (A = none → c = 0) ∧ Parts w' w'.heap.size A ls.length ls
set_option maxRecDepth 100000 in
set_option maxHeartbeats 1000000 in
theorem all_ok (A : Option Addr) (n c : Nat) (l : List Nat) (ls : List (List Nat)) (w : World) (hg : ErrType w) (hT : Halves w) (hn : n ≤ 100000000) (hnc : n ≤ c) (h : Byt w w.heap.size A n l) (h0 : (FM.run FM.fs0 l).e = 0) (h1 : (FM.run FM.fs0 l).h = []) (h2 : (FM.run FM.fs0 l).out = ls) :
    Calls Tryd.prog 18 #[.slice A n c] w (AllPost w ls) := by
  subst h2
  have hgl := hg.lt
  have htl := hT.lt
  have hfeed := fun (w1 : World) (hB : Below w.heap.size w w1) (hS : StrAt w1 w.heap.size w.heap.size none FM.fs0) =>
    strFeed A n c l (hg.lt |> fun hx => ((hB.cell (p := ⟨0, 0, none⟩) hx).trans hg : ErrType w1)) (hT.below hB) hS (.inl FM.fs0_live) hn hnc (by simp [FM.fs0]) ⟨htl, hgl⟩ ((h.carry hB).wider hB.size)
      (fun b o e hn hs => by
        obtain ⟨b', o', e2, hlt, _⟩ := h.rd.cells hn
        rw [e] at e2
        injection e2 with e2
        injection e2 with e2 _
        rcases hs with hs | hs
        · omega
        · cases hs)
  have HF := Lib.hid hfeed
  have hrun : FM.run { FM.fs0 with out := [] } l = FM.run FM.fs0 l := rfl
  generalize FM.run FM.fs0 l = s1 at *
  rw [hrun] at HF
  have H0 := Lib.hid h0
  have H1 := Lib.hid h1
  clear h hfeed hrun h0 h1 hg hT
  go_enter Tryd.func18, Tryd.ntmps18
  go_wp2_with fail
  refine (frmNew w).mono ?_
  rintro e w1 ⟨rfl, hS1, B1⟩
  have HS1 := Lib.hid hS1
  clear hS1
  go_wp2_with (go_at_call 12; refine Hid.out ?_)
  refine Lib.hid ?_
  refine (HF.out w1 B1 HS1.out).mono ?_
  rintro e w2 ⟨A2, c2, ev, rfl, hI, hE⟩
  obtain rfl := hE.1 H0.out
  have hp := hI.parts
  obtain ⟨R2, hS2⟩ := hI.held
  have hb2 := hI.small (B := w.heap.size) B1.size (Nat.le_refl _) (fun k hk => by cases hk)
  have B02 : Below w.heap.size w w2 := B1.trans hb2
  have hh := strHeld hS2
  rw [H1.out] at hh
  have HH := Lib.hid hh
  have HP := Lib.hid hp
  clear hI hE hp hS2 hh
  go_wp2_with (go_at_call 17; refine Hid.out ?_)
  refine Lib.hid ?_
  refine HH.out.mono ?_
  rintro e w3 ⟨rfl, rfl⟩
  go_wp2_with fail
  go_ret2
  exact ⟨B02, A2, c2, rfl, HP.out.2, HP.out.1⟩
end Go.Proofs.YtjfjdicdokdekaaDoor

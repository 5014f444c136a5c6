/- Contracts of the landed codec's Dec.Err and Of. -/
import Derived.Test.YtjfjdicdokdekaaDoorCodDec
import Derived.Deep.RegionHeld3
namespace Go.Proofs.YtjfjdicdokdekaaDoor
open Go.RowKit Go.Mem1 Go.CodMath

def byteBytes : ByteArray := ⟨#[98, 121, 116, 101]⟩
def ErrPost (w : World) (s : St) (e : Ending) (w' : World) : Prop :=
  ∃ b, e = .returned (.iface 78 (.pointer (some ⟨b, 0, none⟩))) ∧ Box w' b 82 #[.string byteBytes, .int .i64 (s.p : Int), .iface 77 (.int .i64 (s.e : Int))] ∧ Below w.heap.size w w'
set_option maxHeartbeats 1000000 in
theorem decErr_nil (g B : Nat) (s : St) (w : World) (h : DecAt w B g s) (he : s.e = 0) :
    Calls Tryd.prog 47 #[.pointer (some ⟨g, 0, none⟩)] w fun e w' => e = .returned .nilIface ∧ w = w' := by
  obtain ⟨A, n, c, hb, hy, hc0, hnc, hB, hp⟩ := h
  have c2 := hb.reads 2
  simp at c2
  rw [he] at c2
  clear hb hy hc0 he
  go_enter Tryd.func47, Tryd.ntmps47
  go_wp2_with fail
  go_ret
  exact ⟨rfl, rfl⟩
set_option maxHeartbeats 1000000 in
theorem decErr_bad (g B : Nat) (s : St) (w : World) (h : DecAt w B g s) (he : s.e ≠ 0) :
    Calls Tryd.prog 47 #[.pointer (some ⟨g, 0, none⟩)] w (ErrPost w s) := by
  obtain ⟨A, n, c, hb, hy, hc0, hnc, hB, hp⟩ := h
  have c1 := hb.reads 1
  have c2 := hb.reads 2
  simp at c1 c2
  have hne : ((s.e : Int) == 0) = false := by simp; omega
  have hgl := hb.there
  have k1 : ∀ o, (w.alloc o).drew.cell? ⟨g, 1, none⟩ = some (.int .i64 (s.p : Int)) := fun o => (World.cell?_alloc_lt w o ⟨g, 1, none⟩ hgl).trans c1
  have k2 : ∀ o, (w.alloc o).drew.cell? ⟨g, 2, none⟩ = some (.int .i64 (s.e : Int)) := fun o => (World.cell?_alloc_lt w o ⟨g, 2, none⟩ hgl).trans c2
  have K1 := Lib.hid k1
  have K2 := Lib.hid k2
  clear hb hy hc0 he k1 k2
  go_enter Tryd.func47, Tryd.ntmps47
  go_wp2_with fail
  go_region_held3 (fun w' => w'.cell? ⟨g, 1, none⟩ = some (.int .i64 (s.p : Int)) ∧ w'.cell? ⟨g, 2, none⟩ = some (.int .i64 (s.e : Int))) (first | exact ⟨c1, c2⟩ | exact ⟨K1.out _, K2.out _⟩) (fail)
  all_goals go_wp2_with fail
  all_goals go_ret
  all_goals exact ⟨w.heap.size, rfl, Box.fresh w _ _ rfl, (bel_new w _).drew⟩

def OfPost (w : World) (l : List Nat) (e : Ending) (w' : World) : Prop :=
  ∃ g, e = .returned (.pointer (some ⟨g, 0, none⟩)) ∧ DecAt w' w.heap.size g ⟨l, 0, 0⟩ ∧ Below w.heap.size w w'
set_option maxHeartbeats 1000000 in
theorem of_any (A : Option Addr) (n c : Nat) (l : List Nat) (w : World) (hn : n ≤ 1000000) (hc0 : A = none → c = 0) (h : Byt w w.heap.size A n l) :
    Calls Tryd.prog 43 #[.slice A n c] w (OfPost w l) := by
  have hcl := clone_any A n c l w (by omega) hc0 h
  have HC := Lib.hid hcl
  have HY := Lib.hid h
  clear hcl hc0 h
  go_enter Tryd.func43, Tryd.ntmps43
  go_wp2_with fail
  refine HC.out.mono ?_
  rintro e w1 ⟨hb1, A1, c1, rfl, h1, h2, h3⟩
  have H3 := Lib.hid h3
  have H2 := Lib.hid h2
  clear h3 h2 HC
  go_wp2_with fail
  go_ret
  refine ⟨w1.heap.size, rfl, ⟨A1, n, c1, Box.fresh w1 _ _ rfl, (Byt.ofOwn H3.out HY.out.bnd).carry (bel_new w1 _), H2.out, h1, hb1.size, by simp; omega⟩, bel_alloc hb1 _⟩
end Go.Proofs.YtjfjdicdokdekaaDoor

/- The reference's At; Tells of one part, a small number. -/
import Derived.Test.YtpkkhmbcbcaelaaDoorTellsAll
set_option linter.unusedSimpArgs false
namespace Go.Proofs.YtpkkhmbcbcaelaaDoor
open Go.RowKit Go.Mem1

/-- The reference's error of one part, in new memory. -/
def FAt (w : World) (l : List (ByteArray × Int)) (x : Int) (e : Ending) (w' : World) : Prop :=
  ∃ A n c, e = .returned (.agg #[.slice A n c, .int .i64 x]) ∧ PartsAt w' w'.heap.size A n l ∧ Below w.heap.size w w'
set_option maxHeartbeats 1000000 in
theorem fAt_any (s : ByteArray) (k x : Int) (w : World) : Calls Tryd.prog 10 #[.string s, .int .i64 k, .int .i64 x] w (FAt w [(s, k)] x) := by
  go_enter Tryd.func10, Tryd.ntmps10
  go_wp2_with fail
  refine bodyPost_ret (v := .agg #[.slice (some ⟨w.heap.size + 1, 0, none⟩) 1 1, .int .i64 x]) (by simp [results, Tryd.results10, go_sem]) rfl ⟨_, 1, 1, rfl, ⟨rfl, fun i y hi => ?_⟩, ?_⟩
  · match i, hi with
    | 0, hi =>
      injection hi with hi
      subst hi
      exact ⟨_, 0, rfl, by simp, by simp, by simp⟩
  · exact bel_alloc (bel_new w _) _
theorem PartsAt.wide {w : World} {B B' : Nat} {A : Option Addr} {n : Nat} {l : List (ByteArray × Int)} (h : PartsAt w B A n l) (hB : B ≤ B') : PartsAt w B' A n l :=
  ⟨h.len, fun i x hx => by
    obtain ⟨b, off, e, hlt, h1, h2⟩ := h.at_ i x hx
    exact ⟨b, off, e, by omega, h1, h2⟩⟩
/-- Tells of one part, a small number. -/
theorem tells_one (s : ByteArray) (k e : Nat) (A : Option Addr) (n c b : Nat) (w : World) (hg : ErrType w) (hE : IsErr w w.heap.size [(s, (k : Int))] (e : Int) (.iface 73 (.pointer (some ⟨b, 0, none⟩)))) (h : PartsAt w w.heap.size A n [(s, (k : Int))]) (hs : s.size ≤ 100) (hk : k < 100) (he : e ≤ 14) (he0 : e ≠ 0) :
    Calls Tryd.prog 11 #[.iface 73 (.pointer (some ⟨b, 0, none⟩)), .agg #[.slice A n c, .int .i64 (e : Int)]] w fun r w' => r = .returned (.bool true) ∧ Below w.heap.size w w' :=
  tells_all numSmall s (k : Int) [] A n c e b w hg hE h trivial (fun x hx => by
    simp at hx; subst hx
    exact ⟨hs, by dsimp only; omega, by dsimp only; omega⟩) (by simp) he he0
end Go.Proofs.YtpkkhmbcbcaelaaDoor

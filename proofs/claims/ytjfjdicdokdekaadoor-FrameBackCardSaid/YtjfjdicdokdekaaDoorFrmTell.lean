/- What the frame's laws ask: the reference's At; Tells of one part, a small number; texts. -/
import Derived.Test.YtjfjdicdokdekaaDoorFrmKnown
import Derived.Test.YtjfjdicdokdekaaDoorTellsAll
set_option linter.unusedSimpArgs false
namespace Go.Proofs.YtjfjdicdokdekaaDoor
open Go.RowKit Go.Mem1

/-- The reference's error of one part, in new memory. -/
def FAt (w : World) (l : List (ByteArray × Int)) (x : Int) (e : Ending) (w' : World) : Prop :=
  ∃ A n c, e = .returned (.agg #[.slice A n c, .int .i64 x]) ∧ PartsAt w' w'.heap.size A n l ∧ Below w.heap.size w w'
set_option maxHeartbeats 1000000 in
theorem fAt_any (s : ByteArray) (k x : Int) (w : World) : Calls Tryd.prog 19 #[.string s, .int .i64 k, .int .i64 x] w (FAt w [(s, k)] x) := by
  go_enter Tryd.func19, Tryd.ntmps19
  go_wp2_with fail
  refine bodyPost_ret (v := .agg #[.slice (some ⟨w.heap.size + 1, 0, none⟩) 1 1, .int .i64 x]) (by simp [results, Tryd.results19, go_sem]) rfl ⟨_, 1, 1, rfl, ⟨rfl, fun i y hi => ?_⟩, ?_⟩
  · match i, hi with
    | 0, hi =>
      injection hi with hi
      subst hi
      exact ⟨_, 0, rfl, by simp, by simp, by simp⟩
  · exact bel_alloc (bel_new w _) _
theorem PartsAt.wide {w : World} {B B' : Nat} {A : Option Addr} {n : Nat} {l : List (ByteArray × Int)} (h : PartsAt w B A n l) (hB : B ≤ B') : PartsAt w B' A n l :=
  ⟨h.len, fun i x hx => by
    obtain ⟨b, off, e, hlt, h1, h2⟩ := h.at_ i x hx
    exact ⟨b, off, e, by omega, h1, h2⟩⟩
/-- Tells of a frame's own error. -/
theorem tells_frame (k e : Nat) (A : Option Addr) (n c b : Nat) (w : World) (hg : ErrType w) (hE : IsErr w w.heap.size [(frameBytes, (k : Int))] (e : Int) (.iface 78 (.pointer (some ⟨b, 0, none⟩)))) (h : PartsAt w w.heap.size A n [(frameBytes, (k : Int))]) (hk : k < 100) (he : e ≤ 14) (he0 : e ≠ 0) :
    Calls Tryd.prog 15 #[.iface 78 (.pointer (some ⟨b, 0, none⟩)), .agg #[.slice A n c, .int .i64 (e : Int)]] w fun r w' => r = .returned (.bool true) ∧ Below w.heap.size w w' :=
  tells_all numSmall frameBytes (k : Int) [] A n c e b w hg hE h trivial (fun x hx => by
    simp at hx; subst hx
    exact ⟨(show frameBytes.size ≤ 100 by decide), by dsimp only; omega, by dsimp only; omega⟩) (by simp) he he0
set_option maxRecDepth 100000 in
set_option maxHeartbeats 1000000 in
/-- A row of rows of bytes is what another one is. -/
theorem texts_same (A A2 : Option Addr) (n n2 c c2 : Nat) (ls : List (List Nat)) (w : World) (B : Nat) (hn : n ≤ 100000000) (h : Parts w B A n ls) (h2 : Parts w B A2 n2 ls) :
    Calls Tryd.prog 14 #[.slice A n c, .slice A2 n2 c2] w fun e w' => e = .returned (.bool true) ∧ Below w.heap.size w w' := by
  obtain rfl : n2 = n := by have := h.len; have := h2.len; omega
  have H := Lib.hid h
  have H2 := Lib.hid h2
  have hlw := h.len
  clear h h2
  go_enter Tryd.func14, Tryd.ntmps14
  go_wp2_with fail
  go_loopw [5] (fun v3 wr => ∃ k : Nat, k ≤ n2 ∧ v3 = .int .i64 k ∧ Hid (Below w.heap.size w wr) ∧ Hid (Parts wr B A n2 ls) ∧ Hid (Parts wr B A2 n2 ls)) (fun v3 _ => n2 - (intOf v3).toNat)
  case atStart => exact ⟨0, Nat.zero_le _, rfl, Lib.hid (Below.refl _ _), H, H2⟩
  case round =>
    obtain ⟨k, hk, rfl, hB, hP, hP2⟩ := hrel
    by_cases hlt : k < n2
    · obtain ⟨b1, o1, A1, m1, c1, l1, rfl, hb1, hl1, hc1, _, hy1⟩ := hP.out.at_ hlt
      obtain ⟨b3, o3, A3, m3, c3, l3, rfl, hb3, hl3, hc3, _, hy3⟩ := hP2.out.at_ hlt
      obtain rfl : l1 = l3 := Option.some.inj (hl1.symm.trans hl3)
      have keepS := fun w' (hb : Below B wr w') => (⟨(hb.cell (p := ⟨b1, o1 + k, none⟩) hb1).trans hc1, (hb.cell (p := ⟨b3, o3 + k, none⟩) hb3).trans hc3, conv_str (hy1.carry hb) c1, conv_str (hy3.carry hb) c3⟩ : w'.cell? ⟨b1, o1 + k, none⟩ = some (.slice A1 m1 c1) ∧ w'.cell? ⟨b3, o3 + k, none⟩ = some (.slice A3 m3 c3) ∧ (convert 22 9 (.slice A1 m1 c1)).run Tryd.prog w' = .ok (.string (strOf l1)) w' ∧ (convert 22 9 (.slice A3 m3 c3)).run Tryd.prog w' = .ok (.string (strOf l1)) w')
      generalize strOf l1 = S at *
      have hS0 := keepS wr (Below.refl _ _)
      have KS := Lib.hid keepS
      have B0 : Below B wr wr.drew := (Below.refl _ _).drew
      clear keepS hc1 hc3 hy1 hy3 hl1 hl3
      go_wp2_with fail
      go_region_held3 (fun w' => w'.cell? ⟨b1, o1 + k, none⟩ = some (.slice A1 m1 c1) ∧ w'.cell? ⟨b3, o3 + k, none⟩ = some (.slice A3 m3 c3) ∧ (convert 22 9 (.slice A1 m1 c1)).run Tryd.prog w' = .ok (.string S) w' ∧ (convert 22 9 (.slice A3 m3 c3)).run Tryd.prog w' = .ok (.string S) w')
        (first | exact hS0 | exact KS.out _ B0) (fail)
      all_goals
        go_wp2_with fail
        go_roundw
        case rel => exact ⟨k + 1, by omega, by go_num, Lib.hid hB.out.drew, Lib.hid (hP.out.carry (Below.refl _ _).drew), Lib.hid (hP2.out.carry (Below.refl _ _).drew)⟩
        case measure => simp [intOf]; omega
    · obtain rfl : k = n2 := by omega
      go_wp2_with fail
      go_ret
      exact ⟨rfl, hB.out⟩
end Go.Proofs.YtjfjdicdokdekaaDoor

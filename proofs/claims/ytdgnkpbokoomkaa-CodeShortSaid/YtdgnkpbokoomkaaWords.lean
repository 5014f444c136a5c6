/- The reference's Word, At, Words. -/
import Derived.Test.YtdgnkpbokoomkaaTxt
import Derived.Deep.RegionHeld3
namespace Go.Proofs.Ytdgnkpbokoomkaa
open Go.RowKit Go.Mem1

set_option maxRecDepth 100000 in
set_option maxHeartbeats 2000000 in
theorem refWord_any (e : Nat) (w : World) (h : e ≤ 14) : Calls Try.prog 25 #[.int .i64 (e : Int)] w fun r w' => r = .returned (.string (word e)) ∧ Below w.heap.size w w' := by
  obtain rfl | rfl | rfl | rfl | rfl | rfl | rfl | rfl | rfl | rfl | rfl | rfl | rfl | rfl | rfl : e = 0 ∨ e = 1 ∨ e = 2 ∨ e = 3 ∨ e = 4 ∨ e = 5 ∨ e = 6 ∨ e = 7 ∨ e = 8 ∨ e = 9 ∨ e = 10 ∨ e = 11 ∨ e = 12 ∨ e = 13 ∨ e = 14 := by omega
  all_goals
    go_enter Try.func25, Try.ntmps25
    go_wp2
    go_ret
    exact ⟨rfl, bel_new _ _⟩

/-- An error of one part, as the reference has it. -/
def WrongAt (w : World) (s : ByteArray) (p e : Nat) (v : Value) : Prop := ∃ g, v = .agg #[.slice (some ⟨g, 0, none⟩) 1 1, .int .i64 (e : Int)] ∧ Box w g 67 #[.string s, .int .i64 (p : Int)]
def AtPost (w : World) (s : ByteArray) (p e : Nat) (r : Ending) (w' : World) : Prop := ∃ v, r = .returned v ∧ WrongAt w' s p e v ∧ Below w.heap.size w w'
set_option maxHeartbeats 1000000 in
theorem refAt_any (s : ByteArray) (p e : Nat) (w : World) : Calls Try.prog 18 #[.string s, .int .i64 (p : Int), .int .i64 (e : Int)] w (AtPost w s p e) := by
  go_enter Try.func18, Try.ntmps18
  go_wp2
  exact bodyPost_ret (v := .agg #[.slice (some ⟨w.heap.size + 1, 0, none⟩) 1 1, .int .i64 (e : Int)]) (by simp [results, Try.results18, go_sem]) rfl ⟨_, rfl, ⟨_, rfl, Box.fresh _ _ _ (by simp)⟩, bel_alloc (bel_new _ _) _⟩

set_option maxRecDepth 100000 in
set_option maxHeartbeats 2000000 in
theorem refWords_any (s : ByteArray) (p e : Nat) (v : Value) (w : World) (h : WrongAt w s p e v) (hs : s.size ≤ 100) (hp : p < 100) (he : e ≤ 14) :
    Calls Try.prog 17 #[v] w fun r w' => r = .returned (.string (told s p e)) ∧ Below w.heap.size w w' := by
  obtain ⟨g, rfl, hb⟩ := h
  have hgl := hb.there
  have hb1 := hb.kept_below (bel_new w (.cells #[.slice (some ⟨g, 0, none⟩) 1 1, .int .i64 (e : Int)] 47)) hgl
  have p0 := hb1.reads 0
  have p1 := hb1.reads 1
  simp at p0 p1
  have t1 := txt_size p
  have t2 := word_size e
  have HB := Lib.hid hb1
  clear hb hb1
  go_enter Try.func17, Try.ntmps17
  go_wp2_with fail
  go_loopw [3, 4] (fun v3 v4 wr => Below w.heap.size w wr ∧ w.heap.size < wr.heap.size ∧ wr.cell? ⟨w.heap.size, 0, none⟩ = some (.slice (some ⟨g, 0, none⟩) 1 1) ∧ wr.cell? ⟨w.heap.size, 1, none⟩ = some (.int .i64 (e : Int)) ∧
    ((v3 = .string ⟨#[]⟩ ∧ v4 = .int .i64 0) ∨ (v3 = .string (s ++ ⟨#[32]⟩ ++ txt p ++ ⟨#[58, 32]⟩) ∧ v4 = .int .i64 1))) (fun _ v4 _ => 1 - (intOf v4).toNat)
  case atStart => exact ⟨bel_new _ _, by simp, by simp, by simp, .inl ⟨rfl, rfl⟩⟩
  case round =>
    obtain ⟨hb, hz, b0, b1, ⟨rfl, rfl⟩ | ⟨rfl, rfl⟩⟩ := hrel
    · have r0 : wr.cell? ⟨g, 0, none⟩ = some (.string s) := (hb.cell (p := ⟨g, 0, none⟩) hgl).trans (by rw [World.cell?_alloc_lt _ _ ⟨g, 0, none⟩ hgl] at p0; exact p0)
      have r1 : wr.cell? ⟨g, 1, none⟩ = some (.int .i64 (p : Int)) := (hb.cell (p := ⟨g, 1, none⟩) hgl).trans (by rw [World.cell?_alloc_lt _ _ ⟨g, 1, none⟩ hgl] at p1; exact p1)
      have q0 : ¬ 9223372036854775807 < s.size := by omega
      have q1 : ¬ 9223372036854775807 < s.size + 1 := by omega
      have q2 : ¬ 9223372036854775807 < s.size + 1 + (txt p).size := by omega
      have q3 : ¬ 9223372036854775807 < s.size + 1 + (txt p).size + 2 := by omega
      have z0 : (⟨#[]⟩ : ByteArray).size = 0 := rfl
      have z1 : (⟨#[32]⟩ : ByteArray).size = 1 := rfl
      have z2 : (⟨#[58, 32]⟩ : ByteArray).size = 2 := rfl
      have ze : (⟨#[]⟩ : ByteArray) ++ s = s := by show ByteArray.empty ++ s = s; simp
      clear p0 p1
      go_wp2_with fail
      go_region_held3 (fun w' => w'.cell? ⟨w.heap.size, 0, none⟩ = some (.slice (some ⟨g, 0, none⟩) 1 1) ∧ w'.cell? ⟨g, 0, none⟩ = some (.string s) ∧ w'.cell? ⟨g, 1, none⟩ = some (.int .i64 (p : Int)))
        (first | exact ⟨b0, r0, r1⟩ | exact ⟨k0, k1, k2⟩)
        ((first | (go_at_call 24; refine (refText_any p wr.drew hp).mono ?_; rintro r w5 ⟨rfl, hb5⟩
                   have Bs : Below wr.heap.size wr w5 := ((Below.refl wr.heap.size wr).drew).trans hb5
                   have k0 := (Bs.cell (p := ⟨w.heap.size, 0, none⟩) hz).trans b0
                   have k3 := (Bs.cell (p := ⟨w.heap.size, 1, none⟩) hz).trans b1
                   have k1 := (Bs.cell (p := ⟨g, 0, none⟩) (show g < wr.heap.size by omega)).trans r0
                   have k2 := (Bs.cell (p := ⟨g, 1, none⟩) (show g < wr.heap.size by omega)).trans r1
                   have B5 := bel_trans hb Bs
                   have hz5 : w.heap.size < w5.heap.size := Nat.lt_of_lt_of_le hz Bs.size)))
      all_goals
        go_wp2_with fail
        go_roundw
        case rel => exact ⟨B5, hz5, k0, k3, .inr ⟨rfl, rfl⟩⟩
        case measure => simp [intOf]
    · have q4 : ¬ 9223372036854775807 < s.size + 1 + (txt p).size + 2 + (word e).size := by omega
      have z1 : (⟨#[32]⟩ : ByteArray).size = 1 := rfl
      have z2 : (⟨#[58, 32]⟩ : ByteArray).size = 2 := rfl
      clear p0 p1
      go_wp2_with (go_at_call 25; refine (refWord_any e _ he).mono ?_; rintro r w5 ⟨rfl, hb5⟩)
      go_ret
      exact ⟨rfl, bel_trans hb hb5⟩
end Go.Proofs.Ytdgnkpbokoomkaa

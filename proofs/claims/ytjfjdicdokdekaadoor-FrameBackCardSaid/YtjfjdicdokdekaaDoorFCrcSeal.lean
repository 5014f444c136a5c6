/- Contract of the landed crc's Seal. -/
import Derived.Test.YtjfjdicdokdekaaDoorFCrcFns
namespace Go.Proofs.YtjfjdicdokdekaaDoor
open Go.RowKit Go.Mem1

theorem size_new (w : World) (o : Obj) : (w.alloc o).heap.size = w.heap.size + 1 := by simp
def Sealed (w : World) (n : Nat) (l : List Nat) (e : Ending) (w' : World) : Prop := ∃ A1 c1, e = .returned (.slice A1 (n + 4) c1) ∧ n + 4 ≤ c1 ∧ Byt w' w'.heap.size A1 (n + 4) (l ++ le4 (sumOf l)) ∧ Below w.heap.size w w'
set_option maxRecDepth 100000 in
set_option maxHeartbeats 1000000 in
theorem seal_any (A : Option Addr) (n c : Nat) (l : List Nat) (w : World) (hT : Halves w) (hn : n ≤ 1000000) (hc0 : A = none → c = 0) (h : Byt w w.heap.size A n l) :
    Calls Tryd.prog 37 #[.slice A n c] w (Sealed w n l) := by
  obtain ⟨i0, hi0, hz0, hz1, hz2⟩ := info_parts u8_info
  obtain ⟨m0, m1, m2, m3, hm⟩ : ∃ m0 m1 m2 m3, le4 (sumOf l) = [m0, m1, m2, m3] := ⟨_, _, _, _, rfl⟩
  have hmb : ∀ x ∈ [m0, m1, m2, m3], x < 256 := by rw [← hm]; simp only [le4, List.mem_cons, List.not_mem_nil, or_false]; omega
  have c1 := mark_any m0 m1 m2 m3 A n c l w hm hT (by omega) h
  have C1 := Lib.hid c1
  have HM := Lib.hid hm
  have HN := Lib.hid hc0
  have H := Lib.hid h
  clear c1 hm hc0 h hT
  go_enter Tryd.func37, Tryd.ntmps37
  go_wp2_with fail
  refine C1.out.mono ?_
  rintro e w1 ⟨rfl, hb1⟩
  clear C1
  have hz := hb1.size
  have hR := Rd.made w1 #[.int .u8 (m0 : Int), .int .u8 (m1 : Int), .int .u8 (m2 : Int), .int .u8 (m3 : Int)] 124 4 rfl
  have hA2 := H.out.rd.carry (bel_trans hb1 (bel_new w1 (.cells #[.int .u8 (m0 : Int), .int .u8 (m1 : Int), .int .u8 (m2 : Int), .int .u8 (m3 : Int)] 124)))
  have hB2 := bel_trans hb1 (bel_new w1 (.cells #[.int .u8 (m0 : Int), .int .u8 (m1 : Int), .int .u8 (m2 : Int), .int .u8 (m3 : Int)] 124))
  clear hb1
  go_wp2_with (first
    | (at_make
       refine wpList_make_own _ rfl _ _ 22 rfl (w1.heap.size + 1) 5 i0 (.int .u8 0) 1 Tryd.underlying22 hi0 hz0 hz1 .i64 .i64 _ (n + 4) rfl rfl (by omega) (by rw [hz2]; omega) (by unfold maxLen; omega) (by simp) ?_
       intro w2 hown2 hg2
       rw [size_new] at hown2
       have hb2 : Below (w1.heap.size + 1) (w1.alloc (.cells #[.int .u8 (m0 : Int), .int .u8 (m1 : Int), .int .u8 (m2 : Int), .int .u8 (m3 : Int)] 124)) w2 := (Below.refl _ _).grown hg2 (by simp) (by simp)
       have hz2' : w1.heap.size + 1 ≤ w2.heap.size := by have := hb2.size; simpa using this
       clear hg2)
    | (at_builtin
       refine wpList_append rfl (.tmp 11) (.tmp 12) _ rfl (w1.heap.size + 1) 5 i0 _ 1 Tryd.underlying22 hi0 hz0 hz1 hz2 rfl (.slice (some ⟨w1.heap.size + 1, 0, none⟩) 0 (n + 4)) 0 [] rfl hown2 A n c HN.out (l.map bv) rfl (hA2.carry (hb2.mono (by omega))) (oneCell_bv l) (by simp only [maxLen]; omega) (by omega) hz2' ?_
       intro v3 w3 hown3 hg3 hat3
       have hb3 : Below (w1.heap.size + 1) (w1.alloc (.cells #[.int .u8 (m0 : Int), .int .u8 (m1 : Int), .int .u8 (m2 : Int), .int .u8 (m3 : Int)] 124)) w3 := hb2.grown hg3 hz2' (fun k hk => (hown2.lt k hk).1)
       have hz3 : w1.heap.size + 1 ≤ w3.heap.size := by have := hb3.size; simpa using this
       clear hg3 hat3
       simp only [Nat.zero_add, List.nil_append] at hown3)
    | (at_builtin
       refine wpList_append rfl (.tmp 14) (.tmp 15) _ rfl (w1.heap.size + 1) 5 i0 _ 1 Tryd.underlying22 hi0 hz0 hz1 hz2 rfl v3 n (l.map bv) rfl hown3 (some ⟨w1.heap.size, 0, none⟩) 4 4 (by intro h; cases h) _ rfl (hR.carry hb3) (by intro u hu; simp at hu; rcases hu with rfl | rfl | rfl | rfl <;> rfl) (by simp only [maxLen]; omega) (by omega) hz3 ?_
       intro v4 w4 hown4 hg4 hat4
       have hb4 : Below (w1.heap.size + 1) (w1.alloc (.cells #[.int .u8 (m0 : Int), .int .u8 (m1 : Int), .int .u8 (m2 : Int), .int .u8 (m3 : Int)] 124)) w4 := hb3.grown hg4 hz3 (fun k hk => (hown3.lt k hk).1)
       clear hg4 hat4))
  go_ret
  have hv := hown4.2
  have hx : (l ++ le4 (sumOf l)).map bv = l.map bv ++ [.int .u8 (m0 : Int), .int .u8 (m1 : Int), .int .u8 (m2 : Int), .int .u8 (m3 : Int)] := by rw [HM.out]; simp [bv]
  rcases hv with ⟨_, h0⟩ | ⟨g, cap, cur, rfl, _, _, hcap, _⟩
  · omega
  · refine ⟨_, cap, rfl, hcap, ⟨?_, ?_⟩, ?_⟩
    · rw [hx]; exact Rd.ofOwn hown4
    · intro x hx
      rcases List.mem_append.1 hx with h | h
      · exact H.out.bnd x h
      · rw [HM.out] at h; exact hmb x h
    · exact hB2.trans (hb4.mono (by omega))
end Go.Proofs.YtjfjdicdokdekaaDoor

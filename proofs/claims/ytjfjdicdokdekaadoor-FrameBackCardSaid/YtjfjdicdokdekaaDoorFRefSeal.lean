/- Contract of ref.Seal. -/
import Derived.Test.YtjfjdicdokdekaaDoorFRefSum
import Derived.Deep.RegionWith
import Derived.Deep.QuietTactic
import Derived.BigQuiet
namespace Go.Proofs.YtjfjdicdokdekaaDoor
open Go.RowKit Go.Mem1

def le4 (s : Nat) : List Nat := [s % 256, s / 256 % 256, s / 65536 % 256, s / 16777216 % 256]

theorem sumOf_lt {l : List Nat} (h : ∀ x ∈ l, x < 256) : sumOf l < 4294967296 :=
  Nat.xor_lt_two_pow (n := 32) (CrcMath.fold_lt (by decide) h) (by decide)

theorem bv_le4 {S : Nat} (hS : S < 4294967296) : (le4 S).map bv = [.int .u8 ((S : Int) % 256), .int .u8 ((S : Int) / 256 % 256), .int .u8 ((S : Int) / 65536 % 256), .int .u8 ((S : Int) / 16777216)] := by
  simp only [le4, bv, List.map_cons, List.map_nil]
  rw [show S / 16777216 % 256 = S / 16777216 by omega]
  rfl

set_option maxHeartbeats 400000 in
set_option maxRecDepth 100000 in
theorem refSeal_any (A : Option Addr) (n c : Nat) (l : List Nat) (w : World) (hn : n ≤ 140737488355000) (hc0 : A = none → c = 0) (h : Byt w w.heap.size A n l) :
    Calls Tryd.prog 31 #[.slice A n c] w fun e w' => ∃ v, e = .returned v ∧ w'.ownsRow w.heap.size 5 1 v (n + 4) ((l ++ le4 (sumOf l)).map bv) ∧ Below w.heap.size w w' := by
  obtain ⟨i0, hi0, hz0, hz1, hz2⟩ := info_parts u8_info
  go_enter Tryd.func31, Tryd.ntmps31
  go_wp2_with fail
  refine (refSum_any A n c l _ w.heap.size (by omega) h).mono ?_
  rintro e w' ⟨rfl, rfl⟩
  have hS : sumOf l < 4294967296 := sumOf_lt h.bnd
  generalize hSd : sumOf l = S at *
  have HS := Lib.hid hSd; clear hSd
  have HN := Lib.hid hc0; clear hc0
  go_wp2_with (first
    | (at_builtin
       refine wpList_append rfl (.tmp 6) (.tmp 7) _ rfl w.heap.size 5 i0 _ 1 Tryd.underlying22 hi0 hz0 hz1 hz2 rfl (.slice (some ⟨w.heap.size, 0, none⟩) 0 0) 0 [] rfl (World.ownsRow_made w #[] 0 (Nat.le_refl _) (by simp [maxLen]) rfl) A n c HN.out (l.map bv) rfl (h.rd.carry ((Below.refl _ _).alloc (Nat.le_refl _) _)) (oneCell_bv l) (by simp only [maxLen]; omega) (by omega) (by simp) ?_ 
       intro v1 w1 hown1 hg1 hat1
       have hb1 : Below w.heap.size w w1 := ((Below.refl _ _).alloc (Nat.le_refl _) _).grown hg1 (by simp) (by simp [Value.ownBlock])
       have H1 := Lib.hid hat1; clear hat1
       simp only [Nat.zero_add, List.nil_append] at hown1)
    | (at_builtin
       refine wpList_append rfl (.tmp 8) (.tmp 20) _ rfl w.heap.size 5 i0 _ 1 Tryd.underlying22 hi0 hz0 hz1 hz2 rfl v1 n (l.map bv) rfl (hown1.alloc _) (some ⟨w1.heap.size, 0, none⟩) 4 4 (by simp) _ rfl (Rd.made w1 _ 5 4 rfl) (by intro u hu; simp at hu; rcases hu with rfl | rfl | rfl | rfl <;> rfl) (by simp only [maxLen]; omega) (by omega) (by have := hb1.size; simp; omega) ?_
       intro v2 w2 hown2 hg2 hat2))
  go_ret
  refine ⟨v2, rfl, ?_, (hb1.alloc hb1.size _).grown hg2 (by have := hb1.size; simp; omega) (fun k hk => (hown1.lt k hk).1)⟩
  rw [HS.out, bv_le4 hS]
  exact hown2
end Go.Proofs.YtjfjdicdokdekaaDoor

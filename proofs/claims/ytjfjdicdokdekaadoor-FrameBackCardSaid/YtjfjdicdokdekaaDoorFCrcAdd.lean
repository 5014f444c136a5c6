/- The landed crc's table of half bytes and its Add: four steps of CRC-32 at once are a look-up; Add goes on where a sum stood; the world is as it was. -/
import Derived.Test.YtjfjdicdokdekaaDoorFByt
namespace Go.Proofs.YtjfjdicdokdekaaDoor
open Go.RowKit Go.Mem1

def halvesL : List Nat := [0, 498536548, 997073096, 651767980, 1994146192, 1802195444, 1303535960, 1342533948, 3988292384, 4027552580, 3604390888, 3412177804, 2607071920, 2262029012, 2685067896, 3183342108]
/-- The table lies as the program's text lays it. -/
def Halves (w : World) : Prop := ∀ k, k < 16 → w.cell? ⟨1, k, none⟩ = some (.int .u32 ((halvesL.getD k 0 : Nat) : Int))
theorem Halves.lt {w : World} (h : Halves w) : 1 < w.heap.size := World.block_lt_of_cell? w _ (h 0 (by omega))
theorem Halves.carry {w w' : World} {B : Nat} (h : Halves w) (hb : Below B w w') (hB : 1 < B) : Halves w' :=
  fun k hk => (hb.cell (p := ⟨1, k, none⟩) hB).trans (h k hk)
theorem Halves.below {w w' : World} (h : Halves w) (hb : Below w.heap.size w w') : Halves w' := h.carry hb h.lt
theorem Halves.alloc {w : World} (h : Halves w) (o : Obj) : Halves (w.alloc o) := h.below (bel_new _ _)

theorem halves_lt {k : Nat} (h : k < 16) : halvesL.getD k 0 < 4294967296 := by
  have : ∀ k : Fin 16, halvesL.getD k.val 0 < 4294967296 := by decide
  exact this ⟨k, h⟩
theorem iter4_low {r : Nat} (h : r < 16) : CrcMath.iter 4 r = halvesL.getD r 0 := by
  have : ∀ r : Fin 16, CrcMath.iter 4 r.val = halvesL.getD r.val 0 := by decide +kernel
  exact this ⟨r, h⟩
theorem iter4_high (y : Nat) : CrcMath.iter 4 (y * 16) = y := by
  have st : ∀ z, CrcMath.step (2 * z) = z := fun z => by unfold CrcMath.step; rw [if_neg (by omega)]; omega
  simp only [CrcMath.iter]
  rw [show y * 16 = 2 * (2 * (2 * (2 * y))) by omega, st, st, st, st]
theorem split16 (x : Nat) : x = (x / 16 * 16) ^^^ (x % 16) := by
  apply Nat.eq_of_testBit_eq; intro i
  rw [Nat.testBit_xor, show x / 16 * 16 = x / 2 ^ 4 * 2 ^ 4 from rfl, show x % 16 = x % 2 ^ 4 from rfl, Nat.testBit_mul_two_pow, Nat.testBit_mod_two_pow, Nat.testBit_div_two_pow]
  by_cases h : i < 4
  · simp [h, show ¬ 4 ≤ i by omega]
  · simp [h, show 4 ≤ i by omega, show i - 4 + 4 = i by omega]
theorem iter4 (x : Nat) : CrcMath.iter 4 x = x / 16 ^^^ halvesL.getD (x % 16) 0 := by
  conv => lhs; rw [split16 x]
  rw [CrcMath.iter_xor, iter4_high, iter4_low (Nat.mod_lt _ (by omega))]
theorem and15 {I : Nat} (h : I < 4294967296) : bits .and .u32 (I : Int) 15 = ((I % 16 : Nat) : Int) := by
  have := u32_and_nat I 15 h (by omega)
  rw [show I &&& 15 = I % 16 from Nat.and_two_pow_sub_one_eq_mod I 4] at this
  exact this

theorem xor16 {G T : Nat} (hG : G < 4294967296) (hT : T < 4294967296) : bits .xor .u32 ((G : Int) / 16) (T : Int) = ((G / 16 ^^^ T : Nat) : Int) := by
  have := u32_xor_nat (G / 16) T (by omega) hT
  rw [← this]; rfl

def addOf (s : Nat) (l : List Nat) : Nat := CrcMath.fold (s ^^^ 4294967295) l ^^^ 4294967295

set_option maxHeartbeats 400000 in
theorem add_any (s : Nat) (A : Option Addr) (n c : Nat) (l : List Nat) (w : World) (B : Nat) (hT : Halves w) (hs : s < 4294967296) (hn : n ≤ 140737488355328) (h : Byt w B A n l) :
    Calls Tryd.prog 90 #[.int .u32 (s : Int), .slice A n c] w fun e w' => e = .returned (.int .u32 ((addOf s l : Nat) : Int)) ∧ w = w' := by
  have H := Lib.hid h; clear h
  have HT := Lib.hid hT; clear hT
  have hs2 : s ^^^ 4294967295 < 4294967296 := Nat.xor_lt_two_pow (n := 32) hs (by decide)
  go_enter Tryd.func90, Tryd.ntmps90
  go_wp2
  go_loop [5, 12] (fun v5 v12 => ∃ k : Nat, k ≤ n ∧ v12 = .int .i64 k ∧ v5 = .int .u32 ((CrcMath.fold (s ^^^ 4294967295) (l.take k) : Nat) : Int)) (fun _ v12 => n - (intOf v12).toNat)
  case atStart => exact ⟨0, Nat.zero_le _, rfl, by rw [not_u32 hs]; rfl⟩
  case round =>
    obtain ⟨k, hk, rfl, rfl⟩ := hrel
    have hF : CrcMath.fold (s ^^^ 4294967295) (l.take k) < 4294967296 := CrcMath.fold_lt hs2 (fun x hx => H.out.bnd x (List.mem_of_mem_take hx))
    by_cases hlt : k < n
    · obtain ⟨b, off, X, rfl, hbw, hX, hlk, hck⟩ := H.out.at_ hlt
      have hstep := fold_take_step (s ^^^ 4294967295) l k X hlk
      generalize CrcMath.fold (s ^^^ 4294967295) (l.take k) = F at *
      have HS := Lib.hid hstep; clear hstep
      have HL := Lib.hid hlk; clear hlk
      have hG : F ^^^ X < 4294967296 := Nat.xor_lt_two_pow (n := 32) hF (by omega)
      have e1 := u32_xor_nat F X (by omega) (by omega)
      generalize hGd : F ^^^ X = G at *
      have a1 := and15 hG
      have j1 : G % 16 < 16 := Nat.mod_lt _ (by omega)
      have c1 := HT.out (G % 16) j1
      have t1 := halves_lt j1
      have e2 := xor16 hG t1
      have i1 := iter4 G
      have hI : G / 16 ^^^ halvesL.getD (G % 16) 0 < 4294967296 := Nat.xor_lt_two_pow (n := 32) (by omega) t1
      generalize hId : G / 16 ^^^ halvesL.getD (G % 16) 0 = I at *
      have a2 := and15 hI
      have j2 : I % 16 < 16 := Nat.mod_lt _ (by omega)
      have c2 := HT.out (I % 16) j2
      have t2 := halves_lt j2
      have e3 := xor16 hI t2
      have i2 := iter4 I
      have i8 : CrcMath.iter 8 G = I / 16 ^^^ halvesL.getD (I % 16) 0 := by rw [CrcMath.iter_add 4 4, i1, i2]
      generalize I / 16 ^^^ halvesL.getD (I % 16) 0 = J at *
      generalize halvesL.getD (I % 16) 0 = T2 at *
      generalize halvesL.getD (G % 16) 0 = T1 at *
      generalize I % 16 = n2 at *
      generalize G % 16 = n1 at *
      have HG := Lib.hid hGd; clear hGd
      have HI := Lib.hid hId; clear hId
      have I1 := Lib.hid i1; clear i1
      have I2 := Lib.hid i2; clear i2
      have I8 := Lib.hid i8; clear i8
      go_wp2
      go_round
      case rel => exact ⟨k + 1, by omega, by go_num, by rw [HS.out, I8.out]⟩
      case measure => simp [intOf]; omega
    · have hk' : k = n := by omega
      have hx : CrcMath.fold (s ^^^ 4294967295) (l.take k) = CrcMath.fold (s ^^^ 4294967295) l := by rw [hk', List.take_of_length_le (by have := H.out.len; omega)]
      rw [hx] at hF ⊢
      have HX := Lib.hid hx; clear hx
      have HK := Lib.hid hk'; clear hk'
      go_wp2
      go_ret
      exact ⟨by rw [not_u32 hF]; rfl, rfl⟩
end Go.Proofs.YtjfjdicdokdekaaDoor

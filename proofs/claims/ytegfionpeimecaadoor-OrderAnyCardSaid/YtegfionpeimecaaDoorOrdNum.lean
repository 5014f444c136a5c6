/- Numbers of any size in words: what strconv.Itoa, num.Text and the reference's Text make of them, where the library's table lies as its text lays it; below 100 without it. -/
import Derived.Test.YtegfionpeimecaaDoorNum
import Derived.Test.YtegfionpeimecaaDoorTextAll
import Derived.Test.YtegfionpeimecaaDoorErrAll
import Derived.Lib.ItoaLen
import Derived.Lib.AppendIntMem
import Derived.Stop.LaidErr
namespace Go.Proofs.YtegfionpeimecaaDoor
open Go Go.RowKit Go.Mem1 Go.ChangeAt

/-- What num.Text and the reference's Text make of those numbers that are ok, in the worlds that keep what they read. -/
structure NumT (tx : Int → ByteArray) (ok : Int → Prop) (Keep : World → Prop) : Prop where
  text : ∀ (k : Int) (w : World), ok k → Keep w → Calls Tryd.prog 31 #[.int .i64 k] w fun r w' => r = .returned (.string (tx k)) ∧ Below w.heap.size w w'
  keep : ∀ (w w' : World), Keep w → Below w.heap.size w w' → Keep w'
  size : ∀ (k : Int), ok k → (tx k).size ≤ 30
def txSmall (k : Int) : ByteArray := ⟨(Lib.decDigits k.toNat).toArray⟩
theorem numText_small (i : Nat) (hi : i < 100) (w : World) : Calls Tryd.prog 31 #[.int .i64 (i : Int)] w fun r w' => r = .returned (.string ⟨(Lib.decDigits i).toArray⟩) ∧ Below w.heap.size w w' := by
  have h := Tryd.strconv_FormatInt_10_small i hi w
  have H := Lib.hid h
  clear h
  go_enter Tryd.func31, Tryd.ntmps31
  go_wp2_with (go_at_call 43; refine H.out.mono ?_; rintro e w' ⟨rfl, rfl⟩)
  go_ret
  exact ⟨rfl, Below.refl _ _⟩
theorem small_size : ∀ i, i < 100 → (Lib.decDigits i).length ≤ 30 := by decide +kernel
theorem numTSmall : NumT txSmall (fun k => 0 ≤ k ∧ k < 100) (fun _ => True) where
  text := fun k w hk _ => by
    obtain ⟨i, rfl⟩ := Int.eq_ofNat_of_zero_le hk.1
    exact numText_small i (by have := hk.2; omega) w
  keep := fun _ _ _ _ => trivial
  size := fun k hk => small_size k.toNat (by omega)
def dtx (n : Int) : ByteArray := sl (Lib.itoa n)
def Tab (w : World) : Prop := Lib.TabIs Tryd.prog w "internal/strconv.uint64pow10" .u64 Lib.pow10Tab
theorem ht10 : Tryd.prog.globalNamed "internal/strconv.uint64pow10" = some 1 := by kernel_rfl
theorem Tab.keep {w w' : World} (h : Tab w) (hB : Below w.heap.size w w') : Tab w' := by
  have h0 := h.cell ht10 0 (by rw [Lib.pow10Tab_length]; omega)
  have hlt := World.block_lt_of_cell? w _ h0
  have hb := hB.block _ hlt
  unfold Tab Lib.TabIs World.var? at *
  rw [ht10] at h ⊢
  simp only [Option.bind_some, hb] at h ⊢
  exact h
theorem itoaTxt_size (n : Int) (h : -9223372036854775808 ≤ n ∧ n ≤ 9223372036854775807) : (sl (Lib.itoa n)).size ≤ 30 := by
  have := Lib.itoa_length_le n h.1 h.2
  show (Lib.itoa n).length ≤ 30
  omega
theorem below_of_grow {w : World} {w' : World} (h : ∃ k os, w' = Go.Sort.grow (w.drewN k) os) : Below w.heap.size w w' := by
  obtain ⟨k, os, rfl⟩ := h
  exact Lib.below_grow w.heap.size w (Nat.le_refl _) k os
def bd64 (n : Int) : Prop := -9223372036854775808 ≤ n ∧ n ≤ 9223372036854775807
theorem numFull : Num (fun n => sl (Lib.itoa n)) bd64 Tab where
  itoa := fun k w hk hK => (Tryd.strconv_Itoa k hk.1 hk.2 w hK).mono fun _ _ h => ⟨h.1, below_of_grow h.2⟩
  text := fun k w hk => refText_all k w hk.1 hk.2
  keep := fun _ _ h hB => h.keep hB
  size := fun k hk => itoaTxt_size k hk
theorem numText_full (n : Int) (h : bd64 n) (w : World) (hK : Tab w) : Calls Tryd.prog 31 #[.int .i64 n] w fun r w' => r = .returned (.string (dtx n)) ∧ Below w.heap.size w w' := by
  have hc := (Tryd.strconv_FormatInt_10 n h.1 h.2 w hK).mono fun e w' h => (show e = .returned (.string (dtx n)) ∧ Below w.heap.size w w' from ⟨h.1, below_of_grow h.2⟩)
  have H := Lib.hid hc
  clear hc hK
  go_enter Tryd.func31, Tryd.ntmps31
  go_wp2_with (go_at_call 43; refine H.out.mono ?_; rintro e w' ⟨rfl, B⟩)
  go_ret
  exact ⟨rfl, B⟩
theorem numTFull : NumT dtx bd64 Tab where
  text := fun k w hk hK => numText_full k hk w hK
  keep := fun _ _ h hB => h.keep hB
  size := fun k hk => itoaTxt_size k hk
end Go.Proofs.YtegfionpeimecaaDoor

/- The known message of straddlelaw4 goes there and back. -/
import Derived.Test.YtjfjdicdokdekaaDoorMsgText
import Derived.Test.YtjfjdicdokdekaaDoorMsgSame
import Derived.Test.YtjfjdicdokdekaaDoorMsgRound
import Derived.Lib.ItoaLen
set_option linter.unusedSimpArgs false
namespace Go.Proofs.YtjfjdicdokdekaaDoor
open Go.RowKit Go.Mem1 Go.CodMath

def txSmall (k : Int) : ByteArray := ⟨(Lib.decDigits k.toNat).toArray⟩
theorem numText_small (i : Nat) (hi : i < 100) (w : World) : Calls Tryd.prog 87 #[.int .i64 (i : Int)] w fun r w' => r = .returned (.string ⟨(Lib.decDigits i).toArray⟩) ∧ Below w.heap.size w w' := by
  have h := Tryd.strconv_FormatInt_10_small i hi w
  have H := Lib.hid h
  clear h
  go_enter Tryd.func87, Tryd.ntmps87
  go_wp2_with (go_at_call 92; refine H.out.mono ?_; rintro e w' ⟨rfl, rfl⟩)
  go_ret
  exact ⟨rfl, Below.refl _ _⟩
theorem small_size : ∀ i, i < 100 → (Lib.decDigits i).length ≤ 30 := by decide +kernel
theorem numTSmall : NumT txSmall (fun k => 0 ≤ k ∧ k < 100) (fun _ => True) where
  text := fun k w hk _ => by
    obtain ⟨i, rfl⟩ := Int.eq_ofNat_of_zero_le hk.1
    exact numText_small i (by have := hk.2; omega) w
  keep := fun _ _ _ _ => trivial
  size := fun k hk => small_size k.toNat (by omega)
theorem known_text : textOf txSmall ⟨1, 2, 0, 0, 0, 0, 0, 0⟩ [] = ⟨#[49, 32, 50, 32, 48, 32, 48, 32, 48, 32, 48, 32, 48, 32, 48]⟩ := by decide +kernel
def kHd : Hd := ⟨11, 3, 1, 0, 0, 0, 0, 0⟩
def kRows : List R5 := [⟨1, 1, 2, 0, 0⟩, ⟨2, -1, 1, 0, 0⟩]
theorem kHd_ok : kHd.ok := by intro z hz; simp [kHd, Hd.l] at hz; omega
theorem kRows_ok : ∀ x ∈ kRows, x.ok := by
  intro x hx z hz
  simp [kRows] at hx
  rcases hx with rfl | rfl <;> (simp [R5.l] at hz; omega)
theorem kDec : decOut (encOf kHd kRows) = ⟨[], 0, kHd, kRows⟩ := decOut_enc kHd kRows kHd_ok kRows_ok (by decide) (by decide)
theorem kSame : sameB kHd kHd kRows kRows = true := sameB_iff.2 ⟨rfl, rfl⟩
set_option maxRecDepth 100000 in
set_option maxHeartbeats 1000000 in
theorem mknown_ok (w : World) :
    Calls Tryd.prog 23 #[] w fun e w' => e = .returned (.bool true) ∧ Below w.heap.size w w' := by
  have hR0 : RowsAt (w.alloc (.cells #[.int .i64 1, .int .i64 1, .int .i64 2, .int .i64 0, .int .i64 0, .int .i64 2, .int .i64 (-1), .int .i64 1, .int .i64 0, .int .i64 0] 88)) (w.heap.size + 1) (some ⟨w.heap.size, 0, none⟩) 2 kRows := ⟨rfl, Rd.made w #[.int .i64 1, .int .i64 1, .int .i64 2, .int .i64 0, .int .i64 0, .int .i64 2, .int .i64 (-1), .int .i64 1, .int .i64 0, .int .i64 0] 88 10 rfl, kRows_ok⟩
  have HR0 := Lib.hid hR0
  clear hR0
  go_enter Tryd.func23, Tryd.ntmps23
  go_wp2_with fail
  have hb1 : Box ((w.alloc (.cells #[.int .i64 1, .int .i64 1, .int .i64 2, .int .i64 0, .int .i64 0, .int .i64 2, .int .i64 (-1), .int .i64 1, .int .i64 0, .int .i64 0] 88)).alloc (.cells #[.int .i64 11, .int .i64 3, .int .i64 1, .int .i64 0, .int .i64 0, .int .i64 0, .int .i64 0, .int .i64 0, .slice (some ⟨w.heap.size, 0, none⟩) 2 2] 58)) (w.heap.size + 1) 58 #[.int .i64 11, .int .i64 3, .int .i64 1, .int .i64 0, .int .i64 0, .int .i64 0, .int .i64 0, .int .i64 0, .slice (some ⟨w.heap.size, 0, none⟩) 2 2] := Box.fresh _ _ _ (by simp)
  have hr1 : RowsAt ((w.alloc (.cells #[.int .i64 1, .int .i64 1, .int .i64 2, .int .i64 0, .int .i64 0, .int .i64 2, .int .i64 (-1), .int .i64 1, .int .i64 0, .int .i64 0] 88)).alloc (.cells #[.int .i64 11, .int .i64 3, .int .i64 1, .int .i64 0, .int .i64 0, .int .i64 0, .int .i64 0, .int .i64 0, .slice (some ⟨w.heap.size, 0, none⟩) 2 2] 58)) ((w.alloc (.cells #[.int .i64 1, .int .i64 1, .int .i64 2, .int .i64 0, .int .i64 0, .int .i64 2, .int .i64 (-1), .int .i64 1, .int .i64 0, .int .i64 0] 88)).alloc (.cells #[.int .i64 11, .int .i64 3, .int .i64 1, .int .i64 0, .int .i64 0, .int .i64 0, .int .i64 0, .int .i64 0, .slice (some ⟨w.heap.size, 0, none⟩) 2 2] 58)).heap.size (some ⟨w.heap.size, 0, none⟩) 2 kRows := (HR0.out.carry ((bel_new _ _).mono (by simp))).wider (by simp)
  have B1 : Below w.heap.size w ((w.alloc (.cells #[.int .i64 1, .int .i64 1, .int .i64 2, .int .i64 0, .int .i64 0, .int .i64 2, .int .i64 (-1), .int .i64 1, .int .i64 0, .int .i64 0] 88)).alloc (.cells #[.int .i64 11, .int .i64 3, .int .i64 1, .int .i64 0, .int .i64 0, .int .i64 0, .int .i64 0, .int .i64 0, .slice (some ⟨w.heap.size, 0, none⟩) 2 2] 58)) := bel_alloc (bel_new w _) _
  have z1 : ((w.alloc (.cells #[.int .i64 1, .int .i64 1, .int .i64 2, .int .i64 0, .int .i64 0, .int .i64 2, .int .i64 (-1), .int .i64 1, .int .i64 0, .int .i64 0] 88)).alloc (.cells #[.int .i64 11, .int .i64 3, .int .i64 1, .int .i64 0, .int .i64 0, .int .i64 0, .int .i64 0, .int .i64 0, .slice (some ⟨w.heap.size, 0, none⟩) 2 2] 58)).heap.size = w.heap.size + 2 := by simp
  generalize ((w.alloc (.cells #[.int .i64 1, .int .i64 1, .int .i64 2, .int .i64 0, .int .i64 0, .int .i64 2, .int .i64 (-1), .int .i64 1, .int .i64 0, .int .i64 0] 88)).alloc (.cells #[.int .i64 11, .int .i64 3, .int .i64 1, .int .i64 0, .int .i64 0, .int .i64 0, .int .i64 0, .int .i64 0, .slice (some ⟨w.heap.size, 0, none⟩) 2 2] 58)) = W1 at *
  have HB1 := Lib.hid hb1
  have HR1 := Lib.hid hr1
  have HZ1 := Lib.hid z1
  clear hb1 hr1 z1 HR0
  refine (encode_ok kHd kRows (some ⟨w.heap.size, 0, none⟩) 2 2 W1 kHd_ok HR1.out (by decide)).mono ?_
  rintro e w2 ⟨A2, c2, rfl, hc2, hlc2, hy2, B12⟩
  have HY2 := Lib.hid hy2
  have HC2 := Lib.hid hc2
  have HL2 := Lib.hid hlc2
  have hll : (encOf kHd kRows).length ≤ 1000 := by decide +kernel
  have hdec := decode_any A2 (encOf kHd kRows).length c2 (encOf kHd kRows) w2 (by omega) hc2 hy2
  rw [kDec] at hdec
  have HDEC := Lib.hid hdec
  generalize (encOf kHd kRows).length = L at *
  clear hy2 hc2 hlc2 hdec
  go_wp2_with fail
  refine HDEC.out.mono ?_
  rintro e w3 ⟨v, A3, n3, c3, rfl, hr3, hc3, B23, hv, _⟩
  obtain rfl := hv rfl
  have HR3 := Lib.hid hr3
  have h3len : n3 = 2 := by have := hr3.len; simpa [kRows] using this.symm
  subst h3len
  clear hr3 hv
  go_wp2_with fail
  have hx4 : Box (w3.alloc (.cells #[.int .i64 kHd.k, .int .i64 kHd.s, .int .i64 kHd.a, .int .i64 kHd.b, .int .i64 kHd.c, .int .i64 kHd.d, .int .i64 kHd.e, .int .i64 kHd.f, .slice A3 2 c3] 58)) w3.heap.size 58 #[.int .i64 kHd.k, .int .i64 kHd.s, .int .i64 kHd.a, .int .i64 kHd.b, .int .i64 kHd.c, .int .i64 kHd.d, .int .i64 kHd.e, .int .i64 kHd.f, .slice A3 2 c3] := Box.fresh _ _ _ rfl
  have B34 : Below w3.heap.size w3 (w3.alloc (.cells #[.int .i64 kHd.k, .int .i64 kHd.s, .int .i64 kHd.a, .int .i64 kHd.b, .int .i64 kHd.c, .int .i64 kHd.d, .int .i64 kHd.e, .int .i64 kHd.f, .slice A3 2 c3] 58)) := bel_new _ _
  have z4 : w3.heap.size < (w3.alloc (.cells #[.int .i64 kHd.k, .int .i64 kHd.s, .int .i64 kHd.a, .int .i64 kHd.b, .int .i64 kHd.c, .int .i64 kHd.d, .int .i64 kHd.e, .int .i64 kHd.f, .slice A3 2 c3] 58)).heap.size := by simp
  generalize (w3.alloc (.cells #[.int .i64 kHd.k, .int .i64 kHd.s, .int .i64 kHd.a, .int .i64 kHd.b, .int .i64 kHd.c, .int .i64 kHd.d, .int .i64 kHd.e, .int .i64 kHd.f, .slice A3 2 c3] 58)) = W4 at *
  have HX4 := Lib.hid hx4
  clear hx4
  refine (encode_bad ⟨0, 0, 0, 0, 0, 0, 0, 0⟩ none 0 0 W4 (by decide)).mono ?_
  rintro e w5 ⟨b5, rfl, _, B45⟩
  have B14 : Below W1.heap.size W1 W4 := bel_trans (bel_trans B12 B23) B34
  have B15 : Below W1.heap.size W1 w5 := bel_trans B14 B45
  have hm5 := HB1.out.kept_below B15 HB1.out.there
  have hx5 := HX4.out.kept_below B45 HX4.out.there
  have m0 := hm5.reads 0
  have x0 := hx5.reads 0
  have m1 := hm5.reads 1
  have x1 := hx5.reads 1
  have m2 := hm5.reads 2
  have x2 := hx5.reads 2
  have m3 := hm5.reads 3
  have x3 := hx5.reads 3
  have m4 := hm5.reads 4
  have x4 := hx5.reads 4
  have m5 := hm5.reads 5
  have x5 := hx5.reads 5
  have m6 := hm5.reads 6
  have x6 := hx5.reads 6
  have m7 := hm5.reads 7
  have x7 := hx5.reads 7
  have m8 := hm5.reads 8
  have x8 := hx5.reads 8
  simp at m0 m1 m2 m3 m4 m5 m6 m7 m8 x0 x1 x2 x3 x4 x5 x6 x7 x8
  have B35 : Below w3.heap.size w3 w5 := bel_trans B34 B45
  have hs := fun w' (k : Below w5.heap.size w5 w') => same_any kHd kHd A3 (some ⟨w.heap.size, 0, none⟩) 2 2 c3 2 kRows kRows w' w'.heap.size w'.heap.size ((HR3.out.carry (B35.trans (k.mono B35.size))).wider (Nat.le_trans B35.size k.size)) ((HR1.out.carry (B15.trans (k.mono B15.size))).wider (Nat.le_trans B15.size k.size)) (Nat.le_refl _) (Nat.le_refl _) (by unfold maxLen; omega)
  simp only [kSame] at hs
  have HS := Lib.hid hs
  have Bw5 : Below w.heap.size w w5 := bel_trans B1 B15
  have ht := fun w' => text_any numTSmall ⟨1, 2, 0, 0, 0, 0, 0, 0⟩ [] none 0 0 w' (RowsAt.empty _ _ _) trivial (by intro z hz; simp [Hd.l] at hz; omega) (fun x hx => by cases hx) (by omega)
  simp only [known_text] at ht
  have HT := Lib.hid ht
  have hl1 : MsgMath.least 8 = 1 := rfl
  have hm1 : MsgMath.most 8 = 50 := rfl
  have hk68 : MsgMath.known 68 = true := rfl
  have hk16 : MsgMath.known 16 = false := rfl
  clear hs ht hm5 hx5 B12 B23 B34 B14 B45 B15 B35
  go_wp2_with (go_at_call 39; refine Hid.out ?_)
  refine Lib.hid ?_
  refine (rows_any 8 _).mono ?_
  rintro e w6 ⟨rfl, rfl⟩
  rw [hl1, hm1]
  clear hl1 hm1
  go_wp2_with (go_at_call 40; refine Hid.out ?_)
  refine Lib.hid ?_
  refine (HS.out _ (Below.refl _ _)).mono ?_
  rintro e w7 ⟨rfl, B57⟩
  have Bw7 : Below w.heap.size w w7 := bel_trans Bw5 B57
  clear m0 m1 m2 m3 m4 m5 m6 m7 m8 x0 x1 x2 x3 x4 x5 x6 x7 x8 HS B57
  go_wp2_with (go_at_call 41; refine Hid.out ?_)
  refine Lib.hid ?_
  refine (known_any 68 _).mono ?_
  rintro e w8 ⟨rfl, rfl⟩
  rw [hk68]
  go_wp2_with (go_at_call 41; refine Hid.out ?_)
  refine Lib.hid ?_
  refine (known_any 16 _).mono ?_
  rintro e w8 ⟨rfl, rfl⟩
  rw [hk16]
  clear hk16 hk68
  go_wp2_with (go_at_call 42; refine Hid.out ?_)
  refine Lib.hid ?_
  refine (HT.out _).mono ?_
  rintro e w9 ⟨rfl, B79⟩
  go_wp2_with fail
  go_ret
  exact ⟨rfl, bel_trans Bw7 B79⟩
end Go.Proofs.YtjfjdicdokdekaaDoor

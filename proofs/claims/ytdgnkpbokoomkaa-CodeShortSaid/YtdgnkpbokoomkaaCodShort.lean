/- straddlelaw3.CodeShort returns true. -/
import Derived.Test.YtdgnkpbokoomkaaCodRaws
import Derived.Test.YtdgnkpbokoomkaaRefInt
import Derived.Test.YtdgnkpbokoomkaaWords
namespace Go.Proofs.Ytdgnkpbokoomkaa
open Go.RowKit Go.Mem1 Go.CodMath

theorem cut_lt {v : Int} (h : -9223372036854775808 ≤ v ∧ v ≤ 9223372036854775807) {j : Nat} (hj : j < (ien v).length) : num ((ien v).take j) = (0, 0, 3) := num_cut (zz_lt h.1 h.2) hj
theorem cut_int {v : Int} (h : -9223372036854775808 ≤ v ∧ v ≤ 9223372036854775807) {j : Nat} (hj : j < (ien v).length) (p : Nat) : intVal ((ien v).take j) = 0 ∧ intSt ⟨(ien v).take j, p, 0⟩ = ⟨[], p, 3⟩ := by
  have hn := num_cut (zz_lt h.1 h.2) hj
  have hn' : num ((ien v).take j) = (0, 0, 3) := hn
  constructor
  · unfold intVal; rw [hn']; rfl
  · unfold intSt; simp only [hn']; rfl
theorem take_cut (A V : List Nat) (j : Nat) : (A ++ V).take (A.length + j) = A ++ V.take j := by
  rw [List.take_append, List.take_of_length_le (by omega), Nat.add_sub_cancel_left]

set_option maxRecDepth 100000 in
set_option maxHeartbeats 2000000 in
theorem short_main (a v cut : Int) (w : World) (ha : -9223372036854775808 ≤ a ∧ a ≤ 9223372036854775807) (hv : -9223372036854775808 ≤ v ∧ v ≤ 9223372036854775807) (hc : cut ≤ 9223372036854775807) (hc0 : -9223372036854775808 ≤ cut) :
    Calls Try.prog 4 #[.int .i64 a, .int .i64 v, .int .i64 cut] w fun e w' => e = .returned (.bool true) ∧ Below w.heap.size w w' := by
  have HA := Lib.hid ha; clear ha
  have HV := Lib.hid hv; clear hv
  go_enter Try.func4, Try.ntmps4
  go_wp2_with (go_at_call 6; refine (known_ok w).mono ?_; rintro e w1 ⟨rfl, B1⟩)
  -- a
  have hz1 := B1.size
  have hE0 := (EncAt.new w1 rfl).alloc (.cells #[.int .i64 a] 2)
  have HE0 := Lib.hid hE0
  refine (encInt_any w1.heap.size (w1.heap.size + 1) w1.heap.size none [] [a] _ hE0 (by simp; omega) (Box.fresh _ _ _ (by simp)) (by intro z hz; simp at hz; subst hz; exact HA.out) (by simp)).mono ?_
  rintro e w2 ⟨rfl, hgo⟩
  obtain ⟨B2, R2, hE2, _, _⟩ := hgo.next HE0.out (by simp; omega)
  have e2 : [] ++ [a].flatMap ien = ien a := by simp
  rw [e2] at hE2
  have HE2 := Lib.hid hE2
  have B02 : Below w.heap.size w w2 := (bel_alloc (bel_alloc B1 _) _).trans (B2.mono hz1)
  have hz2 : w1.heap.size ≤ w2.heap.size := by have := B2.size; simp at this; omega
  have hal := ien_len HA.out
  have hap : 0 < (ien a).length := vint_pos _
  clear hE0 hE2 hgo e2 B2 HE0
  obtain ⟨La, hLa⟩ : ∃ L, L = (ien a).length := ⟨_, rfl⟩
  have hby := encBytes_any _ _ _ _ w2 HE2.out (by omega)
  rw [← hLa] at hby hal hap
  have HLA := Lib.hid hLa
  have HBY := Lib.hid hby
  clear hLa hby
  go_wp2_with fail
  refine HBY.out.mono ?_
  rintro e w3 ⟨B3, A3, c3, rfl, _, _, _⟩
  have HE3 := Lib.hid (HE2.out.below B3)
  have B03 := bel_trans B02 B3
  have hz3 := Nat.le_trans hz2 B3.size
  clear HE2 HBY B3 B02
  -- v
  go_wp2_with fail
  have hE3 := HE3.out.alloc (.cells #[.int .i64 v] 2)
  have HE3' := Lib.hid hE3
  refine (encInt_any w1.heap.size w3.heap.size w1.heap.size R2 (ien a) [v] _ hE3 (by simp; omega) (Box.fresh _ _ _ rfl) (by intro z hz; simp at hz; subst hz; exact HV.out) (by have := HLA.out; simp only [List.length_singleton]; omega)).mono ?_
  rintro e w4 ⟨rfl, hgo⟩
  obtain ⟨B4, R4, hE4, _, _⟩ := hgo.next HE3'.out (by simp; omega)
  have e4 : ien a ++ [v].flatMap ien = ien a ++ ien v := by simp
  rw [e4] at hE4
  have HE4 := Lib.hid hE4
  have B04 : Below w.heap.size w w4 := (bel_alloc B03 _).trans (B4.mono hz1)
  have hvl := ien_len HV.out
  have hvp : 0 < (ien v).length := vint_pos _
  clear hE3 hE4 hgo e4 B4 HE3 HE3' B03
  obtain ⟨Lv, hLv⟩ : ∃ L, L = (ien v).length := ⟨_, rfl⟩
  have hby := encBytes_any _ _ _ _ w4 HE4.out (by have := HLA.out; rw [List.length_append]; omega)
  rw [List.length_append, ← HLA.out, ← hLv] at hby
  rw [← hLv] at hvl hvp
  have HLV := Lib.hid hLv
  have HBY := Lib.hid hby
  clear hLv hby
  go_wp2_with fail
  refine HBY.out.mono ?_
  rintro e w5 ⟨B5, A5, c5, rfl, hnc5, hc5, ho5⟩
  have hy5 : Byt w5 w5.heap.size A5 (La + Lv) (ien a ++ ien v) := Byt.ofOwn ho5 HE4.out.bnd
  have HY5 := Lib.hid hy5
  have HC5 := Lib.hid hc5
  have B05 := bel_trans B04 B5
  clear hy5 hc5 ho5 B5 B04 HBY HE4
  by_cases hneg : cut < 0
  · have hd : decide (cut < 0) = true := by simpa using hneg
    go_wp2_with fail
    go_ret
    exact ⟨rfl, B05⟩
  · have hd : decide (cut < 0) = false := by simpa using hneg
    obtain ⟨q, rfl⟩ := Int.eq_ofNat_of_zero_le (show 0 ≤ cut by omega)
    obtain ⟨j, hjq⟩ : ∃ j, j = q % Lv := ⟨_, rfl⟩
    have hj : j < Lv := by rw [hjq]; exact Nat.mod_lt _ hvp
    have s1 : (La : Int) + (Lv : Int) - (La : Int) = (Lv : Int) := by omega
    have s2 : (q : Int) % (Lv : Int) = (j : Int) := by rw [hjq]; rfl
    have t1 : decide ((La : Int) + (Lv : Int) ≤ (La : Int)) = false := by simp; omega
    have t2 : decide ((10 : Int) < (Lv : Int)) = false := by simp; omega
    have t3 : (0 : Int) < (Lv : Int) := by omega
    have t4 : (La : Int) + (j : Int) ≤ (c5 : Int) := by omega
    have t5 : (0 : Int) ≤ (La : Int) + (j : Int) := by omega
    have hyc : Byt w5 w5.heap.size A5 (La + j) (ien a ++ (ien v).take j) := by
      have h1 := HY5.out.head (k := La + j) (by omega)
      rw [HLA.out, take_cut] at h1
      rw [HLA.out]
      exact h1
    have hof := of_any A5 (La + j) c5 _ w5 (by omega) HC5.out hyc
    have HOF := Lib.hid hof
    have hjv : j < (ien v).length := by rw [← HLV.out]; exact hj
    have HJV := Lib.hid hjv
    clear hjq hyc hof hjv
    go_wp2_with fail
    refine HOF.out.mono ?_
    rintro e w6 ⟨gd, rfl, hd6, B6⟩
    have HD6 := Lib.hid hd6
    have B06 := bel_trans B05 B6
    have hgd := hd6.there
    have hgb : w.heap.size ≤ gd := by have := B05.size; omega
    clear hd6 B6 HOF
    go_wp2_with fail
    have cI := decInt_any gd _ _ w6 HD6.out
    rw [show (⟨ien a ++ (ien v).take j, 0, 0⟩ : St).l = ien a ++ (ien v).take j from rfl, intVal_ien HA.out, intSt_ien HA.out, Nat.zero_add, ← HLA.out] at cI
    refine cI.mono ?_
    rintro e w7 ⟨rfl, hd7, hc7⟩
    have HD7 := Lib.hid hd7
    have B07 := bel_dec' B06 hc7 hgb
    clear hd7 hc7 cI HD6
    go_wp2_with fail
    have cI := decInt_any gd _ _ w7 HD7.out
    rw [show (⟨(ien v).take j, La, 0⟩ : St).l = (ien v).take j from rfl, (cut_int HV.out HJV.out La).1, (cut_int HV.out HJV.out La).2] at cI
    refine cI.mono ?_
    rintro e w8 ⟨rfl, hd8, hc8⟩
    have HD8 := Lib.hid hd8
    have B08 := bel_dec' B07 hc8 hgb
    clear hd8 hc8 cI HD7
    go_wp2_with fail
    refine (refInt_any v w8 HV.out).mono ?_
    rintro e w9 ⟨A9, n9, c9, rfl, ho9, B9⟩
    have hn9 : n9 = Lv := by have := ho9.1; rw [HLV.out]; simpa using this.symm
    subst hn9
    have HD9 := Lib.hid (HD8.out.below B9)
    have B09 := bel_trans B08 B9
    clear ho9 B9 HD8
    go_wp2_with fail
    refine (decErr_bad gd _ _ w9 HD9.out (show (3 : Nat) ≠ 0 by decide)).mono ?_
    rintro e w10 ⟨b10, rfl, _, B10⟩
    have HD10 := Lib.hid (HD9.out.below B10)
    have B010 := bel_trans B09 B10
    clear B10 HD9
    have mF := methodFault
    go_wp2_with fail
    refine (decErr_bad gd _ _ w10 HD10.out (show (3 : Nat) ≠ 0 by decide)).mono ?_
    rintro e w11 ⟨b11, rfl, hb11, B11⟩
    have HD11 := Lib.hid (HD10.out.below B11)
    have B011 := bel_trans B010 B11
    clear B11 HD10
    have cF := fault_any b11 ⟨#[98, 121, 116, 101]⟩ La 3 w11 hb11 (by decide) (by omega) (by omega)
    have cW := fun v w h => refWords_any ⟨#[98, 121, 116, 101]⟩ La 3 v w h (by decide) (by omega) (by omega)
    generalize told ⟨#[98, 121, 116, 101]⟩ La 3 = T at cF cW
    have CF := Lib.hid cF
    have CW := Lib.hid cW
    clear cF cW hb11
    go_wp2_with fail
    refine CF.out.mono ?_
    rintro e w12 ⟨rfl, nn, rfl⟩
    go_wp2_with fail
    refine (refAt_any ⟨#[98, 121, 116, 101]⟩ La 3 _).mono ?_
    rintro e w13 ⟨v13, rfl, hw13, B13⟩
    have HW13 := Lib.hid hw13
    clear hw13
    go_wp2_with fail
    refine (CW.out v13 w13 HW13.out).mono ?_
    rintro e w14 ⟨rfl, B14⟩
    have hD : Below w11.heap.size w11 (w11.drewN nn) := ⟨rfl, rfl, rfl, Nat.le_refl _, fun _ _ => rfl⟩
    have hsz : w11.heap.size ≤ (w11.drewN nn).heap.size := Nat.le_refl _
    have B11d : Below w11.heap.size w11 w14 := hD.trans ((bel_trans B13 B14).mono hsz)
    have HD14 := Lib.hid (HD11.out.below B11d)
    have B014 := bel_trans B011 B11d
    clear B14 B13 B11d HD11 CW CF hD hsz
    go_wp2_with (go_at_call 15; refine (decLeft_any _ _ _ w14 HD14.out).mono ?_; rintro e w15 ⟨rfl, rfl⟩)
    go_ret
    exact ⟨rfl, B014⟩
end Go.Proofs.Ytdgnkpbokoomkaa

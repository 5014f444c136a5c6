/- straddlelaw3.CodeRaws returns true. -/
import Derived.Test.YtdgnkpbokoomkaaCodKnown
import Derived.Test.YtdgnkpbokoomkaaParts
import Derived.Deep.RegionHeld3
namespace Go.Proofs.Ytdgnkpbokoomkaa
open Go.RowKit Go.Mem1 Go.CodMath

theorem num_ien {z : Int} (h : -9223372036854775808 ≤ z ∧ z ≤ 9223372036854775807) (r : List Nat) : num (ien z ++ r) = (zz z, (ien z).length, 0) := num_vint (zz_lt h.1 h.2) r
theorem intVal_ien {z : Int} (h : -9223372036854775808 ≤ z ∧ z ≤ 9223372036854775807) (r : List Nat) : intVal (ien z ++ r) = z := by
  unfold intVal; rw [num_ien h, if_pos rfl, unz_zz]
theorem intSt_ien {z : Int} (h : -9223372036854775808 ≤ z ∧ z ≤ 9223372036854775807) (r : List Nat) (p : Nat) : intSt ⟨ien z ++ r, p, 0⟩ = ⟨r, p + (ien z).length, 0⟩ := by
  unfold intSt; simp only [num_ien h]; rw [if_pos trivial, List.drop_left]
theorem num_ren {l : List Nat} (h : l.length ≤ 1000000) (r : List Nat) : num (ren l ++ r) = (zz (l.length : Int), (ien (l.length : Int)).length, 0) := by
  unfold ren; rw [List.append_assoc, num_ien ⟨by omega, by omega⟩]
theorem rawOk_ren {l : List Nat} (h : l.length ≤ 1000000) (r : List Nat) : rawOk (ren l ++ r) := by
  unfold rawOk
  rw [num_ren h, unz_zz]
  refine ⟨rfl, by omega, ?_⟩
  unfold ren
  simp only [List.length_append]
  omega
theorem rawVal_ren {l : List Nat} (h : l.length ≤ 1000000) (r : List Nat) : rawVal (ren l ++ r) = l := by
  unfold rawVal
  rw [if_pos (rawOk_ren h r), num_ren h, unz_zz]
  unfold ren
  rw [List.append_assoc, List.drop_left, Int.toNat_natCast, List.take_left]
theorem rawSt_ren {l : List Nat} (h : l.length ≤ 1000000) (r : List Nat) (p : Nat) : rawSt ⟨ren l ++ r, p, 0⟩ = ⟨r, p + (ren l).length, 0⟩ := by
  unfold rawSt
  simp only
  rw [if_pos (rawOk_ren h r), num_ren h, unz_zz]
  have e : (ien (l.length : Int)).length + ((l.length : Int)).toNat = (ren l).length := by unfold ren; simp
  simp only [e, List.drop_left]

theorem ien_0 : ien 0 = [0] := by
  unfold ien
  rw [show zz 0 = 0 from rfl, vint_small (by omega)]
theorem raw_end_zero : rawVal (ien 0) = [] ∧ ∀ p, rawSt ⟨ien 0, p, 0⟩ = ⟨[], p + 1, 0⟩ := by
  have h : rawOk [0] := by decide
  rw [ien_0]
  refine ⟨by unfold rawVal; rw [if_pos h]; rfl, fun p => ?_⟩
  unfold rawSt
  simp only
  rw [if_pos h]
  rfl
theorem raw_end_bad {z : Int} (h : -9223372036854775808 ≤ z ∧ z ≤ 9223372036854775807) (hz : z ≠ 0) : rawVal (ien z) = [] ∧ ∀ p, ∃ e, e ≠ 0 ∧ rawSt ⟨ien z, p, 0⟩ = ⟨[], p, e⟩ := by
  have hn := num_ien h []
  rw [List.append_nil] at hn
  have hno : ¬ rawOk (ien z) := by
    unfold rawOk
    rw [hn, unz_zz]
    simp only
    omega
  refine ⟨by unfold rawVal; rw [if_neg hno], fun p => ⟨if z < 0 then 2 else 3, by split <;> decide, ?_⟩⟩
  unfold rawSt
  simp only
  rw [if_neg hno, hn, unz_zz]
  simp [failSt]
theorem int_nil (p e : Nat) (he : e ≠ 0) : intVal [] = 0 ∧ intSt ⟨[], p, e⟩ = ⟨[], p, e⟩ := by
  refine ⟨rfl, ?_⟩
  unfold intSt failSt
  simp only
  rw [if_neg (by decide), if_neg he]

theorem bel_dec' {a b c : World} {gd : Nat} (h : Below a.heap.size a b) (k : Chg (· = gd) b c) (hg : a.heap.size ≤ gd) : Below a.heap.size a c :=
  Chg.toBelow h k h.size (fun i hi e => by omega)
theorem flat_step {ls : List (List Nat)} {k : Nat} {l : List Nat} (h : ls[k]? = some l) : (ls.take (k + 1)).flatMap ren = (ls.take k).flatMap ren ++ ren l := by
  obtain ⟨hk, rfl⟩ := List.getElem?_eq_some_iff.1 h
  rw [List.take_succ_eq_append_getElem hk, List.flatMap_append]
  simp
theorem flat_rest {ls : List (List Nat)} {k : Nat} {l : List Nat} (h : ls[k]? = some l) : (ls.drop k).flatMap ren = ren l ++ (ls.drop (k + 1)).flatMap ren := by
  obtain ⟨hk, rfl⟩ := List.getElem?_eq_some_iff.1 h
  rw [List.drop_eq_getElem_cons hk, List.flatMap_cons]
theorem ren_len {l : List Nat} (h : l.length ≤ 1000000) : (ren l).length ≤ 10 + l.length := by
  unfold ren
  have := ien_len (z := (l.length : Int)) ⟨by omega, by omega⟩
  rw [List.length_append]; omega

set_option maxRecDepth 100000 in
set_option maxHeartbeats 2000000 in
theorem raws_main (A : Option Addr) (n c : Nat) (x : Int) (ls : List (List Nat)) (w : World) (hn : n ≤ 20) (hx : -9223372036854775808 ≤ x ∧ x ≤ 9223372036854775807) (h : Parts w w.heap.size A n ls) :
    Calls Try.prog 5 #[.slice A n c, .int .i64 x] w fun e w' => e = .returned (.bool true) ∧ Below w.heap.size w w' := by
  have H := Lib.hid h; clear h
  have hn20 : decide ((20 : Int) < (n : Int)) = false := by simp; omega
  have HX := Lib.hid hx; clear hx
  go_enter Try.func5, Try.ntmps5
  go_wp2_with (go_at_call 6; refine (known_ok w).mono ?_; rintro e w1 ⟨rfl, B1⟩)
  have hE0 := EncAt.new w1 rfl
  have HE0 := Lib.hid hE0; clear hE0
  have hz1 := B1.size
  have B1' : Below w.heap.size w (w1.alloc (.cells #[.slice none 0 0] 27)) := bel_alloc B1 _
  go_loopw [6] (fun v6 wr => ∃ k : Nat, k ≤ n ∧ v6 = .int .i64 k ∧ Below w.heap.size w wr ∧ w1.heap.size ≤ wr.heap.size ∧ (∃ R, EncAt wr w1.heap.size w1.heap.size R ((ls.take k).flatMap ren)) ∧ ((ls.take k).flatMap ren).length ≤ 310 * k ∧ Hid (∀ i l, i < k → ls[i]? = some l → l.length ≤ 300)) (fun v6 _ => n - (intOf v6).toNat)
  case atStart => exact ⟨0, by omega, rfl, B1', by simp, ⟨none, HE0.out⟩, by simp, fun i l hi => by omega⟩
  case round =>
    obtain ⟨k, hk, rfl, Br, hzr, ⟨R, hE⟩, hlen, hsmall⟩ := hrel
    have HE := Lib.hid hE; clear hE
    by_cases hlt : k < n
    · obtain ⟨b, off, A1, n1, c1, l1, rfl, hb, hlk, hck, hc0, hy⟩ := (H.out.carry Br).at_ hlt
      have hl1 := hy.len
      have HC := Lib.hid hc0; clear hc0
      have HY := Lib.hid hy; clear hy
      have HL1 := Lib.hid hl1; clear hl1
      by_cases hbig : 300 < n1
      · have hb1 : decide ((300 : Int) < (n1 : Int)) = true := by simp; omega
        clear hlk
        go_wp2_with fail
        go_ret
        exact ⟨rfl, Br⟩
      · have hb1 : decide ((300 : Int) < (n1 : Int)) = false := by simp; omega
        have hst := flat_step hlk
        have hll : ((ls.take (k + 1)).flatMap ren).length ≤ 310 * (k + 1) := by
          rw [hst, List.length_append]
          have := ren_len (l := l1) (by have := HL1.out; omega)
          have := HL1.out
          omega
        have hsm : ∀ i l, i < k + 1 → ls[i]? = some l → l.length ≤ 300 := by
          intro i l hi hl
          rcases Nat.lt_or_ge i k with h | h
          · exact hsmall.out i l h hl
          · obtain rfl : i = k := by omega
            rw [hlk] at hl; injection hl with hl; subst hl
            have := HL1.out; omega
        have HS := Lib.hid hst
        have HLL := Lib.hid hll
        have HSM := Lib.hid hsm
        have hraw := encRaw_any w1.heap.size w1.heap.size R _ l1 A1 n1 c1 wr HE.out hzr HC.out (HY.out.wider Br.size) (fun b o e h0 => HE.out.off (by
          obtain ⟨b', o', e', hlt', _⟩ := HY.out.rd.cells h0
          rw [e] at e'; injection e' with e'; injection e' with e1 e2; subst e1; omega)) (by omega)
        rw [← hst] at hraw
        have HR := Lib.hid hraw
        clear hlk hst hll hsm hraw
        go_wp2_with fail
        refine HR.out.mono ?_
        rintro e w2 ⟨rfl, hgo⟩
        obtain ⟨B2, R2, hE2, _, _⟩ := hgo.next HE.out hzr
        have HE2 := Lib.hid hE2
        have B3 : Below w.heap.size w w2 := Br.trans (B2.mono hz1)
        have hz2 := Nat.le_trans hzr B2.size
        clear hgo hE2
        go_wp2_with fail
        go_roundw
        case rel => exact ⟨k + 1, by omega, by go_num, B3, hz2, ⟨R2, HE2.out⟩, HLL.out, HSM.out⟩
        case measure => simp [intOf]; omega
    · have hkn : k = n := by omega
      have hln := H.out.len
      have hta : ls.take k = ls := List.take_of_length_le (by omega)
      rw [hta] at hlen HE
      have hsm2 : ∀ (i : Nat) (l : List Nat), ls[i]? = some l → l.length ≤ 300 := by
        intro i l hl
        have hi : i < ls.length := (List.getElem?_eq_some_iff.1 hl).1
        exact hsmall.out i l (by omega) hl
      have HSM := Lib.hid hsm2
      have HLN := Lib.hid hln
      have hE1 := HE.out.alloc (.cells #[.int .i64 x] 2)
      have hint := encInt_any w1.heap.size wr.heap.size w1.heap.size R (ls.flatMap ren) [x] _ hE1 (by simp; omega) (Box.fresh wr _ _ rfl) (by intro z hz; simp at hz; subst hz; exact HX.out) (by simp only [List.length_singleton]; omega)
      have HI := Lib.hid hint
      have HE1 := Lib.hid hE1
      clear hkn hln hta hsm2 hint hE1 hsmall
      go_wp2_with fail
      refine HI.out.mono ?_
      rintro e w2 ⟨rfl, hgo⟩
      obtain ⟨B2, R2, hE2, _, _⟩ := hgo.next HE1.out (by simp; omega)
      have e1 : [x].flatMap ien = ien x := by simp
      rw [e1] at hE2
      have HE2 := Lib.hid hE2
      have B02 : Below w.heap.size w w2 := (bel_alloc Br _).trans (B2.mono hz1)
      have hxl := ien_len HX.out
      have htl : (ls.flatMap ren ++ ien x).length ≤ 100000 := by rw [List.length_append]; omega
      have HTL := Lib.hid htl
      clear hE2 hgo e1 hxl htl HI HE1 HE HE0 B2
      go_wp2_with fail
      have hby := encBytes_any _ _ _ _ w2 HE2.out (by have := HTL.out; omega)
      obtain ⟨L, hL⟩ : ∃ L, L = (ls.flatMap ren ++ ien x).length := ⟨_, rfl⟩
      rw [← hL] at hby HTL
      refine hby.mono ?_
      rintro e w3 ⟨B23, A3, c3, rfl, hn3, hc3, ho3⟩
      have HLL := Lib.hid hL
      clear hL hby
      have hy3 : Byt w3 w3.heap.size A3 L (ls.flatMap ren ++ ien x) := Byt.ofOwn ho3 HE2.out.bnd
      have B03 : Below w.heap.size w w3 := bel_trans B02 B23
      have HY3 := Lib.hid hy3
      have HC3 := Lib.hid hc3
      clear ho3 hy3 hc3 B23
      go_wp2_with fail
      refine (of_any A3 L c3 _ w3 (by have := HTL.out; omega) HC3.out HY3.out).mono ?_
      rintro e w4 ⟨gd, rfl, hd4, B34⟩
      have hgd := hd4.there
      have B04 : Below w.heap.size w w4 := bel_trans B03 B34
      have hgb : w.heap.size ≤ gd := by have := B03.size; omega
      have HD4 := Lib.hid hd4
      clear hd4 B34 HY3 HC3 hn3
      go_wp2_with fail
      go_loopw [8] (fun v8 wr => ∃ (k p : Nat), k ≤ n ∧ v8 = .int .i64 k ∧ Below w.heap.size w wr ∧ DecAt wr w3.heap.size gd ⟨(ls.drop k).flatMap ren ++ ien x, p, 0⟩) (fun v8 _ => n - (intOf v8).toNat)
      case atStart => exact ⟨0, 0, by omega, rfl, B04, by simpa using HD4.out⟩
      case round =>
        obtain ⟨k2, p, hk2, rfl, Bd, hD⟩ := hrel
        have HD := Lib.hid hD; clear hD
        by_cases hlt2 : k2 < n
        · obtain ⟨b, off, A1, n1, c1, l1, rfl, hb, hlk, hck, hc0, hy⟩ := (H.out.carry Bd).at_ hlt2
          have hfr := flat_rest hlk
          rw [hfr, List.append_assoc] at HD
          have hl1 : l1.length ≤ 1000000 := by have := HSM.out _ _ hlk; omega
          have hrv := rawVal_ren hl1 ((ls.drop (k2 + 1)).flatMap ren ++ ien x)
          have hrs := rawSt_ren hl1 ((ls.drop (k2 + 1)).flatMap ren ++ ien x) p
          have HV := Lib.hid hrv
          have HS := Lib.hid hrs
          have HY := Lib.hid hy
          clear hlk hfr hrv hrs hc0 hy hl1
          have k0 := conv_str HY.out.drew c1
          have HK := Lib.hid hck
          have kd : wr.drew.cell? ⟨b, off + k2, none⟩ = some (.slice A1 n1 c1) := hck
          go_wp2_with fail
          go_region_with (go_at_call 13; refine (decRaw_any gd _ _ wr.drew HD.out.drew).mono ?_; rintro e w5 ⟨A5, n5, c5, rfl, hy5, hd5, hc5⟩; rw [HV.out] at hy5; rw [HS.out] at hd5; have B5 : Below w.heap.size w w5 := bel_dec' Bd.drew hc5 hgb; have Bs : Below w.heap.size wr w5 := Chg.toBelow (Below.refl _ _).drew hc5 Bd.size (fun i hi e => by omega); have k5 := conv_str hy5 c5; have q5 := conv_str (HY.out.carry Bs) c1; have j5 := (Bs.cell (p := ⟨b, off + k2, none⟩) hb).trans HK.out; have HD5 := Lib.hid hd5; clear hy5 hd5 hc5 Bs)
          all_goals
            go_wp2_with fail
            go_roundw
            case rel => exact ⟨k2 + 1, _, by omega, by go_num, B5, HD5.out⟩
            case measure => simp [intOf]; omega
        · have hkn2 : k2 = n := by omega
          have hdr : ls.drop k2 = [] := List.drop_eq_nil_of_le (by have := HLN.out; omega)
          rw [hdr, List.flatMap_nil, List.nil_append] at HD
          clear hkn2 hdr
          by_cases hx0 : x = 0
          · subst hx0
            have hrv := raw_end_zero.1
            have hrs := raw_end_zero.2 p
            have HV := Lib.hid hrv
            have HS := Lib.hid hrs
            clear hrv hrs
            go_wp2_with fail
            refine (decRaw_any gd _ _ wr HD.out).mono ?_
            rintro e w5 ⟨A5, n5, c5, rfl, hy5, hd5, hc5⟩
            rw [HV.out] at hy5
            rw [HS.out] at hd5
            obtain rfl : n5 = 0 := hy5.len.symm
            have B5 : Below w.heap.size w w5 := bel_dec' Bd hc5 hgb
            have HD5 := Lib.hid hd5
            clear hy5 hd5 hc5
            go_wp2_with (first
              | (go_at_call 15; refine (decLeft_any _ _ _ w5 HD5.out).mono ?_; rintro e w9 ⟨rfl, rfl⟩)
              | (go_at_call 16; refine (decErr_nil _ _ _ w5 HD5.out rfl).mono ?_; rintro e w9 ⟨rfl, rfl⟩))
            go_ret
            exact ⟨rfl, B5⟩
          · have hxe : (x == 0) = false := by simp; omega
            have hrv := (raw_end_bad HX.out hx0).1
            obtain ⟨ec, hec, hrs⟩ := (raw_end_bad HX.out hx0).2 p
            have HV := Lib.hid hrv
            have HS := Lib.hid hrs
            have HEC := Lib.hid hec
            clear hrv hrs hec hx0
            go_wp2_with fail
            refine (decRaw_any gd _ _ wr HD.out).mono ?_
            rintro e w5 ⟨A5, n5, c5, rfl, hy5, hd5, hc5⟩
            rw [HV.out] at hy5
            rw [HS.out] at hd5
            obtain rfl : n5 = 0 := hy5.len.symm
            have B5 : Below w.heap.size w w5 := bel_dec' Bd hc5 hgb
            have HD5 := Lib.hid hd5
            clear hy5 hd5 hc5
            go_wp2_with fail
            refine (decErr_bad _ _ _ w5 HD5.out HEC.out).mono ?_
            rintro e w6 ⟨be, rfl, _, B56⟩
            have B6 : Below w.heap.size w w6 := bel_trans B5 B56
            have HD6 := Lib.hid (HD5.out.below B56)
            clear B56 HD5
            go_wp2_with (first
              | (go_at_call 15; refine (decLeft_any _ _ _ w6 HD6.out).mono ?_; rintro e w9 ⟨rfl, rfl⟩)
              | (go_at_call 14; refine (decInt_any _ _ _ w6 HD6.out).mono ?_; rintro e w7 ⟨rfl, _, hc7⟩; have B7 : Below w.heap.size w w7 := bel_dec' B6 hc7 hgb; rw [(int_nil p ec HEC.out).1]; clear hc7))
            go_ret
            exact ⟨rfl, B7⟩

set_option maxRecDepth 100000 in
set_option maxHeartbeats 2000000 in
theorem raws_many (A : Option Addr) (n c : Nat) (x : Int) (w : World) (hn : 20 < n) :
    Calls Try.prog 5 #[.slice A n c, .int .i64 x] w fun e w' => e = .returned (.bool true) ∧ Below w.heap.size w w' := by
  have hn20 : decide ((20 : Int) < (n : Int)) = true := by simp; omega
  go_enter Try.func5, Try.ntmps5
  go_wp2_with (go_at_call 6; refine (known_ok w).mono ?_; rintro e w1 ⟨rfl, B1⟩)
  go_ret
  exact ⟨rfl, B1⟩
end Go.Proofs.Ytdgnkpbokoomkaa

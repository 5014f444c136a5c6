/- The reference's Text of a message, whatever the message. -/
import Derived.Test.YtegjimagphdncaaDoorMsgText
import Derived.Test.YtegjimagphdncaaDoorMsgNum
import Derived.Test.YtegjimagphdncaaDoorMsgRefEnc
import Derived.Deep.RegionHeld3
set_option linter.unusedSimpArgs false
namespace Go.Proofs.YtegjimagphdncaaDoor
open Go Go.RowKit Go.Mem1 Go.CodMath

def dtx (n : Int) : ByteArray := sl (Lib.itoa n)
theorem joinTail_snoc (sep : List UInt8) (r : List (List UInt8)) (y : List UInt8) : Lib.joinTail sep (r ++ [y]) = Lib.joinTail sep r ++ (sep ++ y) := by
  induction r with
  | nil => simp [Lib.joinTail]
  | cons x r ih => simp [Lib.joinTail, ih, List.append_assoc]
theorem lineOf_snoc (tx : Int → ByteArray) (l : List Int) (z : Int) (h : l ≠ []) : lineOf tx (l ++ [z]) = lineOf tx l ++ ⟨#[32]⟩ ++ tx z := by
  cases l with
  | nil => exact absurd rfl h
  | cons x r =>
    apply ByteArray.ext
    apply Array.toList_inj.1
    simp [lineOf, Lib.join_cons, joinTail_snoc, ByteArray.data_append]
theorem lineOf_nil (tx : Int → ByteArray) : lineOf tx [] = ByteArray.empty := rfl
theorem lineOf_one (tx : Int → ByteArray) (z : Int) : lineOf tx [z] = tx z := by
  apply ByteArray.ext
  apply Array.toList_inj.1
  simp [lineOf, Lib.join_one]
theorem lineOf_take (tx : Int → ByteArray) {l : List Int} {k : Nat} {z : Int} (hz : l[k]? = some z) (hk : 0 < k) : lineOf tx (l.take (k + 1)) = lineOf tx (l.take k) ++ ⟨#[32]⟩ ++ tx z := by
  rw [List.take_add_one, hz, Option.toList_some]
  refine lineOf_snoc tx _ z ?_
  have := (List.getElem?_eq_some_iff.1 hz).1
  intro e
  have e2 := congrArg List.length e
  rw [List.length_take, List.length_nil] at e2
  omega
set_option maxRecDepth 100000 in
set_option maxHeartbeats 2000000 in
theorem refText_msg (h : Hd) (rs : List R5) (A : Option Addr) (n c : Nat) (w : World) (hr : RowsAt w w.heap.size A n rs) (hok : ∀ z ∈ h.l, bd64 z) (hoks : ∀ x ∈ rs, ∀ z ∈ x.l, bd64 z) (hn : n ≤ 1000) :
    Calls Tryd.prog 15 #[.agg #[.int .i64 h.k, .int .i64 h.s, .int .i64 h.a, .int .i64 h.b, .int .i64 h.c, .int .i64 h.d, .int .i64 h.e, .int .i64 h.f, .slice A n c]] w fun r w' => r = .returned (.string (textOf dtx h rs)) ∧ Below w.heap.size w w' := by
  have HR := Lib.hid hr
  have HO := Lib.hid hok
  have HOS := Lib.hid hoks
  clear hr hok hoks
  have hT : ∀ z w, bd64 z → Calls Tryd.prog 38 #[.int .i64 z] w fun e w' => e = .returned (.string (dtx z)) ∧ Below w.heap.size w w' := fun z w hz => refText_all z w hz.1 hz.2
  have hS : ∀ z, bd64 z → (dtx z).size ≤ 30 := fun z hz => itoaTxt_size z hz
  have HT := Lib.hid hT
  have HS := Lib.hid hS
  clear hT hS
  go_enter Tryd.func15, Tryd.ntmps15
  have hb0 : Box (w.alloc (.cells #[.int .i64 h.k, .int .i64 h.s, .int .i64 h.a, .int .i64 h.b, .int .i64 h.c, .int .i64 h.d, .int .i64 h.e, .int .i64 h.f, .slice A n c] 39)) w.heap.size 39 #[.int .i64 h.k, .int .i64 h.s, .int .i64 h.a, .int .i64 h.b, .int .i64 h.c, .int .i64 h.d, .int .i64 h.e, .int .i64 h.f, .slice A n c] := Box.fresh w _ _ rfl
  have B0 : Below w.heap.size w (w.alloc (.cells #[.int .i64 h.k, .int .i64 h.s, .int .i64 h.a, .int .i64 h.b, .int .i64 h.c, .int .i64 h.d, .int .i64 h.e, .int .i64 h.f, .slice A n c] 39)) := bel_new w _
  have z0 : (w.alloc (.cells #[.int .i64 h.k, .int .i64 h.s, .int .i64 h.a, .int .i64 h.b, .int .i64 h.c, .int .i64 h.d, .int .i64 h.e, .int .i64 h.f, .slice A n c] 39)).heap.size = w.heap.size + 1 := by simp
  go_wp2_with fail
  generalize (w.alloc (.cells #[.int .i64 h.k, .int .i64 h.s, .int .i64 h.a, .int .i64 h.b, .int .i64 h.c, .int .i64 h.d, .int .i64 h.e, .int .i64 h.f, .slice A n c] 39)) = W0 at *
  have k0 := (hb0.reads 0).trans (show _ = some (Value.int .i64 h.k) from rfl)
  have k1 := (hb0.reads 1).trans (show _ = some (Value.int .i64 h.s) from rfl)
  have HB0 := Lib.hid hb0
  have HBE := Lib.hid B0
  clear hb0 B0
  have hik := fun w => HT.out h.k w (HO.out h.k (by simp [Hd.l]))
  have his := fun w => HT.out h.s w (HO.out h.s (by simp [Hd.l]))
  have lk := HS.out h.k (HO.out h.k (by simp [Hd.l]))
  have ls := HS.out h.s (HO.out h.s (by simp [Hd.l]))
  have HIK := Lib.hid hik
  have HIS := Lib.hid his
  clear hik his
  have e1 : (⟨#[32]⟩ : ByteArray).size = 1 := rfl
  have e2 : ¬ 9223372036854775807 < (dtx h.k).size + 1 := by omega
  have e3 : ¬ 9223372036854775807 < (dtx h.k).size + 1 + (dtx h.s).size := by omega
  go_region_held3 (fun w' => w'.cell? ⟨w.heap.size, 0, none⟩ = some (.int .i64 h.k) ∧ w'.cell? ⟨w.heap.size, 1, none⟩ = some (.int .i64 h.s))
    (first | exact ⟨k0, k1⟩ | exact ⟨ja0, ja1⟩ | exact ⟨jb0, jb1⟩)
    ((first | (go_at_call 38; ((with_reducible refine (HIK.out _).mono ?_)); rintro e wA ⟨rfl, Ba⟩; have BA : Below W0.heap.size W0 wA := (by first | exact bel_trans BB Ba | exact ((Below.refl W0.heap.size W0).drew).trans Ba); have ja0 := (BA.cell (p := ⟨w.heap.size, 0, none⟩) (by show w.heap.size < W0.heap.size; omega)).trans k0; have ja1 := (BA.cell (p := ⟨w.heap.size, 1, none⟩) (by show w.heap.size < W0.heap.size; omega)).trans k1)
            | (go_at_call 38; ((with_reducible refine (HIS.out _).mono ?_)); rintro e wB ⟨rfl, Bb⟩; have BB : Below W0.heap.size W0 wB := (by first | exact bel_trans BA Bb | exact ((Below.refl W0.heap.size W0).drew).trans Bb); have jb0 := (BB.cell (p := ⟨w.heap.size, 0, none⟩) (by show w.heap.size < W0.heap.size; omega)).trans k0; have jb1 := (BB.cell (p := ⟨w.heap.size, 1, none⟩) (by show w.heap.size < W0.heap.size; omega)).trans k1)))
  all_goals
    have H1 : dtx h.k ++ ⟨#[32]⟩ ++ dtx h.s = lineOf dtx (h.l.take 2) := by
      rw [lineOf_take dtx (l := h.l) (k := 1) (z := h.s) rfl (by omega)]
      rw [show h.l.take 1 = [h.k] from rfl, lineOf_one]
    rw [H1]
    have HBB := Lib.hid BB
    clear H1 k0 k1 ja0 ja1 jb0 jb1 BA BB Ba Bb lk ls e2 e3
    go_wp2_with fail
    go_loopw [3, 4] (fun v3 v4 wr => ∃ k : Nat, k ≤ 6 ∧ v4 = .int .i64 k ∧ v3 = .string (lineOf dtx (h.l.take (2 + k))) ∧ Hid (Below W0.heap.size W0 wr)) (fun _ v4 _ => 6 - (intOf v4).toNat)
    case atStart => exact ⟨0, by omega, rfl, rfl, HBB⟩
    case round =>
      obtain ⟨k, hk, rfl, rfl, hB⟩ := hrel
      have hbx := HB0.out.kept_below hB.out (by omega)
      have lz := lineOf_size numTFull (h.l.take (2 + k)) (fun z hz => HO.out z (List.mem_of_mem_take hz))
      have hlt8 : (h.l.take (2 + k)).length ≤ 2 + k := List.length_take_le _ _
      change (lineOf dtx (h.l.take (2 + k))).size ≤ _ at lz
      by_cases hlt : k < 6
      · obtain ⟨z, hz, hcz⟩ := a_at (h := h) (A := A) (n := n) (c := c) hlt
        have hcell := (hbx.reads (2 + k)).trans hcz
        have hzb := HO.out z (List.mem_of_getElem? hz)
        have hzt := fun w => HT.out z w hzb
        have sz := HS.out z hzb
        have htk := lineOf_take dtx hz (by omega)
        have HZT := Lib.hid hzt
        have HTK := Lib.hid htk
        have i1 : (0 : Int) ≤ (k : Int) := by omega
        have i2 : (k : Int) < 6 := by omega
        have e2 : ¬ 9223372036854775807 < (lineOf dtx (h.l.take (2 + k))).size + 1 := by omega
        have e3 : ¬ 9223372036854775807 < (lineOf dtx (h.l.take (2 + k))).size + 1 + (dtx z).size := by omega
        clear hz hcz hbx hzb hzt htk hlt8
        go_wp2_with (go_at_call 38; refine Hid.out ?_)
        refine Lib.hid ?_
        refine (HZT.out _).mono ?_
        rintro e w2 ⟨rfl, B2⟩
        have HB2 := Lib.hid (bel_trans hB.out B2)
        clear B2 hcell
        go_wp2_with fail
        go_roundw
        case rel => exact ⟨k + 1, by omega, by go_num, by rw [← HTK.out]; rfl, HB2⟩
        case measure => simp [intOf]; omega
      · obtain rfl : k = 6 := by omega
        have HB6 := Lib.hid (hB.out)
        have h0 : lineOf dtx (h.l.take (2 + 6)) = lineOf dtx h.l := rfl
        rw [h0, show (((6 : Nat) : Int)) = 6 from rfl]
        have hlen := HR.out.len
        have HLEN := Lib.hid hlen
        clear hbx lz hlt8 h0 hlen hlt
        go_wp2_with fail
        go_loopw [3, 5] (fun v3 v5 wr => ∃ k : Nat, k ≤ n ∧ v5 = .int .i64 k ∧ v3 = .string (textOf dtx h (rs.take k)) ∧ Hid (Below W0.heap.size W0 wr)) (fun _ v5 _ => n - (intOf v5).toNat)
        case atStart => exact ⟨0, by omega, rfl, rfl, HB6⟩
        case round =>
          obtain ⟨k, hk, rfl, rfl, hC⟩ := hrel
          have hbx := HB0.out.kept_below hC.out (by omega)
          have d8 := (hbx.reads 8).trans (show _ = some (Value.slice A n c) from rfl)
          have tz := textOf_size numTFull h rs HO.out HOS.out k (by have := HLEN.out; omega)
          change (textOf dtx h (rs.take k)).size ≤ _ at tz
          by_cases hlt : k < n
          · have Bw : Below w.heap.size w _ := HBE.out.trans (hC.out.mono (by omega))
            obtain ⟨b, off, x, rfl, hbl, hx, _, x0, x1, x2, x3, x4⟩ := (HR.out.carry Bw).at_ hlt
            have hxo := HOS.out x (List.mem_of_getElem? hx)
            have HX := Lib.hid hx
            have HXO := Lib.hid hxo
            have z2 : (⟨#[32, 91]⟩ : ByteArray).size = 2 := rfl
            have e4 : ¬ 9223372036854775807 < (textOf dtx h (rs.take k)).size + 2 := by omega
            obtain ⟨T, hT⟩ : ∃ T, T = textOf dtx h (rs.take k) ++ ⟨#[32, 91]⟩ := ⟨_, rfl⟩
            have hTs : T.size ≤ 252 + 160 * k := by rw [hT, ByteArray.size_append, z2]; omega
            have HTT := Lib.hid hT
            clear hbx hx hxo x0 x1 x2 x3 x4
            go_wp2_with fail
            rw [← hT]
            clear hT d8
            go_loopw [3, 6] (fun v3 v6 w2 => ∃ j : Nat, j ≤ 5 ∧ v6 = .int .i64 j ∧ v3 = .string (T ++ lineOf dtx (x.l.take j)) ∧ Hid (Below W0.heap.size W0 w2)) (fun _ v6 _ => 5 - (intOf v6).toNat)
            case atStart => exact ⟨0, by omega, rfl, by rw [List.take_zero, lineOf_nil, ByteArray.append_empty], hC⟩
            case round =>
              obtain ⟨j, hj, rfl, rfl, hD⟩ := hrel
              have hbx2 := HB0.out.kept_below hD.out (by omega)
              have g8 := (hbx2.reads 8).trans (show _ = some (Value.slice (some ⟨b, off, none⟩) n c) from rfl)
              have lj := lineOf_size numTFull (x.l.take j) (fun z hz => HXO.out z (List.mem_of_mem_take hz))
              have lj5 : (x.l.take j).length ≤ j := List.length_take_le _ _
              change (lineOf dtx (x.l.take j)).size ≤ _ at lj
              by_cases hjt : j < 5
              · have hzj : x.l[j]? = some (x.l[j]'(by simp [R5.l]; omega)) := List.getElem?_eq_getElem _
                generalize x.l[j]'(by simp [R5.l]; omega) = z at hzj
                have hzb := HXO.out z (List.mem_of_getElem? hzj)
                have Bw2 : Below w.heap.size w _ := HBE.out.trans (hD.out.mono (by omega))
                have hcell := (HR.out.carry Bw2).num HX.out hzj hlt hjt
                have hzt := fun w => HT.out z w hzb
                have sz := HS.out z hzb
                have HZT := Lib.hid hzt
                have HZJ := Lib.hid hzj
                have i1 : (0 : Int) ≤ (j : Int) := by omega
                have i2 : (j : Int) < 5 := by omega
                have i3 : (0 : Int) ≤ (k : Int) := by omega
                have i4 : (k : Int) < (n : Int) := by omega
                have htk0 : 0 < j → lineOf dtx (x.l.take (j + 1)) = lineOf dtx (x.l.take j) ++ ⟨#[32]⟩ ++ dtx z := fun hp => lineOf_take dtx hzj hp
                have HTK0 := Lib.hid htk0
                have HDD := Lib.hid (hD.out)
                by_cases hj0 : 0 < j
                · have htk1 : T ++ lineOf dtx (x.l.take (j + 1)) = T ++ lineOf dtx (x.l.take j) ++ ⟨#[32]⟩ ++ dtx z := by rw [htk0 hj0]; simp only [ByteArray.append_assoc]
                  have HK1 := Lib.hid htk1
                  have i5 : (0 : Int) < (j : Int) := by omega
                  have sT : (T ++ lineOf dtx (x.l.take j)).size = T.size + (lineOf dtx (x.l.take j)).size := ByteArray.size_append
                  have f1 : ¬ 9223372036854775807 < (T ++ lineOf dtx (x.l.take j)).size + 1 := by omega
                  have f2 : ¬ 9223372036854775807 < (T ++ lineOf dtx (x.l.take j)).size + 1 + (dtx z).size := by omega
                  obtain ⟨T2, hT2⟩ : ∃ T2, T2 = T ++ lineOf dtx (x.l.take j) := ⟨_, rfl⟩
                  rw [← hT2] at f1 f2 HK1 ⊢
                  clear hbx2 lj lj5 hzj hzb hzt htk0 sT htk1 hT2 tz hTs
                  go_wp2_with (go_at_call 38; refine Hid.out ?_)
                  refine Lib.hid ?_
                  refine (HZT.out _).mono ?_
                  rintro e w9 ⟨rfl, B9⟩
                  have HB9 := Lib.hid (bel_trans HDD.out B9)
                  clear B9 hcell g8
                  go_wp2_with fail
                  go_roundw
                  case rel => exact ⟨j + 1, by omega, by go_num, by rw [HK1.out], HB9⟩
                  case measure => simp [intOf]; omega
                · have hjz : j = 0 := by omega
                  have HJZ := Lib.hid hjz
                  have htk1 : T ++ lineOf dtx (x.l.take (j + 1)) = T ++ lineOf dtx (x.l.take j) ++ dtx z := by
                    rw [hjz] at hzj ⊢
                    rw [List.take_zero, lineOf_nil, ByteArray.append_empty, List.take_add_one, hzj, Option.toList_some, List.take_zero, List.nil_append, lineOf_one]
                  have HK1 := Lib.hid htk1
                  have i5 : ¬ (0 : Int) < (j : Int) := by omega
                  have sT : (T ++ lineOf dtx (x.l.take j)).size = T.size + (lineOf dtx (x.l.take j)).size := ByteArray.size_append
                  have f2 : ¬ 9223372036854775807 < (T ++ lineOf dtx (x.l.take j)).size + (dtx z).size := by omega
                  obtain ⟨T2, hT2⟩ : ∃ T2, T2 = T ++ lineOf dtx (x.l.take j) := ⟨_, rfl⟩
                  rw [← hT2] at f2 HK1 ⊢
                  clear hbx2 lj lj5 hzj hzb hzt htk0 sT htk1 hT2 tz hTs hjz
                  go_wp2_with (go_at_call 38; refine Hid.out ?_)
                  refine Lib.hid ?_
                  refine (HZT.out _).mono ?_
                  rintro e w9 ⟨rfl, B9⟩
                  have HB9 := Lib.hid (bel_trans HDD.out B9)
                  clear B9 hcell g8
                  go_wp2_with fail
                  go_roundw
                  case rel => exact ⟨j + 1, by omega, by go_num, by rw [HK1.out], HB9⟩
                  case measure => simp [intOf]; omega
              · obtain rfl : j = 5 := by omega
                have z3 : (⟨#[93]⟩ : ByteArray).size = 1 := rfl
                have hx5 : x.l.take 5 = x.l := rfl
                rw [hx5] at lj ⊢
                have hl5 : x.l.length = 5 := rfl
                have sT : (T ++ lineOf dtx x.l).size = T.size + (lineOf dtx x.l).size := ByteArray.size_append
                have f1 : ¬ 9223372036854775807 < (T ++ lineOf dtx x.l).size + 1 := by omega
                have hstep : textOf dtx h (rs.take (k + 1)) = T ++ lineOf dtx x.l ++ ⟨#[93]⟩ := by
                  rw [textOf_step HX.out, HTT.out]
                  simp only [rowTxt, ByteArray.append_assoc]
                obtain ⟨T2, hT2⟩ : ∃ T2, T2 = T ++ lineOf dtx x.l := ⟨_, rfl⟩
                rw [← hT2] at f1 hstep ⊢
                have HSTEP := Lib.hid hstep
                have HDD := Lib.hid (hD.out)
                clear hbx2 lj lj5 sT hT2 tz hTs hstep g8 hx5
                go_wp2_with fail
                go_roundw
                case rel => exact ⟨k + 1, by omega, by go_num, by rw [HSTEP.out], HDD⟩
                case measure => simp [intOf]; omega
          · obtain rfl : k = n := by omega
            have htk : rs.take k = rs := List.take_of_length_le (by have := HLEN.out; omega)
            rw [htk]
            clear tz htk
            go_wp2_with fail
            go_ret
            exact ⟨rfl, HBE.out.trans (hC.out.mono (by omega))⟩
end Go.Proofs.YtegjimagphdncaaDoor

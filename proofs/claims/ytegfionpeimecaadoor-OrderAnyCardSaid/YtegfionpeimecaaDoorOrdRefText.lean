/- The reference's OrderText, whatever the order of a side. -/
import Derived.Test.YtegfionpeimecaaDoorOrdText
set_option linter.unusedSimpArgs false
namespace Go.Proofs.YtegfionpeimecaaDoor
open Go.RowKit Go.Mem1 Go.OrdMath

theorem txt_fin1 (a : ByteArray) : a ++ (⟨#[]⟩ : ByteArray) = a := by
  show a ++ ByteArray.empty = a
  simp
theorem txt_fin2 (a : ByteArray) (x : UInt8) : a ++ ⟨#[32]⟩ ++ (⟨#[x, 32]⟩ : ByteArray) = a ++ ⟨#[32]⟩ ++ ⟨#[x]⟩ ++ ⟨#[32]⟩ := by
  rw [show (⟨#[x, 32]⟩ : ByteArray) = ⟨#[x]⟩ ++ ⟨#[32]⟩ from rfl, ByteArray.append_assoc, ByteArray.append_assoc, ByteArray.append_assoc]
set_option maxRecDepth 100000 in
set_option maxHeartbeats 8000000 in
theorem rotext_any (o : Ord) (w : World) (ho : o.sd = 1 ∨ o.sd = 2) (h1 : bd64 o.id) (h2 : bd64 o.own) (h3 : bd64 o.q) (h4 : bd64 o.pr) :
    Calls Tryd.prog 19 #[ordV o] w fun r w' => r = .returned (.string (textO dtx o)) ∧ Below w.heap.size w w' := by
  obtain ⟨i, ow, s, p, q, cu, lf⟩ := o
  dsimp only at h1 h2 h3 h4 ho
  have hT : textO dtx ⟨i, ow, s, p, q, cu, lf⟩ = dtx i ++ ⟨#[32]⟩ ++ dtx ow ++ ⟨#[32]⟩ ++ sideS s ++ ⟨#[32]⟩ ++ dtx q ++ ⟨#[64]⟩ ++ dtx p ++ ⟨#[32]⟩ ++ lifeS lf ++ (if cu then ⟨#[32, 99]⟩ else ⟨#[]⟩) := rfl
  rw [hT]
  clear hT
  obtain ⟨W1, hW1⟩ : ∃ W1, w.alloc (.cells #[.int .i64 i, .int .i64 ow, .int .i64 s, .int .i64 p, .int .i64 q, .bool cu, .int .i64 lf] 38) = W1 := ⟨_, rfl⟩
  have B1 : Below w.heap.size w W1 := by rw [← hW1]; exact bel_new _ _
  have hx : Box W1 w.heap.size 38 #[.int .i64 i, .int .i64 ow, .int .i64 s, .int .i64 p, .int .i64 q, .bool cu, .int .i64 lf] := by rw [← hW1]; exact Box.fresh _ _ _ rfl
  have z1 := hx.there
  have T1 := Lib.hid (fun w' hb => from_w (W := W1) (refText_all i w' h1.1 h1.2) hb)
  have T2 := Lib.hid (fun w' hb => from_w (W := W1) (refText_all ow w' h2.1 h2.2) hb)
  have T4 := Lib.hid (fun w' hb => from_w (W := W1) (refText_all q w' h3.1 h3.2) hb)
  have T5 := Lib.hid (fun w' hb => from_w (W := W1) (refText_all p w' h4.1 h4.2) hb)
  have KS := Lib.hid (fun w' (hb : Below W1.heap.size W1 w') => (⟨((hx.kept_below hb z1).reads 0).trans rfl, ((hx.kept_below hb z1).reads 1).trans rfl, ((hx.kept_below hb z1).reads 2).trans rfl, ((hx.kept_below hb z1).reads 3).trans rfl, ((hx.kept_below hb z1).reads 4).trans rfl, ((hx.kept_below hb z1).reads 5).trans rfl, ((hx.kept_below hb z1).reads 6).trans rfl⟩ :
    w'.cell? ⟨w.heap.size, 0, none⟩ = some (.int .i64 i) ∧ w'.cell? ⟨w.heap.size, 1, none⟩ = some (.int .i64 ow) ∧ w'.cell? ⟨w.heap.size, 2, none⟩ = some (.int .i64 s) ∧ w'.cell? ⟨w.heap.size, 3, none⟩ = some (.int .i64 p) ∧ w'.cell? ⟨w.heap.size, 4, none⟩ = some (.int .i64 q) ∧ w'.cell? ⟨w.heap.size, 5, none⟩ = some (.bool cu) ∧ w'.cell? ⟨w.heap.size, 6, none⟩ = some (.int .i64 lf)))
  have hS0 := KS.out W1 (Below.refl _ _)
  have hSd := KS.out W1.drew (Below.refl _ _).drew
  have B0 : Hid (Below W1.heap.size W1 W1.drew) := Lib.hid (Below.refl _ _).drew
  have s1 : (dtx i).size ≤ 30 := itoaTxt_size i h1
  have s2 : (dtx ow).size ≤ 30 := itoaTxt_size ow h2
  have s4 : (dtx q).size ≤ 30 := itoaTxt_size q h3
  have s5 : (dtx p).size ≤ 30 := itoaTxt_size p h4
  have s6 := lifeS_size lf
  change Hid (∀ (w' : World), _ → Calls _ _ _ _ fun r w2 => r = .returned (.string (dtx i)) ∧ _) at T1
  change Hid (∀ (w' : World), _ → Calls _ _ _ _ fun r w2 => r = .returned (.string (dtx ow)) ∧ _) at T2
  change Hid (∀ (w' : World), _ → Calls _ _ _ _ fun r w2 => r = .returned (.string (dtx q)) ∧ _) at T4
  change Hid (∀ (w' : World), _ → Calls _ _ _ _ fun r w2 => r = .returned (.string (dtx p)) ∧ _) at T5
  generalize dtx i = t1 at *
  generalize dtx ow = t2 at *
  generalize dtx q = t4 at *
  generalize dtx p = t5 at *
  have q1 : ¬ 9223372036854775807 < t1.size + 1 := by omega
  have q2 : ¬ 9223372036854775807 < t1.size + 1 + t2.size := by omega
  have q3 : ¬ 9223372036854775807 < t1.size + 1 + t2.size + 1 := by omega
  have q5 : ¬ 9223372036854775807 < t1.size + 1 + t2.size + 1 + 2 := by omega
  have q6 : ¬ 9223372036854775807 < t1.size + 1 + t2.size + 1 + 2 + t4.size := by omega
  have q7 : ¬ 9223372036854775807 < t1.size + 1 + t2.size + 1 + 2 + t4.size + 1 := by omega
  have q8 : ¬ 9223372036854775807 < t1.size + 1 + t2.size + 1 + 2 + t4.size + 1 + t5.size := by omega
  have q9 : ¬ 9223372036854775807 < t1.size + 1 + t2.size + 1 + 2 + t4.size + 1 + t5.size + 1 := by omega
  have q10 : ¬ 9223372036854775807 < t1.size + 1 + t2.size + 1 + 2 + t4.size + 1 + t5.size + 1 + (lifeS lf).size := by omega
  have q11 : ¬ 9223372036854775807 < t1.size + 1 + t2.size + 1 + 2 + t4.size + 1 + t5.size + 1 + (lifeS lf).size + 2 := by omega
  have e1 : (⟨#[32]⟩ : ByteArray).size = 1 := rfl
  have e2 : (⟨#[64]⟩ : ByteArray).size = 1 := rfl
  have e3 : (⟨#[32, 99]⟩ : ByteArray).size = 2 := rfl
  have e4 : (⟨#[66, 32]⟩ : ByteArray).size = 2 := rfl
  have e5 : (⟨#[83, 32]⟩ : ByteArray).size = 2 := rfl
  have HB := Lib.hid B1
  clear B1 h1 h2 h3 h4 s1 s2 s4 s5 s6 hx
  go_enter Tryd.func19, Tryd.ntmps19
  go_wp2_with fail
  try rw [hW1]
  clear hW1
  go_region_held3 (fun w' => w'.cell? ⟨w.heap.size, 0, none⟩ = some (.int .i64 i) ∧ w'.cell? ⟨w.heap.size, 1, none⟩ = some (.int .i64 ow) ∧ w'.cell? ⟨w.heap.size, 2, none⟩ = some (.int .i64 s) ∧ w'.cell? ⟨w.heap.size, 3, none⟩ = some (.int .i64 p) ∧ w'.cell? ⟨w.heap.size, 4, none⟩ = some (.int .i64 q) ∧ w'.cell? ⟨w.heap.size, 5, none⟩ = some (.bool cu) ∧ w'.cell? ⟨w.heap.size, 6, none⟩ = some (.int .i64 lf))
    (first | with_reducible exact hS0 | with_reducible exact hSd | with_reducible exact KS.out _ BA.out | with_reducible exact KS.out _ BB.out)
    ((first
      | (go_at_call 33; (with_reducible refine (T1.out _ B0.out).mono ?_); rintro r wA ⟨rfl, BA⟩; replace BA := Lib.hid BA)
      | (go_at_call 33; (with_reducible refine (T2.out _ BA.out).mono ?_); rintro r wB ⟨rfl, BB⟩; replace BB := Lib.hid BB)))
  all_goals
    have BW := Lib.hid BB.out
    clear hS0 hSd B0 T1 T2 BA
    rcases ho with rfl | rfl
    · have hS : sideS 1 = ⟨#[66]⟩ := rfl
      by_cases hl : 1 ≤ lf ∧ lf ≤ 4
      · rcases (show lf = 1 ∨ lf = 2 ∨ lf = 3 ∨ lf = 4 by omega) with rfl | rfl | rfl | rfl
        · have hL : lifeS 1 = ⟨#[100, 97, 121]⟩ := rfl
          rw [hL] at q10 q11
          have e6 : (⟨#[100, 97, 121]⟩ : ByteArray).size = 3 := rfl
          rw [e6] at q10 q11
          obtain ⟨W2, hW2⟩ : ∃ W2, wB.alloc (.cells #[.string ⟨#[]⟩, .string ⟨#[100, 97, 121]⟩, .string ⟨#[105, 111, 99]⟩, .string ⟨#[102, 111, 107]⟩, .string ⟨#[112, 111, 115, 116]⟩] 9) = W2 := ⟨_, rfl⟩
          have BW2 : Hid (Below W1.heap.size W1 W2) := Lib.hid (by rw [← hW2]; exact bel_alloc BW.out _)
          have kk : W2.cell? ⟨wB.heap.size, 1, none⟩ = some (.string ⟨#[100, 97, 121]⟩) := by rw [← hW2]; simp
          have kb := KS.out wB BB.out
          obtain ⟨_, _, kb2, _, _, _, kb6⟩ := kb
          have hS2 := KS.out W2 BW2.out
          have hSd2 := KS.out W2.drew (BW2.out.drew)
          have B2 : Hid (Below W1.heap.size W1 W2.drew) := Lib.hid BW2.out.drew
          obtain ⟨k0, k1, k2, k3, k4, k5, k6⟩ := hS2
          have hS2 := KS.out W2 BW2.out
          go_wp2_with fail
          try clear hW2
          clear k0 k1 k2 k3 k4 k5 k6
          go_region_held3 (fun w' => w'.cell? ⟨w.heap.size, 0, none⟩ = some (.int .i64 i) ∧ w'.cell? ⟨w.heap.size, 1, none⟩ = some (.int .i64 ow) ∧ w'.cell? ⟨w.heap.size, 2, none⟩ = some (.int .i64 1) ∧ w'.cell? ⟨w.heap.size, 3, none⟩ = some (.int .i64 p) ∧ w'.cell? ⟨w.heap.size, 4, none⟩ = some (.int .i64 q) ∧ w'.cell? ⟨w.heap.size, 5, none⟩ = some (.bool cu) ∧ w'.cell? ⟨w.heap.size, 6, none⟩ = some (.int .i64 1))
            (first | with_reducible exact hS2 | with_reducible exact hSd2 | with_reducible exact KS.out _ BC.out | with_reducible exact KS.out _ BD.out)
            ((first
                | (go_at_call 33; (with_reducible refine (T4.out _ B2.out).mono ?_); rintro r wC ⟨rfl, BC⟩; replace BC := Lib.hid BC)
                | (go_at_call 33; (with_reducible refine (T5.out _ BC.out).mono ?_); rintro r wD ⟨rfl, BD⟩; replace BD := Lib.hid BD)))
          all_goals
            obtain ⟨k0, k1, k2, k3, k4, k5, k6⟩ := KS.out _ BD.out
            have Bfin := Lib.hid (HB.out.trans (BD.out.mono HB.out.size))
            clear hS2 hSd2 B2 KS T4 T5 BC BD HB
            cases cu with
            | true =>
              go_wp2_with fail
              go_ret
              exact ⟨rs (by simp [hS, hL, txt_fin1, txt_fin2]), Bfin.out⟩
            | false =>
              go_wp2_with fail
              go_ret
              exact ⟨rs (by simp [hS, hL, txt_fin1, txt_fin2]), Bfin.out⟩
        · have hL : lifeS 2 = ⟨#[105, 111, 99]⟩ := rfl
          rw [hL] at q10 q11
          have e6 : (⟨#[105, 111, 99]⟩ : ByteArray).size = 3 := rfl
          rw [e6] at q10 q11
          obtain ⟨W2, hW2⟩ : ∃ W2, wB.alloc (.cells #[.string ⟨#[]⟩, .string ⟨#[100, 97, 121]⟩, .string ⟨#[105, 111, 99]⟩, .string ⟨#[102, 111, 107]⟩, .string ⟨#[112, 111, 115, 116]⟩] 9) = W2 := ⟨_, rfl⟩
          have BW2 : Hid (Below W1.heap.size W1 W2) := Lib.hid (by rw [← hW2]; exact bel_alloc BW.out _)
          have kk : W2.cell? ⟨wB.heap.size, 2, none⟩ = some (.string ⟨#[105, 111, 99]⟩) := by rw [← hW2]; simp
          have kb := KS.out wB BB.out
          obtain ⟨_, _, kb2, _, _, _, kb6⟩ := kb
          have hS2 := KS.out W2 BW2.out
          have hSd2 := KS.out W2.drew (BW2.out.drew)
          have B2 : Hid (Below W1.heap.size W1 W2.drew) := Lib.hid BW2.out.drew
          obtain ⟨k0, k1, k2, k3, k4, k5, k6⟩ := hS2
          have hS2 := KS.out W2 BW2.out
          go_wp2_with fail
          try clear hW2
          clear k0 k1 k2 k3 k4 k5 k6
          go_region_held3 (fun w' => w'.cell? ⟨w.heap.size, 0, none⟩ = some (.int .i64 i) ∧ w'.cell? ⟨w.heap.size, 1, none⟩ = some (.int .i64 ow) ∧ w'.cell? ⟨w.heap.size, 2, none⟩ = some (.int .i64 1) ∧ w'.cell? ⟨w.heap.size, 3, none⟩ = some (.int .i64 p) ∧ w'.cell? ⟨w.heap.size, 4, none⟩ = some (.int .i64 q) ∧ w'.cell? ⟨w.heap.size, 5, none⟩ = some (.bool cu) ∧ w'.cell? ⟨w.heap.size, 6, none⟩ = some (.int .i64 2))
            (first | with_reducible exact hS2 | with_reducible exact hSd2 | with_reducible exact KS.out _ BC.out | with_reducible exact KS.out _ BD.out)
            ((first
                | (go_at_call 33; (with_reducible refine (T4.out _ B2.out).mono ?_); rintro r wC ⟨rfl, BC⟩; replace BC := Lib.hid BC)
                | (go_at_call 33; (with_reducible refine (T5.out _ BC.out).mono ?_); rintro r wD ⟨rfl, BD⟩; replace BD := Lib.hid BD)))
          all_goals
            obtain ⟨k0, k1, k2, k3, k4, k5, k6⟩ := KS.out _ BD.out
            have Bfin := Lib.hid (HB.out.trans (BD.out.mono HB.out.size))
            clear hS2 hSd2 B2 KS T4 T5 BC BD HB
            cases cu with
            | true =>
              go_wp2_with fail
              go_ret
              exact ⟨rs (by simp [hS, hL, txt_fin1, txt_fin2]), Bfin.out⟩
            | false =>
              go_wp2_with fail
              go_ret
              exact ⟨rs (by simp [hS, hL, txt_fin1, txt_fin2]), Bfin.out⟩
        · have hL : lifeS 3 = ⟨#[102, 111, 107]⟩ := rfl
          rw [hL] at q10 q11
          have e6 : (⟨#[102, 111, 107]⟩ : ByteArray).size = 3 := rfl
          rw [e6] at q10 q11
          obtain ⟨W2, hW2⟩ : ∃ W2, wB.alloc (.cells #[.string ⟨#[]⟩, .string ⟨#[100, 97, 121]⟩, .string ⟨#[105, 111, 99]⟩, .string ⟨#[102, 111, 107]⟩, .string ⟨#[112, 111, 115, 116]⟩] 9) = W2 := ⟨_, rfl⟩
          have BW2 : Hid (Below W1.heap.size W1 W2) := Lib.hid (by rw [← hW2]; exact bel_alloc BW.out _)
          have kk : W2.cell? ⟨wB.heap.size, 3, none⟩ = some (.string ⟨#[102, 111, 107]⟩) := by rw [← hW2]; simp
          have kb := KS.out wB BB.out
          obtain ⟨_, _, kb2, _, _, _, kb6⟩ := kb
          have hS2 := KS.out W2 BW2.out
          have hSd2 := KS.out W2.drew (BW2.out.drew)
          have B2 : Hid (Below W1.heap.size W1 W2.drew) := Lib.hid BW2.out.drew
          obtain ⟨k0, k1, k2, k3, k4, k5, k6⟩ := hS2
          have hS2 := KS.out W2 BW2.out
          go_wp2_with fail
          try clear hW2
          clear k0 k1 k2 k3 k4 k5 k6
          go_region_held3 (fun w' => w'.cell? ⟨w.heap.size, 0, none⟩ = some (.int .i64 i) ∧ w'.cell? ⟨w.heap.size, 1, none⟩ = some (.int .i64 ow) ∧ w'.cell? ⟨w.heap.size, 2, none⟩ = some (.int .i64 1) ∧ w'.cell? ⟨w.heap.size, 3, none⟩ = some (.int .i64 p) ∧ w'.cell? ⟨w.heap.size, 4, none⟩ = some (.int .i64 q) ∧ w'.cell? ⟨w.heap.size, 5, none⟩ = some (.bool cu) ∧ w'.cell? ⟨w.heap.size, 6, none⟩ = some (.int .i64 3))
            (first | with_reducible exact hS2 | with_reducible exact hSd2 | with_reducible exact KS.out _ BC.out | with_reducible exact KS.out _ BD.out)
            ((first
                | (go_at_call 33; (with_reducible refine (T4.out _ B2.out).mono ?_); rintro r wC ⟨rfl, BC⟩; replace BC := Lib.hid BC)
                | (go_at_call 33; (with_reducible refine (T5.out _ BC.out).mono ?_); rintro r wD ⟨rfl, BD⟩; replace BD := Lib.hid BD)))
          all_goals
            obtain ⟨k0, k1, k2, k3, k4, k5, k6⟩ := KS.out _ BD.out
            have Bfin := Lib.hid (HB.out.trans (BD.out.mono HB.out.size))
            clear hS2 hSd2 B2 KS T4 T5 BC BD HB
            cases cu with
            | true =>
              go_wp2_with fail
              go_ret
              exact ⟨rs (by simp [hS, hL, txt_fin1, txt_fin2]), Bfin.out⟩
            | false =>
              go_wp2_with fail
              go_ret
              exact ⟨rs (by simp [hS, hL, txt_fin1, txt_fin2]), Bfin.out⟩
        · have hL : lifeS 4 = ⟨#[112, 111, 115, 116]⟩ := rfl
          rw [hL] at q10 q11
          have e6 : (⟨#[112, 111, 115, 116]⟩ : ByteArray).size = 4 := rfl
          rw [e6] at q10 q11
          obtain ⟨W2, hW2⟩ : ∃ W2, wB.alloc (.cells #[.string ⟨#[]⟩, .string ⟨#[100, 97, 121]⟩, .string ⟨#[105, 111, 99]⟩, .string ⟨#[102, 111, 107]⟩, .string ⟨#[112, 111, 115, 116]⟩] 9) = W2 := ⟨_, rfl⟩
          have BW2 : Hid (Below W1.heap.size W1 W2) := Lib.hid (by rw [← hW2]; exact bel_alloc BW.out _)
          have kk : W2.cell? ⟨wB.heap.size, 4, none⟩ = some (.string ⟨#[112, 111, 115, 116]⟩) := by rw [← hW2]; simp
          have kb := KS.out wB BB.out
          obtain ⟨_, _, kb2, _, _, _, kb6⟩ := kb
          have hS2 := KS.out W2 BW2.out
          have hSd2 := KS.out W2.drew (BW2.out.drew)
          have B2 : Hid (Below W1.heap.size W1 W2.drew) := Lib.hid BW2.out.drew
          obtain ⟨k0, k1, k2, k3, k4, k5, k6⟩ := hS2
          have hS2 := KS.out W2 BW2.out
          go_wp2_with fail
          try clear hW2
          clear k0 k1 k2 k3 k4 k5 k6
          go_region_held3 (fun w' => w'.cell? ⟨w.heap.size, 0, none⟩ = some (.int .i64 i) ∧ w'.cell? ⟨w.heap.size, 1, none⟩ = some (.int .i64 ow) ∧ w'.cell? ⟨w.heap.size, 2, none⟩ = some (.int .i64 1) ∧ w'.cell? ⟨w.heap.size, 3, none⟩ = some (.int .i64 p) ∧ w'.cell? ⟨w.heap.size, 4, none⟩ = some (.int .i64 q) ∧ w'.cell? ⟨w.heap.size, 5, none⟩ = some (.bool cu) ∧ w'.cell? ⟨w.heap.size, 6, none⟩ = some (.int .i64 4))
            (first | with_reducible exact hS2 | with_reducible exact hSd2 | with_reducible exact KS.out _ BC.out | with_reducible exact KS.out _ BD.out)
            ((first
                | (go_at_call 33; (with_reducible refine (T4.out _ B2.out).mono ?_); rintro r wC ⟨rfl, BC⟩; replace BC := Lib.hid BC)
                | (go_at_call 33; (with_reducible refine (T5.out _ BC.out).mono ?_); rintro r wD ⟨rfl, BD⟩; replace BD := Lib.hid BD)))
          all_goals
            obtain ⟨k0, k1, k2, k3, k4, k5, k6⟩ := KS.out _ BD.out
            have Bfin := Lib.hid (HB.out.trans (BD.out.mono HB.out.size))
            clear hS2 hSd2 B2 KS T4 T5 BC BD HB
            cases cu with
            | true =>
              go_wp2_with fail
              go_ret
              exact ⟨rs (by simp [hS, hL, txt_fin1, txt_fin2]), Bfin.out⟩
            | false =>
              go_wp2_with fail
              go_ret
              exact ⟨rs (by simp [hS, hL, txt_fin1, txt_fin2]), Bfin.out⟩
      · have hL : lifeS lf = ⟨#[45]⟩ := by unfold lifeS; rw [if_neg (by omega), if_neg (by omega), if_neg (by omega), if_neg (by omega)]
        rw [hL] at q10 q11
        have e6 : (⟨#[45]⟩ : ByteArray).size = 1 := rfl
        rw [e6] at q10 q11
        have BW2 := BB
        rcases (show lf < 1 ∨ 4 < lf by omega) with hl1 | hl1
        all_goals
          have hS2 := KS.out wB BW2.out
          have hSd2 := KS.out wB.drew (BW2.out.drew)
          have B2 : Hid (Below W1.heap.size W1 wB.drew) := Lib.hid BW2.out.drew
          obtain ⟨k0, k1, k2, k3, k4, k5, k6⟩ := hS2
          have hS2 := KS.out wB BW2.out
          go_wp2_with fail
          try clear hW2
          clear k0 k1 k2 k3 k4 k5 k6
          go_region_held3 (fun w' => w'.cell? ⟨w.heap.size, 0, none⟩ = some (.int .i64 i) ∧ w'.cell? ⟨w.heap.size, 1, none⟩ = some (.int .i64 ow) ∧ w'.cell? ⟨w.heap.size, 2, none⟩ = some (.int .i64 1) ∧ w'.cell? ⟨w.heap.size, 3, none⟩ = some (.int .i64 p) ∧ w'.cell? ⟨w.heap.size, 4, none⟩ = some (.int .i64 q) ∧ w'.cell? ⟨w.heap.size, 5, none⟩ = some (.bool cu) ∧ w'.cell? ⟨w.heap.size, 6, none⟩ = some (.int .i64 lf))
            (first | with_reducible exact hS2 | with_reducible exact hSd2 | with_reducible exact KS.out _ BC.out | with_reducible exact KS.out _ BD.out)
            ((first
                | (go_at_call 33; (with_reducible refine (T4.out _ B2.out).mono ?_); rintro r wC ⟨rfl, BC⟩; replace BC := Lib.hid BC)
                | (go_at_call 33; (with_reducible refine (T5.out _ BC.out).mono ?_); rintro r wD ⟨rfl, BD⟩; replace BD := Lib.hid BD)))
          all_goals
            obtain ⟨k0, k1, k2, k3, k4, k5, k6⟩ := KS.out _ BD.out
            have Bfin := Lib.hid (HB.out.trans (BD.out.mono HB.out.size))
            clear hS2 hSd2 B2 KS T4 T5 BC BD HB
            cases cu with
            | true =>
              go_wp2_with fail
              go_ret
              exact ⟨rs (by simp [hS, hL, txt_fin1, txt_fin2]), Bfin.out⟩
            | false =>
              go_wp2_with fail
              go_ret
              exact ⟨rs (by simp [hS, hL, txt_fin1, txt_fin2]), Bfin.out⟩
    · have hS : sideS 2 = ⟨#[83]⟩ := rfl
      by_cases hl : 1 ≤ lf ∧ lf ≤ 4
      · rcases (show lf = 1 ∨ lf = 2 ∨ lf = 3 ∨ lf = 4 by omega) with rfl | rfl | rfl | rfl
        · have hL : lifeS 1 = ⟨#[100, 97, 121]⟩ := rfl
          rw [hL] at q10 q11
          have e6 : (⟨#[100, 97, 121]⟩ : ByteArray).size = 3 := rfl
          rw [e6] at q10 q11
          obtain ⟨W2, hW2⟩ : ∃ W2, wB.alloc (.cells #[.string ⟨#[]⟩, .string ⟨#[100, 97, 121]⟩, .string ⟨#[105, 111, 99]⟩, .string ⟨#[102, 111, 107]⟩, .string ⟨#[112, 111, 115, 116]⟩] 9) = W2 := ⟨_, rfl⟩
          have BW2 : Hid (Below W1.heap.size W1 W2) := Lib.hid (by rw [← hW2]; exact bel_alloc BW.out _)
          have kk : W2.cell? ⟨wB.heap.size, 1, none⟩ = some (.string ⟨#[100, 97, 121]⟩) := by rw [← hW2]; simp
          have kb := KS.out wB BB.out
          obtain ⟨_, _, kb2, _, _, _, kb6⟩ := kb
          have hS2 := KS.out W2 BW2.out
          have hSd2 := KS.out W2.drew (BW2.out.drew)
          have B2 : Hid (Below W1.heap.size W1 W2.drew) := Lib.hid BW2.out.drew
          obtain ⟨k0, k1, k2, k3, k4, k5, k6⟩ := hS2
          have hS2 := KS.out W2 BW2.out
          go_wp2_with fail
          try clear hW2
          clear k0 k1 k2 k3 k4 k5 k6
          go_region_held3 (fun w' => w'.cell? ⟨w.heap.size, 0, none⟩ = some (.int .i64 i) ∧ w'.cell? ⟨w.heap.size, 1, none⟩ = some (.int .i64 ow) ∧ w'.cell? ⟨w.heap.size, 2, none⟩ = some (.int .i64 2) ∧ w'.cell? ⟨w.heap.size, 3, none⟩ = some (.int .i64 p) ∧ w'.cell? ⟨w.heap.size, 4, none⟩ = some (.int .i64 q) ∧ w'.cell? ⟨w.heap.size, 5, none⟩ = some (.bool cu) ∧ w'.cell? ⟨w.heap.size, 6, none⟩ = some (.int .i64 1))
            (first | with_reducible exact hS2 | with_reducible exact hSd2 | with_reducible exact KS.out _ BC.out | with_reducible exact KS.out _ BD.out)
            ((first
                | (go_at_call 33; (with_reducible refine (T4.out _ B2.out).mono ?_); rintro r wC ⟨rfl, BC⟩; replace BC := Lib.hid BC)
                | (go_at_call 33; (with_reducible refine (T5.out _ BC.out).mono ?_); rintro r wD ⟨rfl, BD⟩; replace BD := Lib.hid BD)))
          all_goals
            obtain ⟨k0, k1, k2, k3, k4, k5, k6⟩ := KS.out _ BD.out
            have Bfin := Lib.hid (HB.out.trans (BD.out.mono HB.out.size))
            clear hS2 hSd2 B2 KS T4 T5 BC BD HB
            cases cu with
            | true =>
              go_wp2_with fail
              go_ret
              exact ⟨rs (by simp [hS, hL, txt_fin1, txt_fin2]), Bfin.out⟩
            | false =>
              go_wp2_with fail
              go_ret
              exact ⟨rs (by simp [hS, hL, txt_fin1, txt_fin2]), Bfin.out⟩
        · have hL : lifeS 2 = ⟨#[105, 111, 99]⟩ := rfl
          rw [hL] at q10 q11
          have e6 : (⟨#[105, 111, 99]⟩ : ByteArray).size = 3 := rfl
          rw [e6] at q10 q11
          obtain ⟨W2, hW2⟩ : ∃ W2, wB.alloc (.cells #[.string ⟨#[]⟩, .string ⟨#[100, 97, 121]⟩, .string ⟨#[105, 111, 99]⟩, .string ⟨#[102, 111, 107]⟩, .string ⟨#[112, 111, 115, 116]⟩] 9) = W2 := ⟨_, rfl⟩
          have BW2 : Hid (Below W1.heap.size W1 W2) := Lib.hid (by rw [← hW2]; exact bel_alloc BW.out _)
          have kk : W2.cell? ⟨wB.heap.size, 2, none⟩ = some (.string ⟨#[105, 111, 99]⟩) := by rw [← hW2]; simp
          have kb := KS.out wB BB.out
          obtain ⟨_, _, kb2, _, _, _, kb6⟩ := kb
          have hS2 := KS.out W2 BW2.out
          have hSd2 := KS.out W2.drew (BW2.out.drew)
          have B2 : Hid (Below W1.heap.size W1 W2.drew) := Lib.hid BW2.out.drew
          obtain ⟨k0, k1, k2, k3, k4, k5, k6⟩ := hS2
          have hS2 := KS.out W2 BW2.out
          go_wp2_with fail
          try clear hW2
          clear k0 k1 k2 k3 k4 k5 k6
          go_region_held3 (fun w' => w'.cell? ⟨w.heap.size, 0, none⟩ = some (.int .i64 i) ∧ w'.cell? ⟨w.heap.size, 1, none⟩ = some (.int .i64 ow) ∧ w'.cell? ⟨w.heap.size, 2, none⟩ = some (.int .i64 2) ∧ w'.cell? ⟨w.heap.size, 3, none⟩ = some (.int .i64 p) ∧ w'.cell? ⟨w.heap.size, 4, none⟩ = some (.int .i64 q) ∧ w'.cell? ⟨w.heap.size, 5, none⟩ = some (.bool cu) ∧ w'.cell? ⟨w.heap.size, 6, none⟩ = some (.int .i64 2))
            (first | with_reducible exact hS2 | with_reducible exact hSd2 | with_reducible exact KS.out _ BC.out | with_reducible exact KS.out _ BD.out)
            ((first
                | (go_at_call 33; (with_reducible refine (T4.out _ B2.out).mono ?_); rintro r wC ⟨rfl, BC⟩; replace BC := Lib.hid BC)
                | (go_at_call 33; (with_reducible refine (T5.out _ BC.out).mono ?_); rintro r wD ⟨rfl, BD⟩; replace BD := Lib.hid BD)))
          all_goals
            obtain ⟨k0, k1, k2, k3, k4, k5, k6⟩ := KS.out _ BD.out
            have Bfin := Lib.hid (HB.out.trans (BD.out.mono HB.out.size))
            clear hS2 hSd2 B2 KS T4 T5 BC BD HB
            cases cu with
            | true =>
              go_wp2_with fail
              go_ret
              exact ⟨rs (by simp [hS, hL, txt_fin1, txt_fin2]), Bfin.out⟩
            | false =>
              go_wp2_with fail
              go_ret
              exact ⟨rs (by simp [hS, hL, txt_fin1, txt_fin2]), Bfin.out⟩
        · have hL : lifeS 3 = ⟨#[102, 111, 107]⟩ := rfl
          rw [hL] at q10 q11
          have e6 : (⟨#[102, 111, 107]⟩ : ByteArray).size = 3 := rfl
          rw [e6] at q10 q11
          obtain ⟨W2, hW2⟩ : ∃ W2, wB.alloc (.cells #[.string ⟨#[]⟩, .string ⟨#[100, 97, 121]⟩, .string ⟨#[105, 111, 99]⟩, .string ⟨#[102, 111, 107]⟩, .string ⟨#[112, 111, 115, 116]⟩] 9) = W2 := ⟨_, rfl⟩
          have BW2 : Hid (Below W1.heap.size W1 W2) := Lib.hid (by rw [← hW2]; exact bel_alloc BW.out _)
          have kk : W2.cell? ⟨wB.heap.size, 3, none⟩ = some (.string ⟨#[102, 111, 107]⟩) := by rw [← hW2]; simp
          have kb := KS.out wB BB.out
          obtain ⟨_, _, kb2, _, _, _, kb6⟩ := kb
          have hS2 := KS.out W2 BW2.out
          have hSd2 := KS.out W2.drew (BW2.out.drew)
          have B2 : Hid (Below W1.heap.size W1 W2.drew) := Lib.hid BW2.out.drew
          obtain ⟨k0, k1, k2, k3, k4, k5, k6⟩ := hS2
          have hS2 := KS.out W2 BW2.out
          go_wp2_with fail
          try clear hW2
          clear k0 k1 k2 k3 k4 k5 k6
          go_region_held3 (fun w' => w'.cell? ⟨w.heap.size, 0, none⟩ = some (.int .i64 i) ∧ w'.cell? ⟨w.heap.size, 1, none⟩ = some (.int .i64 ow) ∧ w'.cell? ⟨w.heap.size, 2, none⟩ = some (.int .i64 2) ∧ w'.cell? ⟨w.heap.size, 3, none⟩ = some (.int .i64 p) ∧ w'.cell? ⟨w.heap.size, 4, none⟩ = some (.int .i64 q) ∧ w'.cell? ⟨w.heap.size, 5, none⟩ = some (.bool cu) ∧ w'.cell? ⟨w.heap.size, 6, none⟩ = some (.int .i64 3))
            (first | with_reducible exact hS2 | with_reducible exact hSd2 | with_reducible exact KS.out _ BC.out | with_reducible exact KS.out _ BD.out)
            ((first
                | (go_at_call 33; (with_reducible refine (T4.out _ B2.out).mono ?_); rintro r wC ⟨rfl, BC⟩; replace BC := Lib.hid BC)
                | (go_at_call 33; (with_reducible refine (T5.out _ BC.out).mono ?_); rintro r wD ⟨rfl, BD⟩; replace BD := Lib.hid BD)))
          all_goals
            obtain ⟨k0, k1, k2, k3, k4, k5, k6⟩ := KS.out _ BD.out
            have Bfin := Lib.hid (HB.out.trans (BD.out.mono HB.out.size))
            clear hS2 hSd2 B2 KS T4 T5 BC BD HB
            cases cu with
            | true =>
              go_wp2_with fail
              go_ret
              exact ⟨rs (by simp [hS, hL, txt_fin1, txt_fin2]), Bfin.out⟩
            | false =>
              go_wp2_with fail
              go_ret
              exact ⟨rs (by simp [hS, hL, txt_fin1, txt_fin2]), Bfin.out⟩
        · have hL : lifeS 4 = ⟨#[112, 111, 115, 116]⟩ := rfl
          rw [hL] at q10 q11
          have e6 : (⟨#[112, 111, 115, 116]⟩ : ByteArray).size = 4 := rfl
          rw [e6] at q10 q11
          obtain ⟨W2, hW2⟩ : ∃ W2, wB.alloc (.cells #[.string ⟨#[]⟩, .string ⟨#[100, 97, 121]⟩, .string ⟨#[105, 111, 99]⟩, .string ⟨#[102, 111, 107]⟩, .string ⟨#[112, 111, 115, 116]⟩] 9) = W2 := ⟨_, rfl⟩
          have BW2 : Hid (Below W1.heap.size W1 W2) := Lib.hid (by rw [← hW2]; exact bel_alloc BW.out _)
          have kk : W2.cell? ⟨wB.heap.size, 4, none⟩ = some (.string ⟨#[112, 111, 115, 116]⟩) := by rw [← hW2]; simp
          have kb := KS.out wB BB.out
          obtain ⟨_, _, kb2, _, _, _, kb6⟩ := kb
          have hS2 := KS.out W2 BW2.out
          have hSd2 := KS.out W2.drew (BW2.out.drew)
          have B2 : Hid (Below W1.heap.size W1 W2.drew) := Lib.hid BW2.out.drew
          obtain ⟨k0, k1, k2, k3, k4, k5, k6⟩ := hS2
          have hS2 := KS.out W2 BW2.out
          go_wp2_with fail
          try clear hW2
          clear k0 k1 k2 k3 k4 k5 k6
          go_region_held3 (fun w' => w'.cell? ⟨w.heap.size, 0, none⟩ = some (.int .i64 i) ∧ w'.cell? ⟨w.heap.size, 1, none⟩ = some (.int .i64 ow) ∧ w'.cell? ⟨w.heap.size, 2, none⟩ = some (.int .i64 2) ∧ w'.cell? ⟨w.heap.size, 3, none⟩ = some (.int .i64 p) ∧ w'.cell? ⟨w.heap.size, 4, none⟩ = some (.int .i64 q) ∧ w'.cell? ⟨w.heap.size, 5, none⟩ = some (.bool cu) ∧ w'.cell? ⟨w.heap.size, 6, none⟩ = some (.int .i64 4))
            (first | with_reducible exact hS2 | with_reducible exact hSd2 | with_reducible exact KS.out _ BC.out | with_reducible exact KS.out _ BD.out)
            ((first
                | (go_at_call 33; (with_reducible refine (T4.out _ B2.out).mono ?_); rintro r wC ⟨rfl, BC⟩; replace BC := Lib.hid BC)
                | (go_at_call 33; (with_reducible refine (T5.out _ BC.out).mono ?_); rintro r wD ⟨rfl, BD⟩; replace BD := Lib.hid BD)))
          all_goals
            obtain ⟨k0, k1, k2, k3, k4, k5, k6⟩ := KS.out _ BD.out
            have Bfin := Lib.hid (HB.out.trans (BD.out.mono HB.out.size))
            clear hS2 hSd2 B2 KS T4 T5 BC BD HB
            cases cu with
            | true =>
              go_wp2_with fail
              go_ret
              exact ⟨rs (by simp [hS, hL, txt_fin1, txt_fin2]), Bfin.out⟩
            | false =>
              go_wp2_with fail
              go_ret
              exact ⟨rs (by simp [hS, hL, txt_fin1, txt_fin2]), Bfin.out⟩
      · have hL : lifeS lf = ⟨#[45]⟩ := by unfold lifeS; rw [if_neg (by omega), if_neg (by omega), if_neg (by omega), if_neg (by omega)]
        rw [hL] at q10 q11
        have e6 : (⟨#[45]⟩ : ByteArray).size = 1 := rfl
        rw [e6] at q10 q11
        have BW2 := BB
        rcases (show lf < 1 ∨ 4 < lf by omega) with hl1 | hl1
        all_goals
          have hS2 := KS.out wB BW2.out
          have hSd2 := KS.out wB.drew (BW2.out.drew)
          have B2 : Hid (Below W1.heap.size W1 wB.drew) := Lib.hid BW2.out.drew
          obtain ⟨k0, k1, k2, k3, k4, k5, k6⟩ := hS2
          have hS2 := KS.out wB BW2.out
          go_wp2_with fail
          try clear hW2
          clear k0 k1 k2 k3 k4 k5 k6
          go_region_held3 (fun w' => w'.cell? ⟨w.heap.size, 0, none⟩ = some (.int .i64 i) ∧ w'.cell? ⟨w.heap.size, 1, none⟩ = some (.int .i64 ow) ∧ w'.cell? ⟨w.heap.size, 2, none⟩ = some (.int .i64 2) ∧ w'.cell? ⟨w.heap.size, 3, none⟩ = some (.int .i64 p) ∧ w'.cell? ⟨w.heap.size, 4, none⟩ = some (.int .i64 q) ∧ w'.cell? ⟨w.heap.size, 5, none⟩ = some (.bool cu) ∧ w'.cell? ⟨w.heap.size, 6, none⟩ = some (.int .i64 lf))
            (first | with_reducible exact hS2 | with_reducible exact hSd2 | with_reducible exact KS.out _ BC.out | with_reducible exact KS.out _ BD.out)
            ((first
                | (go_at_call 33; (with_reducible refine (T4.out _ B2.out).mono ?_); rintro r wC ⟨rfl, BC⟩; replace BC := Lib.hid BC)
                | (go_at_call 33; (with_reducible refine (T5.out _ BC.out).mono ?_); rintro r wD ⟨rfl, BD⟩; replace BD := Lib.hid BD)))
          all_goals
            obtain ⟨k0, k1, k2, k3, k4, k5, k6⟩ := KS.out _ BD.out
            have Bfin := Lib.hid (HB.out.trans (BD.out.mono HB.out.size))
            clear hS2 hSd2 B2 KS T4 T5 BC BD HB
            cases cu with
            | true =>
              go_wp2_with fail
              go_ret
              exact ⟨rs (by simp [hS, hL, txt_fin1, txt_fin2]), Bfin.out⟩
            | false =>
              go_wp2_with fail
              go_ret
              exact ⟨rs (by simp [hS, hL, txt_fin1, txt_fin2]), Bfin.out⟩
end Go.Proofs.YtegfionpeimecaaDoor

/- order.Text, whatever the order. -/
import Derived.Test.YtegfionpeimecaaDoorOrdNum
import Derived.Test.YtegfionpeimecaaDoorOrdSmall
import Derived.Deep.RegionHeld3
set_option linter.unusedSimpArgs false
namespace Go.Proofs.YtegfionpeimecaaDoor
open Go.RowKit Go.Mem1 Go.OrdMath

variable {tx : Int → ByteArray} {ok : Int → Prop} {Keep : World → Prop}
/-- A call that tells a text, told of a world ahead. -/
theorem from_w {f : FuncId} {args : Array Value} {t : ByteArray} {W w' : World} (h : Calls Tryd.prog f args w' fun r w2 => r = .returned (.string t) ∧ Below w'.heap.size w' w2) (hb : Below W.heap.size W w') : Calls Tryd.prog f args w' fun r w2 => r = .returned (.string t) ∧ Below W.heap.size W w2 :=
  h.mono fun _ _ ⟨hr, h2⟩ => ⟨hr, bel_trans hb h2⟩
theorem app_none (a : ByteArray) : a ++ (if false = true then (⟨#[32, 99]⟩ : ByteArray) else ⟨#[]⟩) = a := by
  show a ++ ByteArray.empty = a
  simp
set_option maxRecDepth 100000 in
set_option maxHeartbeats 4000000 in
theorem otext_any (N : NumT tx ok Keep) (o : Ord) (w : World) (hK : Keep w) (h1 : ok o.id) (h2 : ok o.own) (h3 : ok o.q) (h4 : ok o.pr) :
    Calls Tryd.prog 18 #[ordV o] w fun r w' => r = .returned (.string (textO tx o)) ∧ Below w.heap.size w w' := by
  obtain ⟨i, ow, s, p, q, cu, lf⟩ := o
  dsimp only at h1 h2 h3 h4
  have hT : textO tx ⟨i, ow, s, p, q, cu, lf⟩ = tx i ++ ⟨#[32]⟩ ++ tx ow ++ ⟨#[32]⟩ ++ sideS s ++ ⟨#[32]⟩ ++ tx q ++ ⟨#[64]⟩ ++ tx p ++ ⟨#[32]⟩ ++ lifeS lf ++ (if cu then ⟨#[32, 99]⟩ else ⟨#[]⟩) := rfl
  rw [hT]
  clear hT
  obtain ⟨W1, hW1⟩ : ∃ W1, w.alloc (.cells #[.int .i64 i, .int .i64 ow, .int .i64 s, .int .i64 p, .int .i64 q, .bool cu, .int .i64 lf] 23) = W1 := ⟨_, rfl⟩
  have B1 : Below w.heap.size w W1 := by rw [← hW1]; exact bel_new _ _
  have hK1 := N.keep _ _ hK B1
  have hx : Box W1 w.heap.size 23 #[.int .i64 i, .int .i64 ow, .int .i64 s, .int .i64 p, .int .i64 q, .bool cu, .int .i64 lf] := by rw [← hW1]; exact Box.fresh _ _ _ rfl
  have z1 := hx.there
  have T1 := Lib.hid (fun w' hb => from_w (W := W1) (N.text i w' h1 (N.keep _ _ hK1 hb)) hb)
  have T2 := Lib.hid (fun w' hb => from_w (W := W1) (N.text ow w' h2 (N.keep _ _ hK1 hb)) hb)
  have T3 := Lib.hid (fun w' hb => from_w (W := W1) ((side_any s w').mono fun r w2 ⟨hr, hw⟩ => ⟨hr, hw ▸ Below.refl _ _⟩) hb)
  have T4 := Lib.hid (fun w' hb => from_w (W := W1) (N.text q w' h3 (N.keep _ _ hK1 hb)) hb)
  have T5 := Lib.hid (fun w' hb => from_w (W := W1) (N.text p w' h4 (N.keep _ _ hK1 hb)) hb)
  have T6 := Lib.hid (fun w' hb => from_w (W := W1) (life_any lf w') hb)
  have KS := Lib.hid (fun w' (hb : Below W1.heap.size W1 w') => (⟨((hx.kept_below hb z1).reads 0).trans rfl, ((hx.kept_below hb z1).reads 1).trans rfl, ((hx.kept_below hb z1).reads 2).trans rfl, ((hx.kept_below hb z1).reads 3).trans rfl, ((hx.kept_below hb z1).reads 4).trans rfl, ((hx.kept_below hb z1).reads 5).trans rfl, ((hx.kept_below hb z1).reads 6).trans rfl⟩ :
    w'.cell? ⟨w.heap.size, 0, none⟩ = some (.int .i64 i) ∧ w'.cell? ⟨w.heap.size, 1, none⟩ = some (.int .i64 ow) ∧ w'.cell? ⟨w.heap.size, 2, none⟩ = some (.int .i64 s) ∧ w'.cell? ⟨w.heap.size, 3, none⟩ = some (.int .i64 p) ∧ w'.cell? ⟨w.heap.size, 4, none⟩ = some (.int .i64 q) ∧ w'.cell? ⟨w.heap.size, 5, none⟩ = some (.bool cu) ∧ w'.cell? ⟨w.heap.size, 6, none⟩ = some (.int .i64 lf)))
  have hS0 := KS.out W1 (Below.refl _ _)
  have hSd := KS.out W1.drew (Below.refl _ _).drew
  have B0 : Hid (Below W1.heap.size W1 W1.drew) := Lib.hid (Below.refl _ _).drew
  have s1 := N.size i h1
  have s2 := N.size ow h2
  have s3 := sideS_size s
  have s4 := N.size q h3
  have s5 := N.size p h4
  have s6 := lifeS_size lf
  generalize tx i = t1 at *
  generalize tx ow = t2 at *
  generalize sideS s = t3 at *
  generalize tx q = t4 at *
  generalize tx p = t5 at *
  generalize lifeS lf = t6 at *
  have q1 : ¬ 9223372036854775807 < t1.size + 1 := by omega
  have q2 : ¬ 9223372036854775807 < t1.size + 1 + t2.size := by omega
  have q3 : ¬ 9223372036854775807 < t1.size + 1 + t2.size + 1 := by omega
  have q4 : ¬ 9223372036854775807 < t1.size + 1 + t2.size + 1 + t3.size := by omega
  have q5 : ¬ 9223372036854775807 < t1.size + 1 + t2.size + 1 + t3.size + 1 := by omega
  have q6 : ¬ 9223372036854775807 < t1.size + 1 + t2.size + 1 + t3.size + 1 + t4.size := by omega
  have q7 : ¬ 9223372036854775807 < t1.size + 1 + t2.size + 1 + t3.size + 1 + t4.size + 1 := by omega
  have q8 : ¬ 9223372036854775807 < t1.size + 1 + t2.size + 1 + t3.size + 1 + t4.size + 1 + t5.size := by omega
  have q9 : ¬ 9223372036854775807 < t1.size + 1 + t2.size + 1 + t3.size + 1 + t4.size + 1 + t5.size + 1 := by omega
  have q10 : ¬ 9223372036854775807 < t1.size + 1 + t2.size + 1 + t3.size + 1 + t4.size + 1 + t5.size + 1 + t6.size := by omega
  have q11 : ¬ 9223372036854775807 < t1.size + 1 + t2.size + 1 + t3.size + 1 + t4.size + 1 + t5.size + 1 + t6.size + 2 := by omega
  have e1 : (⟨#[32]⟩ : ByteArray).size = 1 := rfl
  have e2 : (⟨#[64]⟩ : ByteArray).size = 1 := rfl
  have e3 : (⟨#[32, 99]⟩ : ByteArray).size = 2 := rfl
  have HB := Lib.hid B1
  clear B1 hK hK1 h1 h2 h3 h4 s1 s2 s3 s4 s5 s6 hx
  go_enter Tryd.func18, Tryd.ntmps18
  go_wp2_with fail
  try rw [hW1]
  clear hW1
  go_region_held3 (fun w' => w'.cell? ⟨w.heap.size, 0, none⟩ = some (.int .i64 i) ∧ w'.cell? ⟨w.heap.size, 1, none⟩ = some (.int .i64 ow) ∧ w'.cell? ⟨w.heap.size, 2, none⟩ = some (.int .i64 s) ∧ w'.cell? ⟨w.heap.size, 3, none⟩ = some (.int .i64 p) ∧ w'.cell? ⟨w.heap.size, 4, none⟩ = some (.int .i64 q) ∧ w'.cell? ⟨w.heap.size, 5, none⟩ = some (.bool cu) ∧ w'.cell? ⟨w.heap.size, 6, none⟩ = some (.int .i64 lf))
    (first | with_reducible exact hS0 | with_reducible exact hSd | with_reducible exact KS.out _ BA.out | with_reducible exact KS.out _ BB.out | with_reducible exact KS.out _ BC.out | with_reducible exact KS.out _ BD.out | with_reducible exact KS.out _ BE.out | with_reducible exact KS.out _ BF.out)
    ((first
      | (go_at_call 31; (with_reducible refine (T1.out _ B0.out).mono ?_); rintro r wA ⟨rfl, BA⟩; replace BA := Lib.hid BA)
      | (go_at_call 31; (with_reducible refine (T2.out _ BA.out).mono ?_); rintro r wB ⟨rfl, BB⟩; replace BB := Lib.hid BB)
      | (go_at_call 32; (with_reducible refine (T3.out _ BB.out).mono ?_); rintro r wC ⟨rfl, BC⟩; replace BC := Lib.hid BC)
      | (go_at_call 31; (with_reducible refine (T4.out _ BC.out).mono ?_); rintro r wD ⟨rfl, BD⟩; replace BD := Lib.hid BD)
      | (go_at_call 31; (with_reducible refine (T5.out _ BD.out).mono ?_); rintro r wE ⟨rfl, BE⟩; replace BE := Lib.hid BE)
      | (go_at_call 29; (with_reducible refine (T6.out _ BE.out).mono ?_); rintro r wF ⟨rfl, BF⟩; replace BF := Lib.hid BF)))
  all_goals
    obtain ⟨k0, k1, k2, k3, k4, k5, k6⟩ := KS.out _ BF.out
    have Bfin := Lib.hid (HB.out.trans (BF.out.mono HB.out.size))
    clear hS0 hSd B0 KS T1 T2 T3 T4 T5 T6 BA BB BC BD BE BF HB
    cases cu with
    | true =>
      go_wp2_with fail
      go_ret
      exact ⟨rfl, Bfin.out⟩
    | false =>
      go_wp2_with fail
      go_ret
      exact ⟨rs (app_none _), Bfin.out⟩
end Go.Proofs.YtegfionpeimecaaDoor

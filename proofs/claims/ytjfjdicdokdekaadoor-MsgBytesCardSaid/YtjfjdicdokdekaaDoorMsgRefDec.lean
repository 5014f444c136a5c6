/- The reference's Dec: Int, Left. -/
import Derived.Test.YtjfjdicdokdekaaDoorPartsChg
import Derived.Test.YtjfjdicdokdekaaDoorCodDec
set_option linter.unusedSimpArgs false
namespace Go.Proofs.YtjfjdicdokdekaaDoor
open Go.RowKit Go.Mem1 Go.CodMath

/-- The reference's At, its row known whole. -/
def AtBox (w : World) (s : ByteArray) (k x : Int) (e : Ending) (w' : World) : Prop :=
  ∃ bP pc, e = .returned (.agg #[.slice (some ⟨bP, 0, none⟩) 1 pc, .int .i64 x]) ∧ Box w' bP 84 #[.string s, .int .i64 k] ∧ Below w.heap.size w w'
set_option maxHeartbeats 1000000 in
theorem refAtB (s : ByteArray) (k x : Int) (w : World) : Calls Tryd.prog 19 #[.string s, .int .i64 k, .int .i64 x] w (AtBox w s k x) := by
  go_enter Tryd.func19, Tryd.ntmps19
  go_wp2_with fail
  exact bodyPost_ret (v := .agg #[.slice (some ⟨w.heap.size + 1, 0, none⟩) 1 1, .int .i64 x]) (by simp [results, Tryd.results19, go_sem]) rfl ⟨w.heap.size + 1, 1, rfl, Box.fresh _ _ _ (by simp), bel_alloc (bel_new w _) _⟩
theorem Box.parts {w : World} {b : Nat} {s : ByteArray} {k : Int} (h : Box w b 84 #[.string s, .int .i64 k]) : PartsAt w w.heap.size (some ⟨b, 0, none⟩) 1 [(s, k)] :=
  ⟨rfl, fun i x hx => by
    match i, hx with
    | 0, hx =>
      injection hx with hx
      subst hx
      exact ⟨b, 0, rfl, h.there, (h.reads 0).trans rfl, (h.reads 1).trans rfl⟩⟩
/-- The reference's Dec in block g: the bytes L, all of them; the state as the landed Dec's. -/
def RDec (w : World) (g : Nat) (L : List Nat) (s : St) : Prop :=
  (s.e = 0 ∧ s.l = L.drop s.p ∧ s.p ≤ L.length ∧ L.length ≤ 100000 ∧ ∃ A c, Box w g 103 #[.slice A L.length c, .int .i64 (s.p : Int), .slice none 0 0, .int .i64 0] ∧ Byt w g A L.length L) ∨
  (s.e ≠ 0 ∧ s.l = [] ∧ ∃ v q bP pc, Box w g 103 #[v, q, .slice (some ⟨bP, 0, none⟩) 1 pc, .int .i64 (s.e : Int)] ∧ Box w bP 84 #[.string byteBytes, .int .i64 (s.p : Int)])
def RDecPost (w : World) (g : Nat) (L : List Nat) (s : St) (w' : World) : Prop := RDec w' g L s ∧ Chg (· = g) w w'
def set23 (w : World) (g : Nat) (v0 v1 : Value) : World := (w.setCell ⟨g, 2, none⟩ v0).setCell ⟨g, 3, none⟩ v1
theorem set23_def (w : World) (g : Nat) (v0 v1 : Value) : (w.setCell ⟨g, 2, none⟩ v0).setCell ⟨g, 3, none⟩ v1 = set23 w g v0 v1 := rfl
theorem set23_chg (w : World) (g : Nat) (v0 v1 : Value) : Chg (· = g) w (set23 w g v0 v1) :=
  ((Chg.refl (· = g) w).setCell (p := ⟨g, 2, none⟩) (fun _ => rfl) v0).setCell (p := ⟨g, 3, none⟩) (fun _ => rfl) v1
theorem set23_box {w : World} {g : Nat} {t : TypeId} {c0 c1 c2 c3 : Value} (h : Box w g t #[c0, c1, c2, c3]) (v0 v1 : Value) : Box (set23 w g v0 v1) g t #[c0, c1, v0, v1] := by
  have := (h.wrote 2 v0).wrote 3 v1
  simpa [set23] using this
theorem RDecPost.drew {w w' : World} {g : Nat} {L : List Nat} {s : St} (h : RDecPost w g L s w') : RDecPost w g L s w'.drew := by
  refine ⟨?_, h.2.drew⟩
  rcases h.1 with ⟨a1, a2, a3, a4, A, c, hb, hy⟩ | ⟨a1, a2, v, q, bP, pc, hb, hp⟩
  · exact .inl ⟨a1, a2, a3, a4, A, c, hb, hy.drew⟩
  · exact .inr ⟨a1, a2, v, q, bP, pc, hb, hp⟩
theorem unz_odd {U : Nat} (h : U % 2 = 1) : unz U = -((U : Int) / 2) - 1 := by unfold unz; rw [if_pos h]; omega
theorem unz_even {U : Nat} (h : ¬ U % 2 = 1) : unz U = (U : Int) / 2 := by unfold unz; rw [if_neg h]; omega
theorem intVal_ok {l : List Nat} {U k : Nat} (h : num l = (U, k, 0)) : intVal l = unz U := by unfold intVal; rw [h, if_pos rfl]
theorem intVal_no {l : List Nat} {x : Nat} (hx : x ≠ 0) (h : num l = (0, 0, x)) : intVal l = 0 := by unfold intVal; rw [h, if_neg hx]
theorem set23_size (w : World) (g : Nat) (v0 v1 : Value) : (set23 w g v0 v1).heap.size = w.heap.size := by simp [set23, World.setCell]
theorem slot_and {X a k : Nat} (ha : a < 128 ^ k) (hX : X < 256) (h : a + X % 128 * 128 ^ k < 18446744073709551616) :
    bits .or .u64 (a : Int) (IntKind.u64.wrap (bits .and .u64 (X : Int) 127 * 2 ^ (7 * k))) = ((a + X % 128 * 128 ^ k : Nat) : Int) := by
  have h1 := u64_and_nat X 127 (by omega) (by omega)
  rw [mask7] at h1
  have h2 : bits .and .u64 (X : Int) 127 = ((X % 128 : Nat) : Int) := h1
  rw [h2, wrap_u64, ← join7 ha h]
  congr 1
  have e : ((X % 128 : Nat) : Int) * 2 ^ (7 * k) = ((X % 128 * 128 ^ k : Nat) : Int) := by
    rw [show (128 : Nat) ^ k = 2 ^ (7 * k) by rw [Nat.pow_mul]]
    simp
  rw [e]
  omega
set_option maxRecDepth 100000 in
set_option maxHeartbeats 1000000 in
theorem refDecInt_bad (g : Nat) (L : List Nat) (s : St) (w : World) (h : RDec w g L s) (he : s.e ≠ 0) :
    Calls Tryd.prog 51 #[.pointer (some ⟨g, 0, none⟩)] w fun e w' => e = .returned (.int .i64 (intVal s.l)) ∧ RDecPost w g L (intSt s) w' := by
  have hp : RDecPost w g L (intSt s) w := by
    refine ⟨?_, Chg.refl _ _⟩
    rcases h with h | h
    · exact absurd h.1 he
    · have : intSt s = s := by
        unfold intSt
        rw [h.2.1]
        simp [num, numAt, failSt, he]
      rw [this]
      exact .inr h
  have hv : intVal s.l = 0 := by
    rcases h with h | h
    · exact absurd h.1 he
    · rw [h.2.1]; simp [intVal, num, numAt]
  have hc : ∃ v q bP pc, Box w g 103 #[v, q, .slice (some ⟨bP, 0, none⟩) 1 pc, .int .i64 (s.e : Int)] := by
    rcases h with h | ⟨_, _, v, q, bP, pc, hb, _⟩
    · exact absurd h.1 he
    · exact ⟨v, q, bP, pc, hb⟩
  obtain ⟨v, q, bP, pc, hb⟩ := hc
  have c3 := (hb.reads 3).trans (show _ = some (Value.int .i64 (s.e : Int)) from rfl)
  have hne : ((s.e : Int) != 0) = true := by simp; omega
  have HP := Lib.hid hp
  rw [hv]
  clear hb hp hv h he
  go_enter Tryd.func51, Tryd.ntmps51
  go_wp2_with fail
  go_ret
  exact ⟨rfl, HP.out⟩
set_option maxRecDepth 100000 in
set_option maxHeartbeats 2000000 in
theorem refDecInt_ok (g : Nat) (L : List Nat) (s : St) (w : World) (h : RDec w g L s) (he : s.e = 0) :
    Calls Tryd.prog 51 #[.pointer (some ⟨g, 0, none⟩)] w fun e w' => e = .returned (.int .i64 (intVal s.l)) ∧ RDecPost w g L (intSt s) w' := by
  obtain ⟨_, hl, hpl, hL, A, c, hb, hy⟩ : s.e = 0 ∧ s.l = L.drop s.p ∧ s.p ≤ L.length ∧ L.length ≤ 100000 ∧ ∃ A c, Box w g 103 #[.slice A L.length c, .int .i64 (s.p : Int), .slice none 0 0, .int .i64 0] ∧ Byt w g A L.length L := by
    rcases h with h | h
    · exact h
    · exact absurd he h.1
  have c0 := (hb.reads 0).trans (show _ = some (Value.slice A L.length c) from rfl)
  have c1 := (hb.reads 1).trans (show _ = some (Value.int .i64 (s.p : Int)) from rfl)
  have c3 := (hb.reads 3).trans (show _ = some (Value.int .i64 0) from rfl)
  obtain ⟨p, hp⟩ : ∃ p, p = s.p := ⟨_, rfl⟩
  obtain ⟨N, hN⟩ : ∃ N, N = L.length := ⟨_, rfl⟩
  rw [← hp] at c1 hpl
  rw [← hN] at c0 hpl hL
  have HH := Lib.hid h
  have HB := Lib.hid hb
  have HY := Lib.hid hy
  have HL := Lib.hid hl
  have HPP := Lib.hid hp
  have HN := Lib.hid hN
  have box1 : ∀ w1 : World, w1.heap = w.heap → Box w1 g 103 #[.slice A N c, .int .i64 (p : Int), .slice none 0 0, .int .i64 0] := by
    intro w1 hh
    rw [HN.out, HPP.out]
    unfold Box at hb ⊢
    rw [hh]; exact hb
  have byt1 : ∀ w1 : World, Chg (fun _ => False) w w1 → Byt w1 g A N L := by
    intro w1 hc
    rw [HN.out]
    exact hy.low hc (fun b _ h => h)
  have fin : ∀ (U k : Nat) (w1 : World), num s.l = (U, k + 1, 0) → p + k < N → w1.heap = w.heap → Chg (fun _ => False) w w1 → RDecPost w g L (intSt s) (w1.setCell ⟨g, 1, none⟩ (.int .i64 ((p : Int) + (k : Int) + 1))) := by
    intro U k w1 hn hk hh hc
    have hi : intSt s = ⟨s.l.drop (k + 1), s.p + (k + 1), s.e⟩ := by unfold intSt; rw [hn, if_pos rfl]
    rw [hi]
    have hb2 := (box1 w1 hh).wrote 1 (.int .i64 ((p : Int) + (k : Int) + 1))
    have hcc : Chg (· = g) w1 (w1.setCell ⟨g, 1, none⟩ (.int .i64 ((p : Int) + (k : Int) + 1))) := (Chg.refl (· = g) w1).setCell (p := ⟨g, 1, none⟩) (fun _ => rfl) _
    refine ⟨.inl ⟨he, ?_, ?_, ?_, A, c, ?_, ?_⟩, ?_⟩
    · show s.l.drop (k + 1) = L.drop (s.p + (k + 1))
      rw [HL.out, List.drop_drop]
    · show s.p + (k + 1) ≤ L.length
      rw [← HPP.out, ← HN.out]; omega
    · rw [← HN.out]; exact hL
    · rw [← HN.out]
      have e : ((p : Int) + (k : Int) + 1) = ((s.p + (k + 1) : Nat) : Int) := by rw [← HPP.out]; omega
      rw [e] at hb2 ⊢
      simpa using hb2
    · rw [← HN.out]
      exact (byt1 w1 hc).low hcc (fun b hb e => by omega)
    · exact (hc.mono (fun _ _ h => h.elim)).then hcc (fun _ _ h => h)
  have finBad : ∀ (x bP pc : Nat) (w1 w2 : World), x ≠ 0 → num s.l = (0, 0, x) → w1.heap = w.heap → Chg (fun _ => False) w w1 → Below w1.heap.size w1 w2 → Box w2 bP 84 #[.string byteBytes, .int .i64 (p : Int)] → RDecPost w g L (intSt s) (set23 w2 g (.slice (some ⟨bP, 0, none⟩) 1 pc) (.int .i64 (x : Int))) := by
    intro x bP pc w1 w2 hx hn hh hc hB hP
    have hi : intSt s = ⟨[], s.p, x⟩ := by unfold intSt failSt; rw [hn]; simp [hx, he]
    rw [hi]
    have hb1 := (box1 w1 hh).kept_below hB (box1 w1 hh).there
    have hb2 := set23_box hb1 (.slice (some ⟨bP, 0, none⟩) 1 pc) (.int .i64 (x : Int))
    refine ⟨.inr ⟨hx, rfl, _, _, bP, pc, hb2, ?_⟩, ?_⟩
    · rw [← HPP.out]
      exact hP.kept (set23_chg _ _ _ _) (hP.apart hb1 (by decide))
    · exact ((hc.mono (fun _ _ h => h.elim)).below hB).then (set23_chg _ _ _ _) (fun _ _ h => h)
  have FIN := Lib.hid fin
  have FINB := Lib.hid finBad
  have BOX1 := Lib.hid box1
  have BYT1 := Lib.hid byt1
  clear fin finBad box1 byt1
  clear h hb hy hl hp hN
  go_enter Tryd.func51, Tryd.ntmps51
  go_wp2_with fail
  go_loopw [3, 4] (fun v3 v4 wr => ∃ k a : Nat, k ≤ 9 ∧ a < 128 ^ k ∧ p + k ≤ N ∧ v4 = .int .i64 k ∧ v3 = .int .u64 (a : Int) ∧ Hid (num s.l = numAt k a (L.drop (p + k))) ∧ Hid (wr.heap = w.heap) ∧ Hid (Chg (fun _ => False) w wr)) (fun _ v4 _ => 10 - (intOf v4).toNat)
  case atStart => exact ⟨0, 0, by omega, by simp, by omega, rfl, rfl, Lib.hid (by rw [HL.out, HPP.out]; rfl), Lib.hid rfl, Lib.hid (Chg.refl _ _)⟩
  case round =>
    obtain ⟨k, a, hk9, ha, hpk, rfl, rfl, hnum, hhp, hch⟩ := hrel
    have hbx : Box wr g 103 #[.slice A L.length c, .int .i64 (s.p : Int), .slice none 0 0, .int .i64 0] := by
      have := HB.out
      unfold Box at this ⊢
      rw [hhp.out]; exact this
    rw [← HPP.out, ← HN.out] at hbx
    have d0 := (hbx.reads 0).trans (show _ = some (Value.slice A N c) from rfl)
    have d1 := (hbx.reads 1).trans (show _ = some (Value.int .i64 (p : Int)) from rfl)
    have hyr : Byt wr g A N L := by
      have := HY.out.low hch.out (fun b _ h => h)
      rw [← HN.out] at this
      exact this
    have HBX := Lib.hid hbx
    have hkb : (k : Int) < 10 := by omega
    have hs7 : IntKind.i64.wrap ((p : Int) + (k : Int)) = (p : Int) + (k : Int) := by rw [IntKind.wrap_i64]; omega
    clear hbx
    by_cases hlt : p + k < N
    · obtain ⟨b, off, X, rfl, hbw, hX, hlk, hck⟩ := hyr.at_ hlt
      have i1 : (0 : Int) ≤ (p : Int) + (k : Int) := by omega
      have i2 : (p : Int) + (k : Int) < (N : Int) := by omega
      have i3 : (((p : Int) + (k : Int)) == (N : Int)) = false := by simp; omega
      have i4 : ((p : Int) + (k : Int)).toNat = p + k := by omega
      have hn1 := hnum.out
      rw [drop_step hlk, numAt] at hn1
      by_cases hbad : (0 < k ∧ X = 0) ∨ (k = 9 ∧ 1 < X)
      · have hk0 : 0 < k := by omega
        have t5 : (0 : Int) < (k : Int) := by omega
        rw [if_pos hbad] at hn1
        have HN1 := Lib.hid hn1
        have hxw : IntKind.u64.wrap (X : Int) = (X : Int) := by rw [wrap_u64]; omega
        clear hn1 hyr ha hlk
        by_cases h9 : k = 9
        · have t2 : ((k : Int) == 9) = true := by simp; omega
          by_cases hX0 : X = 0
          · have t1 : ((X : Int) == 0) = true := by simp; omega
            have t3 : ¬ (1 : Int) < (X : Int) := by omega
            clear h9 hbad hX0
            go_wp2_with fail
            go_region_held3 (fun w' => w'.cell? ⟨g, 0, none⟩ = some (.slice (some ⟨b, off, none⟩) N c) ∧ w'.cell? ⟨g, 1, none⟩ = some (.int .i64 (p : Int)) ∧ w'.cell? ⟨b, off + (p + k), none⟩ = some (.int .u8 ((X : Nat) : Int))) (first | exact ⟨d0, d1, hck⟩) (fail)
            go_wp2_with fail
            go_region_held3 (fun w' => w'.cell? ⟨g, 0, none⟩ = some (.slice (some ⟨b, off, none⟩) N c) ∧ w'.cell? ⟨g, 1, none⟩ = some (.int .i64 (p : Int)) ∧ w'.cell? ⟨b, off + (p + k), none⟩ = some (.int .u8 ((X : Nat) : Int))) (first | exact ⟨d0, d1, hck⟩) (fail)
            go_wp2_with (go_at_call 19; refine Hid.out ?_)
            refine Lib.hid ?_
            refine (refAtB _ _ _ _).mono ?_
            rintro e w2 ⟨bP, pc, rfl, hp2, B2⟩
            have hbz := BOX1.out (wr.drew.drew) hhp.out
            have hb2 := hbz.kept_below B2 hbz.there
            have f2 := hb2.unmarked 2
            have r2 := (hb2.reads 2).trans (show _ = some (Value.slice none 0 0) from rfl)
            have r3 := (hb2.reads 3).trans (show _ = some (Value.int .i64 0) from rfl)
            have f3 := hb2.unmarked 3
            have HP2 := Lib.hid hp2
            have HB2 := Lib.hid B2
            clear hbz hb2 hp2 B2
            go_wp2_with fail
            rw [set23_def]
            go_ret
            exact ⟨ret_int (intVal_no (by decide) HN1.out).symm, FINB.out 2 bP pc wr.drew.drew w2 (by decide) HN1.out hhp.out hch.out.drew.drew HB2.out HP2.out⟩
          · have t3 : (1 : Int) < (X : Int) := by omega
            have t1 : ((X : Int) == 0) = false := by simp; omega
            clear h9 hbad hX0
            go_wp2_with fail
            go_region_held3 (fun w' => w'.cell? ⟨g, 0, none⟩ = some (.slice (some ⟨b, off, none⟩) N c) ∧ w'.cell? ⟨g, 1, none⟩ = some (.int .i64 (p : Int)) ∧ w'.cell? ⟨b, off + (p + k), none⟩ = some (.int .u8 ((X : Nat) : Int))) (first | exact ⟨d0, d1, hck⟩) (fail)
            go_wp2_with fail
            go_region_held3 (fun w' => w'.cell? ⟨g, 0, none⟩ = some (.slice (some ⟨b, off, none⟩) N c) ∧ w'.cell? ⟨g, 1, none⟩ = some (.int .i64 (p : Int)) ∧ w'.cell? ⟨b, off + (p + k), none⟩ = some (.int .u8 ((X : Nat) : Int))) (first | exact ⟨d0, d1, hck⟩) (fail)
            go_wp2_with (go_at_call 19; refine Hid.out ?_)
            refine Lib.hid ?_
            refine (refAtB _ _ _ _).mono ?_
            rintro e w2 ⟨bP, pc, rfl, hp2, B2⟩
            have hbz := BOX1.out (wr.drew.drew) hhp.out
            have hb2 := hbz.kept_below B2 hbz.there
            have f2 := hb2.unmarked 2
            have r2 := (hb2.reads 2).trans (show _ = some (Value.slice none 0 0) from rfl)
            have r3 := (hb2.reads 3).trans (show _ = some (Value.int .i64 0) from rfl)
            have f3 := hb2.unmarked 3
            have HP2 := Lib.hid hp2
            have HB2 := Lib.hid B2
            clear hbz hb2 hp2 B2
            go_wp2_with fail
            rw [set23_def]
            go_ret
            exact ⟨ret_int (intVal_no (by decide) HN1.out).symm, FINB.out 2 bP pc wr.drew.drew w2 (by decide) HN1.out hhp.out hch.out.drew.drew HB2.out HP2.out⟩
        · have t2 : ((k : Int) == 9) = false := by simp; omega
          have t1 : ((X : Int) == 0) = true := by simp; omega
          go_wp2_with fail
          go_region_held3 (fun w' => w'.cell? ⟨g, 0, none⟩ = some (.slice (some ⟨b, off, none⟩) N c) ∧ w'.cell? ⟨g, 1, none⟩ = some (.int .i64 (p : Int)) ∧ w'.cell? ⟨b, off + (p + k), none⟩ = some (.int .u8 ((X : Nat) : Int))) (first | exact ⟨d0, d1, hck⟩) (fail)
          go_wp2_with fail
          go_region_held3 (fun w' => w'.cell? ⟨g, 0, none⟩ = some (.slice (some ⟨b, off, none⟩) N c) ∧ w'.cell? ⟨g, 1, none⟩ = some (.int .i64 (p : Int)) ∧ w'.cell? ⟨b, off + (p + k), none⟩ = some (.int .u8 ((X : Nat) : Int))) (first | exact ⟨d0, d1, hck⟩) (fail)
          go_wp2_with (go_at_call 19; refine Hid.out ?_)
          refine Lib.hid ?_
          refine (refAtB _ _ _ _).mono ?_
          rintro e w2 ⟨bP, pc, rfl, hp2, B2⟩
          have hbz := BOX1.out (wr.drew.drew) hhp.out
          have hb2 := hbz.kept_below B2 hbz.there
          have f2 := hb2.unmarked 2
          have r2 := (hb2.reads 2).trans (show _ = some (Value.slice none 0 0) from rfl)
          have r3 := (hb2.reads 3).trans (show _ = some (Value.int .i64 0) from rfl)
          have f3 := hb2.unmarked 3
          have HP2 := Lib.hid hp2
          have HB2 := Lib.hid B2
          clear hbz hb2 hp2 B2
          go_wp2_with fail
          rw [set23_def]
          go_ret
          exact ⟨ret_int (intVal_no (by decide) HN1.out).symm, FINB.out 2 bP pc wr.drew.drew w2 (by decide) HN1.out hhp.out hch.out.drew.drew HB2.out HP2.out⟩
      · rw [if_neg hbad] at hn1
        have hu : a + X % 128 * 128 ^ k < 18446744073709551616 := by
          have hp : (128 : Nat) ^ k ≤ 128 ^ 9 := Nat.pow_le_pow_right (by omega) hk9
          have h9 : (128 : Nat) ^ 9 = 9223372036854775808 := pow9
          rcases Nat.lt_or_ge k 9 with h | h
          · have : (128 : Nat) ^ (k + 1) ≤ 128 ^ 9 := Nat.pow_le_pow_right (by omega) (by omega)
            rw [Nat.pow_succ] at this
            have : X % 128 * 128 ^ k ≤ 127 * 128 ^ k := Nat.mul_le_mul_right _ (by omega)
            omega
          · have : X % 128 * 128 ^ k ≤ 1 * 128 ^ k := Nat.mul_le_mul_right _ (by omega)
            omega
        have hs := slot_and ha hX hu
        have ha2 : a + X % 128 * 128 ^ k < 128 ^ (k + 1) := by
          rw [Nat.pow_succ]
          have : X % 128 * 128 ^ k ≤ 127 * 128 ^ k := Nat.mul_le_mul_right _ (by omega)
          omega
        obtain ⟨U, hU⟩ : ∃ U, U = a + X % 128 * 128 ^ k := ⟨_, rfl⟩
        rw [← hU] at hs hu ha2
        have HA2 := Lib.hid ha2
        have f1 := (BOX1.out wr hhp.out).unmarked 1
        have hxw : IntKind.u64.wrap (X : Int) = (X : Int) := by rw [wrap_u64]; omega
        clear ha2 hyr ha hlk
        by_cases hc : X < 128
        · rw [if_pos hc] at hn1
          have hx : X % 128 = X := Nat.mod_eq_of_lt hc
          rw [hx] at hU
          rw [← hU] at hn1
          have HN1 := Lib.hid hn1
          have t4 : (X : Int) < 128 := by omega
          have w1 : IntKind.i64.wrap ((U : Int) / 2) = (U : Int) / 2 := by rw [IntKind.wrap_i64]; omega
          have ha1 := and1_u64 hu
          clear hn1 hU hx
          by_cases h0 : 0 < k
          · have t1 : ((X : Int) == 0) = false := by simp; omega
            have t5 : (0 : Int) < (k : Int) := by omega
            by_cases h9 : k = 9
            · have t2 : ((k : Int) == 9) = true := by simp; omega
              have t3 : ¬ (1 : Int) < (X : Int) := by omega
              clear h9 hbad
              by_cases h2 : U % 2 = 1
              · rw [h2] at ha1
                go_wp2_with fail
                go_region_held3 (fun w' => w'.cell? ⟨g, 0, none⟩ = some (.slice (some ⟨b, off, none⟩) N c) ∧ w'.cell? ⟨g, 1, none⟩ = some (.int .i64 (p : Int)) ∧ w'.cell? ⟨b, off + (p + k), none⟩ = some (.int .u8 ((X : Nat) : Int))) (first | exact ⟨d0, d1, hck⟩) (fail)
                go_wp2_with fail
                go_region_held3 (fun w' => w'.cell? ⟨g, 0, none⟩ = some (.slice (some ⟨b, off, none⟩) N c) ∧ w'.cell? ⟨g, 1, none⟩ = some (.int .i64 (p : Int)) ∧ w'.cell? ⟨b, off + (p + k), none⟩ = some (.int .u8 ((X : Nat) : Int))) (first | exact ⟨d0, d1, hck⟩) (fail)
                go_wp2_with fail
                go_ret
                exact ⟨ret_int ((unz_odd h2).symm.trans (intVal_ok HN1.out).symm), (FIN.out U k wr HN1.out hlt hhp.out hch.out).drew.drew⟩
              · rw [show U % 2 = 0 by omega] at ha1
                go_wp2_with fail
                go_region_held3 (fun w' => w'.cell? ⟨g, 0, none⟩ = some (.slice (some ⟨b, off, none⟩) N c) ∧ w'.cell? ⟨g, 1, none⟩ = some (.int .i64 (p : Int)) ∧ w'.cell? ⟨b, off + (p + k), none⟩ = some (.int .u8 ((X : Nat) : Int))) (first | exact ⟨d0, d1, hck⟩) (fail)
                go_wp2_with fail
                go_region_held3 (fun w' => w'.cell? ⟨g, 0, none⟩ = some (.slice (some ⟨b, off, none⟩) N c) ∧ w'.cell? ⟨g, 1, none⟩ = some (.int .i64 (p : Int)) ∧ w'.cell? ⟨b, off + (p + k), none⟩ = some (.int .u8 ((X : Nat) : Int))) (first | exact ⟨d0, d1, hck⟩) (fail)
                go_wp2_with fail
                go_ret
                exact ⟨ret_int ((unz_even h2).symm.trans (intVal_ok HN1.out).symm), (FIN.out U k wr HN1.out hlt hhp.out hch.out).drew.drew⟩
            · have t2 : ((k : Int) == 9) = false := by simp; omega
              by_cases h2 : U % 2 = 1
              · rw [h2] at ha1
                go_wp2_with fail
                go_region_held3 (fun w' => w'.cell? ⟨g, 0, none⟩ = some (.slice (some ⟨b, off, none⟩) N c) ∧ w'.cell? ⟨g, 1, none⟩ = some (.int .i64 (p : Int)) ∧ w'.cell? ⟨b, off + (p + k), none⟩ = some (.int .u8 ((X : Nat) : Int))) (first | exact ⟨d0, d1, hck⟩) (fail)
                go_wp2_with fail
                go_region_held3 (fun w' => w'.cell? ⟨g, 0, none⟩ = some (.slice (some ⟨b, off, none⟩) N c) ∧ w'.cell? ⟨g, 1, none⟩ = some (.int .i64 (p : Int)) ∧ w'.cell? ⟨b, off + (p + k), none⟩ = some (.int .u8 ((X : Nat) : Int))) (first | exact ⟨d0, d1, hck⟩) (fail)
                go_wp2_with fail
                go_ret
                exact ⟨ret_int ((unz_odd h2).symm.trans (intVal_ok HN1.out).symm), (FIN.out U k wr HN1.out hlt hhp.out hch.out).drew.drew⟩
              · rw [show U % 2 = 0 by omega] at ha1
                go_wp2_with fail
                go_region_held3 (fun w' => w'.cell? ⟨g, 0, none⟩ = some (.slice (some ⟨b, off, none⟩) N c) ∧ w'.cell? ⟨g, 1, none⟩ = some (.int .i64 (p : Int)) ∧ w'.cell? ⟨b, off + (p + k), none⟩ = some (.int .u8 ((X : Nat) : Int))) (first | exact ⟨d0, d1, hck⟩) (fail)
                go_wp2_with fail
                go_region_held3 (fun w' => w'.cell? ⟨g, 0, none⟩ = some (.slice (some ⟨b, off, none⟩) N c) ∧ w'.cell? ⟨g, 1, none⟩ = some (.int .i64 (p : Int)) ∧ w'.cell? ⟨b, off + (p + k), none⟩ = some (.int .u8 ((X : Nat) : Int))) (first | exact ⟨d0, d1, hck⟩) (fail)
                go_wp2_with fail
                go_ret
                exact ⟨ret_int ((unz_even h2).symm.trans (intVal_ok HN1.out).symm), (FIN.out U k wr HN1.out hlt hhp.out hch.out).drew.drew⟩
          · have t2 : ((k : Int) == 9) = false := by simp; omega
            have t5 : ¬ (0 : Int) < (k : Int) := by omega
            by_cases h2 : U % 2 = 1
            · rw [h2] at ha1
              go_wp2_with fail
              go_region_held3 (fun w' => w'.cell? ⟨g, 0, none⟩ = some (.slice (some ⟨b, off, none⟩) N c) ∧ w'.cell? ⟨g, 1, none⟩ = some (.int .i64 (p : Int)) ∧ w'.cell? ⟨b, off + (p + k), none⟩ = some (.int .u8 ((X : Nat) : Int))) (first | exact ⟨d0, d1, hck⟩) (fail)
              go_wp2_with fail
              go_region_held3 (fun w' => w'.cell? ⟨g, 0, none⟩ = some (.slice (some ⟨b, off, none⟩) N c) ∧ w'.cell? ⟨g, 1, none⟩ = some (.int .i64 (p : Int)) ∧ w'.cell? ⟨b, off + (p + k), none⟩ = some (.int .u8 ((X : Nat) : Int))) (first | exact ⟨d0, d1, hck⟩) (fail)
              go_wp2_with fail
              go_ret
              exact ⟨ret_int ((unz_odd h2).symm.trans (intVal_ok HN1.out).symm), (FIN.out U k wr HN1.out hlt hhp.out hch.out).drew.drew⟩
            · rw [show U % 2 = 0 by omega] at ha1
              go_wp2_with fail
              go_region_held3 (fun w' => w'.cell? ⟨g, 0, none⟩ = some (.slice (some ⟨b, off, none⟩) N c) ∧ w'.cell? ⟨g, 1, none⟩ = some (.int .i64 (p : Int)) ∧ w'.cell? ⟨b, off + (p + k), none⟩ = some (.int .u8 ((X : Nat) : Int))) (first | exact ⟨d0, d1, hck⟩) (fail)
              go_wp2_with fail
              go_region_held3 (fun w' => w'.cell? ⟨g, 0, none⟩ = some (.slice (some ⟨b, off, none⟩) N c) ∧ w'.cell? ⟨g, 1, none⟩ = some (.int .i64 (p : Int)) ∧ w'.cell? ⟨b, off + (p + k), none⟩ = some (.int .u8 ((X : Nat) : Int))) (first | exact ⟨d0, d1, hck⟩) (fail)
              go_wp2_with fail
              go_ret
              exact ⟨ret_int ((unz_even h2).symm.trans (intVal_ok HN1.out).symm), (FIN.out U k wr HN1.out hlt hhp.out hch.out).drew.drew⟩
        · rw [if_neg hc] at hn1
          have hx : X - 128 = X % 128 := by omega
          rw [hx, ← hU] at hn1
          have HN1 : Hid (num s.l = numAt (k + 1) U (L.drop (p + (k + 1)))) := Lib.hid hn1
          have t4 : ¬ (X : Int) < 128 := by omega
          have hk8 : k ≤ 8 := by omega
          clear hn1 hU hx
          have t2 : ((k : Int) == 9) = false := by simp; omega
          by_cases h0 : 0 < k
          · have t1 : ((X : Int) == 0) = false := by simp; omega
            have t5 : (0 : Int) < (k : Int) := by omega
            go_wp2_with fail
            go_region_held3 (fun w' => w'.cell? ⟨g, 0, none⟩ = some (.slice (some ⟨b, off, none⟩) N c) ∧ w'.cell? ⟨g, 1, none⟩ = some (.int .i64 (p : Int)) ∧ w'.cell? ⟨b, off + (p + k), none⟩ = some (.int .u8 ((X : Nat) : Int))) (first | exact ⟨d0, d1, hck⟩) (fail)
            go_wp2_with fail
            go_region_held3 (fun w' => w'.cell? ⟨g, 0, none⟩ = some (.slice (some ⟨b, off, none⟩) N c) ∧ w'.cell? ⟨g, 1, none⟩ = some (.int .i64 (p : Int)) ∧ w'.cell? ⟨b, off + (p + k), none⟩ = some (.int .u8 ((X : Nat) : Int))) (first | exact ⟨d0, d1, hck⟩) (fail)
            go_wp2_with fail
            go_roundw
            case rel => exact ⟨k + 1, U, by omega, HA2.out, by omega, by go_num, rfl, HN1, hhp, Lib.hid hch.out.drew.drew⟩
            case measure => simp [intOf]; omega
          · have t5 : ¬ (0 : Int) < (k : Int) := by omega
            go_wp2_with fail
            go_region_held3 (fun w' => w'.cell? ⟨g, 0, none⟩ = some (.slice (some ⟨b, off, none⟩) N c) ∧ w'.cell? ⟨g, 1, none⟩ = some (.int .i64 (p : Int)) ∧ w'.cell? ⟨b, off + (p + k), none⟩ = some (.int .u8 ((X : Nat) : Int))) (first | exact ⟨d0, d1, hck⟩) (fail)
            go_wp2_with fail
            go_region_held3 (fun w' => w'.cell? ⟨g, 0, none⟩ = some (.slice (some ⟨b, off, none⟩) N c) ∧ w'.cell? ⟨g, 1, none⟩ = some (.int .i64 (p : Int)) ∧ w'.cell? ⟨b, off + (p + k), none⟩ = some (.int .u8 ((X : Nat) : Int))) (first | exact ⟨d0, d1, hck⟩) (fail)
            go_wp2_with fail
            go_roundw
            case rel => exact ⟨k + 1, U, by omega, HA2.out, by omega, by go_num, rfl, HN1, hhp, Lib.hid hch.out.drew.drew⟩
            case measure => simp [intOf]; omega
    · have i3 : (((p : Int) + (k : Int)) == (N : Int)) = true := by simp; omega
      have hd : L.drop (p + k) = [] := List.drop_eq_nil_of_le (by rw [← HN.out]; omega)
      have hn1 := hnum.out
      rw [hd, numAt] at hn1
      have HN1 := Lib.hid hn1
      clear hn1 hd hyr ha
      go_wp2_with fail
      go_region_held3 (fun w' => w'.cell? ⟨g, 0, none⟩ = some (.slice A N c) ∧ w'.cell? ⟨g, 1, none⟩ = some (.int .i64 (p : Int))) (first | exact ⟨d0, d1⟩) (fail)
      go_wp2_with (go_at_call 19; refine Hid.out ?_)
      refine Lib.hid ?_
      refine (refAtB _ _ _ _).mono ?_
      rintro e w2 ⟨bP, pc, rfl, hp2, B2⟩
      have hbz := BOX1.out (wr.drew) hhp.out
      have hb2 := hbz.kept_below B2 hbz.there
      have f2 := hb2.unmarked 2
      have r2 := (hb2.reads 2).trans (show _ = some (Value.slice none 0 0) from rfl)
      have r3 := (hb2.reads 3).trans (show _ = some (Value.int .i64 0) from rfl)
      have f3 := hb2.unmarked 3
      have HP2 := Lib.hid hp2
      have HB2 := Lib.hid B2
      clear hbz hb2 hp2 B2
      go_wp2_with fail
      rw [set23_def]
      go_ret
      exact ⟨ret_int (intVal_no (by decide) HN1.out).symm, FINB.out 3 bP pc wr.drew w2 (by decide) HN1.out hhp.out hch.out.drew HB2.out HP2.out⟩
theorem refDecInt_any (g : Nat) (L : List Nat) (s : St) (w : World) (h : RDec w g L s) :
    Calls Tryd.prog 51 #[.pointer (some ⟨g, 0, none⟩)] w fun e w' => e = .returned (.int .i64 (intVal s.l)) ∧ RDecPost w g L (intSt s) w' := by
  by_cases he : s.e = 0
  · exact refDecInt_ok g L s w h he
  · exact refDecInt_bad g L s w h he
end Go.Proofs.YtjfjdicdokdekaaDoor

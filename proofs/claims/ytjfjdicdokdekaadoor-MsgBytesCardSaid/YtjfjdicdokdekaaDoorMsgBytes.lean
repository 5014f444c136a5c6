/- straddlelaw4.MsgBytes returns true. -/
import Derived.Test.YtjfjdicdokdekaaDoorMsgRefDecode
import Derived.Test.YtjfjdicdokdekaaDoorMsgKnown
import Derived.Test.YtjfjdicdokdekaaDoorMsgNum
import Derived.Test.YtjfjdicdokdekaaDoorTellsAll
set_option linter.unusedSimpArgs false
namespace Go.Proofs.YtjfjdicdokdekaaDoor
open Go Go.RowKit Go.Mem1 Go.CodMath

def StOk (M : Nat) (s : St) : Prop := s.p + s.l.length ≤ M ∧ s.e ≤ 3 ∧ ∀ x ∈ s.l, x < 256
theorem intSt_ok {M : Nat} {s : St} (h : StOk M s) : StOk M (intSt s) := by
  obtain ⟨h1, h2, h3⟩ := h
  obtain ⟨_, n2, _, n4⟩ := num_bd h3
  refine ⟨?_, ?_, intSt_bd h3⟩
  · unfold intSt failSt
    split
    · dsimp only; rw [List.length_drop]; omega
    · split
      · dsimp only; simp; omega
      · exact h1
  · unfold intSt failSt
    split
    · exact h2
    · split
      · dsimp only
        rcases n4 with n4 | n4 | n4
        · omega
        · rw [n4]; dsimp only; omega
        · rw [n4]; dsimp only; omega
      · exact h2
theorem intsSt_ok {M : Nat} : ∀ (n : Nat) {s : St}, StOk M s → StOk M (intsSt n s)
  | 0, _, h => h
  | n + 1, _, h => by rw [intsSt]; exact intsSt_ok n (intSt_ok h)
theorem rowsSt_ok {M : Nat} : ∀ (n : Nat) {s : St}, StOk M s → StOk M (rowsSt n s)
  | 0, _, h => h
  | n + 1, _, h => by rw [rowsSt]; exact rowsSt_ok n (intsSt_ok 5 h)
theorem bad_parts (p : List (ByteArray × Int)) (e : Nat) : (Out.bad p e).parts = p := rfl
theorem bad_err (p : List (ByteArray × Int)) (e : Nat) : (Out.bad p e).err = e := rfl
theorem decOut_parts {l : List Nat} (hl : l.length ≤ 100000) (hb : ∀ x ∈ l, x < 256) (he : (decOut l).err ≠ 0) :
    ∃ k r, (decOut l).parts = (msgBytes, k) :: r ∧ r.length ≤ 4 ∧ OkParts bd64 ((msgBytes, k) :: r) ∧ (decOut l).err ≤ 14 := by
  have h0 : StOk l.length ⟨l, 0, 0⟩ := ⟨by simp, by simp, hb⟩
  have h1 : StOk l.length (headSt l) := intsSt_ok 9 h0
  have h2 : StOk l.length (allSt l) := rowsSt_ok _ h1
  have hm : msgBytes.size ≤ 100 := by decide
  have hy : byteBytes.size ≤ 100 := by decide
  have hc := MsgMath.cut_bd (rawKind l)
  have hx := MsgMath.chk_bd (rawKind l) (headSeq l) (headCount l)
  generalize hcut : MsgMath.cut (rawKind l) = ck at *
  have one : OkParts bd64 [(msgBytes, ck)] := fun x hx => by
    simp at hx; subst hx; exact ⟨hm, by unfold bd64; dsimp only; omega⟩
  have two : ∀ p : Nat, p ≤ 100000 → OkParts bd64 [(msgBytes, 0), (byteBytes, (p : Int))] := fun p hp x hx => by
    simp at hx
    rcases hx with rfl | rfl
    · exact ⟨hm, by unfold bd64; dsimp only; omega⟩
    · exact ⟨hy, by unfold bd64; dsimp only; omega⟩
  unfold decOut at he ⊢
  rw [hcut] at he ⊢
  split at he
  · rename_i q1
    rw [if_pos q1]
    exact ⟨0, [(byteBytes, ((headSt l).p : Int))], bad_parts _ _, by simp, two _ (by have := h1.1; omega), by have := h1.2.1; rw [bad_err]; omega⟩
  · rename_i q1
    rw [if_neg q1]
    split at he
    · rename_i q2
      rw [if_pos q2]
      exact ⟨ck, [], bad_parts _ _, by simp, one, by rw [bad_err]; omega⟩
    · rename_i q2
      rw [if_neg q2]
      split at he
      · rename_i q3
        rw [if_pos q3]
        exact ⟨0, [(byteBytes, ((allSt l).p : Int))], bad_parts _ _, by simp, two _ (by have := h2.1; omega), by have := h2.2.1; rw [bad_err]; omega⟩
      · rename_i q3
        rw [if_neg q3]
        split at he
        · rename_i q4
          rw [if_pos q4]
          exact ⟨ck, [], bad_parts _ _, by simp, one, by rw [bad_err]; omega⟩
        · exact absurd rfl he
theorem decOut_rows {l : List Nat} : (decOut l).rows.length ≤ 64 := by
  unfold decOut
  split
  · simp [Out.bad]
  · split
    · simp [Out.bad]
    · rename_i h
      split
      · simp [Out.bad]
      · split
        · simp [Out.bad]
        · dsimp only
          rw [rowsVal_len]
          have h1 := MsgMath.chk_ok (Decidable.not_not.1 h)
          have := MsgMath.most_bd (rawKind l)
          omega
set_option maxRecDepth 100000 in
set_option maxHeartbeats 1000000 in
theorem bytes_early (A : Option Addr) (n c : Nat) (w : World) (hn : 3000 < n) :
    Calls Tryd.prog 8 #[.slice A n c] w fun e w' => e = .returned (.bool true) ∧ Below w.heap.size w w' := by
  have hk := fun w' => mknown_ok w'
  have HK := Lib.hid hk
  clear hk
  have hb : (3000 : Int) < (n : Int) := by omega
  go_enter Tryd.func8, Tryd.ntmps8
  go_wp2_with (go_at_call 23; refine Hid.out ?_)
  refine Lib.hid ?_
  refine (HK.out _).mono ?_
  rintro e w1 ⟨rfl, B1⟩
  go_wp2_with fail
  go_ret
  exact ⟨rfl, B1⟩
set_option maxRecDepth 100000 in
set_option maxHeartbeats 2000000 in
theorem bytes_main (A : Option Addr) (n c : Nat) (l : List Nat) (w : World) (hg : ErrType w) (hT : Tab w) (hn : n ≤ 3000) (hc0 : A = none → c = 0) (h : Byt w w.heap.size A n l) :
    Calls Tryd.prog 8 #[.slice A n c] w fun e w' => e = .returned (.bool true) ∧ Below w.heap.size w w' := by
  have hk := fun w' => mknown_ok w'
  have HK := Lib.hid hk
  have hll : l.length ≤ 100000 := by have := h.len; omega
  have HPA := Lib.hid (fun he => decOut_parts hll h.bnd he)
  have HRW := Lib.hid (decOut_rows (l := l))
  have HG := Lib.hid hg
  have HT := Lib.hid hT
  have hdec := fun (w' : World) (hb : Below w.heap.size w w') => decode_any A n c l w' (by omega) hc0 ((h.carry hb).wider hb.size)
  have hrdec := fun (w' : World) (hb : Below w.heap.size w w') => refDecode_any A n c l w' (by omega) ((h.carry hb).wider hb.size)
  obtain ⟨o, ho⟩ : ∃ o, o = decOut l := ⟨_, rfl⟩
  rw [← ho] at hdec hrdec HPA HRW
  have HD := Lib.hid hdec
  have HRD := Lib.hid hrdec
  obtain ⟨op, oe, ⟨hk0, hs0, ha0, hb0, hcc0, hd0, he0, hf0⟩, ors⟩ := o
  have hi : ¬ (3000 : Int) < (n : Int) := by omega
  clear hk hdec hrdec hg hT h hc0 ho hll
  go_enter Tryd.func8, Tryd.ntmps8
  go_wp2_with (go_at_call 23; refine Hid.out ?_)
  refine Lib.hid ?_
  refine (HK.out _).mono ?_
  rintro e w1 ⟨rfl, B1⟩
  go_wp2_with (go_at_call 24; refine Hid.out ?_)
  refine Lib.hid ?_
  refine (HD.out w1 B1).mono ?_
  rintro e w2 ⟨v2, A2, n2, c2, rfl, hr2, hc2, B2, hv0, hv1⟩
  have Bw2 : Below w.heap.size w w2 := bel_trans B1 B2
  have HR2 := Lib.hid hr2
  have HV0 := Lib.hid hv0
  have HV1 := Lib.hid hv1
  clear hr2 hv0 hv1 B1 B2 HK
  dsimp only at HR2 HV0 HV1 HPA HRW ⊢
  go_wp2_with (go_at_call 25; refine Hid.out ?_)
  refine Lib.hid ?_
  have B23 := bel_new w2 (.cells #[.int .i64 hk0, .int .i64 hs0, .int .i64 ha0, .int .i64 hb0, .int .i64 hcc0, .int .i64 hd0, .int .i64 he0, .int .i64 hf0, .slice A2 n2 c2] 58)
  have hbm : Box (w2.alloc (.cells #[.int .i64 hk0, .int .i64 hs0, .int .i64 ha0, .int .i64 hb0, .int .i64 hcc0, .int .i64 hd0, .int .i64 he0, .int .i64 hf0, .slice A2 n2 c2] 58)) w2.heap.size 58 #[.int .i64 hk0, .int .i64 hs0, .int .i64 ha0, .int .i64 hb0, .int .i64 hcc0, .int .i64 hd0, .int .i64 he0, .int .i64 hf0, .slice A2 n2 c2] := Box.fresh w2 _ _ rfl
  generalize (w2.alloc (.cells #[.int .i64 hk0, .int .i64 hs0, .int .i64 ha0, .int .i64 hb0, .int .i64 hcc0, .int .i64 hd0, .int .i64 he0, .int .i64 hf0, .slice A2 n2 c2] 58)) = w3 at *
  have Bw3 : Below w.heap.size w w3 := bel_trans Bw2 B23
  refine (HRD.out w3 Bw3).mono ?_
  rintro e w4 ⟨A4, n4, c4, P4, m4, pc4, rfl, hr4, B4, hp4⟩
  dsimp only at hr4 hp4 ⊢
  have Bw4 : Below w.heap.size w w4 := bel_trans Bw3 B4
  have B24 : Below w2.heap.size w2 w4 := bel_trans B23 B4
  have HBM := Lib.hid (hbm.kept_below B4 hbm.there)
  have HR4 := Lib.hid hr4
  have HP4 := Lib.hid hp4
  have HR24 := Lib.hid ((HR2.out.carry B24).wider B24.size)
  have hv1 : oe ≠ 0 → ∃ b, v2 = .iface 78 (.pointer (some ⟨b, 0, none⟩)) ∧ IsErr w4 w4.heap.size op (oe : Int) v2 := fun he => by
    obtain ⟨b, e1, e2⟩ := HV1.out he
    exact ⟨b, e1, (e2.carry B24).wider B24.size⟩
  have HV4 := Lib.hid hv1
  clear hbm hr4 hp4 hv1 HD HRD HR2 HV1 B23 B4 B24 Bw2 Bw3
  go_wp2_with fail
  have BW := bel_alloc (bel_new w4 (.cells #[.int .i64 hk0, .int .i64 hs0, .int .i64 ha0, .int .i64 hb0, .int .i64 hcc0, .int .i64 hd0, .int .i64 he0, .int .i64 hf0, .slice A4 n4 c4] 63)) (.cells #[.slice P4 m4 pc4, .int .i64 (oe : Int)] 29)
  have hbx : Box ((w4.alloc (.cells #[.int .i64 hk0, .int .i64 hs0, .int .i64 ha0, .int .i64 hb0, .int .i64 hcc0, .int .i64 hd0, .int .i64 he0, .int .i64 hf0, .slice A4 n4 c4] 63)).alloc (.cells #[.slice P4 m4 pc4, .int .i64 (oe : Int)] 29)) w4.heap.size 63 #[.int .i64 hk0, .int .i64 hs0, .int .i64 ha0, .int .i64 hb0, .int .i64 hcc0, .int .i64 hd0, .int .i64 he0, .int .i64 hf0, .slice A4 n4 c4] := (Box.fresh w4 _ _ rfl).kept_below (bel_new _ _) (by simp)
  have hbw : Box ((w4.alloc (.cells #[.int .i64 hk0, .int .i64 hs0, .int .i64 ha0, .int .i64 hb0, .int .i64 hcc0, .int .i64 hd0, .int .i64 he0, .int .i64 hf0, .slice A4 n4 c4] 63)).alloc (.cells #[.slice P4 m4 pc4, .int .i64 (oe : Int)] 29)) (w4.heap.size + 1) 29 #[.slice P4 m4 pc4, .int .i64 (oe : Int)] := Box.fresh _ _ _ (by simp)
  generalize ((w4.alloc (.cells #[.int .i64 hk0, .int .i64 hs0, .int .i64 ha0, .int .i64 hb0, .int .i64 hcc0, .int .i64 hd0, .int .i64 he0, .int .i64 hf0, .slice A4 n4 c4] 63)).alloc (.cells #[.slice P4 m4 pc4, .int .i64 (oe : Int)] 29)) = W at *
  have BwW : Below w.heap.size w W := bel_trans Bw4 BW
  have hbm := HBM.out.kept_below BW HBM.out.there
  have hta : ∀ w', Below W.heap.size W w' → Calls Tryd.prog 15 #[v2, .agg #[.slice P4 m4 pc4, .int .i64 (oe : Int)]] w' fun r w'' => r = .returned (.bool true) ∧ Below w'.heap.size w' w'' := by
    intro w' hb
    by_cases hoe : oe = 0
    · rw [HV0.out hoe, hoe]
      exact tells_nil P4 m4 pc4 w'
    · obtain ⟨k, r, ep, hr, hok, h14⟩ := HPA.out hoe
      obtain ⟨b, ev, hE⟩ := HV4.out hoe
      have hp := HP4.out hoe
      have b4 : Below w4.heap.size w4 w' := bel_trans BW hb
      rw [ev] at hE ⊢
      rw [ep] at hE hp
      exact tells_all numFull msgBytes k r P4 m4 pc4 oe b w' (((bel_trans BwW hb).cell (p := ⟨0, 0, none⟩) HG.out.lt).trans HG.out) ((hE.carry b4).wider b4.size) ((hp.carry b4).wider b4.size) (HT.out.keep (bel_trans BwW hb)) hok hr h14 hoe
  have hofx := fun w' (kk : Below W.heap.size W w') => of_msg ⟨hk0, hs0, ha0, hb0, hcc0, hd0, he0, hf0⟩ ors A2 n2 c2 w' ((HR24.out.carry (bel_trans BW kk)).wider (bel_trans BW kk).size) (by have q1 := HR24.out.len; have q2 := HRW.out; omega)
  have hrx := fun w' (kk : Below W.heap.size W w') => (HR4.out.carry (bel_trans BW kk)).wider (bel_trans BW kk).size
  have hss : sameB (⟨hk0, hs0, ha0, hb0, hcc0, hd0, he0, hf0⟩ : Hd) ⟨hk0, hs0, ha0, hb0, hcc0, hd0, he0, hf0⟩ ors ors = true := sameB_iff.2 ⟨rfl, rfl⟩
  have hlen64 : ors.length ≤ 64 := HRW.out
  have keepS := fun w' (kk : Below W.heap.size W w') => (⟨box_cells9 (hbm.kept_below kk hbm.there), box_cells9 (hbx.kept_below kk hbx.there), ((hbw.kept_below kk hbw.there).reads 0).trans rfl, ((hbw.kept_below kk hbw.there).reads 1).trans rfl⟩ : (w'.cell? ⟨w2.heap.size, 0, none⟩ = some (.int .i64 hk0) ∧ w'.cell? ⟨w2.heap.size, 1, none⟩ = some (.int .i64 hs0) ∧ w'.cell? ⟨w2.heap.size, 2, none⟩ = some (.int .i64 ha0) ∧ w'.cell? ⟨w2.heap.size, 3, none⟩ = some (.int .i64 hb0) ∧ w'.cell? ⟨w2.heap.size, 4, none⟩ = some (.int .i64 hcc0) ∧ w'.cell? ⟨w2.heap.size, 5, none⟩ = some (.int .i64 hd0) ∧ w'.cell? ⟨w2.heap.size, 6, none⟩ = some (.int .i64 he0) ∧ w'.cell? ⟨w2.heap.size, 7, none⟩ = some (.int .i64 hf0) ∧ w'.cell? ⟨w2.heap.size, 8, none⟩ = some (.slice A2 n2 c2)) ∧ (w'.cell? ⟨w4.heap.size, 0, none⟩ = some (.int .i64 hk0) ∧ w'.cell? ⟨w4.heap.size, 1, none⟩ = some (.int .i64 hs0) ∧ w'.cell? ⟨w4.heap.size, 2, none⟩ = some (.int .i64 ha0) ∧ w'.cell? ⟨w4.heap.size, 3, none⟩ = some (.int .i64 hb0) ∧ w'.cell? ⟨w4.heap.size, 4, none⟩ = some (.int .i64 hcc0) ∧ w'.cell? ⟨w4.heap.size, 5, none⟩ = some (.int .i64 hd0) ∧ w'.cell? ⟨w4.heap.size, 6, none⟩ = some (.int .i64 he0) ∧ w'.cell? ⟨w4.heap.size, 7, none⟩ = some (.int .i64 hf0) ∧ w'.cell? ⟨w4.heap.size, 8, none⟩ = some (.slice A4 n4 c4)) ∧ (w'.cell? ⟨w4.heap.size + 1, 0, none⟩ = some (.slice P4 m4 pc4) ∧ w'.cell? ⟨w4.heap.size + 1, 1, none⟩ = some (.int .i64 (oe : Int))))
  have HTA := Lib.hid (hta W.drew (Below.refl _ _).drew)
  have HOX := Lib.hid hofx
  have HRX := Lib.hid hrx
  have HSS := Lib.hid hss
  have KS := Lib.hid keepS
  have hS0 := keepS W (Below.refl _ _)
  have B70 : Below W.heap.size W W.drew := (Below.refl _ _).drew
  clear keepS hta hofx hrx hss hbm hbx hbw HBM BW HPA HV0 HV4 HP4 HR24 HR4 HRW
  go_region_held3 (fun w' => (w'.cell? ⟨w2.heap.size, 0, none⟩ = some (.int .i64 hk0) ∧ w'.cell? ⟨w2.heap.size, 1, none⟩ = some (.int .i64 hs0) ∧ w'.cell? ⟨w2.heap.size, 2, none⟩ = some (.int .i64 ha0) ∧ w'.cell? ⟨w2.heap.size, 3, none⟩ = some (.int .i64 hb0) ∧ w'.cell? ⟨w2.heap.size, 4, none⟩ = some (.int .i64 hcc0) ∧ w'.cell? ⟨w2.heap.size, 5, none⟩ = some (.int .i64 hd0) ∧ w'.cell? ⟨w2.heap.size, 6, none⟩ = some (.int .i64 he0) ∧ w'.cell? ⟨w2.heap.size, 7, none⟩ = some (.int .i64 hf0) ∧ w'.cell? ⟨w2.heap.size, 8, none⟩ = some (.slice A2 n2 c2)) ∧ (w'.cell? ⟨w4.heap.size, 0, none⟩ = some (.int .i64 hk0) ∧ w'.cell? ⟨w4.heap.size, 1, none⟩ = some (.int .i64 hs0) ∧ w'.cell? ⟨w4.heap.size, 2, none⟩ = some (.int .i64 ha0) ∧ w'.cell? ⟨w4.heap.size, 3, none⟩ = some (.int .i64 hb0) ∧ w'.cell? ⟨w4.heap.size, 4, none⟩ = some (.int .i64 hcc0) ∧ w'.cell? ⟨w4.heap.size, 5, none⟩ = some (.int .i64 hd0) ∧ w'.cell? ⟨w4.heap.size, 6, none⟩ = some (.int .i64 he0) ∧ w'.cell? ⟨w4.heap.size, 7, none⟩ = some (.int .i64 hf0) ∧ w'.cell? ⟨w4.heap.size, 8, none⟩ = some (.slice A4 n4 c4)) ∧ (w'.cell? ⟨w4.heap.size + 1, 0, none⟩ = some (.slice P4 m4 pc4) ∧ w'.cell? ⟨w4.heap.size + 1, 1, none⟩ = some (.int .i64 (oe : Int))))
    (first | exact hS0 | exact KS.out _ B70 | exact KS.out _ BA | exact KS.out _ BB | exact KS.out _ BC)
    ((first | (go_at_call 15; refine HTA.out.mono ?_; rintro e wA ⟨rfl, Ba⟩; have BA : Below W.heap.size W wA := B70.trans Ba)
            | (go_at_call 27; refine (HOX.out _ BA).mono ?_; rintro e wB ⟨Ab, nb, cb, rfl, hrB, _, Bb⟩; have BB : Below W.heap.size W wB := bel_trans BA Bb)
            | (go_at_call 26; refine (refSame_any ⟨hk0, hs0, ha0, hb0, hcc0, hd0, he0, hf0⟩ ⟨hk0, hs0, ha0, hb0, hcc0, hd0, he0, hf0⟩ Ab A4 nb n4 cb c4 ors ors _ _ _ hrB (HRX.out _ BB) (Nat.le_refl _) (Nat.le_refl _) (by have q1 := hrB.len; unfold maxLen; omega)).mono ?_; rintro e wC ⟨rfl, Bc⟩; rw [HSS.out]; have BC : Below W.heap.size W wC := bel_trans BB Bc)))
  all_goals
    have Bfin := Lib.hid (bel_trans BwW BC)
    clear hS0 KS B70 Ba Bb Bc BA BB BC
    go_wp2_with fail
    go_ret
    exact ⟨rfl, Bfin.out⟩
end Go.Proofs.YtjfjdicdokdekaaDoor

/- straddlelaw3.CodeBack returns true. -/
import Derived.Test.YtdgnkpbokoomkaaCodRaws
import Derived.Test.YtdgnkpbokoomkaaRefInt
import Derived.Test.YtdgnkpbokoomkaaItems
import Derived.Deep.RegionWith
import Derived.Deep.RegionHeld3
namespace Go.Proofs.Ytdgnkpbokoomkaa
open Go.RowKit Go.Mem1 Go.CodMath
set_option linter.unusedSimpArgs false

/-- An Enc that holds L and a row V (m bytes) of the law's own that holds L2; they share nothing. -/
def Pair (w : World) (B g : Nat) (R : Option Nat) (V : Value) (m : Nat) (L L2 : List Nat) : Prop :=
  EncAt w B g R L ∧ w.ownsRow B 5 1 V m (L2.map bv) ∧ ∀ j, V.ownBlock = some j → ¬ EncSet g R j
theorem Pair.below {w w' : World} {B g m : Nat} {R : Option Nat} {V : Value} {L L2 : List Nat} (h : Pair w B g R V m L L2) (hb : Below w.heap.size w w') : Pair w' B g R V m L L2 :=
  ⟨h.1.below hb, own_chg h.2.1 (Chg.of_below hb (fun _ => False)) (fun _ _ h => h), h.2.2⟩
theorem Pair.enc {w w2 : World} {B g m : Nat} {R : Option Nat} {V : Value} {L L1 L2 : List Nat} (h : Pair w B g R V m L L2) (hgo : EncGo w B g R L1 w2) (hB : B ≤ w.heap.size) : ∃ R', Pair w2 B g R' V m L1 L2 ∧ Below B w w2 := by
  obtain ⟨hb, R', hE, hc, hR⟩ := hgo.next h.1 hB
  refine ⟨R', ⟨hE, own_chg h.2.1 hc (fun k hk => h.2.2 k hk), fun j hj hs => ?_⟩, hb⟩
  have hlt := (h.2.1.lt j hj).2
  rcases hs with rfl | hs
  · exact h.2.2 _ hj (.inl rfl)
  · rcases hR with rfl | ⟨k, hk, hle⟩
    · exact h.2.2 _ hj (.inr hs)
    · rw [hk] at hs; injection hs with hs; omega
theorem Pair.app {w w2 : World} {B g m m' : Nat} {R : Option Nat} {V V' : Value} {L L2 L3 : List Nat} (h : Pair w B g R V m L L2) (ho : w2.ownsRow B 5 1 V' m' (L3.map bv)) (hgr : w.grownBy w2 V.ownBlock)
    (hat : V'.ownBlock = V.ownBlock ∨ V'.ownBlock = some w.heap.size) : Pair w2 B g R V' m' L L3 := by
  refine ⟨h.1.kept (Chg.of_grown hgr) (fun e => h.2.2 g e.symm (.inl rfl)) (fun k hk e => h.2.2 k e.symm (.inr hk.symm)), ho, fun j hj hs => ?_⟩
  rcases hat with e | e
  · exact h.2.2 j (e ▸ hj) hs
  · rw [e] at hj; injection hj with hj; subst hj
    rcases hs with hs | hs
    · have := h.1.there; omega
    · have := (h.1.row _ hs.symm).2; omega
theorem Pair.len {w : World} {B g m : Nat} {R : Option Nat} {V : Value} {L L2 : List Nat} (h : Pair w B g R V m L L2) : L2.length = m := by have := h.2.1.1; simpa using this
theorem Pair.slice {w : World} {B g m : Nat} {R : Option Nat} {V : Value} {L L2 : List Nat} (h : Pair w B g R V m L L2) : ∃ A c, V = .slice A m c := own_slice h.2.1

theorem encs_step {its : List Itm} {k : Nat} {i : Itm} (h : its[k]? = some i) : (its.take (k + 1)).flatMap Itm.enc = (its.take k).flatMap Itm.enc ++ i.enc := by
  obtain ⟨hk, rfl⟩ := List.getElem?_eq_some_iff.1 h
  rw [List.take_succ_eq_append_getElem hk, List.flatMap_append]
  simp
theorem encs_rest {its : List Itm} {k : Nat} {i : Itm} (h : its[k]? = some i) : (its.drop k).flatMap Itm.enc = i.enc ++ (its.drop (k + 1)).flatMap Itm.enc := by
  obtain ⟨hk, rfl⟩ := List.getElem?_eq_some_iff.1 h
  rw [List.drop_eq_getElem_cons hk, List.flatMap_cons]
theorem enc_len {i : Itm} (hz : -9223372036854775808 ≤ i.z ∧ i.z ≤ 9223372036854775807) (hl : i.l.length ≤ 300) : i.enc.length ≤ 310 := by
  unfold Itm.enc
  split
  · have := ren_len (l := i.l) (by omega); omega
  · have := ien_len hz; omega

set_option maxRecDepth 100000 in
set_option maxHeartbeats 1600000 in
theorem back_main (A : Option Addr) (n c : Nat) (its : List Itm) (w : World) (hn : n ≤ 60) (h : Items w w.heap.size A n its) :
    Calls Try.prog 3 #[.slice A n c] w fun e w' => e = .returned (.bool true) ∧ Below w.heap.size w w' := by
  obtain ⟨i0, hi0, hz0, hz1, hz2⟩ := info_parts u8_info
  have H := Lib.hid h; clear h
  have hn60 : decide ((60 : Int) < (n : Int)) = false := by simp; omega
  go_enter Try.func3, Try.ntmps3
  go_wp2_with (go_at_call 6; refine (known_ok w).mono ?_; rintro e w1 ⟨rfl, B1⟩)
  have hE0 := EncAt.new w1 rfl
  have HE0 := Lib.hid hE0; clear hE0
  have hz1' := B1.size
  have B1' : Below w.heap.size w (w1.alloc (.cells #[.slice none 0 0] 27)) := bel_alloc B1 _
  go_loopw [4, 5] (fun v4 v5 wr => ∃ k : Nat, k ≤ n ∧ v5 = .int .i64 k ∧ Below w.heap.size w wr ∧ w1.heap.size ≤ wr.heap.size ∧ Hid (∃ R m, Pair wr w1.heap.size w1.heap.size R v4 m ((its.take k).flatMap Itm.enc) ((its.take k).flatMap Itm.enc)) ∧ ((its.take k).flatMap Itm.enc).length ≤ 310 * k ∧ Hid (∀ i it, i < k → its[i]? = some it → it.l.length ≤ 300)) (fun _ v5 _ => n - (intOf v5).toNat)
  case atStart => exact ⟨0, by omega, rfl, B1', by simp, ⟨none, 0, HE0.out, World.ownsRow_nil _ _ _ _, fun j hj => by cases hj⟩, by simp, fun i it hi => by omega⟩
  case round =>
    obtain ⟨k, hk, rfl, Br, hzr, hP, hlen, hsmall⟩ := hrel
    obtain ⟨R, m, hpair⟩ := hP.out
    obtain ⟨A4, c4, rfl⟩ := hpair.slice
    have hm := hpair.len
    have HP := Lib.hid hpair
    have HM := Lib.hid hm
    have hmb : m ≤ 310 * k := by omega
    clear hP hpair hm
    by_cases hlt : k < n
    · obtain ⟨it, hit⟩ := H.out.get hlt
      obtain ⟨b, off, A1, n1, c1, rfl, hb, ct, cz, cl, hc0, hy, hzb⟩ := (H.out.carry Br).at_ k it hit
      have hl1 := hy.len
      have HC := Lib.hid hc0; clear hc0
      have HY := Lib.hid hy; clear hy
      have HL1 := Lib.hid hl1; clear hl1
      by_cases hbig : 300 < n1
      · have hb1 : decide ((300 : Int) < (n1 : Int)) = true := by simp; omega
        clear hit
        go_wp2_with fail
        go_ret
        exact ⟨rfl, Br⟩
      · have hb1 : decide ((300 : Int) < (n1 : Int)) = false := by simp; omega
        have hst := encs_step hit
        have hel := enc_len hzb (by have := HL1.out; omega)
        have hll : ((its.take (k + 1)).flatMap Itm.enc).length ≤ 310 * (k + 1) := by
          rw [hst, List.length_append]; omega
        have hsm : ∀ (i : Nat) (x : Itm), i < k + 1 → its[i]? = some x → x.l.length ≤ 300 := by
          intro i x hi hx
          rcases Nat.lt_or_ge i k with h | h
          · exact hsmall.out i x h hx
          · obtain rfl : i = k := by omega
            rw [hit] at hx; injection hx with hx; subst hx
            have := HL1.out; omega
        generalize (its.take k).flatMap Itm.enc = L at *
        have HS := Lib.hid hst
        have HLL := Lib.hid hll
        have HSM := Lib.hid hsm
        have HIT := Lib.hid hit
        have HEL := Lib.hid hel
        clear hst hll hsm hit hel hsmall
        cases htt : it.t with
        | true =>
          rw [htt] at ct
          have henc : it.enc = ren it.l := by unfold Itm.enc; rw [if_pos htt]
          have HN := Lib.hid henc
          clear henc htt
          have hraw := encRaw_any w1.heap.size w1.heap.size R L it.l A1 n1 c1 wr HP.out.1 hzr HC.out (HY.out.wider Br.size) (fun b o e h0 => HP.out.1.off (by
            obtain ⟨b', o', e', hlt', _⟩ := HY.out.rd.cells h0
            rw [e] at e'; injection e' with e'; injection e' with e1 e2; subst e1; omega)) (by omega)
          rw [← HN.out] at hraw
          have HR := Lib.hid hraw
          clear hraw
          go_wp2_with fail
          refine HR.out.mono ?_
          rintro e w2 ⟨rfl, hgo⟩
          obtain ⟨R2, hP2, B2⟩ := HP.out.enc hgo hzr
          have HP2 := Lib.hid hP2
          have B02 : Below w.heap.size w w2 := Br.trans (B2.mono hz1')
          have hz2' := Nat.le_trans hzr B2.size
          have ct2 := (B2.mono hz1').cell (p := ⟨b, off + k * 3, none⟩) hb |>.trans ct
          have cl2 := (B2.mono hz1').cell (p := ⟨b, off + k * 3 + 2, none⟩) hb |>.trans cl
          have hy2 : Byt w2 w2.heap.size A1 n1 it.l := (HY.out.carry (B2.mono hz1')).wider B02.size
          have HY2 := Lib.hid hy2
          clear hgo hP2 hy2 B2 HR
          go_wp2_with fail
          refine (refRaw_any A1 n1 c1 it.l w2 (by omega) HC.out HY2.out).mono ?_
          rintro e w3 ⟨A3, n3, c3, rfl, ho3, B3⟩
          have HP3 := Lib.hid (HP2.out.below B3)
          have hy3 : Byt w3 w3.heap.size A3 n3 (ren it.l) := Byt.ofOwn ho3 (fun x hx => by
            unfold ren at hx
            rcases List.mem_append.1 hx with hx | hx
            · exact vint_bnd _ x hx
            · exact HY2.out.bnd x hx)
          have hn3 : n3 ≤ 310 := by
            have h1 := hy3.len
            have h2 := HEL.out
            rw [HN.out] at h2; omega
          have hc3 : A3 = none → c3 = 0 := by
            rintro rfl
            rcases ho3.2 with ⟨hv, _⟩ | ⟨_, _, _, hv, _⟩
            · injection hv
            · injection hv with hv; cases hv
          have HY3 := Lib.hid hy3
          have HC3 := Lib.hid hc3
          have B03 : Below w.heap.size w w3 := bel_trans B02 B3
          have hz3 : w1.heap.size ≤ w3.heap.size := Nat.le_trans hz2' B3.size
          clear hy3 ho3 hc3 B3 B02 HP2
          go_wp2_with (at_builtin; go_loud (refine wpList_append rfl (.tmp 40) (.tmp 46) _ rfl w1.heap.size 5 i0 _ 1 Try.underlying25 hi0 hz0 hz1 hz2 rfl (.slice A4 m c4) m (L.map bv) rfl HP3.out.2.1 A3 n3 c3 HC3.out ((ren it.l).map bv) rfl HY3.out.rd (oneCell_bv _) (by simp only [maxLen]; omega) (by omega) hz3 ?_; intro v2 w4 ho4 hgr4 hat4; have hP4 := HP3.out.app (L3 := L ++ ren it.l) (by simpa using ho4) hgr4 hat4; have B04 : Below w.heap.size w w4 := B03.grown hgr4 (by omega) (fun k hk => Nat.le_trans hz1' (HP3.out.2.1.lt k hk).1); have hz4 := Nat.le_trans hz3 hgr4.size; have HP4 := Lib.hid hP4; clear ho4 hgr4 hat4 hP4))
          go_roundw
          case rel => exact ⟨k + 1, by omega, by go_num, B04, hz4, ⟨R2, m + n3, by rw [HS.out, HN.out]; rw [HN.out] at HP4; exact HP4.out⟩, HLL.out, HSM.out⟩
          case measure => simp [intOf]; omega
        | false =>
          rw [htt] at ct
          have henc : it.enc = ien it.z := by unfold Itm.enc; rw [if_neg (by rw [htt]; decide)]
          have HN := Lib.hid henc
          have HZB := Lib.hid hzb
          clear henc htt hzb
          have hP0 := HP.out.below (bel_new wr (.cells #[.int .i64 it.z] 2))
          have hint := encInt_any w1.heap.size wr.heap.size w1.heap.size R L [it.z] _ hP0.1 (by simp; omega) (Box.fresh wr _ _ rfl) (by intro z hz; simp at hz; subst hz; exact HZB.out) (by simp only [List.length_singleton]; omega)
          have e1 : [it.z].flatMap ien = it.enc := by rw [HN.out]; simp
          rw [e1] at hint
          have HR := Lib.hid hint
          have HP0 := Lib.hid hP0
          clear hint hP0 e1
          go_wp2_with fail
          refine HR.out.mono ?_
          rintro e w2 ⟨rfl, hgo⟩
          obtain ⟨R2, hP2, B2⟩ := HP0.out.enc hgo (by simp; omega)
          have HP2 := Lib.hid hP2
          have B02 : Below w.heap.size w w2 := (bel_alloc Br _).trans (B2.mono hz1')
          have hz2' : w1.heap.size ≤ w2.heap.size := by have := B2.size; simp at this; omega
          have Br2 : Below w.heap.size wr w2 := ((Below.refl _ _).alloc Br.size _).trans (B2.mono hz1')
          have ct2 := Br2.cell (p := ⟨b, off + k * 3, none⟩) hb |>.trans ct
          have cz2 := Br2.cell (p := ⟨b, off + k * 3 + 1, none⟩) hb |>.trans cz
          clear hgo hP2 B2 HR Br2
          go_wp2_with fail
          refine (refInt_any it.z w2 HZB.out).mono ?_
          rintro e w3 ⟨A3, n3, c3, rfl, ho3, B3⟩
          have HP3 := Lib.hid (HP2.out.below B3)
          have hy3 : Byt w3 w3.heap.size A3 n3 (ien it.z) := Byt.ofOwn ho3 (fun x hx => vint_bnd _ x hx)
          have hn3 : n3 ≤ 310 := by
            have h1 := hy3.len
            have h2 := HEL.out
            rw [HN.out] at h2; omega
          have hc3 : A3 = none → c3 = 0 := by
            rintro rfl
            rcases ho3.2 with ⟨hv, _⟩ | ⟨_, _, _, hv, _⟩
            · injection hv
            · injection hv with hv; cases hv
          have HY3 := Lib.hid hy3
          have HC3 := Lib.hid hc3
          have B03 : Below w.heap.size w w3 := bel_trans B02 B3
          have hz3 : w1.heap.size ≤ w3.heap.size := Nat.le_trans hz2' B3.size
          clear hy3 ho3 hc3 B3 B02 HP2
          go_wp2_with (at_builtin; go_loud (refine wpList_append rfl (.tmp 56) (.tmp 62) _ rfl w1.heap.size 5 i0 _ 1 Try.underlying25 hi0 hz0 hz1 hz2 rfl (.slice A4 m c4) m (L.map bv) rfl HP3.out.2.1 A3 n3 c3 HC3.out ((ien it.z).map bv) rfl HY3.out.rd (oneCell_bv _) (by simp only [maxLen]; omega) (by omega) hz3 ?_; intro v2 w4 ho4 hgr4 hat4; have hP4 := HP3.out.app (L3 := L ++ ien it.z) (by simpa using ho4) hgr4 hat4; have B04 : Below w.heap.size w w4 := B03.grown hgr4 (by omega) (fun k hk => Nat.le_trans hz1' (HP3.out.2.1.lt k hk).1); have hz4 := Nat.le_trans hz3 hgr4.size; have HP4 := Lib.hid hP4; clear ho4 hgr4 hat4 hP4))
          go_roundw
          case rel => exact ⟨k + 1, by omega, by go_num, B04, hz4, ⟨R2, m + n3, by rw [HS.out, HN.out]; rw [HN.out] at HP4; exact HP4.out⟩, HLL.out, HSM.out⟩
          case measure => simp [intOf]; omega
    · have hkn : k = n := by omega
      have hln := H.out.len
      have hta : its.take k = its := List.take_of_length_le (by omega)
      rw [hta] at hlen HP HM
      have hsm2 : ∀ (i : Nat) (x : Itm), its[i]? = some x → x.l.length ≤ 300 := by
        intro i x hx
        have hi : i < its.length := (List.getElem?_eq_some_iff.1 hx).1
        exact hsmall.out i x (by omega) hx
      have HSM := Lib.hid hsm2
      have HLN := Lib.hid hln
      obtain ⟨L, hL⟩ : ∃ L, L = its.flatMap Itm.enc := ⟨_, rfl⟩
      rw [← hL] at hlen HP HM
      have HL := Lib.hid hL
      have HMB := Lib.hid hmb
      clear hkn hln hta hsm2 hsmall hL
      have hmL : m ≤ 18600 := by omega
      have hby := encBytes_any w1.heap.size w1.heap.size R L wr.drew (HP.out.1.kept (S := fun _ => False) (Chg.refl _ _).drew (fun h => h) (fun _ _ h => h)) (by omega)
      rw [HM.out] at hby
      have HBY := Lib.hid hby
      have hyw : Byt wr wr.heap.size A4 m L := Byt.ofOwn HP.out.2.1 HP.out.1.bnd
      have kw := conv_str hyw.drew c4
      have HYW := Lib.hid hyw
      clear hby hyw
      go_wp2_with fail
      refine wp_region_held_drew (S := (fun w' => (convert 25 9 (.slice A4 m c4)).run Try.prog w' = .ok (.string (strOf L)) w')) (by kernel_rfl) (kw) (fun hHeld => ?_)
      refine wpAnyH_take (i := 0) (v := ?_) rfl (by kernel_rfl) (by kernel_rfl) (by kernel_rfl) (fun _ _ _ h => h) (Or.inl ⟨by rfl, ?_⟩) (by assumption) ?_
      rotate_left
      · (intro w hSw; (try dsimp only at hSw); first | (go_simp; done) | (go_simp; with_reducible rfl))
      try simp only [Act.put, List.setIfInBounds_toArray, List.set_cons_zero, List.set_cons_succ, List.getElem_toArray, List.getElem_cons_zero, List.getElem_cons_succ]
      refine wpAnyH_take (i := 3) (v := ?_) rfl (by kernel_rfl) (by kernel_rfl) (by kernel_rfl) (fun _ _ _ h => h) (Or.inl ⟨by rfl, ?_⟩) (by assumption) ?_
      rotate_left
      · (intro w hSw; (try dsimp only at hSw); first | (go_simp; done) | (go_simp; with_reducible rfl))
      try simp only [Act.put, List.setIfInBounds_toArray, List.set_cons_zero, List.set_cons_succ, List.getElem_toArray, List.getElem_cons_zero, List.getElem_cons_succ]
      refine wpAnyH_take (i := 4) (v := ?_) rfl (by kernel_rfl) (by kernel_rfl) (by kernel_rfl) (fun _ _ _ h => h) (Or.inl ⟨by rfl, ?_⟩) (by assumption) ?_
      rotate_left
      · (intro w hSw; (try dsimp only at hSw); first | (go_simp; done) | (go_simp; with_reducible rfl))
      try simp only [Act.put, List.setIfInBounds_toArray, List.set_cons_zero, List.set_cons_succ, List.getElem_toArray, List.getElem_cons_zero, List.getElem_cons_succ]
      refine wpAnyH_ready (rs := [1]) (by kernel_rfl) (by simp) ?_
      refine AllReadyH.cons rfl (fun K hK => ?_) AllReadyH.nil
      go_simp
      refine HBY.out.mono ?_; rintro e w2 ⟨hb2, A2, c2, rfl, _, _, ho2⟩; have B2 : Below wr.heap.size wr w2 := ((Below.refl wr.heap.size wr).drew).trans hb2; have hy2 : Byt w2 w2.heap.size A2 m L := Byt.ofOwn ho2 HYW.out.bnd; have k2 := conv_str hy2 c2; have kw2 := conv_str (HYW.out.carry B2) c4; have HY2 := Lib.hid hy2; clear hy2 ho2 hb2; dsimp only
      refine hK.out _ _ (kw2) (fun hHeld => ?_)
      clear hK K
      try simp only [Act.put, List.setIfInBounds_toArray, List.set_cons_zero, List.set_cons_succ, List.getElem_toArray, List.getElem_cons_zero, List.getElem_cons_succ]
      refine wpAnyH_ready (rs := [2]) (by kernel_rfl) (by simp) ?_
      refine AllReadyH.cons rfl (fun K hK => ?_) AllReadyH.nil
      go_simp
      refine hK.out _ _ (kw2) (fun hHeld => ?_)
      clear hK K
      try simp only [Act.put, List.setIfInBounds_toArray, List.set_cons_zero, List.set_cons_succ, List.getElem_toArray, List.getElem_cons_zero, List.getElem_cons_succ]
      refine wpAnyH_take (i := 5) (v := ?_) rfl (by kernel_rfl) (by kernel_rfl) (by kernel_rfl) (fun _ _ _ h => h) (Or.inl ⟨by rfl, ?_⟩) (by assumption) ?_
      rotate_left
      · (intro w hSw; (try dsimp only at hSw); first | (go_simp; done) | (go_simp; with_reducible rfl))
      try simp only [Act.put, List.setIfInBounds_toArray, List.set_cons_zero, List.set_cons_succ, List.getElem_toArray, List.getElem_cons_zero, List.getElem_cons_succ]
      refine wpAnyH_done (by kernel_rfl) ?_ _
      all_goals
        have hyd : Byt w2 w2.heap.size A4 m L := (HYW.out.carry B2).wider B2.size
        have B02 : Below w.heap.size w w2 := bel_trans Br B2
        have hz2' : w1.heap.size ≤ w2.heap.size := Nat.le_trans hzr B2.size
        have hc4 : A4 = none → c4 = 0 := by
          rintro rfl
          rcases HP.out.2.1.2 with ⟨hv, _⟩ | ⟨_, _, _, hv, _⟩
          · injection hv
          · injection hv with hv; cases hv
        have hof := of_any A4 m c4 L w2 (by omega) hc4 hyd
        have HOF := Lib.hid hof
        clear hyd hc4 hof kw kw2 k2 HY2 HBY HYW HP HE0
        go_wp2_with fail
        refine HOF.out.mono ?_
        rintro e w4 ⟨gd, rfl, hd4, B34⟩
        have hgd := hd4.there
        have B04 : Below w.heap.size w w4 := bel_trans B02 B34
        have hgb : w.heap.size ≤ gd := by omega
        rw [HL.out] at hd4
        have HD4 := Lib.hid hd4
        clear hd4 B34 HOF
        go_wp2_with fail
        go_loopw [7] (fun v7 wr => ∃ (k p : Nat), k ≤ n ∧ v7 = .int .i64 k ∧ Below w.heap.size w wr ∧ DecAt wr w2.heap.size gd ⟨(its.drop k).flatMap Itm.enc, p, 0⟩) (fun v7 _ => n - (intOf v7).toNat)
        case atStart => exact ⟨0, 0, by omega, rfl, B04, by simpa using HD4.out⟩
        case round =>
          obtain ⟨k2, p, hk2, rfl, Bd, hD⟩ := hrel
          have HD := Lib.hid hD; clear hD
          by_cases hlt2 : k2 < n
          · obtain ⟨it, hit⟩ := H.out.get hlt2
            obtain ⟨b, off, A1, n1, c1, rfl, hb, ct, cz, cl, hc0, hy, hzb⟩ := (H.out.carry Bd).at_ k2 it hit
            have hfr := encs_rest hit
            rw [hfr] at HD
            have hl1 : it.l.length ≤ 1000000 := by have := HSM.out _ _ hit; omega
            have HY := Lib.hid hy
            cases htt : it.t with
            | true =>
              rw [htt] at ct
              have henc : it.enc = ren it.l := by unfold Itm.enc; rw [if_pos htt]
              rw [henc] at HD
              have hrv := rawVal_ren hl1 ((its.drop (k2 + 1)).flatMap Itm.enc)
              have hrs := rawSt_ren hl1 ((its.drop (k2 + 1)).flatMap Itm.enc) p
              have HV := Lib.hid hrv
              have HS := Lib.hid hrs
              have kl := conv_str HY.out.drew c1
              have CT := Lib.hid ct
              have CL := Lib.hid cl
              have ctd : wr.drew.cell? ⟨b, off + k2 * 3, none⟩ = some (.bool true) := ct
              have cld : wr.drew.cell? ⟨b, off + k2 * 3 + 2, none⟩ = some (.slice A1 n1 c1) := cl
              clear hit hfr hl1 hrv hrs hc0 hy henc htt
              go_wp2_with fail
              refine wp_region_held_drew (S := (fun w' => w'.cell? ⟨b, off + k2 * 3, none⟩ = some (.bool true) ∧ w'.cell? ⟨b, off + k2 * 3 + 2, none⟩ = some (.slice A1 n1 c1) ∧ (convert 25 9 (.slice A1 n1 c1)).run Try.prog w' = .ok (.string (strOf it.l)) w')) (by kernel_rfl) (⟨ctd, cld, kl⟩) (fun hHeld => ?_)
              refine wpAnyH_take (i := 0) (v := ?_) rfl (by kernel_rfl) (by kernel_rfl) (by kernel_rfl) (fun _ _ _ h => h) (Or.inl ⟨by rfl, ?_⟩) (by assumption) ?_
              rotate_left
              · (intro w hSw; (try dsimp only at hSw); first | (go_simp; done) | (go_simp; with_reducible rfl))
              try simp only [Act.put, List.setIfInBounds_toArray, List.set_cons_zero, List.set_cons_succ, List.getElem_toArray, List.getElem_cons_zero, List.getElem_cons_succ]
              refine wpAnyH_take (i := 1) (v := ?_) rfl (by kernel_rfl) (by kernel_rfl) (by kernel_rfl) (fun _ _ _ h => h) (Or.inl ⟨by rfl, ?_⟩) (by assumption) ?_
              rotate_left
              · (intro w hSw; (try dsimp only at hSw); first | (go_simp; done) | (go_simp; with_reducible rfl))
              try simp only [Act.put, List.setIfInBounds_toArray, List.set_cons_zero, List.set_cons_succ, List.getElem_toArray, List.getElem_cons_zero, List.getElem_cons_succ]
              refine wpAnyH_take (i := 2) (v := ?_) rfl (by kernel_rfl) (by kernel_rfl) (by kernel_rfl) (fun _ _ _ h => h) (Or.inl ⟨by rfl, ?_⟩) (by assumption) ?_
              rotate_left
              · (intro w hSw; (try dsimp only at hSw); first | (go_simp; done) | (go_simp; with_reducible rfl))
              try simp only [Act.put, List.setIfInBounds_toArray, List.set_cons_zero, List.set_cons_succ, List.getElem_toArray, List.getElem_cons_zero, List.getElem_cons_succ]
              refine wpAnyH_take (i := 3) (v := ?_) rfl (by kernel_rfl) (by kernel_rfl) (by kernel_rfl) (fun _ _ _ h => h) (Or.inl ⟨by rfl, ?_⟩) (by assumption) ?_
              rotate_left
              · (intro w hSw; (try dsimp only at hSw); first | (go_simp; done) | (go_simp; with_reducible rfl))
              try simp only [Act.put, List.setIfInBounds_toArray, List.set_cons_zero, List.set_cons_succ, List.getElem_toArray, List.getElem_cons_zero, List.getElem_cons_succ]
              refine wpAnyH_take (i := 4) (v := ?_) rfl (by kernel_rfl) (by kernel_rfl) (by kernel_rfl) (fun _ _ _ h => h) (Or.inl ⟨by rfl, ?_⟩) (by assumption) ?_
              rotate_left
              · (intro w hSw; (try dsimp only at hSw); first | (go_simp; done) | (go_simp; with_reducible rfl))
              try simp only [Act.put, List.setIfInBounds_toArray, List.set_cons_zero, List.set_cons_succ, List.getElem_toArray, List.getElem_cons_zero, List.getElem_cons_succ]
              refine wpAnyH_take (i := 5) (v := ?_) rfl (by kernel_rfl) (by kernel_rfl) (by kernel_rfl) (fun _ _ _ h => h) (Or.inl ⟨by rfl, ?_⟩) (by assumption) ?_
              rotate_left
              · (intro w hSw; (try dsimp only at hSw); first | (go_simp; done) | (go_simp; with_reducible rfl))
              try simp only [Act.put, List.setIfInBounds_toArray, List.set_cons_zero, List.set_cons_succ, List.getElem_toArray, List.getElem_cons_zero, List.getElem_cons_succ]
              refine wpAnyH_take (i := 6) (v := ?_) rfl (by kernel_rfl) (by kernel_rfl) (by kernel_rfl) (fun _ _ _ h => h) (Or.inl ⟨by rfl, ?_⟩) (by assumption) ?_
              rotate_left
              · (intro w hSw; (try dsimp only at hSw); first | (go_simp; done) | (go_simp; with_reducible rfl))
              try simp only [Act.put, List.setIfInBounds_toArray, List.set_cons_zero, List.set_cons_succ, List.getElem_toArray, List.getElem_cons_zero, List.getElem_cons_succ]
              refine wpAnyH_take (i := 9) (v := ?_) rfl (by kernel_rfl) (by kernel_rfl) (by kernel_rfl) (fun _ _ _ h => h) (Or.inl ⟨by rfl, ?_⟩) (by assumption) ?_
              rotate_left
              · (intro w hSw; (try dsimp only at hSw); first | (go_simp; done) | (go_simp; with_reducible rfl))
              try simp only [Act.put, List.setIfInBounds_toArray, List.set_cons_zero, List.set_cons_succ, List.getElem_toArray, List.getElem_cons_zero, List.getElem_cons_succ]
              refine wpAnyH_take (i := 10) (v := ?_) rfl (by kernel_rfl) (by kernel_rfl) (by kernel_rfl) (fun _ _ _ h => h) (Or.inl ⟨by rfl, ?_⟩) (by assumption) ?_
              rotate_left
              · (intro w hSw; (try dsimp only at hSw); first | (go_simp; done) | (go_simp; with_reducible rfl))
              try simp only [Act.put, List.setIfInBounds_toArray, List.set_cons_zero, List.set_cons_succ, List.getElem_toArray, List.getElem_cons_zero, List.getElem_cons_succ]
              refine wpAnyH_take (i := 11) (v := ?_) rfl (by kernel_rfl) (by kernel_rfl) (by kernel_rfl) (fun _ _ _ h => h) (Or.inl ⟨by rfl, ?_⟩) (by assumption) ?_
              rotate_left
              · (intro w hSw; (try dsimp only at hSw); first | (go_simp; done) | (go_simp; with_reducible rfl))
              try simp only [Act.put, List.setIfInBounds_toArray, List.set_cons_zero, List.set_cons_succ, List.getElem_toArray, List.getElem_cons_zero, List.getElem_cons_succ]
              refine wpAnyH_take (i := 12) (v := ?_) rfl (by kernel_rfl) (by kernel_rfl) (by kernel_rfl) (fun _ _ _ h => h) (Or.inl ⟨by rfl, ?_⟩) (by assumption) ?_
              rotate_left
              · (intro w hSw; (try dsimp only at hSw); first | (go_simp; done) | (go_simp; with_reducible rfl))
              try simp only [Act.put, List.setIfInBounds_toArray, List.set_cons_zero, List.set_cons_succ, List.getElem_toArray, List.getElem_cons_zero, List.getElem_cons_succ]
              refine wpAnyH_take (i := 13) (v := ?_) rfl (by kernel_rfl) (by kernel_rfl) (by kernel_rfl) (fun _ _ _ h => h) (Or.inl ⟨by rfl, ?_⟩) (by assumption) ?_
              rotate_left
              · (intro w hSw; (try dsimp only at hSw); first | (go_simp; done) | (go_simp; with_reducible rfl))
              try simp only [Act.put, List.setIfInBounds_toArray, List.set_cons_zero, List.set_cons_succ, List.getElem_toArray, List.getElem_cons_zero, List.getElem_cons_succ]
              refine wpAnyH_take (i := 14) (v := ?_) rfl (by kernel_rfl) (by kernel_rfl) (by kernel_rfl) (fun _ _ _ h => h) (Or.inl ⟨by rfl, ?_⟩) (by assumption) ?_
              rotate_left
              · (intro w hSw; (try dsimp only at hSw); first | (go_simp; done) | (go_simp; with_reducible rfl))
              try simp only [Act.put, List.setIfInBounds_toArray, List.set_cons_zero, List.set_cons_succ, List.getElem_toArray, List.getElem_cons_zero, List.getElem_cons_succ]
              refine wpAnyH_ready (rs := [7]) (by kernel_rfl) (by simp) ?_
              refine AllReadyH.cons rfl (fun K hK => ?_) AllReadyH.nil
              go_simp
              refine (decRaw_any gd _ _ wr.drew HD.out.drew).mono ?_; rintro e w5 ⟨A5, n5, c5, rfl, hy5, hd5, hc5⟩; rw [HV.out] at hy5; rw [HS.out] at hd5; have B5 : Below w.heap.size w w5 := bel_dec' Bd.drew hc5 hgb; have Bs : Below w.heap.size wr w5 := Chg.toBelow (Below.refl _ _).drew hc5 Bd.size (fun i hi e => by omega); have k5 := conv_str hy5 c5; have q5 := conv_str (HY.out.carry Bs) c1; have t5 := (Bs.cell (p := ⟨b, off + k2 * 3, none⟩) hb).trans CT.out; have j5 := (Bs.cell (p := ⟨b, off + k2 * 3 + 2, none⟩) hb).trans CL.out; have HD5 := Lib.hid hd5; clear hy5 hd5 hc5 Bs; dsimp only
              refine hK.out _ _ (⟨t5, j5, q5⟩) (fun hHeld => ?_)
              clear hK K
              try simp only [Act.put, List.setIfInBounds_toArray, List.set_cons_zero, List.set_cons_succ, List.getElem_toArray, List.getElem_cons_zero, List.getElem_cons_succ]
              refine wpAnyH_ready (rs := [8]) (by kernel_rfl) (by simp) ?_
              refine AllReadyH.cons rfl (fun K hK => ?_) AllReadyH.nil
              go_simp
              refine hK.out _ _ (⟨t5, j5, q5⟩) (fun hHeld => ?_)
              clear hK K
              try simp only [Act.put, List.setIfInBounds_toArray, List.set_cons_zero, List.set_cons_succ, List.getElem_toArray, List.getElem_cons_zero, List.getElem_cons_succ]
              refine wpAnyH_take (i := 15) (v := ?_) rfl (by kernel_rfl) (by kernel_rfl) (by kernel_rfl) (fun _ _ _ h => h) (Or.inl ⟨by rfl, ?_⟩) (by assumption) ?_
              rotate_left
              · (intro w hSw; (try dsimp only at hSw); first | (go_simp; done) | (go_simp; with_reducible rfl))
              try simp only [Act.put, List.setIfInBounds_toArray, List.set_cons_zero, List.set_cons_succ, List.getElem_toArray, List.getElem_cons_zero, List.getElem_cons_succ]
              refine wpAnyH_take (i := 16) (v := ?_) rfl (by kernel_rfl) (by kernel_rfl) (by kernel_rfl) (fun _ _ _ h => h) (Or.inl ⟨by rfl, ?_⟩) (by assumption) ?_
              rotate_left
              · (intro w hSw; (try dsimp only at hSw); first | (go_simp; done) | (go_simp; with_reducible rfl))
              try simp only [Act.put, List.setIfInBounds_toArray, List.set_cons_zero, List.set_cons_succ, List.getElem_toArray, List.getElem_cons_zero, List.getElem_cons_succ]
              refine wpAnyH_take (i := 17) (v := ?_) rfl (by kernel_rfl) (by kernel_rfl) (by kernel_rfl) (fun _ _ _ h => h) (Or.inl ⟨by rfl, ?_⟩) (by assumption) ?_
              rotate_left
              · (intro w hSw; (try dsimp only at hSw); first | (go_simp; done) | (go_simp; with_reducible rfl))
              try simp only [Act.put, List.setIfInBounds_toArray, List.set_cons_zero, List.set_cons_succ, List.getElem_toArray, List.getElem_cons_zero, List.getElem_cons_succ]
              refine wpAnyH_take (i := 18) (v := ?_) rfl (by kernel_rfl) (by kernel_rfl) (by kernel_rfl) (fun _ _ _ h => h) (Or.inl ⟨by rfl, ?_⟩) (by assumption) ?_
              rotate_left
              · (intro w hSw; (try dsimp only at hSw); first | (go_simp; done) | (go_simp; with_reducible rfl))
              try simp only [Act.put, List.setIfInBounds_toArray, List.set_cons_zero, List.set_cons_succ, List.getElem_toArray, List.getElem_cons_zero, List.getElem_cons_succ]
              refine wpAnyH_take (i := 19) (v := ?_) rfl (by kernel_rfl) (by kernel_rfl) (by kernel_rfl) (fun _ _ _ h => h) (Or.inl ⟨by rfl, ?_⟩) (by assumption) ?_
              rotate_left
              · (intro w hSw; (try dsimp only at hSw); first | (go_simp; done) | (go_simp; with_reducible rfl))
              try simp only [Act.put, List.setIfInBounds_toArray, List.set_cons_zero, List.set_cons_succ, List.getElem_toArray, List.getElem_cons_zero, List.getElem_cons_succ]
              refine wpAnyH_take (i := 20) (v := ?_) rfl (by kernel_rfl) (by kernel_rfl) (by kernel_rfl) (fun _ _ _ h => h) (Or.inl ⟨by rfl, ?_⟩) (by assumption) ?_
              rotate_left
              · (intro w hSw; (try dsimp only at hSw); first | (go_simp; done) | (go_simp; with_reducible rfl))
              try simp only [Act.put, List.setIfInBounds_toArray, List.set_cons_zero, List.set_cons_succ, List.getElem_toArray, List.getElem_cons_zero, List.getElem_cons_succ]
              refine wpAnyH_take (i := 21) (v := ?_) rfl (by kernel_rfl) (by kernel_rfl) (by kernel_rfl) (fun _ _ _ h => h) (Or.inl ⟨by rfl, ?_⟩) (by assumption) ?_
              rotate_left
              · (intro w hSw; (try dsimp only at hSw); first | (go_simp; done) | (go_simp; with_reducible rfl))
              try simp only [Act.put, List.setIfInBounds_toArray, List.set_cons_zero, List.set_cons_succ, List.getElem_toArray, List.getElem_cons_zero, List.getElem_cons_succ]
              refine wpAnyH_take (i := 22) (v := ?_) rfl (by kernel_rfl) (by kernel_rfl) (by kernel_rfl) (fun _ _ _ h => h) (Or.inl ⟨by rfl, ?_⟩) (by assumption) ?_
              rotate_left
              · (intro w hSw; (try dsimp only at hSw); first | (go_simp; done) | (go_simp; with_reducible rfl))
              try simp only [Act.put, List.setIfInBounds_toArray, List.set_cons_zero, List.set_cons_succ, List.getElem_toArray, List.getElem_cons_zero, List.getElem_cons_succ]
              refine wpAnyH_take (i := 23) (v := ?_) rfl (by kernel_rfl) (by kernel_rfl) (by kernel_rfl) (fun _ _ _ h => h) (Or.inl ⟨by rfl, ?_⟩) (by assumption) ?_
              rotate_left
              · (intro w hSw; (try dsimp only at hSw); first | (go_simp; done) | (go_simp; with_reducible rfl))
              try simp only [Act.put, List.setIfInBounds_toArray, List.set_cons_zero, List.set_cons_succ, List.getElem_toArray, List.getElem_cons_zero, List.getElem_cons_succ]
              refine wpAnyH_take (i := 24) (v := ?_) rfl (by kernel_rfl) (by kernel_rfl) (by kernel_rfl) (fun _ _ _ h => h) (Or.inl ⟨by rfl, ?_⟩) (by assumption) ?_
              rotate_left
              · (intro w hSw; (try dsimp only at hSw); first | (go_simp; done) | (go_simp; with_reducible rfl))
              try simp only [Act.put, List.setIfInBounds_toArray, List.set_cons_zero, List.set_cons_succ, List.getElem_toArray, List.getElem_cons_zero, List.getElem_cons_succ]
              refine wpAnyH_take (i := 25) (v := undef) rfl (by kernel_rfl) (by kernel_rfl) (by kernel_rfl) (fun _ _ _ h => h) (Or.inr ⟨by rfl, rfl⟩) (by assumption) ?_
              try simp only [Act.put, List.setIfInBounds_toArray, List.set_cons_zero, List.set_cons_succ, List.getElem_toArray, List.getElem_cons_zero, List.getElem_cons_succ]
              refine wpAnyH_take (i := 26) (v := undef) rfl (by kernel_rfl) (by kernel_rfl) (by kernel_rfl) (fun _ _ _ h => h) (Or.inr ⟨by rfl, rfl⟩) (by assumption) ?_
              try simp only [Act.put, List.setIfInBounds_toArray, List.set_cons_zero, List.set_cons_succ, List.getElem_toArray, List.getElem_cons_zero, List.getElem_cons_succ]
              refine wpAnyH_take (i := 27) (v := undef) rfl (by kernel_rfl) (by kernel_rfl) (by kernel_rfl) (fun _ _ _ h => h) (Or.inr ⟨by rfl, rfl⟩) (by assumption) ?_
              try simp only [Act.put, List.setIfInBounds_toArray, List.set_cons_zero, List.set_cons_succ, List.getElem_toArray, List.getElem_cons_zero, List.getElem_cons_succ]
              refine wpAnyH_take (i := 28) (v := undef) rfl (by kernel_rfl) (by kernel_rfl) (by kernel_rfl) (fun _ _ _ h => h) (Or.inr ⟨by rfl, rfl⟩) (by assumption) ?_
              try simp only [Act.put, List.setIfInBounds_toArray, List.set_cons_zero, List.set_cons_succ, List.getElem_toArray, List.getElem_cons_zero, List.getElem_cons_succ]
              refine wpAnyH_take (i := 29) (v := undef) rfl (by kernel_rfl) (by kernel_rfl) (by kernel_rfl) (fun _ _ _ h => h) (Or.inr ⟨by rfl, rfl⟩) (by assumption) ?_
              try simp only [Act.put, List.setIfInBounds_toArray, List.set_cons_zero, List.set_cons_succ, List.getElem_toArray, List.getElem_cons_zero, List.getElem_cons_succ]
              refine wpAnyH_take (i := 30) (v := undef) rfl (by kernel_rfl) (by kernel_rfl) (by kernel_rfl) (fun _ _ _ h => h) (Or.inr ⟨by rfl, rfl⟩) (by assumption) ?_
              try simp only [Act.put, List.setIfInBounds_toArray, List.set_cons_zero, List.set_cons_succ, List.getElem_toArray, List.getElem_cons_zero, List.getElem_cons_succ]
              refine wpAnyH_take (i := 31) (v := undef) rfl (by kernel_rfl) (by kernel_rfl) (by kernel_rfl) (fun _ _ _ h => h) (Or.inr ⟨by rfl, rfl⟩) (by assumption) ?_
              try simp only [Act.put, List.setIfInBounds_toArray, List.set_cons_zero, List.set_cons_succ, List.getElem_toArray, List.getElem_cons_zero, List.getElem_cons_succ]
              refine wpAnyH_take (i := 32) (v := undef) rfl (by kernel_rfl) (by kernel_rfl) (by kernel_rfl) (fun _ _ _ h => h) (Or.inr ⟨by rfl, rfl⟩) (by assumption) ?_
              try simp only [Act.put, List.setIfInBounds_toArray, List.set_cons_zero, List.set_cons_succ, List.getElem_toArray, List.getElem_cons_zero, List.getElem_cons_succ]
              refine wpAnyH_take (i := 33) (v := ?_) rfl (by kernel_rfl) (by kernel_rfl) (by kernel_rfl) (fun _ _ _ h => h) (Or.inl ⟨by rfl, ?_⟩) (by assumption) ?_
              rotate_left
              · (intro w hSw; (try dsimp only at hSw); first | (go_simp; done) | (go_simp; with_reducible rfl))
              try simp only [Act.put, List.setIfInBounds_toArray, List.set_cons_zero, List.set_cons_succ, List.getElem_toArray, List.getElem_cons_zero, List.getElem_cons_succ]
              refine wpAnyH_take (i := 34) (v := ?_) rfl (by kernel_rfl) (by kernel_rfl) (by kernel_rfl) (fun _ _ _ h => h) (Or.inl ⟨by rfl, ?_⟩) (by assumption) ?_
              rotate_left
              · (intro w hSw; (try dsimp only at hSw); first | (go_simp; done) | (go_simp; with_reducible rfl))
              try simp only [Act.put, List.setIfInBounds_toArray, List.set_cons_zero, List.set_cons_succ, List.getElem_toArray, List.getElem_cons_zero, List.getElem_cons_succ]
              refine wpAnyH_done (by kernel_rfl) ?_ _
              all_goals
                go_wp2_with fail
                go_roundw
                case rel => exact ⟨k2 + 1, _, by omega, by go_num, B5, HD5.out⟩
                case measure => simp [intOf]; omega
            | false =>
              rw [htt] at ct
              have henc : it.enc = ien it.z := by unfold Itm.enc; rw [if_neg (by rw [htt]; decide)]
              rw [henc] at HD
              have hrv := intVal_ien hzb ((its.drop (k2 + 1)).flatMap Itm.enc)
              have hrs := intSt_ien hzb ((its.drop (k2 + 1)).flatMap Itm.enc) p
              have HV := Lib.hid hrv
              have HS := Lib.hid hrs
              have CT := Lib.hid ct
              have CZ := Lib.hid cz
              have ctd : wr.drew.cell? ⟨b, off + k2 * 3, none⟩ = some (.bool false) := ct
              have czd : wr.drew.cell? ⟨b, off + k2 * 3 + 1, none⟩ = some (.int .i64 it.z) := cz
              clear hit hfr hl1 hrv hrs hc0 hy henc htt
              go_wp2_with fail
              refine wp_region_held_drew (S := (fun w' => w'.cell? ⟨b, off + k2 * 3, none⟩ = some (.bool false) ∧ w'.cell? ⟨b, off + k2 * 3 + 1, none⟩ = some (.int .i64 it.z))) (by kernel_rfl) (⟨ctd, czd⟩) (fun hHeld => ?_)
              refine wpAnyH_take (i := 0) (v := ?_) rfl (by kernel_rfl) (by kernel_rfl) (by kernel_rfl) (fun _ _ _ h => h) (Or.inl ⟨by rfl, ?_⟩) (by assumption) ?_
              rotate_left
              · (intro w hSw; (try dsimp only at hSw); first | (go_simp; done) | (go_simp; with_reducible rfl))
              try simp only [Act.put, List.setIfInBounds_toArray, List.set_cons_zero, List.set_cons_succ, List.getElem_toArray, List.getElem_cons_zero, List.getElem_cons_succ]
              refine wpAnyH_take (i := 1) (v := ?_) rfl (by kernel_rfl) (by kernel_rfl) (by kernel_rfl) (fun _ _ _ h => h) (Or.inl ⟨by rfl, ?_⟩) (by assumption) ?_
              rotate_left
              · (intro w hSw; (try dsimp only at hSw); first | (go_simp; done) | (go_simp; with_reducible rfl))
              try simp only [Act.put, List.setIfInBounds_toArray, List.set_cons_zero, List.set_cons_succ, List.getElem_toArray, List.getElem_cons_zero, List.getElem_cons_succ]
              refine wpAnyH_take (i := 2) (v := ?_) rfl (by kernel_rfl) (by kernel_rfl) (by kernel_rfl) (fun _ _ _ h => h) (Or.inl ⟨by rfl, ?_⟩) (by assumption) ?_
              rotate_left
              · (intro w hSw; (try dsimp only at hSw); first | (go_simp; done) | (go_simp; with_reducible rfl))
              try simp only [Act.put, List.setIfInBounds_toArray, List.set_cons_zero, List.set_cons_succ, List.getElem_toArray, List.getElem_cons_zero, List.getElem_cons_succ]
              refine wpAnyH_take (i := 3) (v := ?_) rfl (by kernel_rfl) (by kernel_rfl) (by kernel_rfl) (fun _ _ _ h => h) (Or.inl ⟨by rfl, ?_⟩) (by assumption) ?_
              rotate_left
              · (intro w hSw; (try dsimp only at hSw); first | (go_simp; done) | (go_simp; with_reducible rfl))
              try simp only [Act.put, List.setIfInBounds_toArray, List.set_cons_zero, List.set_cons_succ, List.getElem_toArray, List.getElem_cons_zero, List.getElem_cons_succ]
              refine wpAnyH_take (i := 4) (v := ?_) rfl (by kernel_rfl) (by kernel_rfl) (by kernel_rfl) (fun _ _ _ h => h) (Or.inl ⟨by rfl, ?_⟩) (by assumption) ?_
              rotate_left
              · (intro w hSw; (try dsimp only at hSw); first | (go_simp; done) | (go_simp; with_reducible rfl))
              try simp only [Act.put, List.setIfInBounds_toArray, List.set_cons_zero, List.set_cons_succ, List.getElem_toArray, List.getElem_cons_zero, List.getElem_cons_succ]
              refine wpAnyH_take (i := 5) (v := ?_) rfl (by kernel_rfl) (by kernel_rfl) (by kernel_rfl) (fun _ _ _ h => h) (Or.inl ⟨by rfl, ?_⟩) (by assumption) ?_
              rotate_left
              · (intro w hSw; (try dsimp only at hSw); first | (go_simp; done) | (go_simp; with_reducible rfl))
              try simp only [Act.put, List.setIfInBounds_toArray, List.set_cons_zero, List.set_cons_succ, List.getElem_toArray, List.getElem_cons_zero, List.getElem_cons_succ]
              refine wpAnyH_take (i := 6) (v := undef) rfl (by kernel_rfl) (by kernel_rfl) (by kernel_rfl) (fun _ _ _ h => h) (Or.inr ⟨by rfl, rfl⟩) (by assumption) ?_
              try simp only [Act.put, List.setIfInBounds_toArray, List.set_cons_zero, List.set_cons_succ, List.getElem_toArray, List.getElem_cons_zero, List.getElem_cons_succ]
              refine wpAnyH_take (i := 7) (v := undef) rfl (by kernel_rfl) (by kernel_rfl) (by kernel_rfl) (fun _ _ _ h => h) (Or.inr ⟨by rfl, rfl⟩) (by assumption) ?_
              try simp only [Act.put, List.setIfInBounds_toArray, List.set_cons_zero, List.set_cons_succ, List.getElem_toArray, List.getElem_cons_zero, List.getElem_cons_succ]
              refine wpAnyH_take (i := 8) (v := undef) rfl (by kernel_rfl) (by kernel_rfl) (by kernel_rfl) (fun _ _ _ h => h) (Or.inr ⟨by rfl, rfl⟩) (by assumption) ?_
              try simp only [Act.put, List.setIfInBounds_toArray, List.set_cons_zero, List.set_cons_succ, List.getElem_toArray, List.getElem_cons_zero, List.getElem_cons_succ]
              refine wpAnyH_take (i := 9) (v := undef) rfl (by kernel_rfl) (by kernel_rfl) (by kernel_rfl) (fun _ _ _ h => h) (Or.inr ⟨by rfl, rfl⟩) (by assumption) ?_
              try simp only [Act.put, List.setIfInBounds_toArray, List.set_cons_zero, List.set_cons_succ, List.getElem_toArray, List.getElem_cons_zero, List.getElem_cons_succ]
              refine wpAnyH_take (i := 10) (v := undef) rfl (by kernel_rfl) (by kernel_rfl) (by kernel_rfl) (fun _ _ _ h => h) (Or.inr ⟨by rfl, rfl⟩) (by assumption) ?_
              try simp only [Act.put, List.setIfInBounds_toArray, List.set_cons_zero, List.set_cons_succ, List.getElem_toArray, List.getElem_cons_zero, List.getElem_cons_succ]
              refine wpAnyH_take (i := 11) (v := undef) rfl (by kernel_rfl) (by kernel_rfl) (by kernel_rfl) (fun _ _ _ h => h) (Or.inr ⟨by rfl, rfl⟩) (by assumption) ?_
              try simp only [Act.put, List.setIfInBounds_toArray, List.set_cons_zero, List.set_cons_succ, List.getElem_toArray, List.getElem_cons_zero, List.getElem_cons_succ]
              refine wpAnyH_take (i := 12) (v := undef) rfl (by kernel_rfl) (by kernel_rfl) (by kernel_rfl) (fun _ _ _ h => h) (Or.inr ⟨by rfl, rfl⟩) (by assumption) ?_
              try simp only [Act.put, List.setIfInBounds_toArray, List.set_cons_zero, List.set_cons_succ, List.getElem_toArray, List.getElem_cons_zero, List.getElem_cons_succ]
              refine wpAnyH_take (i := 13) (v := undef) rfl (by kernel_rfl) (by kernel_rfl) (by kernel_rfl) (fun _ _ _ h => h) (Or.inr ⟨by rfl, rfl⟩) (by assumption) ?_
              try simp only [Act.put, List.setIfInBounds_toArray, List.set_cons_zero, List.set_cons_succ, List.getElem_toArray, List.getElem_cons_zero, List.getElem_cons_succ]
              refine wpAnyH_take (i := 14) (v := undef) rfl (by kernel_rfl) (by kernel_rfl) (by kernel_rfl) (fun _ _ _ h => h) (Or.inr ⟨by rfl, rfl⟩) (by assumption) ?_
              try simp only [Act.put, List.setIfInBounds_toArray, List.set_cons_zero, List.set_cons_succ, List.getElem_toArray, List.getElem_cons_zero, List.getElem_cons_succ]
              refine wpAnyH_take (i := 15) (v := undef) rfl (by kernel_rfl) (by kernel_rfl) (by kernel_rfl) (fun _ _ _ h => h) (Or.inr ⟨by rfl, rfl⟩) (by assumption) ?_
              try simp only [Act.put, List.setIfInBounds_toArray, List.set_cons_zero, List.set_cons_succ, List.getElem_toArray, List.getElem_cons_zero, List.getElem_cons_succ]
              refine wpAnyH_take (i := 16) (v := ?_) rfl (by kernel_rfl) (by kernel_rfl) (by kernel_rfl) (fun _ _ _ h => h) (Or.inl ⟨by rfl, ?_⟩) (by assumption) ?_
              rotate_left
              · (intro w hSw; (try dsimp only at hSw); first | (go_simp; done) | (go_simp; with_reducible rfl))
              try simp only [Act.put, List.setIfInBounds_toArray, List.set_cons_zero, List.set_cons_succ, List.getElem_toArray, List.getElem_cons_zero, List.getElem_cons_succ]
              refine wpAnyH_take (i := 17) (v := ?_) rfl (by kernel_rfl) (by kernel_rfl) (by kernel_rfl) (fun _ _ _ h => h) (Or.inl ⟨by rfl, ?_⟩) (by assumption) ?_
              rotate_left
              · (intro w hSw; (try dsimp only at hSw); first | (go_simp; done) | (go_simp; with_reducible rfl))
              try simp only [Act.put, List.setIfInBounds_toArray, List.set_cons_zero, List.set_cons_succ, List.getElem_toArray, List.getElem_cons_zero, List.getElem_cons_succ]
              refine wpAnyH_take (i := 18) (v := ?_) rfl (by kernel_rfl) (by kernel_rfl) (by kernel_rfl) (fun _ _ _ h => h) (Or.inl ⟨by rfl, ?_⟩) (by assumption) ?_
              rotate_left
              · (intro w hSw; (try dsimp only at hSw); first | (go_simp; done) | (go_simp; with_reducible rfl))
              try simp only [Act.put, List.setIfInBounds_toArray, List.set_cons_zero, List.set_cons_succ, List.getElem_toArray, List.getElem_cons_zero, List.getElem_cons_succ]
              refine wpAnyH_take (i := 19) (v := ?_) rfl (by kernel_rfl) (by kernel_rfl) (by kernel_rfl) (fun _ _ _ h => h) (Or.inl ⟨by rfl, ?_⟩) (by assumption) ?_
              rotate_left
              · (intro w hSw; (try dsimp only at hSw); first | (go_simp; done) | (go_simp; with_reducible rfl))
              try simp only [Act.put, List.setIfInBounds_toArray, List.set_cons_zero, List.set_cons_succ, List.getElem_toArray, List.getElem_cons_zero, List.getElem_cons_succ]
              refine wpAnyH_take (i := 20) (v := ?_) rfl (by kernel_rfl) (by kernel_rfl) (by kernel_rfl) (fun _ _ _ h => h) (Or.inl ⟨by rfl, ?_⟩) (by assumption) ?_
              rotate_left
              · (intro w hSw; (try dsimp only at hSw); first | (go_simp; done) | (go_simp; with_reducible rfl))
              try simp only [Act.put, List.setIfInBounds_toArray, List.set_cons_zero, List.set_cons_succ, List.getElem_toArray, List.getElem_cons_zero, List.getElem_cons_succ]
              refine wpAnyH_take (i := 21) (v := ?_) rfl (by kernel_rfl) (by kernel_rfl) (by kernel_rfl) (fun _ _ _ h => h) (Or.inl ⟨by rfl, ?_⟩) (by assumption) ?_
              rotate_left
              · (intro w hSw; (try dsimp only at hSw); first | (go_simp; done) | (go_simp; with_reducible rfl))
              try simp only [Act.put, List.setIfInBounds_toArray, List.set_cons_zero, List.set_cons_succ, List.getElem_toArray, List.getElem_cons_zero, List.getElem_cons_succ]
              refine wpAnyH_take (i := 22) (v := ?_) rfl (by kernel_rfl) (by kernel_rfl) (by kernel_rfl) (fun _ _ _ h => h) (Or.inl ⟨by rfl, ?_⟩) (by assumption) ?_
              rotate_left
              · (intro w hSw; (try dsimp only at hSw); first | (go_simp; done) | (go_simp; with_reducible rfl))
              try simp only [Act.put, List.setIfInBounds_toArray, List.set_cons_zero, List.set_cons_succ, List.getElem_toArray, List.getElem_cons_zero, List.getElem_cons_succ]
              refine wpAnyH_take (i := 23) (v := ?_) rfl (by kernel_rfl) (by kernel_rfl) (by kernel_rfl) (fun _ _ _ h => h) (Or.inl ⟨by rfl, ?_⟩) (by assumption) ?_
              rotate_left
              · (intro w hSw; (try dsimp only at hSw); first | (go_simp; done) | (go_simp; with_reducible rfl))
              try simp only [Act.put, List.setIfInBounds_toArray, List.set_cons_zero, List.set_cons_succ, List.getElem_toArray, List.getElem_cons_zero, List.getElem_cons_succ]
              refine wpAnyH_take (i := 24) (v := ?_) rfl (by kernel_rfl) (by kernel_rfl) (by kernel_rfl) (fun _ _ _ h => h) (Or.inl ⟨by rfl, ?_⟩) (by assumption) ?_
              rotate_left
              · (intro w hSw; (try dsimp only at hSw); first | (go_simp; done) | (go_simp; with_reducible rfl))
              try simp only [Act.put, List.setIfInBounds_toArray, List.set_cons_zero, List.set_cons_succ, List.getElem_toArray, List.getElem_cons_zero, List.getElem_cons_succ]
              refine wpAnyH_take (i := 25) (v := ?_) rfl (by kernel_rfl) (by kernel_rfl) (by kernel_rfl) (fun _ _ _ h => h) (Or.inl ⟨by rfl, ?_⟩) (by assumption) ?_
              rotate_left
              · (intro w hSw; (try dsimp only at hSw); first | (go_simp; done) | (go_simp; with_reducible rfl))
              try simp only [Act.put, List.setIfInBounds_toArray, List.set_cons_zero, List.set_cons_succ, List.getElem_toArray, List.getElem_cons_zero, List.getElem_cons_succ]
              refine wpAnyH_take (i := 27) (v := ?_) rfl (by kernel_rfl) (by kernel_rfl) (by kernel_rfl) (fun _ _ _ h => h) (Or.inl ⟨by rfl, ?_⟩) (by assumption) ?_
              rotate_left
              · (intro w hSw; (try dsimp only at hSw); first | (go_simp; done) | (go_simp; with_reducible rfl))
              try simp only [Act.put, List.setIfInBounds_toArray, List.set_cons_zero, List.set_cons_succ, List.getElem_toArray, List.getElem_cons_zero, List.getElem_cons_succ]
              refine wpAnyH_take (i := 28) (v := ?_) rfl (by kernel_rfl) (by kernel_rfl) (by kernel_rfl) (fun _ _ _ h => h) (Or.inl ⟨by rfl, ?_⟩) (by assumption) ?_
              rotate_left
              · (intro w hSw; (try dsimp only at hSw); first | (go_simp; done) | (go_simp; with_reducible rfl))
              try simp only [Act.put, List.setIfInBounds_toArray, List.set_cons_zero, List.set_cons_succ, List.getElem_toArray, List.getElem_cons_zero, List.getElem_cons_succ]
              refine wpAnyH_take (i := 29) (v := ?_) rfl (by kernel_rfl) (by kernel_rfl) (by kernel_rfl) (fun _ _ _ h => h) (Or.inl ⟨by rfl, ?_⟩) (by assumption) ?_
              rotate_left
              · (intro w hSw; (try dsimp only at hSw); first | (go_simp; done) | (go_simp; with_reducible rfl))
              try simp only [Act.put, List.setIfInBounds_toArray, List.set_cons_zero, List.set_cons_succ, List.getElem_toArray, List.getElem_cons_zero, List.getElem_cons_succ]
              refine wpAnyH_take (i := 30) (v := ?_) rfl (by kernel_rfl) (by kernel_rfl) (by kernel_rfl) (fun _ _ _ h => h) (Or.inl ⟨by rfl, ?_⟩) (by assumption) ?_
              rotate_left
              · (intro w hSw; (try dsimp only at hSw); first | (go_simp; done) | (go_simp; with_reducible rfl))
              try simp only [Act.put, List.setIfInBounds_toArray, List.set_cons_zero, List.set_cons_succ, List.getElem_toArray, List.getElem_cons_zero, List.getElem_cons_succ]
              refine wpAnyH_take (i := 31) (v := ?_) rfl (by kernel_rfl) (by kernel_rfl) (by kernel_rfl) (fun _ _ _ h => h) (Or.inl ⟨by rfl, ?_⟩) (by assumption) ?_
              rotate_left
              · (intro w hSw; (try dsimp only at hSw); first | (go_simp; done) | (go_simp; with_reducible rfl))
              try simp only [Act.put, List.setIfInBounds_toArray, List.set_cons_zero, List.set_cons_succ, List.getElem_toArray, List.getElem_cons_zero, List.getElem_cons_succ]
              refine wpAnyH_ready (rs := [26]) (by kernel_rfl) (by simp) ?_
              refine AllReadyH.cons rfl (fun K hK => ?_) AllReadyH.nil
              go_simp
              refine (decInt_any gd _ _ wr.drew HD.out.drew).mono ?_; rintro e w5 ⟨rfl, hd5, hc5⟩; rw [HV.out]; rw [HS.out] at hd5; have B5 : Below w.heap.size w w5 := bel_dec' Bd.drew hc5 hgb; have Bs : Below w.heap.size wr w5 := Chg.toBelow (Below.refl _ _).drew hc5 Bd.size (fun i hi e => by omega); have t5 := (Bs.cell (p := ⟨b, off + k2 * 3, none⟩) hb).trans CT.out; have j5 := (Bs.cell (p := ⟨b, off + k2 * 3 + 1, none⟩) hb).trans CZ.out; have HD5 := Lib.hid hd5; clear hd5 hc5 Bs; dsimp only
              refine hK.out _ _ (⟨t5, j5⟩) (fun hHeld => ?_)
              clear hK K
              try simp only [Act.put, List.setIfInBounds_toArray, List.set_cons_zero, List.set_cons_succ, List.getElem_toArray, List.getElem_cons_zero, List.getElem_cons_succ]
              refine wpAnyH_take (i := 32) (v := ?_) rfl (by kernel_rfl) (by kernel_rfl) (by kernel_rfl) (fun _ _ _ h => h) (Or.inl ⟨by rfl, ?_⟩) (by assumption) ?_
              rotate_left
              · (intro w hSw; (try dsimp only at hSw); first | (go_simp; done) | (go_simp; with_reducible rfl))
              try simp only [Act.put, List.setIfInBounds_toArray, List.set_cons_zero, List.set_cons_succ, List.getElem_toArray, List.getElem_cons_zero, List.getElem_cons_succ]
              refine wpAnyH_take (i := 33) (v := ?_) rfl (by kernel_rfl) (by kernel_rfl) (by kernel_rfl) (fun _ _ _ h => h) (Or.inl ⟨by rfl, ?_⟩) (by assumption) ?_
              rotate_left
              · (intro w hSw; (try dsimp only at hSw); first | (go_simp; done) | (go_simp; with_reducible rfl))
              try simp only [Act.put, List.setIfInBounds_toArray, List.set_cons_zero, List.set_cons_succ, List.getElem_toArray, List.getElem_cons_zero, List.getElem_cons_succ]
              refine wpAnyH_take (i := 34) (v := ?_) rfl (by kernel_rfl) (by kernel_rfl) (by kernel_rfl) (fun _ _ _ h => h) (Or.inl ⟨by rfl, ?_⟩) (by assumption) ?_
              rotate_left
              · (intro w hSw; (try dsimp only at hSw); first | (go_simp; done) | (go_simp; with_reducible rfl))
              try simp only [Act.put, List.setIfInBounds_toArray, List.set_cons_zero, List.set_cons_succ, List.getElem_toArray, List.getElem_cons_zero, List.getElem_cons_succ]
              refine wpAnyH_done (by kernel_rfl) ?_ _
              all_goals
                go_wp2_with fail
                go_roundw
                case rel => exact ⟨k2 + 1, _, by omega, by go_num, B5, HD5.out⟩
                case measure => simp [intOf]; omega
          · have hkn2 : k2 = n := by omega
            have hdr : its.drop k2 = [] := List.drop_eq_nil_of_le (by have := HLN.out; omega)
            rw [hdr, List.flatMap_nil] at HD
            clear hkn2 hdr
            go_wp2_with (first
              | (go_at_call 15; refine (decLeft_any _ _ _ wr HD.out).mono ?_; rintro e w9 ⟨rfl, rfl⟩)
              | (go_at_call 16; refine (decErr_nil _ _ _ wr HD.out rfl).mono ?_; rintro e w9 ⟨rfl, rfl⟩))
            go_ret
            exact ⟨rfl, Bd⟩

set_option maxRecDepth 100000 in
set_option maxHeartbeats 2000000 in
theorem back_many (A : Option Addr) (n c : Nat) (w : World) (hn : 60 < n) :
    Calls Try.prog 3 #[.slice A n c] w fun e w' => e = .returned (.bool true) ∧ Below w.heap.size w w' := by
  have hn60 : decide ((60 : Int) < (n : Int)) = true := by simp; omega
  go_enter Try.func3, Try.ntmps3
  go_wp2_with (go_at_call 6; refine (known_ok w).mono ?_; rintro e w1 ⟨rfl, B1⟩)
  go_ret
  exact ⟨rfl, B1⟩
end Go.Proofs.Ytdgnkpbokoomkaa

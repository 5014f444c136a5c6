/- straddlelaw4.MsgTwo returns true. -/
import Derived.Test.YtegjimagphdncaaDoorMsgCuts
import Derived.Test.YtegjimagphdncaaDoorMsgOf
import Derived.Deep.RegionHeld3
set_option linter.unusedSimpArgs false
namespace Go.Proofs.YtegjimagphdncaaDoor
open Go.RowKit Go.Mem1 Go.CodMath

theorem strOf_fold : ∀ (l : List Nat) (b : ByteArray), ((l.map (fun x : Nat => (x : Int))).foldl (fun r n => r.push (UInt8.ofNat n.toNat)) b).data.toList = b.data.toList ++ l.map UInt8.ofNat
  | [], b => by simp
  | x :: r, b => by
    rw [List.map_cons, List.foldl_cons, strOf_fold r]
    simp [ByteArray.push]
theorem strOf_data (l : List Nat) : (strOf l).data.toList = l.map UInt8.ofNat := by
  unfold strOf
  rw [strOf_fold]
  simp
theorem ofNat_inj : ∀ (la lb : List Nat), (∀ x ∈ la, x < 256) → (∀ x ∈ lb, x < 256) → la.map UInt8.ofNat = lb.map UInt8.ofNat → la = lb
  | [], [], _, _, _ => rfl
  | [], _ :: _, _, _, h => by simp at h
  | _ :: _, [], _, _, h => by simp at h
  | x :: r, y :: s, h1, h2, h => by
    simp only [List.map_cons, List.cons.injEq] at h
    have hx := h1 x (List.mem_cons_self ..)
    have hy := h2 y (List.mem_cons_self ..)
    have e : (UInt8.ofNat x).toNat = (UInt8.ofNat y).toNat := by rw [h.1]
    simp at e
    rw [Nat.mod_eq_of_lt hx, Nat.mod_eq_of_lt hy] at e
    rw [e, ofNat_inj r s (fun z hz => h1 z (List.mem_cons_of_mem _ hz)) (fun z hz => h2 z (List.mem_cons_of_mem _ hz)) h.2]
theorem strOf_beq {la lb : List Nat} (h1 : ∀ x ∈ la, x < 256) (h2 : ∀ x ∈ lb, x < 256) : ((strOf la).toList == (strOf lb).toList) = decide (la = lb) := by
  rw [ByteArray.toList_eq, ByteArray.toList_eq, strOf_data, strOf_data]
  by_cases h : la = lb
  · subst h; simp
  · rw [decide_eq_false h]
    have : la.map UInt8.ofNat ≠ lb.map UInt8.ofNat := fun e => h (ofNat_inj la lb h1 h2 e)
    exact beq_eq_false_iff_ne.2 this
theorem encOf_inj {ha hb : Hd} {ra rb : List R5} (oa : ha.ok) (ob : hb.ok) (pa : ∀ x ∈ ra, x.ok) (pb : ∀ x ∈ rb, x.ok) (na : ra.length ≤ 1000) (nb : rb.length ≤ 1000)
    (ca : MsgMath.chk ha.k ha.s (ra.length : Int) = 0) (cb : MsgMath.chk hb.k hb.s (rb.length : Int) = 0) : decide (encOf ha ra = encOf hb rb) = sameB ha hb ra rb := by
  by_cases h : encOf ha ra = encOf hb rb
  · rw [decide_eq_true h]
    have e1 := decOut_enc ha ra oa pa na ca
    rw [h, decOut_enc hb rb ob pb nb cb] at e1
    injection e1 with _ _ e2 e3
    exact (sameB_iff.2 ⟨e2.symm, e3.symm⟩).symm
  · rw [decide_eq_false h]
    rcases hs : sameB ha hb ra rb with _ | _
    · rfl
    · rw [sameB_iff] at hs
      obtain ⟨rfl, rfl⟩ := hs
      exact absurd rfl h
theorem sameB_symm (ha hb : Hd) (ra rb : List R5) : sameB hb ha rb ra = sameB ha hb ra rb := by
  rcases h1 : sameB ha hb ra rb with _ | _
  · rcases h2 : sameB hb ha rb ra with _ | _
    · rfl
    · rw [sameB_iff] at h2
      obtain ⟨rfl, rfl⟩ := h2
      rw [sameB_iff.2 ⟨rfl, rfl⟩] at h1
      cases h1
  · rw [sameB_iff] at h1
    obtain ⟨rfl, rfl⟩ := h1
    exact sameB_iff.2 ⟨rfl, rfl⟩
set_option maxRecDepth 100000 in
set_option maxHeartbeats 1000000 in
theorem two_early (ha hb : Hd) (A A' : Option Addr) (n n' c c' : Nat) (w : World) (hx : 100 < n ∨ 100 < n') :
    Calls Tryd.prog 6 #[.agg #[.int .i64 ha.k, .int .i64 ha.s, .int .i64 ha.a, .int .i64 ha.b, .int .i64 ha.c, .int .i64 ha.d, .int .i64 ha.e, .int .i64 ha.f, .slice A n c], .agg #[.int .i64 hb.k, .int .i64 hb.s, .int .i64 hb.a, .int .i64 hb.b, .int .i64 hb.c, .int .i64 hb.d, .int .i64 hb.e, .int .i64 hb.f, .slice A' n' c']] w fun e w' => e = .returned (.bool true) ∧ Below w.heap.size w w' := by
  have hk := fun w' => mknown_ok w'
  have HK := Lib.hid hk
  clear hk
  by_cases hn : 100 < n
  · have e1 : decide ((100 : Int) < (n : Int)) = true := by simp; omega
    go_enter Tryd.func6, Tryd.ntmps6
    go_wp2_with (go_at_call 9; refine Hid.out ?_)
    refine Lib.hid ?_
    refine (HK.out _).mono ?_
    rintro e w1 ⟨rfl, B1⟩
    have c8 := (B1.cell (p := ⟨w.heap.size, 8, none⟩) (by simp; omega)).trans (show _ = some (Value.slice A n c) by simp)
    go_wp2_with fail
    go_ret
    exact ⟨rfl, bel_trans (bel_alloc (bel_new _ _) _) B1⟩
  · have e1 : decide ((100 : Int) < (n : Int)) = false := by simp; omega
    have e2 : decide ((100 : Int) < (n' : Int)) = true := by simp; omega
    go_enter Tryd.func6, Tryd.ntmps6
    go_wp2_with (go_at_call 9; refine Hid.out ?_)
    refine Lib.hid ?_
    refine (HK.out _).mono ?_
    rintro e w1 ⟨rfl, B1⟩
    have c8 := (B1.cell (p := ⟨w.heap.size, 8, none⟩) (by simp; omega)).trans (show _ = some (Value.slice A n c) by simp)
    have d8 := (B1.cell (p := ⟨w.heap.size + 1, 8, none⟩) (by simp)).trans (show _ = some (Value.slice A' n' c') by simp)
    go_wp2_with fail
    go_ret
    exact ⟨rfl, bel_trans (bel_alloc (bel_new _ _) _) B1⟩
set_option maxRecDepth 100000 in
set_option maxHeartbeats 8000000 in
theorem two_main (ha hb : Hd) (ra rb : List R5) (A A' : Option Addr) (n n' c c' : Nat) (w : World) (oa : ha.ok) (ob : hb.ok) (hra : RowsAt w w.heap.size A n ra) (hrb : RowsAt w w.heap.size A' n' rb) (hn : n ≤ 100) (hn' : n' ≤ 100) :
    Calls Tryd.prog 6 #[.agg #[.int .i64 ha.k, .int .i64 ha.s, .int .i64 ha.a, .int .i64 ha.b, .int .i64 ha.c, .int .i64 ha.d, .int .i64 ha.e, .int .i64 ha.f, .slice A n c], .agg #[.int .i64 hb.k, .int .i64 hb.s, .int .i64 hb.a, .int .i64 hb.b, .int .i64 hb.c, .int .i64 hb.d, .int .i64 hb.e, .int .i64 hb.f, .slice A' n' c']] w fun e w' => e = .returned (.bool true) ∧ Below w.heap.size w w' := by
  have hk := fun w' => mknown_ok w'
  have HK := Lib.hid hk
  have HRA := Lib.hid hra
  have HRB := Lib.hid hrb
  have HOA := Lib.hid oa
  have HOB := Lib.hid ob
  have e1 : decide ((100 : Int) < (n : Int)) = false := by simp; omega
  have e2 : decide ((100 : Int) < (n' : Int)) = false := by simp; omega
  have hs1 := fun w' (k : Below w.heap.size w w') => same_any ha hb A A' n n' c c' ra rb w' w.heap.size w.heap.size (hra.carry k) (hrb.carry k) k.size k.size (by unfold maxLen; omega)
  have hs2 := fun w' (k : Below w.heap.size w w') => same_any hb ha A' A n' n c' c rb ra w' w.heap.size w.heap.size (hrb.carry k) (hra.carry k) k.size k.size (by unfold maxLen; omega)
  simp only [sameB_symm ha hb ra rb] at hs2
  obtain ⟨s, hs⟩ : ∃ s, sameB ha hb ra rb = s := ⟨_, rfl⟩
  rw [hs] at hs1 hs2
  have HS1 := Lib.hid hs1
  have HS2 := Lib.hid hs2
  have HS := Lib.hid hs
  clear hk hra hrb oa ob hs1 hs2 hs
  go_enter Tryd.func6, Tryd.ntmps6
  go_wp2_with (go_at_call 9; refine Hid.out ?_)
  refine Lib.hid ?_
  refine (HK.out _).mono ?_
  rintro e w1 ⟨rfl, B1⟩
  have hba : Box w1 w.heap.size 25 #[.int .i64 ha.k, .int .i64 ha.s, .int .i64 ha.a, .int .i64 ha.b, .int .i64 ha.c, .int .i64 ha.d, .int .i64 ha.e, .int .i64 ha.f, .slice A n c] := ((Box.fresh w _ _ rfl).kept_below (bel_new _ _) (by simp)).kept_below B1 (by simp; omega)
  have hbb : Box w1 (w.heap.size + 1) 25 #[.int .i64 hb.k, .int .i64 hb.s, .int .i64 hb.a, .int .i64 hb.b, .int .i64 hb.c, .int .i64 hb.d, .int .i64 hb.e, .int .i64 hb.f, .slice A' n' c'] := (Box.fresh _ _ _ (by simp)).kept_below B1 (by simp)
  have Bw1 : Below w.heap.size w w1 := bel_trans (bel_alloc (bel_new _ _) _) B1
  obtain ⟨a0, a1, a2, a3, a4, a5, a6, a7, a8⟩ := box_cells9 hba
  obtain ⟨b0, b1, b2, b3, b4, b5, b6, b7, b8⟩ := box_cells9 hbb
  have HBA := Lib.hid hba
  have HBB := Lib.hid hbb
  clear hba hbb B1
  go_wp2_with (go_at_call 17; refine Hid.out ?_)
  refine Lib.hid ?_
  refine (HS1.out _ Bw1).mono ?_
  rintro e w2 ⟨rfl, B12⟩
  have Bw2 : Below w.heap.size w w2 := bel_trans Bw1 B12
  have ha2 := HBA.out.kept_below B12 HBA.out.there
  have hb2 := HBB.out.kept_below B12 HBB.out.there
  have HBA2 := Lib.hid ha2
  have HBB2 := Lib.hid hb2
  clear ha2 hb2 B12 a0 a1 a2 a3 a4 a5 a6 a7 a8 b0 b1 b2 b3 b4 b5 b6 b7 b8 HBA HBB
  have hS0 : (w2.cell? ⟨w.heap.size, 0, none⟩ = some (.int .i64 ha.k) ∧ w2.cell? ⟨w.heap.size, 1, none⟩ = some (.int .i64 ha.s) ∧ w2.cell? ⟨w.heap.size, 2, none⟩ = some (.int .i64 ha.a) ∧ w2.cell? ⟨w.heap.size, 3, none⟩ = some (.int .i64 ha.b) ∧ w2.cell? ⟨w.heap.size, 4, none⟩ = some (.int .i64 ha.c) ∧ w2.cell? ⟨w.heap.size, 5, none⟩ = some (.int .i64 ha.d) ∧ w2.cell? ⟨w.heap.size, 6, none⟩ = some (.int .i64 ha.e) ∧ w2.cell? ⟨w.heap.size, 7, none⟩ = some (.int .i64 ha.f) ∧ w2.cell? ⟨w.heap.size, 8, none⟩ = some (.slice A n c)) ∧ (w2.cell? ⟨w.heap.size + 1, 0, none⟩ = some (.int .i64 hb.k) ∧ w2.cell? ⟨w.heap.size + 1, 1, none⟩ = some (.int .i64 hb.s) ∧ w2.cell? ⟨w.heap.size + 1, 2, none⟩ = some (.int .i64 hb.a) ∧ w2.cell? ⟨w.heap.size + 1, 3, none⟩ = some (.int .i64 hb.b) ∧ w2.cell? ⟨w.heap.size + 1, 4, none⟩ = some (.int .i64 hb.c) ∧ w2.cell? ⟨w.heap.size + 1, 5, none⟩ = some (.int .i64 hb.d) ∧ w2.cell? ⟨w.heap.size + 1, 6, none⟩ = some (.int .i64 hb.e) ∧ w2.cell? ⟨w.heap.size + 1, 7, none⟩ = some (.int .i64 hb.f) ∧ w2.cell? ⟨w.heap.size + 1, 8, none⟩ = some (.slice A' n' c')) := ⟨box_cells9 HBA2.out, box_cells9 HBB2.out⟩
  have keepS := fun w' (k : Below w2.heap.size w2 w') => (⟨box_cells9 (HBA2.out.kept_below k HBA2.out.there), box_cells9 (HBB2.out.kept_below k HBB2.out.there)⟩ : (w'.cell? ⟨w.heap.size, 0, none⟩ = some (.int .i64 ha.k) ∧ w'.cell? ⟨w.heap.size, 1, none⟩ = some (.int .i64 ha.s) ∧ w'.cell? ⟨w.heap.size, 2, none⟩ = some (.int .i64 ha.a) ∧ w'.cell? ⟨w.heap.size, 3, none⟩ = some (.int .i64 ha.b) ∧ w'.cell? ⟨w.heap.size, 4, none⟩ = some (.int .i64 ha.c) ∧ w'.cell? ⟨w.heap.size, 5, none⟩ = some (.int .i64 ha.d) ∧ w'.cell? ⟨w.heap.size, 6, none⟩ = some (.int .i64 ha.e) ∧ w'.cell? ⟨w.heap.size, 7, none⟩ = some (.int .i64 ha.f) ∧ w'.cell? ⟨w.heap.size, 8, none⟩ = some (.slice A n c)) ∧ (w'.cell? ⟨w.heap.size + 1, 0, none⟩ = some (.int .i64 hb.k) ∧ w'.cell? ⟨w.heap.size + 1, 1, none⟩ = some (.int .i64 hb.s) ∧ w'.cell? ⟨w.heap.size + 1, 2, none⟩ = some (.int .i64 hb.a) ∧ w'.cell? ⟨w.heap.size + 1, 3, none⟩ = some (.int .i64 hb.b) ∧ w'.cell? ⟨w.heap.size + 1, 4, none⟩ = some (.int .i64 hb.c) ∧ w'.cell? ⟨w.heap.size + 1, 5, none⟩ = some (.int .i64 hb.d) ∧ w'.cell? ⟨w.heap.size + 1, 6, none⟩ = some (.int .i64 hb.e) ∧ w'.cell? ⟨w.heap.size + 1, 7, none⟩ = some (.int .i64 hb.f) ∧ w'.cell? ⟨w.heap.size + 1, 8, none⟩ = some (.slice A' n' c')))
  have KS := Lib.hid keepS
  have hofa := fun w' (k : Below w.heap.size w w') => of_msg ha ra A n c w' ((HRA.out.carry k).wider k.size) (by omega)
  have hofb := fun w' (k : Below w.heap.size w w') => of_msg hb rb A' n' c' w' ((HRB.out.carry k).wider k.size) (by omega)
  have HOFA := Lib.hid hofa
  have HOFB := Lib.hid hofb
  have B20 : Below w2.heap.size w2 w2.drew := (Below.refl _ _).drew
  clear keepS hofa hofb
  cases s
  all_goals
    go_wp2_with fail
    go_region_held3 (fun w' => (w'.cell? ⟨w.heap.size, 0, none⟩ = some (.int .i64 ha.k) ∧ w'.cell? ⟨w.heap.size, 1, none⟩ = some (.int .i64 ha.s) ∧ w'.cell? ⟨w.heap.size, 2, none⟩ = some (.int .i64 ha.a) ∧ w'.cell? ⟨w.heap.size, 3, none⟩ = some (.int .i64 ha.b) ∧ w'.cell? ⟨w.heap.size, 4, none⟩ = some (.int .i64 ha.c) ∧ w'.cell? ⟨w.heap.size, 5, none⟩ = some (.int .i64 ha.d) ∧ w'.cell? ⟨w.heap.size, 6, none⟩ = some (.int .i64 ha.e) ∧ w'.cell? ⟨w.heap.size, 7, none⟩ = some (.int .i64 ha.f) ∧ w'.cell? ⟨w.heap.size, 8, none⟩ = some (.slice A n c)) ∧ (w'.cell? ⟨w.heap.size + 1, 0, none⟩ = some (.int .i64 hb.k) ∧ w'.cell? ⟨w.heap.size + 1, 1, none⟩ = some (.int .i64 hb.s) ∧ w'.cell? ⟨w.heap.size + 1, 2, none⟩ = some (.int .i64 hb.a) ∧ w'.cell? ⟨w.heap.size + 1, 3, none⟩ = some (.int .i64 hb.b) ∧ w'.cell? ⟨w.heap.size + 1, 4, none⟩ = some (.int .i64 hb.c) ∧ w'.cell? ⟨w.heap.size + 1, 5, none⟩ = some (.int .i64 hb.d) ∧ w'.cell? ⟨w.heap.size + 1, 6, none⟩ = some (.int .i64 hb.e) ∧ w'.cell? ⟨w.heap.size + 1, 7, none⟩ = some (.int .i64 hb.f) ∧ w'.cell? ⟨w.heap.size + 1, 8, none⟩ = some (.slice A' n' c')))
      (first | exact hS0 | exact KS.out _ BA | exact KS.out _ BB | exact KS.out _ BC | exact KS.out _ BD)
      ((first | (go_at_call 12; ((with_reducible refine (HOFA.out _ (by first | exact Bw2.drew | exact bel_trans Bw2 BB)).mono ?_)); rintro e wA ⟨Aa, na, ca, rfl, hrA, _, Ba⟩; have BA : Below w2.heap.size w2 wA := by first | exact bel_trans BB Ba | exact B20.trans Ba)
              | (go_at_call 12; ((with_reducible refine (HOFB.out _ (by first | exact Bw2.drew | exact bel_trans Bw2 BA)).mono ?_)); rintro e wB ⟨Ab, nb, cb, rfl, hrB, _, Bb⟩; have BB : Below w2.heap.size w2 wB := by first | exact bel_trans BA Bb | exact B20.trans Bb)
              | (go_at_call 18; refine (refSame_any ha hb Aa Ab na nb ca cb ra rb _ _ _ (by first | exact hrA | exact hrA.carry Bb) (by first | exact hrB | exact hrB.carry Ba) (by first | exact Nat.le_refl _ | exact Bb.size) (by first | exact Nat.le_refl _ | exact Ba.size) (by have q1 := hrA.len; have q2 := HRA.out.len; unfold maxLen; omega)).mono ?_; rintro e wC ⟨rfl, Bc⟩; rw [HS.out]; have BC : Below w2.heap.size w2 wC := by first | exact bel_trans BA Bc | exact bel_trans BB Bc)
              | (go_at_call 17; refine (HS2.out _ (bel_trans Bw2 BC)).mono ?_; rintro e wD ⟨rfl, Bd⟩; have BD : Below w2.heap.size w2 wD := bel_trans BC Bd)))
  all_goals
    have BwD : Below w.heap.size w wD := bel_trans Bw2 BD
    have hdA := HBA2.out.kept_below BD HBA2.out.there
    have hdB := HBB2.out.kept_below BD HBB2.out.there
    obtain ⟨a0, a1, a2, a3, a4, a5, a6, a7, a8⟩ := box_cells9 hdA
    have HDB := Lib.hid hdB
    clear hdA hdB hS0 KS HOFA HOFB B20 hrA hrB Ba Bb Bc Bd BA BB BC BD HBA2 HBB2 HS1 HS2
    go_wp2_with (go_at_call 10; refine Hid.out ?_)
    refine Lib.hid ?_
    by_cases cA : MsgMath.chk ha.k ha.s n = 0
    · refine (encode_ok ha ra A n c wD HOA.out ((HRA.out.carry BwD).wider BwD.size) cA).mono ?_
      rintro e wE ⟨AE, kE, rfl, hkE, hlE, hyE, BE⟩
      have HYE := Lib.hid hyE
      have HCA := Lib.hid cA
      obtain ⟨b0, b1, b2, b3, b4, b5, b6, b7, b8⟩ := box_cells9 (HDB.out.kept_below BE HDB.out.there)
      have BwE : Below w.heap.size w wE := bel_trans BwD BE
      have HLA : Hid ((encOf ha ra).length = (encOf ha ra).length) := Lib.hid rfl
      generalize hLA : (encOf ha ra).length = LA at hlE HYE ⊢
      clear hyE BE cA hLA HLA a0 a1 a2 a3 a4 a5 a6 a7 a8
      go_wp2_with (go_at_call 10; refine Hid.out ?_)
      refine Lib.hid ?_
      by_cases cB : MsgMath.chk hb.k hb.s n' = 0
      · refine (encode_ok hb rb A' n' c' wE HOB.out ((HRB.out.carry BwE).wider BwE.size) cB).mono ?_
        rintro e wF ⟨AF, kF, rfl, hkF, hlF, hyF, BF⟩
        have BwF : Below w.heap.size w wF := bel_trans BwE BF
        have hyE := HYE.out
        have q1 := conv_str (hyE.carry BF) kE
        have q2 := conv_str hyF kF
        have hbq := (strOf_beq hyE.bnd hyF.bnd).trans (encOf_inj HOA.out HOB.out HRA.out.ok HRB.out.ok (by have := HRA.out.len; omega) (by have := HRB.out.len; omega) (by rw [HRA.out.len]; exact HCA.out) (by rw [HRB.out.len]; exact cB))
        rw [HS.out] at hbq
        generalize (encOf hb rb).length = LB at hlF q2 ⊢
        generalize strOf (encOf ha ra) = sa at q1 hbq
        generalize strOf (encOf hb rb) = sb at q2 hbq
        clear hyF hyE cB BF b0 b1 b2 b3 b4 b5 b6 b7 b8
        go_wp2_with fail
        go_ret
        exact ⟨rfl, BwF⟩
      · refine (encode_bad hb A' n' c' wE cB).mono ?_
        rintro e wF ⟨bF, rfl, _, BF⟩
        have BwF : Below w.heap.size w wF := bel_trans BwE BF
        clear cB BF b0 b1 b2 b3 b4 b5 b6 b7 b8
        go_wp2_with fail
        go_ret
        exact ⟨rfl, BwF⟩
    · refine (encode_bad ha A n c wD cA).mono ?_
      rintro e wE ⟨bE, rfl, _, BE⟩
      obtain ⟨b0, b1, b2, b3, b4, b5, b6, b7, b8⟩ := box_cells9 (HDB.out.kept_below BE HDB.out.there)
      have BwE : Below w.heap.size w wE := bel_trans BwD BE
      clear BE cA a0 a1 a2 a3 a4 a5 a6 a7 a8
      go_wp2_with (go_at_call 10; refine Hid.out ?_)
      refine Lib.hid ?_
      by_cases cB : MsgMath.chk hb.k hb.s n' = 0
      · refine (encode_ok hb rb A' n' c' wE HOB.out ((HRB.out.carry BwE).wider BwE.size) cB).mono ?_
        rintro e wF ⟨AF, kF, rfl, _, _, _, BF⟩
        have BwF : Below w.heap.size w wF := bel_trans BwE BF
        clear cB BF b0 b1 b2 b3 b4 b5 b6 b7 b8
        go_wp2_with fail
        go_ret
        exact ⟨rfl, BwF⟩
      · refine (encode_bad hb A' n' c' wE cB).mono ?_
        rintro e wF ⟨bF, rfl, _, BF⟩
        have BwF : Below w.heap.size w wF := bel_trans BwE BF
        clear cB BF b0 b1 b2 b3 b4 b5 b6 b7 b8
        go_wp2_with fail
        go_ret
        exact ⟨rfl, BwF⟩
end Go.Proofs.YtegjimagphdncaaDoor

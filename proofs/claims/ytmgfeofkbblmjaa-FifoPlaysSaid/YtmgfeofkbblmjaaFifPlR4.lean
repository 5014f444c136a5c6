/- FifoPlays: a round of the play: a cell that is taken out, or is none. -/
import Derived.Test.YtmgfeofkbblmjaaFifPlM
import Derived.Test.YtmgfeofkbblmjaaFifAct
import Derived.Deep.RegionLaw
import Derived.Deep.RegionHeld3
import Derived.Test.YtmgfeofkbblmjaaFifPlS
import Derived.Test.YtmgfeofkbblmjaaFifPlBad
set_option linter.unusedSimpArgs false
namespace Go.Proofs.Ytmgfeofkbblmjaa
open Go.RowKit Go.Mem1 Go.FifMath

set_option maxRecDepth 100000 in
set_option maxHeartbeats 4000000 in
/-- A cell that is taken out, or is none. -/
theorem round_out {A : Option Addr} {n cp R C g B i : Nat} {l : List Ac} {w w0 wr : World} {M : List (Nat × Nat × Int)} {F : List Nat} {op row cl v : Int} {u10 u11 u6 u14 u15 u16 u17 u18 u19 u83 u84 u85 u86 u87 u88 u89 u90 u91 u92 u93 u94 u95 u96 u97 u98 u99 u100 u101 u102 u103 u104 u105 u106 u107 u108 u109 u110 u111 u112 u113 u114 u115 u116 u117 u118 u119 u120 u121 u122 u123 u124 u125 u126 u127 u128 u129 u130 u131 u132 u133 u134 u135 u136 u137 u138 u139 u140 u141 u142 u143 u144 u145 u146 u147 u148 u149 u150 u151 u152 u153 u154 u155 u156 u157 u158 u159 u160 u161 u162 u163 u164 u165 u166 u167 u168 u169 u170 u171 u172 u173 u174 u175 u176 u177 u178 u179 u180 u181 u182 u183 u184 u185 u186 u187 u188 u189 u190 u191 u192 u193 u194 u195 u196 u197 u198 u199 u200 u201 u202 u203 u204 u205 u206 u207 : Value} {F0 K0 : Act → World → Prop}
    (HA : Hid (Acts w w.heap.size A n l)) (hb0 : Hid (Below w.heap.size w w0)) (HW0 : Hid (w.heap.size ≤ B)) (hn : n ≤ 100) (hR1 : 1 ≤ R) (hR2 : R ≤ 20) (hC1 : 1 ≤ C) (hC2 : C ≤ 100) (hlt : i < n) (hP : PlB w0 B g R C u10 u11 M M F F wr) (hx : l[i]? = some ⟨op, row, cl, v⟩) (hop : ¬ op = 1)
    (HE : Hid (∀ (v10 v11 : Value) (nx2 : Int) (w2 : World), PlJ w0 B g R C v10 v11 nx2 w2 → ∀ (u6 u14 u15 u16 u17 u18 u19 u83 u84 u85 u86 u87 u88 u89 u90 u91 u92 u93 u94 u95 u96 u97 u98 u99 u100 u101 u102 u103 u104 u105 u106 u107 u108 u109 u110 u111 u112 u113 u114 u115 u116 u117 u118 u119 u120 u121 u122 u123 u124 u125 u126 u127 u128 u129 u130 u131 u132 u133 u134 u135 u136 u137 u138 u139 u140 u141 u142 u143 u144 u145 u146 u147 u148 u149 u150 u151 u152 u153 u154 u155 u156 u157 u158 u159 u160 u161 u162 u163 u164 u165 u166 u167 u168 u169 u170 u171 u172 u173 u174 u175 u176 u177 u178 u179 u180 u181 u182 u183 u184 u185 u186 u187 u188 u189 u190 u191 u192 u193 u194 u195 u196 u197 u198 u199 u200 u201 u202 u203 u204 u205 u206 u207 : Value), F0 ⟨#[Value.int IntKind.i64 (R : Int), Value.int IntKind.i64 (C : Int), Value.slice A n cp, undef, undef, undef, u6, Value.pointer (some ⟨g, 0, none⟩), Value.int IntKind.i64 0, Value.bool true, v10, v11, Value.int IntKind.i64 nx2, Value.int IntKind.i64 ((i : Int) + 1), u14, u15, u16, u17, u18, u19, undef, undef, undef, undef, undef, undef, undef, undef, Value.bool true, Value.bool false, Value.slice A n cp, Value.int IntKind.i64 (n : Int), Value.bool false, Value.bool false, Value.int IntKind.i64 (C : Int), Value.bool false, Value.bool false, undef, undef, Value.bool false, Value.bool false, Value.bool false, Value.int IntKind.i64 (R : Int), Value.bool false, Value.bool false, undef, undef, Value.bool false, Value.bool false, Value.tuple #[Value.pointer (some ⟨g, 0, none⟩), Value.int IntKind.i64 0], Value.int IntKind.i64 (R : Int), Value.int IntKind.i64 (C : Int), Value.tuple #[Value.pointer (some ⟨g, 0, none⟩), Value.int IntKind.i64 0], Value.pointer (some ⟨g, 0, none⟩), Value.int IntKind.i64 0, Value.int IntKind.i64 (R : Int), Value.bool true, Value.bool true, Value.int IntKind.i64 (R : Int), Value.bool true, Value.bool true, Value.bool true, Value.int IntKind.i64 (C : Int), Value.bool true, Value.bool true, Value.bool true, Value.int IntKind.i64 (C : Int), Value.bool true, Value.bool true, Value.int IntKind.i64 0, Value.bool true, Value.bool true, Value.bool false, Value.bool false, Value.pointer (some ⟨g, 0, none⟩), Value.bool true, Value.bool true, Value.bool false, Value.bool false, Value.bool true, Value.bool false, undef, undef, u83, u84, u85, u86, u87, u88, u89, u90, u91, u92, u93, u94, u95, u96, u97, u98, u99, u100, u101, u102, u103, u104, u105, u106, u107, u108, u109, u110, u111, u112, u113, u114, u115, u116, u117, u118, u119, u120, u121, u122, u123, u124, u125, u126, u127, u128, u129, u130, u131, u132, u133, u134, u135, u136, u137, u138, u139, u140, u141, u142, u143, u144, u145, u146, u147, u148, u149, u150, u151, u152, u153, u154, u155, u156, u157, u158, u159, u160, u161, u162, u163, u164, u165, u166, u167, u168, u169, u170, u171, u172, u173, u174, u175, u176, u177, u178, u179, u180, u181, u182, u183, u184, u185, u186, u187, u188, u189, u190, u191, u192, u193, u194, u195, u196, u197, u198, u199, u200, u201, u202, u203, u204, u205, u206, u207, undef, undef, undef, undef, undef, undef, undef, undef, undef, undef, undef, undef, undef, undef, undef, undef, undef, undef, undef, undef, undef, undef, undef, undef, undef, undef, undef, undef, undef, undef, undef, undef, undef, undef, undef, undef, undef, undef, undef, undef, undef, undef, undef, undef, undef, undef, undef, undef, undef, undef, undef, undef, undef, undef, undef, undef, undef, undef, undef, undef, undef, undef, undef, undef, undef, undef, undef, undef, undef, undef, undef, undef, undef, undef, undef, undef, undef, undef, undef, undef, undef, undef, undef, undef, undef, undef, undef, undef, undef, undef, undef, undef, undef, undef, undef, undef, undef, undef, undef, undef, undef, undef, undef, undef, undef, undef, undef, undef, undef, undef, undef, undef, undef, undef], []⟩ w2)) :
    Code.wp Try.prog (((Try.f3.body.map loopsOf).getD []).headD Code.skip) (Exit.then F0 (Exit.inBlock 0 (Exit.then K0 (bodyPost Try.prog Try.f3 (PlTrue w))))) ⟨#[Value.int IntKind.i64 (R : Int), Value.int IntKind.i64 (C : Int), Value.slice A n cp, undef, undef, undef, u6, Value.pointer (some ⟨g, 0, none⟩), Value.int IntKind.i64 0, Value.bool true, u10, u11, Value.int IntKind.i64 ((M.length + F.length : Nat) : Int), Value.int IntKind.i64 (i : Int), u14, u15, u16, u17, u18, u19, undef, undef, undef, undef, undef, undef, undef, undef, Value.bool true, Value.bool false, Value.slice A n cp, Value.int IntKind.i64 (n : Int), Value.bool false, Value.bool false, Value.int IntKind.i64 (C : Int), Value.bool false, Value.bool false, undef, undef, Value.bool false, Value.bool false, Value.bool false, Value.int IntKind.i64 (R : Int), Value.bool false, Value.bool false, undef, undef, Value.bool false, Value.bool false, Value.tuple #[Value.pointer (some ⟨g, 0, none⟩), Value.int IntKind.i64 0], Value.int IntKind.i64 (R : Int), Value.int IntKind.i64 (C : Int), Value.tuple #[Value.pointer (some ⟨g, 0, none⟩), Value.int IntKind.i64 0], Value.pointer (some ⟨g, 0, none⟩), Value.int IntKind.i64 0, Value.int IntKind.i64 (R : Int), Value.bool true, Value.bool true, Value.int IntKind.i64 (R : Int), Value.bool true, Value.bool true, Value.bool true, Value.int IntKind.i64 (C : Int), Value.bool true, Value.bool true, Value.bool true, Value.int IntKind.i64 (C : Int), Value.bool true, Value.bool true, Value.int IntKind.i64 0, Value.bool true, Value.bool true, Value.bool false, Value.bool false, Value.pointer (some ⟨g, 0, none⟩), Value.bool true, Value.bool true, Value.bool false, Value.bool false, Value.bool true, Value.bool false, undef, undef, u83, u84, u85, u86, u87, u88, u89, u90, u91, u92, u93, u94, u95, u96, u97, u98, u99, u100, u101, u102, u103, u104, u105, u106, u107, u108, u109, u110, u111, u112, u113, u114, u115, u116, u117, u118, u119, u120, u121, u122, u123, u124, u125, u126, u127, u128, u129, u130, u131, u132, u133, u134, u135, u136, u137, u138, u139, u140, u141, u142, u143, u144, u145, u146, u147, u148, u149, u150, u151, u152, u153, u154, u155, u156, u157, u158, u159, u160, u161, u162, u163, u164, u165, u166, u167, u168, u169, u170, u171, u172, u173, u174, u175, u176, u177, u178, u179, u180, u181, u182, u183, u184, u185, u186, u187, u188, u189, u190, u191, u192, u193, u194, u195, u196, u197, u198, u199, u200, u201, u202, u203, u204, u205, u206, u207, undef, undef, undef, undef, undef, undef, undef, undef, undef, undef, undef, undef, undef, undef, undef, undef, undef, undef, undef, undef, undef, undef, undef, undef, undef, undef, undef, undef, undef, undef, undef, undef, undef, undef, undef, undef, undef, undef, undef, undef, undef, undef, undef, undef, undef, undef, undef, undef, undef, undef, undef, undef, undef, undef, undef, undef, undef, undef, undef, undef, undef, undef, undef, undef, undef, undef, undef, undef, undef, undef, undef, undef, undef, undef, undef, undef, undef, undef, undef, undef, undef, undef, undef, undef, undef, undef, undef, undef, undef, undef, undef, undef, undef, undef, undef, undef, undef, undef, undef, undef, undef, undef, undef, undef, undef, undef, undef, undef, undef, undef, undef, undef, undef, undef], []⟩ wr := by
  obtain ⟨i0, hi0, hz0, hz1, hz2⟩ := info_parts cell_info
  obtain ⟨j0, hj0, hy0, hy1, hy2⟩ := info_parts int_info
  have HI0 := Lib.hid hi0
  have HI1 := Lib.hid hz0
  have HI2 := Lib.hid hz1
  have HI3 := Lib.hid hz2
  have HJ0 := Lib.hid hj0
  have HJ1 := Lib.hid hy0
  have HJ2 := Lib.hid hy1
  have HJ3 := Lib.hid hy2
  clear hi0 hz0 hz1 hz2 hj0 hy0 hy1 hy2
  have hu := And.intro hR1 (And.intro hR2 (And.intro hC1 hC2))
  clear hu
  conv => arg 2; whnf
  obtain ⟨b, off, rfl, hbl, e0, e1, e2, e3⟩ := HA.out.at_ i _ hx
  have hwr : Below w.heap.size w wr := hb0.out.trans (hP.bel.mono HW0.out)
  have d0 := (hwr.cell (p := ⟨b, off + i * 4, none⟩) hbl).trans e0
  have d1 := (hwr.cell (p := ⟨b, off + i * 4 + 1, none⟩) hbl).trans e1
  have d2 := (hwr.cell (p := ⟨b, off + i * 4 + 2, none⟩) hbl).trans e2
  have d3 := (hwr.cell (p := ⟨b, off + i * 4 + 3, none⟩) hbl).trans e3
  dsimp only at d0 d1 d2 d3
  clear e0 e1 e2 e3 hx
  have hfew := hP.few
  have hP1 := hP.carry (bel_new wr (.cells #[.int .i64 op, .int .i64 row, .int .i64 cl, .int .i64 v] 31))
  have hX1 : Box (wr.alloc (.cells #[.int .i64 op, .int .i64 row, .int .i64 cl, .int .i64 v] 31)) wr.heap.size 31 #[.int .i64 op, .int .i64 row, .int .i64 cl, .int .i64 v] := Box.fresh wr _ _ rfl
  obtain ⟨AM, cM, rfl, hcM, hRM⟩ := hP.reads
  obtain ⟨AF, cF, rfl⟩ := own_slice hP.f
  obtain ⟨m, hm⟩ : ∃ m, M.length = m := ⟨_, rfl⟩
  have u0 : (op == 1) = false := by simpa using hop
  have HX0 : Hid (PlX w0 B g R C (.slice AM M.length cM) (.slice AF F.length cF) M M F F wr.heap.size #[.int .i64 op, .int .i64 row, .int .i64 cl, .int .i64 v] (wr.alloc (.cells #[.int .i64 op, .int .i64 row, .int .i64 cl, .int .i64 v] 31))) := Lib.hid ⟨hP1, hX1⟩
  have HM := Lib.hid hm
  have hm2 : m ≤ 100 := by omega
  obtain ⟨kF, hkF⟩ : ∃ kF, F.length = kF := ⟨_, rfl⟩
  have HKF := Lib.hid hkF
  have hkF2 : kF ≤ 100 := by omega
  have hnx : ((M.length + F.length : Nat) : Int) = (m : Int) + (kF : Int) := by rw [← hm, ← hkF]; simp
  rw [hnx, hm, hkF]
  rw [hm, hkF] at HX0
  clear hP hP1 hX1 hwr hRM hcM hop hfew hnx hm hkF
  go_wp2_with fail
  clear d0 d1 d2 d3 u0
  obtain ⟨wP, rfl⟩ : ∃ wP, wP = wr := ⟨_, rfl⟩
  go_loopw [18, 19] (fun v18 v19 wr => ∃ j : Nat, j ≤ m ∧ v19 = .int .i64 j ∧ v18 = .int .i64 (fk M cl j) ∧ Hid (PlX w0 B g R C (.slice AM m cM) (.slice AF kF cF) M M F F wP.heap.size #[.int .i64 op, .int .i64 row, .int .i64 cl, .int .i64 v] wr)) (fun _ v19 _ => m - (intOf v19).toNat)
  case atStart => exact ⟨0, by omega, rfl, rfl, HX0⟩
  case round =>
    obtain ⟨j, hj, rfl, rfl, hX⟩ := hrel
    clear HX0
    by_cases hltj : j < m
    · obtain ⟨x, hx⟩ : ∃ x, M[j]? = some x := ⟨_, List.getElem?_eq_getElem (by rw [HM.out]; exact hltj)⟩
      obtain ⟨bM, cM', hvM, hbM, k0, _, _⟩ := hX.out.1.cell hx
      injection hvM with hvM1 hvM2 hvM3
      subst hvM1; subst hvM3
      have y2 : wr.cell? ⟨wP.heap.size, 2, none⟩ = some (.int .i64 cl) := hX.out.2.reads 2
      have hfk := fk_succ hx cl
      have HXD := Lib.hid (fun q => hX.out.drewN q)
      have j0 : (0 : Int) ≤ (j : Int) := by omega
      have j1 : (j : Int) < (m : Int) := by omega
      obtain ⟨xc, xr, xv⟩ := x
      dsimp only at k0 hfk
      by_cases hc : (xc : Int) = cl
      · rw [if_pos hc] at hfk
        have HFK := Lib.hid hfk
        subst hc
        have tc : ((xc : Int) == (xc : Int)) = true := by simp
        clear hx hvM2 hfk hX
        go_wp2_with fail
        go_quiet (fail)
        go_wp2_with fail
        go_roundw
        case rel => exact ⟨j + 1, by omega, by go_num, by rw [HFK.out], HXD.out _⟩
        case measure => simp [intOf]; omega
      · rw [if_neg hc] at hfk
        have tc : ((xc : Int) == cl) = false := by simpa using hc
        have HFK := Lib.hid hfk
        clear hx hvM2 hfk hX hc
        go_wp2_with fail
        go_quiet (fail)
        go_wp2_with fail
        go_roundw
        case rel => exact ⟨j + 1, by omega, by go_num, by rw [HFK.out], HXD.out _⟩
        case measure => simp [intOf]; omega
    · obtain rfl : j = m := by omega
      have y2 : wr.cell? ⟨wP.heap.size, 2, none⟩ = some (.int .i64 cl) := hX.out.2.reads 2
      rcases fk_spec M cl j (by rw [HM.out]; exact Nat.le_refl _) with ⟨hfk, hno⟩ | ⟨k, x, hfk, hk, hx, hxc⟩
      · have HR := Lib.hid (hX.out.1.remove_bad (c := cl) (fun x hx => by
          obtain ⟨i, hi, e⟩ := List.mem_iff_getElem.1 hx
          exact hno i x (by rw [← HM.out]; exact hi) (by rw [List.getElem?_eq_getElem hi, e])))
        have HEND : Hid (PlJ w0 B g R C (.slice AM j cM) (.slice AF kF cF) ((j : Int) + (kF : Int)) wr) := Lib.hid ⟨M, F, hX.out.1, by rw [HM.out, HKF.out]; simp⟩
        rw [hfk]
        clear hno hX hfk
        go_wp2_with (go_at_call 9; refine HR.out.mono ?_; rintro _ _ ⟨rfl, rfl⟩)
        exact HE.out _ _ _ _ HEND.out _ _ _ _ _ _ _ _ _ _ _ _ _ _ _ _ _ _ _ _ _ _ _ _ _ _ _ _ _ _ _ _ _ _ _ _ _ _ _ _ _ _ _ _ _ _ _ _ _ _ _ _ _ _ _ _ _ _ _ _ _ _ _ _ _ _ _ _ _ _ _ _ _ _ _ _ _ _ _ _ _ _ _ _ _ _ _ _ _ _ _ _ _ _ _ _ _ _ _ _ _ _ _ _ _ _ _ _ _ _ _ _ _ _ _ _ _ _ _ _ _ _ _ _ _ _ _ _ _ _ _ _
      · have HR := Lib.hid (hX.out.1.remove hx)
        have HXX := Lib.hid hX.out.2
        obtain ⟨xc, xr, xv⟩ := x
        dsimp only at hxc HR
        subst hxc
        rw [hfk]
        rw [HM.out] at hk
        have tk : decide ((0 : Int) ≤ (k : Int)) = true := by simp
        have HXM := Lib.hid hx
        clear hX hfk hx
        go_wp2_with (go_at_call 9; refine Hid.out ?_)
        refine Lib.hid ?_
        refine HR.out.mono ?_
        rintro _ w3 ⟨rfl, hP3, hK3⟩
        have hx3 := hK3.boxes _ _ _ HXX.out (by decide) (by decide) (by decide)
        have hlt3 := hx3.there
        obtain ⟨bM, cM', hvM, hbM, _⟩ := hP3.cell HXM.out
        injection hvM with hvM1 hvM2 hvM3
        subst hvM1; subst hvM3
        obtain ⟨hF1, hF2⟩ := hP3.front rfl (show k < M.length by rw [HM.out]; exact hk)
        rw [HM.out] at hF2
        have RD1 := Lib.hid (fun W (hb : Below w3.heap.size w3 W) => hF1.carry hb)
        have RD2 := Lib.hid (fun W (hb : Below w3.heap.size w3 W) => hF2.carry hb)
        have hcap : j ≤ cM := by
          rcases own_form hP3.m with ⟨_, h0⟩ | ⟨g, c, e, _, _, h2⟩
          · rw [HM.out] at h0; omega
          · injection e with _ _ e; rw [HM.out] at h2; omega
        have HP3 := Lib.hid hP3
        have HX3 := Lib.hid hx3
        have OW0 := Lib.hid (fun W (h : w3.heap.size ≤ W.heap.size) => own_empty W 35 w3.heap.size 3 h)
        clear hP3 hK3 hx3 hF1 hF2 hvM2 HR HXX y2
        by_cases hck : cM = k + 1
        · obtain rfl : j = k + 1 := by omega
          subst hck
          have q1 : (k : Int) ≤ (k : Int) + 1 := by omega
          have q3 : (0 : Int) ≤ (k : Int) := by omega
          have q4 : k ≤ k + 1 := by omega
          have q6 : (0 : Int) ≤ (k : Int) + 1 := by omega
          have q7 : IntKind.i64.wrap ((k : Int) + 1) = (k : Int) + 1 := by rw [IntKind.wrap_i64]; omega
          have q8 : ((k : Int) + 1).toNat = k + 1 := by omega
          go_wp2_with fail
          go_region_law ((first
            | (refine step_appendS rfl (.tmp 193) (.tmp 196) _ rfl w3.heap.size 35 i0 _ 3 24 Try.underlying28 HI0.out HI1.out HI2.out HI3.out rfl (by omega) (.slice (some ⟨w3.heap.size, 0, none⟩) 0 0) 0 [] rfl (OW0.out w3 (Nat.le_refl _)).drew (some ⟨bM, 0, none⟩) k (k + 1) (by intro h; cases h) ((M.take k).flatMap cell1) rfl (RD1.out _ (bel_new w3 _).drew) (cells1_one _) (by simp only [maxLen]; omega) (by omega) (by simp <;> omega) ?_; intro v4 w4 hown4 hgr4 _; rw [Nat.zero_add, List.nil_append] at hown4; obtain ⟨A4, c4, rfl⟩ := own_slice hown4; have HO4 := Lib.hid hown4; have hb4 : Below w3.heap.size w3 w4 := (bel_new w3 _).drew.grown hgr4 (by simp <;> omega) (by simp [Value.ownBlock]); have HB4 := Lib.hid hb4; clear hown4 hgr4 hb4)
            | (refine step_appendS rfl (.tmp 197) (.tmp 201) _ rfl w3.heap.size 35 i0 _ 3 24 Try.underlying28 HI0.out HI1.out HI2.out HI3.out rfl (by omega) (.slice A4 k c4) k _ rfl HO4.out (some ⟨bM, 0, none⟩) 0 0 (by intro h; cases h) [] rfl (RdS.nothing _ w3.heap.size _ 3) (by simp) (by simp only [maxLen]; omega) (by omega) HB4.out.size ?_; intro v5 w5 hown5 hgr5 _; obtain ⟨A5, c5, rfl⟩ := own_slice hown5; have HO5 := Lib.hid hown5; have hb5 : Below w3.heap.size w3 w5 := HB4.out.grown hgr5 HB4.out.size (fun k hk => (HO4.out.lt k hk).1); have HB5 := Lib.hid hb5; clear hown5 hgr5 hb5)))
          all_goals
            have hP5 := HP3.out.newM (N := M.take k ++ M.drop (k + 1)) HB5.out (by
              have e0 : M.drop (k + 1) = [] := List.drop_eq_nil_of_le (by rw [HM.out]; exact Nat.le_refl _)
              rw [e0, List.length_append, List.length_take, List.length_nil, HM.out, Nat.min_eq_left (by omega), List.flatMap_append]
              exact own_wider HO5.out (Nat.le_of_lt HP3.out.ar.base))
            have hx5 := HX3.out.kept_below HB5.out hlt3
            have y2 : w5.cell? ⟨wP.heap.size, 2, none⟩ = some (.int .i64 xc) := hx5.reads 2
            have HP5 := Lib.hid hP5
            clear hP5 hx5 HP3 HX3 HB4 HB5 HO4 HO5 RD1 RD2 OW0 q7 q8 q6
            go_wp2_with (at_builtin; refine Hid.out ?_)
            refine Lib.hid ?_
            have hP6 := HP5.out.carry (bel_new w5 (.cells #[.int .i64 xc] 3))
            have hf6 := hP6.f
            rw [HKF.out] at hf6
            have HB6 := Lib.hid (Nat.le_of_lt hP6.ar.base)
            refine wpList_append_own_at _ rfl (.tmp 203) (.tmp 206) _ rfl B 3 j0 _ 1 8 Try.underlying29 HJ0.out HJ1.out HJ2.out HJ3.out rfl (by omega) (.slice AF kF cF) kF _ rfl hf6 ⟨w5.heap.size, 0, none⟩ 1 1 [.int .i64 xc] rfl rfl (cells_new _ _ _ rfl) (plcs_one [xc]) (by simp only [maxLen]; omega) (by omega) HB6.out ?_
            intro v7 w7 hown7 hgr7 _ _
            have hP7 := hP6.grownF (G := xc :: F) (w' := w7) (v := v7) hgr7 (by
              rw [List.length_cons, HKF.out, List.reverse_cons]
              unfold plcs at hown7 ⊢
              rw [List.map_append]
              exact hown7)
            have HEND : Hid (PlJ w0 B g R C (.slice A5 k c5) v7 ((k : Int) + 1 + (kF : Int)) w7) := Lib.hid ⟨_, _, hP7, by rw [List.length_append, List.length_take, List.length_drop, HM.out, List.length_cons, HKF.out, Nat.min_eq_left (by omega)]; omega⟩
            clear hP6 hP7 hf6 hown7 hgr7 HP5 y2 HB6
            go_wp2_with fail
            exact HE.out _ _ _ _ HEND.out _ _ _ _ _ _ _ _ _ _ _ _ _ _ _ _ _ _ _ _ _ _ _ _ _ _ _ _ _ _ _ _ _ _ _ _ _ _ _ _ _ _ _ _ _ _ _ _ _ _ _ _ _ _ _ _ _ _ _ _ _ _ _ _ _ _ _ _ _ _ _ _ _ _ _ _ _ _ _ _ _ _ _ _ _ _ _ _ _ _ _ _ _ _ _ _ _ _ _ _ _ _ _ _ _ _ _ _ _ _ _ _ _ _ _ _ _ _ _ _ _ _ _ _ _ _ _ _ _ _ _ _
        · have q1 : (k : Int) + 1 ≤ (j : Int) := by omega
          have q2 : (j : Int) ≤ (cM : Int) := by omega
          have q3 : (0 : Int) ≤ (k : Int) := by omega
          have q4 : k ≤ cM := by omega
          have q5 : k + 1 ≤ j := by omega
          have q6 : (0 : Int) ≤ (k : Int) + 1 := by omega
          have q7 : IntKind.i64.wrap ((k : Int) + 1) = (k : Int) + 1 := by rw [IntKind.wrap_i64]; omega
          have q8 : ((k : Int) + 1).toNat = k + 1 := by omega
          go_wp2_with fail
          go_region_law ((first
            | (refine step_appendS rfl (.tmp 193) (.tmp 196) _ rfl w3.heap.size 35 i0 _ 3 24 Try.underlying28 HI0.out HI1.out HI2.out HI3.out rfl (by omega) (.slice (some ⟨w3.heap.size, 0, none⟩) 0 0) 0 [] rfl (OW0.out w3 (Nat.le_refl _)).drew (some ⟨bM, 0, none⟩) k cM (by intro h; cases h) ((M.take k).flatMap cell1) rfl (RD1.out _ (bel_new w3 _).drew) (cells1_one _) (by simp only [maxLen]; omega) (by omega) (by simp <;> omega) ?_; intro v4 w4 hown4 hgr4 _; rw [Nat.zero_add, List.nil_append] at hown4; obtain ⟨A4, c4, rfl⟩ := own_slice hown4; have HO4 := Lib.hid hown4; have hb4 : Below w3.heap.size w3 w4 := (bel_new w3 _).drew.grown hgr4 (by simp <;> omega) (by simp [Value.ownBlock]); have HB4 := Lib.hid hb4; clear hown4 hgr4 hb4)
            | (refine step_appendS rfl (.tmp 197) (.tmp 201) _ rfl w3.heap.size 35 i0 _ 3 24 Try.underlying28 HI0.out HI1.out HI2.out HI3.out rfl (by omega) (.slice A4 k c4) k _ rfl HO4.out (some ⟨bM, (k + 1) * 3, none⟩) (j - (k + 1)) (cM - (k + 1)) (by intro h; cases h) ((M.drop (k + 1)).flatMap cell1) rfl (RD2.out _ HB4.out) (cells1_one _) (by simp only [maxLen]; omega) (by omega) HB4.out.size ?_; intro v5 w5 hown5 hgr5 _; obtain ⟨A5, c5, rfl⟩ := own_slice hown5; have HO5 := Lib.hid hown5; have hb5 : Below w3.heap.size w3 w5 := HB4.out.grown hgr5 HB4.out.size (fun k hk => (HO4.out.lt k hk).1); have HB5 := Lib.hid hb5; clear hown5 hgr5 hb5)))
          all_goals
            have hP5 := HP3.out.newM (N := M.take k ++ M.drop (k + 1)) HB5.out (by
              rw [List.length_append, List.length_take, List.length_drop, HM.out, Nat.min_eq_left (by omega), List.flatMap_append]
              exact own_wider HO5.out (Nat.le_of_lt HP3.out.ar.base))
            have hx5 := HX3.out.kept_below HB5.out hlt3
            have y2 : w5.cell? ⟨wP.heap.size, 2, none⟩ = some (.int .i64 xc) := hx5.reads 2
            have HP5 := Lib.hid hP5
            clear hP5 hx5 HP3 HX3 HB4 HB5 HO4 HO5 RD1 RD2 OW0 q7 q8 q6
            go_wp2_with (at_builtin; refine Hid.out ?_)
            refine Lib.hid ?_
            have hP6 := HP5.out.carry (bel_new w5 (.cells #[.int .i64 xc] 3))
            have hf6 := hP6.f
            rw [HKF.out] at hf6
            have HB6 := Lib.hid (Nat.le_of_lt hP6.ar.base)
            refine wpList_append_own_at _ rfl (.tmp 203) (.tmp 206) _ rfl B 3 j0 _ 1 8 Try.underlying29 HJ0.out HJ1.out HJ2.out HJ3.out rfl (by omega) (.slice AF kF cF) kF _ rfl hf6 ⟨w5.heap.size, 0, none⟩ 1 1 [.int .i64 xc] rfl rfl (cells_new _ _ _ rfl) (plcs_one [xc]) (by simp only [maxLen]; omega) (by omega) HB6.out ?_
            intro v7 w7 hown7 hgr7 _ _
            have hP7 := hP6.grownF (G := xc :: F) (w' := w7) (v := v7) hgr7 (by
              rw [List.length_cons, HKF.out, List.reverse_cons]
              unfold plcs at hown7 ⊢
              rw [List.map_append]
              exact hown7)
            have HEND : Hid (PlJ w0 B g R C (.slice A5 (k + (j - (k + 1))) c5) v7 ((j : Int) + (kF : Int)) w7) := Lib.hid ⟨_, _, hP7, by rw [List.length_append, List.length_take, List.length_drop, HM.out, List.length_cons, HKF.out, Nat.min_eq_left (by omega)]; omega⟩
            clear hP6 hP7 hf6 hown7 hgr7 HP5 y2 HB6
            go_wp2_with fail
            exact HE.out _ _ _ _ HEND.out _ _ _ _ _ _ _ _ _ _ _ _ _ _ _ _ _ _ _ _ _ _ _ _ _ _ _ _ _ _ _ _ _ _ _ _ _ _ _ _ _ _ _ _ _ _ _ _ _ _ _ _ _ _ _ _ _ _ _ _ _ _ _ _ _ _ _ _ _ _ _ _ _ _ _ _ _ _ _ _ _ _ _ _ _ _ _ _ _ _ _ _ _ _ _ _ _ _ _ _ _ _ _ _ _ _ _ _ _ _ _ _ _ _ _ _ _ _ _ _ _ _ _ _ _ _ _ _ _ _ _ _
end Go.Proofs.Ytmgfeofkbblmjaa

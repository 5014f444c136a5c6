/- FifoPlays: a round of the play: a value in the cell that became free last. -/
import Derived.Test.YtmgfeofkbblmjaaFifPlM
import Derived.Test.YtmgfeofkbblmjaaFifAct
import Derived.Deep.RegionLaw
import Derived.Deep.RegionHeld3
import Derived.Test.YtmgfeofkbblmjaaFifPlS
set_option linter.unusedSimpArgs false
namespace Go.Proofs.Ytmgfeofkbblmjaa
open Go.RowKit Go.Mem1 Go.FifMath

set_option maxRecDepth 100000 in
set_option maxHeartbeats 4000000 in
/-- A value in the cell that became free last. -/
theorem round_again {A : Option Addr} {n cp R C g B i : Nat} {l : List Ac} {w w0 wr : World} {M : List (Nat × Nat × Int)} {c : Nat} {F : List Nat} {op row cl v : Int} {u10 u11 u6 u14 u15 u16 u17 u18 u19 u83 u84 u85 u86 u87 u88 u89 u90 u91 u92 u93 u94 u95 u96 u97 u98 u99 u100 u101 u102 u103 u104 u105 u106 u107 u108 u109 u110 u111 u112 u113 u114 u115 u116 u117 u118 u119 u120 u121 u122 u123 u124 u125 u126 u127 u128 u129 u130 u131 u132 u133 u134 u135 u136 u137 u138 u139 u140 u141 u142 u143 u144 u145 u146 u147 u148 u149 u150 u151 u152 u153 u154 u155 u156 u157 u158 u159 u160 u161 u162 u163 u164 u165 u166 u167 u168 u169 u170 u171 u172 u173 u174 u175 u176 u177 u178 u179 u180 u181 u182 u183 u184 u185 u186 u187 u188 u189 u190 u191 u192 u193 u194 u195 u196 u197 u198 u199 u200 u201 u202 u203 u204 u205 u206 u207 : Value} {Q : Exit → Act → World → Prop}
    (HA : Hid (Acts w w.heap.size A n l)) (hb0 : Hid (Below w.heap.size w w0)) (HW0 : Hid (w.heap.size ≤ B)) (hn : n ≤ 100) (hR1 : 1 ≤ R) (hR2 : R ≤ 20) (hC1 : 1 ≤ C) (hC2 : C ≤ 100) (hlt : i < n) (hP : PlB w0 B g R C u10 u11 M M (c :: F) (c :: F) wr) (hx : l[i]? = some ⟨op, row, cl, v⟩) (hop : op = 1) (hrow : 0 ≤ row ∧ row < (R : Int)) (hMC : M.length < C)
    (HE : Hid (∀ (v10 v11 : Value) (nx2 : Int) (w2 : World), PlJ w0 B g R C v10 v11 nx2 w2 → ∀ (u6 u14 u15 u16 u17 u18 u19 u83 u84 u85 u86 u87 u88 u89 u90 u91 u92 u93 u94 u95 u96 u97 u98 u99 u100 u101 u102 u103 u104 u105 u106 u107 u108 u109 u110 u111 u112 u113 u114 u115 u116 u117 u118 u119 u120 u121 u122 u123 u124 u125 u126 u127 u128 u129 u130 u131 u132 u133 u134 u135 u136 u137 u138 u139 u140 u141 u142 u143 u144 u145 u146 u147 u148 u149 u150 u151 u152 u153 u154 u155 u156 u157 u158 u159 u160 u161 u162 u163 u164 u165 u166 u167 u168 u169 u170 u171 u172 u173 u174 u175 u176 u177 u178 u179 u180 u181 u182 u183 u184 u185 u186 u187 u188 u189 u190 u191 u192 u193 u194 u195 u196 u197 u198 u199 u200 u201 u202 u203 u204 u205 u206 u207 : Value), Q Exit.normal ⟨#[Value.int IntKind.i64 (R : Int), Value.int IntKind.i64 (C : Int), Value.slice A n cp, undef, undef, undef, u6, Value.pointer (some ⟨g, 0, none⟩), Value.int IntKind.i64 0, Value.bool true, v10, v11, Value.int IntKind.i64 nx2, Value.int IntKind.i64 ((i : Int) + 1), u14, u15, u16, u17, u18, u19, undef, undef, undef, undef, undef, undef, undef, undef, Value.bool true, Value.bool false, Value.slice A n cp, Value.int IntKind.i64 (n : Int), Value.bool false, Value.bool false, Value.int IntKind.i64 (C : Int), Value.bool false, Value.bool false, undef, undef, Value.bool false, Value.bool false, Value.bool false, Value.int IntKind.i64 (R : Int), Value.bool false, Value.bool false, undef, undef, Value.bool false, Value.bool false, Value.tuple #[Value.pointer (some ⟨g, 0, none⟩), Value.int IntKind.i64 0], Value.int IntKind.i64 (R : Int), Value.int IntKind.i64 (C : Int), Value.tuple #[Value.pointer (some ⟨g, 0, none⟩), Value.int IntKind.i64 0], Value.pointer (some ⟨g, 0, none⟩), Value.int IntKind.i64 0, Value.int IntKind.i64 (R : Int), Value.bool true, Value.bool true, Value.int IntKind.i64 (R : Int), Value.bool true, Value.bool true, Value.bool true, Value.int IntKind.i64 (C : Int), Value.bool true, Value.bool true, Value.bool true, Value.int IntKind.i64 (C : Int), Value.bool true, Value.bool true, Value.int IntKind.i64 0, Value.bool true, Value.bool true, Value.bool false, Value.bool false, Value.pointer (some ⟨g, 0, none⟩), Value.bool true, Value.bool true, Value.bool false, Value.bool false, Value.bool true, Value.bool false, undef, undef, u83, u84, u85, u86, u87, u88, u89, u90, u91, u92, u93, u94, u95, u96, u97, u98, u99, u100, u101, u102, u103, u104, u105, u106, u107, u108, u109, u110, u111, u112, u113, u114, u115, u116, u117, u118, u119, u120, u121, u122, u123, u124, u125, u126, u127, u128, u129, u130, u131, u132, u133, u134, u135, u136, u137, u138, u139, u140, u141, u142, u143, u144, u145, u146, u147, u148, u149, u150, u151, u152, u153, u154, u155, u156, u157, u158, u159, u160, u161, u162, u163, u164, u165, u166, u167, u168, u169, u170, u171, u172, u173, u174, u175, u176, u177, u178, u179, u180, u181, u182, u183, u184, u185, u186, u187, u188, u189, u190, u191, u192, u193, u194, u195, u196, u197, u198, u199, u200, u201, u202, u203, u204, u205, u206, u207, undef, undef, undef, undef, undef, undef, undef, undef, undef, undef, undef, undef, undef, undef, undef, undef, undef, undef, undef, undef, undef, undef, undef, undef, undef, undef, undef, undef, undef, undef, undef, undef, undef, undef, undef, undef, undef, undef, undef, undef, undef, undef, undef, undef, undef, undef, undef, undef, undef, undef, undef, undef, undef, undef, undef, undef, undef, undef, undef, undef, undef, undef, undef, undef, undef, undef, undef, undef, undef, undef, undef, undef, undef, undef, undef, undef, undef, undef, undef, undef, undef, undef, undef, undef, undef, undef, undef, undef, undef, undef, undef, undef, undef, undef, undef, undef, undef, undef, undef, undef, undef, undef, undef, undef, undef, undef, undef, undef, undef, undef, undef, undef, undef, undef], []⟩ w2)) :
    Code.wp Try.prog (((Try.f3.body.map loopsOf).getD []).headD Code.skip) Q ⟨#[Value.int IntKind.i64 (R : Int), Value.int IntKind.i64 (C : Int), Value.slice A n cp, undef, undef, undef, u6, Value.pointer (some ⟨g, 0, none⟩), Value.int IntKind.i64 0, Value.bool true, u10, u11, Value.int IntKind.i64 ((M.length + (c :: F).length : Nat) : Int), Value.int IntKind.i64 (i : Int), u14, u15, u16, u17, u18, u19, undef, undef, undef, undef, undef, undef, undef, undef, Value.bool true, Value.bool false, Value.slice A n cp, Value.int IntKind.i64 (n : Int), Value.bool false, Value.bool false, Value.int IntKind.i64 (C : Int), Value.bool false, Value.bool false, undef, undef, Value.bool false, Value.bool false, Value.bool false, Value.int IntKind.i64 (R : Int), Value.bool false, Value.bool false, undef, undef, Value.bool false, Value.bool false, Value.tuple #[Value.pointer (some ⟨g, 0, none⟩), Value.int IntKind.i64 0], Value.int IntKind.i64 (R : Int), Value.int IntKind.i64 (C : Int), Value.tuple #[Value.pointer (some ⟨g, 0, none⟩), Value.int IntKind.i64 0], Value.pointer (some ⟨g, 0, none⟩), Value.int IntKind.i64 0, Value.int IntKind.i64 (R : Int), Value.bool true, Value.bool true, Value.int IntKind.i64 (R : Int), Value.bool true, Value.bool true, Value.bool true, Value.int IntKind.i64 (C : Int), Value.bool true, Value.bool true, Value.bool true, Value.int IntKind.i64 (C : Int), Value.bool true, Value.bool true, Value.int IntKind.i64 0, Value.bool true, Value.bool true, Value.bool false, Value.bool false, Value.pointer (some ⟨g, 0, none⟩), Value.bool true, Value.bool true, Value.bool false, Value.bool false, Value.bool true, Value.bool false, undef, undef, u83, u84, u85, u86, u87, u88, u89, u90, u91, u92, u93, u94, u95, u96, u97, u98, u99, u100, u101, u102, u103, u104, u105, u106, u107, u108, u109, u110, u111, u112, u113, u114, u115, u116, u117, u118, u119, u120, u121, u122, u123, u124, u125, u126, u127, u128, u129, u130, u131, u132, u133, u134, u135, u136, u137, u138, u139, u140, u141, u142, u143, u144, u145, u146, u147, u148, u149, u150, u151, u152, u153, u154, u155, u156, u157, u158, u159, u160, u161, u162, u163, u164, u165, u166, u167, u168, u169, u170, u171, u172, u173, u174, u175, u176, u177, u178, u179, u180, u181, u182, u183, u184, u185, u186, u187, u188, u189, u190, u191, u192, u193, u194, u195, u196, u197, u198, u199, u200, u201, u202, u203, u204, u205, u206, u207, undef, undef, undef, undef, undef, undef, undef, undef, undef, undef, undef, undef, undef, undef, undef, undef, undef, undef, undef, undef, undef, undef, undef, undef, undef, undef, undef, undef, undef, undef, undef, undef, undef, undef, undef, undef, undef, undef, undef, undef, undef, undef, undef, undef, undef, undef, undef, undef, undef, undef, undef, undef, undef, undef, undef, undef, undef, undef, undef, undef, undef, undef, undef, undef, undef, undef, undef, undef, undef, undef, undef, undef, undef, undef, undef, undef, undef, undef, undef, undef, undef, undef, undef, undef, undef, undef, undef, undef, undef, undef, undef, undef, undef, undef, undef, undef, undef, undef, undef, undef, undef, undef, undef, undef, undef, undef, undef, undef, undef, undef, undef, undef, undef, undef], []⟩ wr := by
  obtain ⟨i0, hi0, hz0, hz1, hz2⟩ := info_parts cell_info
  obtain ⟨j0, hj0, hy0, hy1, hy2⟩ := info_parts int_info
  have HI0 := Lib.hid hi0
  have HI1 := Lib.hid hz0
  have HI2 := Lib.hid hz1
  have HI3 := Lib.hid hz2
  have HJ0 := Lib.hid hj0
  have HJ1 := Lib.hid hy0
  have HJ2 := Lib.hid hy1
  have HJ3 := Lib.hid hy2
  clear hi0 hz0 hz1 hz2 hj0 hy0 hy1 hy2
  have hu := And.intro hR1 (And.intro hR2 (And.intro hC1 hC2))
  clear hu
  conv => arg 2; whnf
  obtain ⟨b, off, rfl, hbl, e0, e1, e2, e3⟩ := HA.out.at_ i _ hx
  have hwr : Below w.heap.size w wr := hb0.out.trans (hP.bel.mono HW0.out)
  have d0 := (hwr.cell (p := ⟨b, off + i * 4, none⟩) hbl).trans e0
  have d1 := (hwr.cell (p := ⟨b, off + i * 4 + 1, none⟩) hbl).trans e1
  have d2 := (hwr.cell (p := ⟨b, off + i * 4 + 2, none⟩) hbl).trans e2
  have d3 := (hwr.cell (p := ⟨b, off + i * 4 + 3, none⟩) hbl).trans e3
  dsimp only at d0 d1 d2 d3
  clear e0 e1 e2 e3 hx
  have hfew := hP.few
  have hP1 := hP.carry (bel_new wr (.cells #[.int .i64 op, .int .i64 row, .int .i64 cl, .int .i64 v] 31))
  have hX1 : Box (wr.alloc (.cells #[.int .i64 op, .int .i64 row, .int .i64 cl, .int .i64 v] 31)) wr.heap.size 31 #[.int .i64 op, .int .i64 row, .int .i64 cl, .int .i64 v] := Box.fresh wr _ _ rfl
  obtain ⟨AM, cM, rfl, hcM, hRM⟩ := hP.reads
  obtain ⟨AF, cF, rfl⟩ := own_slice hP.f
  obtain ⟨m, hm⟩ : ∃ m, M.length = m := ⟨_, rfl⟩
  have u0 : (op == 1) = true := by simpa using hop
  obtain ⟨rr, rfl⟩ : ∃ rr : Nat, row = rr := ⟨row.toNat, by omega⟩
  have hrr : rr < R := by omega
  have u1 : decide ((rr : Int) < 0) = false := by simp
  have u2 : decide (R ≤ rr) = false := by simp; omega
  have hbad := hrow
  have hfull := hMC
  have HPU := Lib.hid (hP1.push hrr hMC v)
  have u3 : decide (C ≤ m) = false := by rw [← hm]; simpa using hMC
  have hm2 : m < 100 := by omega
  have HM := Lib.hid hm
  have HX1 := Lib.hid hX1
  have hBw : B ≤ wr.heap.size := Nat.le_of_lt hP.ar.base
  have hnc : nextC M (c :: F) = c := rfl
  rw [hnc] at HPU
  obtain ⟨kF, hkF⟩ : ∃ kF, F.length = kF := ⟨_, rfl⟩
  have hnx : ((M.length + (c :: F).length : Nat) : Int) = (m : Int) + (kF : Int) + 1 := by rw [← hm, ← hkF]; simp <;> omega
  have hkF2 : kF < 100 := by rw [← hkF]; simp at hfew; omega
  obtain ⟨bF, cF', hvF, hq1, hcF, hq2⟩ := hP1.top
  clear hq1 hq2
  injection hvF with hvF1 hvF2 hvF3
  clear hvF2
  subst hvF1; subst hvF3
  rw [hnx, hm]
  simp only [List.length_cons, hkF]
  rw [hkF] at hcF
  have HKF := Lib.hid hkF
  clear hP hP1 hX1 hwr hRM hop hbad hfew hfull hMC hnx hm hnc hkF
  go_wp2_with (go_at_call 8; refine Hid.out ?_)
  refine Lib.hid ?_
  refine HPU.out.mono ?_
  rintro _ w2 ⟨rfl, hP2, hK2⟩
  have hx2 := hK2.boxes _ _ _ HX1.out (by decide) (by decide) (by decide)
  obtain ⟨bF', cF', hvF, hbF, hq1, hcell⟩ := hP2.top
  clear hq1
  injection hvF with hvF1 hvF2 hvF3
  clear hvF2
  injection hvF1 with hvF1
  injection hvF1 with hvF1
  subst hvF1; subst hvF3
  rw [HKF.out] at hcell
  have hRF := hP2.pop rfl
  rw [HKF.out] at hRF
  have HRF := Lib.hid hRF
  have HP2 := Lib.hid hP2
  have hlt2 := hx2.there
  have x1 : w2.cell? ⟨wr.heap.size, 1, none⟩ = some (.int .i64 rr) := hx2.reads 1
  have HX2 := Lib.hid hx2
  have z1 : decide ((0 : Int) < (kF : Int) + 1) = true := by simp
  clear hP2 hK2 hx2 HPU HX1 d0 d1 d2 d3 hRF
  go_wp2_with (at_builtin; refine Hid.out ?_)
  refine Lib.hid ?_
  refine wpList_appendS rfl (.tmp 142) (.tmp 147) _ rfl w2.heap.size 3 j0 _ 1 8 Try.underlying29 HJ0.out HJ1.out HJ2.out HJ3.out rfl (by omega) (.slice (some ⟨w2.heap.size, 0, none⟩) 0 0) 0 [] rfl (own_empty w2 _ _ _ (Nat.le_refl _)) (some ⟨bF, 0, none⟩) kF cF (by intro h; cases h) (plcs F.reverse) rfl (HRF.out.carry (bel_new w2 _)) (plcs_one _) (by simp only [maxLen]; omega) (by omega) (by simp) ?_
  intro v4 w4 hown4 hgr4 _
  have hb4 : Below w2.heap.size w2 w4 := (bel_new w2 _).grown hgr4 (by simp) (by simp [Value.ownBlock])
  rw [Nat.zero_add, List.nil_append] at hown4
  obtain ⟨A4, c4, rfl⟩ := own_slice hown4
  have hP4 := HP2.out.newF (G := F) hb4 (by rw [HKF.out]; exact own_wider hown4 (Nat.le_of_lt HP2.out.ar.base))
  have hx4 := HX2.out.kept_below hb4 hlt2
  have hlt4 := hx4.there
  have x1 : w4.cell? ⟨wr.heap.size, 1, none⟩ = some (.int .i64 rr) := hx4.reads 1
  have x3 : w4.cell? ⟨wr.heap.size, 3, none⟩ = some (.int .i64 v) := hx4.reads 3
  clear hown4 hgr4 hb4 HP2 HX2 HRF hcell z1 hbF hlt2
  have RDM := Lib.hid (fun W (hb : Below w4.heap.size w4 W) => (RdS.ofOwn hP4.m).carry hb)
  have HB2 : Hid (B ≤ w4.heap.size) := Lib.hid (Nat.le_of_lt hP4.ar.base)
  have HENDF := Lib.hid (fun (v7 : Value) (w7 : World) (hb : Below w4.heap.size w4 w7) (ho : w7.ownsRow w4.heap.size 35 3 v7 (m + 1) (M.flatMap cell1 ++ [.int .i64 c, .int .i64 rr, .int .i64 v])) => (⟨M ++ [(c, rr, v)], F, hP4.newM hb (by
    rw [List.length_append, HM.out, List.flatMap_append]
    exact own_wider ho (Nat.le_of_lt hP4.ar.base)), by rw [List.length_append, HM.out, HKF.out]; simp; omega⟩ : PlJ w0 B g R C v7 (.slice A4 kF c4) ((m : Int) + (kF : Int) + 1) w7))
  have KX := Lib.hid (fun W (hb : Below w4.heap.size w4 W) => (hb.cell (p := ⟨wr.heap.size, 1, none⟩) hlt4).trans x1)
  have KV := Lib.hid (fun W (hb : Below w4.heap.size w4 W) => (hb.cell (p := ⟨wr.heap.size, 3, none⟩) hlt4).trans x3)
  have OW0 := Lib.hid (fun W (h : w4.heap.size ≤ W.heap.size) => own_empty W 35 w4.heap.size 3 h)
  have BD := Lib.hid ((Below.refl w4.heap.size w4).drew)
  rw [HM.out] at RDM
  clear hP4 hx4
  go_wp2_with fail
  go_region_held3 (fun w' => w'.cell? ⟨wr.heap.size, 1, none⟩ = some (.int .i64 rr) ∧ w'.cell? ⟨wr.heap.size, 3, none⟩ = some (.int .i64 v)) (first | go_keep | exact ⟨x1, x3⟩ | exact ⟨y1, y3⟩ | exact ⟨KX.out _ HB7.out, KV.out _ HB7.out⟩) ((first
    | (refine step_appendS rfl (.tmp 158) (.tmp 159) _ rfl w4.heap.size 35 i0 _ 3 24 Try.underlying28 HI0.out HI1.out HI2.out HI3.out rfl (by omega) (.slice (some ⟨_, 0, none⟩) 0 0) 0 [] rfl (by first | exact (OW0.out w4 (Nat.le_refl _)).drew | exact (own_alloc (OW0.out w4 (Nat.le_refl _)) _).drew | exact (own_empty_at (w4.alloc _) _ _ _ _ (by simp) (by simp)).drew) AM m cM hcM (M.flatMap cell1) rfl (RDM.out _ (by first | exact (bel_new w4 _).drew | exact (bel_alloc (bel_new w4 _) _).drew)) (cells1_one M) (by simp only [maxLen]; omega) (by omega) (by simp <;> omega) ?_; intro v3 w3 hown3 hgr3 _; rw [Nat.zero_add, List.nil_append] at hown3; obtain ⟨A3, c3, rfl⟩ := own_slice hown3; have HO3 := Lib.hid hown3; have hb3 : Below w4.heap.size w4 w3 := (by first | exact (bel_new w4 _).drew.grown hgr3 (by simp <;> omega) (by simp [Value.ownBlock] <;> omega) | exact (bel_alloc (bel_new w4 _) _).drew.grown hgr3 (by simp <;> omega) (by simp [Value.ownBlock] <;> omega)); (try (have HX3 := Lib.hid (cells_grown (l := [.int .i64 c, .int .i64 rr, .int .i64 v]) (by first | exact cells_drew (cells_new (w4.alloc (.cells #[] 35)) [.int .i64 c, .int .i64 rr, .int .i64 v] _ (g := w4.heap.size + 1) (by simp)) | exact cells_drew (cells_new2 w4 [.int .i64 c, .int .i64 rr, .int .i64 v] _ _)) hgr3 (by simp)))); have y1 := (hb3.cell (p := ⟨wr.heap.size, 1, none⟩) hlt4).trans x1; have y3 := (hb3.cell (p := ⟨wr.heap.size, 3, none⟩) hlt4).trans x3; have HB3 := Lib.hid hb3; clear hown3 hgr3 hb3)
    | (refine step_append_at rfl (.tmp 160) (.tmp 167) _ rfl w4.heap.size 35 i0 _ 3 24 Try.underlying28 HI0.out HI1.out HI2.out HI3.out rfl (by omega) (.slice A3 m c3) m _ rfl (by first | exact HO3.out | exact own_alloc HO3.out _) ⟨_, 0, none⟩ 1 1 [.int .i64 c, .int .i64 rr, .int .i64 v] rfl rfl (by first | exact cells_new _ _ _ rfl | exact HX3.out) (cell1_one (c, rr, v)) (by simp only [maxLen]; omega) (by omega) (by have := HB3.out.size; simp; omega) ?_; intro v7 w7 hown7 hgr7 _; obtain ⟨A7, c7, rfl⟩ := own_slice hown7; have hb7 : Below w4.heap.size w4 w7 := (by first | exact (bel_alloc HB3.out _).grown hgr7 (by have := HB3.out.size; simp; omega) (fun k hk => (HO3.out.lt k hk).1) | exact HB3.out.grown hgr7 HB3.out.size (fun k hk => (HO3.out.lt k hk).1)); have HB7 := Lib.hid hb7; have HO7 := Lib.hid hown7; clear hown7 hgr7 hb7)
    ))
  all_goals
    have HEND := Lib.hid (HENDF.out _ _ HB7.out HO7.out)
    clear HENDF HB7 HO7 HB3 HO3 RDM y1 y3 x1 x3 KX KV
    go_wp2_with fail
    exact HE.out _ _ _ _ HEND.out _ _ _ _ _ _ _ _ _ _ _ _ _ _ _ _ _ _ _ _ _ _ _ _ _ _ _ _ _ _ _ _ _ _ _ _ _ _ _ _ _ _ _ _ _ _ _ _ _ _ _ _ _ _ _ _ _ _ _ _ _ _ _ _ _ _ _ _ _ _ _ _ _ _ _ _ _ _ _ _ _ _ _ _ _ _ _ _ _ _ _ _ _ _ _ _ _ _ _ _ _ _ _ _ _ _ _ _ _ _ _ _ _ _ _ _ _ _ _ _ _ _ _ _ _ _ _ _ _ _ _ _
end Go.Proofs.Ytmgfeofkbblmjaa

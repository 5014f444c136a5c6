/- FifoPlays: a round of the play: a value that is refused. -/
import Derived.Test.YtmgfeofkbblmjaaFifPlM
import Derived.Test.YtmgfeofkbblmjaaFifAct
import Derived.Deep.RegionLaw
import Derived.Deep.RegionHeld3
import Derived.Test.YtmgfeofkbblmjaaFifPlS
set_option linter.unusedSimpArgs false
namespace Go.Proofs.Ytmgfeofkbblmjaa
open Go.RowKit Go.Mem1 Go.FifMath

set_option maxRecDepth 100000 in
set_option maxHeartbeats 4000000 in
/-- A value that is refused: of no row, or where all is taken. -/
theorem round_refused {A : Option Addr} {n cp R C g B i : Nat} {l : List Ac} {w w0 wr : World} {M : List (Nat × Nat × Int)} {F : List Nat} {op row cl v : Int} {u10 u11 u6 u14 u15 u16 u17 u18 u19 u83 u84 u85 u86 u87 u88 u89 u90 u91 u92 u93 u94 u95 u96 u97 u98 u99 u100 u101 u102 u103 u104 u105 u106 u107 u108 u109 u110 u111 u112 u113 u114 u115 u116 u117 u118 u119 u120 u121 u122 u123 u124 u125 u126 u127 u128 u129 u130 u131 u132 u133 u134 u135 u136 u137 u138 u139 u140 u141 u142 u143 u144 u145 u146 u147 u148 u149 u150 u151 u152 u153 u154 u155 u156 u157 u158 u159 u160 u161 u162 u163 u164 u165 u166 u167 u168 u169 u170 u171 u172 u173 u174 u175 u176 u177 u178 u179 u180 u181 u182 u183 u184 u185 u186 u187 u188 u189 u190 u191 u192 u193 u194 u195 u196 u197 u198 u199 u200 u201 u202 u203 u204 u205 u206 u207 : Value} {Q : Exit → Act → World → Prop}
    (HA : Hid (Acts w w.heap.size A n l)) (hb0 : Hid (Below w.heap.size w w0)) (HW0 : Hid (w.heap.size ≤ B)) (hn : n ≤ 100) (hR1 : 1 ≤ R) (hR2 : R ≤ 20) (hC1 : 1 ≤ C) (hC2 : C ≤ 100) (hlt : i < n) (hP : PlB w0 B g R C u10 u11 M M F F wr) (hx : l[i]? = some ⟨op, row, cl, v⟩) (hop : op = 1) (hno : ¬ ((0 ≤ row ∧ row < (R : Int)) ∧ M.length < C))
    (HE : Hid (∀ (v10 v11 : Value) (nx2 : Int) (w2 : World), PlJ w0 B g R C v10 v11 nx2 w2 → ∀ (u6 u14 u15 u16 u17 u18 u19 u83 u84 u85 u86 u87 u88 u89 u90 u91 u92 u93 u94 u95 u96 u97 u98 u99 u100 u101 u102 u103 u104 u105 u106 u107 u108 u109 u110 u111 u112 u113 u114 u115 u116 u117 u118 u119 u120 u121 u122 u123 u124 u125 u126 u127 u128 u129 u130 u131 u132 u133 u134 u135 u136 u137 u138 u139 u140 u141 u142 u143 u144 u145 u146 u147 u148 u149 u150 u151 u152 u153 u154 u155 u156 u157 u158 u159 u160 u161 u162 u163 u164 u165 u166 u167 u168 u169 u170 u171 u172 u173 u174 u175 u176 u177 u178 u179 u180 u181 u182 u183 u184 u185 u186 u187 u188 u189 u190 u191 u192 u193 u194 u195 u196 u197 u198 u199 u200 u201 u202 u203 u204 u205 u206 u207 : Value), Q Exit.normal ⟨#[Value.int IntKind.i64 (R : Int), Value.int IntKind.i64 (C : Int), Value.slice A n cp, undef, undef, undef, u6, Value.pointer (some ⟨g, 0, none⟩), Value.int IntKind.i64 0, Value.bool true, v10, v11, Value.int IntKind.i64 nx2, Value.int IntKind.i64 ((i : Int) + 1), u14, u15, u16, u17, u18, u19, undef, undef, undef, undef, undef, undef, undef, undef, Value.bool true, Value.bool false, Value.slice A n cp, Value.int IntKind.i64 (n : Int), Value.bool false, Value.bool false, Value.int IntKind.i64 (C : Int), Value.bool false, Value.bool false, undef, undef, Value.bool false, Value.bool false, Value.bool false, Value.int IntKind.i64 (R : Int), Value.bool false, Value.bool false, undef, undef, Value.bool false, Value.bool false, Value.tuple #[Value.pointer (some ⟨g, 0, none⟩), Value.int IntKind.i64 0], Value.int IntKind.i64 (R : Int), Value.int IntKind.i64 (C : Int), Value.tuple #[Value.pointer (some ⟨g, 0, none⟩), Value.int IntKind.i64 0], Value.pointer (some ⟨g, 0, none⟩), Value.int IntKind.i64 0, Value.int IntKind.i64 (R : Int), Value.bool true, Value.bool true, Value.int IntKind.i64 (R : Int), Value.bool true, Value.bool true, Value.bool true, Value.int IntKind.i64 (C : Int), Value.bool true, Value.bool true, Value.bool true, Value.int IntKind.i64 (C : Int), Value.bool true, Value.bool true, Value.int IntKind.i64 0, Value.bool true, Value.bool true, Value.bool false, Value.bool false, Value.pointer (some ⟨g, 0, none⟩), Value.bool true, Value.bool true, Value.bool false, Value.bool false, Value.bool true, Value.bool false, undef, undef, u83, u84, u85, u86, u87, u88, u89, u90, u91, u92, u93, u94, u95, u96, u97, u98, u99, u100, u101, u102, u103, u104, u105, u106, u107, u108, u109, u110, u111, u112, u113, u114, u115, u116, u117, u118, u119, u120, u121, u122, u123, u124, u125, u126, u127, u128, u129, u130, u131, u132, u133, u134, u135, u136, u137, u138, u139, u140, u141, u142, u143, u144, u145, u146, u147, u148, u149, u150, u151, u152, u153, u154, u155, u156, u157, u158, u159, u160, u161, u162, u163, u164, u165, u166, u167, u168, u169, u170, u171, u172, u173, u174, u175, u176, u177, u178, u179, u180, u181, u182, u183, u184, u185, u186, u187, u188, u189, u190, u191, u192, u193, u194, u195, u196, u197, u198, u199, u200, u201, u202, u203, u204, u205, u206, u207, undef, undef, undef, undef, undef, undef, undef, undef, undef, undef, undef, undef, undef, undef, undef, undef, undef, undef, undef, undef, undef, undef, undef, undef, undef, undef, undef, undef, undef, undef, undef, undef, undef, undef, undef, undef, undef, undef, undef, undef, undef, undef, undef, undef, undef, undef, undef, undef, undef, undef, undef, undef, undef, undef, undef, undef, undef, undef, undef, undef, undef, undef, undef, undef, undef, undef, undef, undef, undef, undef, undef, undef, undef, undef, undef, undef, undef, undef, undef, undef, undef, undef, undef, undef, undef, undef, undef, undef, undef, undef, undef, undef, undef, undef, undef, undef, undef, undef, undef, undef, undef, undef, undef, undef, undef, undef, undef, undef, undef, undef, undef, undef, undef, undef], []⟩ w2)) :
    Code.wp Try.prog (((Try.f3.body.map loopsOf).getD []).headD Code.skip) Q ⟨#[Value.int IntKind.i64 (R : Int), Value.int IntKind.i64 (C : Int), Value.slice A n cp, undef, undef, undef, u6, Value.pointer (some ⟨g, 0, none⟩), Value.int IntKind.i64 0, Value.bool true, u10, u11, Value.int IntKind.i64 ((M.length + F.length : Nat) : Int), Value.int IntKind.i64 (i : Int), u14, u15, u16, u17, u18, u19, undef, undef, undef, undef, undef, undef, undef, undef, Value.bool true, Value.bool false, Value.slice A n cp, Value.int IntKind.i64 (n : Int), Value.bool false, Value.bool false, Value.int IntKind.i64 (C : Int), Value.bool false, Value.bool false, undef, undef, Value.bool false, Value.bool false, Value.bool false, Value.int IntKind.i64 (R : Int), Value.bool false, Value.bool false, undef, undef, Value.bool false, Value.bool false, Value.tuple #[Value.pointer (some ⟨g, 0, none⟩), Value.int IntKind.i64 0], Value.int IntKind.i64 (R : Int), Value.int IntKind.i64 (C : Int), Value.tuple #[Value.pointer (some ⟨g, 0, none⟩), Value.int IntKind.i64 0], Value.pointer (some ⟨g, 0, none⟩), Value.int IntKind.i64 0, Value.int IntKind.i64 (R : Int), Value.bool true, Value.bool true, Value.int IntKind.i64 (R : Int), Value.bool true, Value.bool true, Value.bool true, Value.int IntKind.i64 (C : Int), Value.bool true, Value.bool true, Value.bool true, Value.int IntKind.i64 (C : Int), Value.bool true, Value.bool true, Value.int IntKind.i64 0, Value.bool true, Value.bool true, Value.bool false, Value.bool false, Value.pointer (some ⟨g, 0, none⟩), Value.bool true, Value.bool true, Value.bool false, Value.bool false, Value.bool true, Value.bool false, undef, undef, u83, u84, u85, u86, u87, u88, u89, u90, u91, u92, u93, u94, u95, u96, u97, u98, u99, u100, u101, u102, u103, u104, u105, u106, u107, u108, u109, u110, u111, u112, u113, u114, u115, u116, u117, u118, u119, u120, u121, u122, u123, u124, u125, u126, u127, u128, u129, u130, u131, u132, u133, u134, u135, u136, u137, u138, u139, u140, u141, u142, u143, u144, u145, u146, u147, u148, u149, u150, u151, u152, u153, u154, u155, u156, u157, u158, u159, u160, u161, u162, u163, u164, u165, u166, u167, u168, u169, u170, u171, u172, u173, u174, u175, u176, u177, u178, u179, u180, u181, u182, u183, u184, u185, u186, u187, u188, u189, u190, u191, u192, u193, u194, u195, u196, u197, u198, u199, u200, u201, u202, u203, u204, u205, u206, u207, undef, undef, undef, undef, undef, undef, undef, undef, undef, undef, undef, undef, undef, undef, undef, undef, undef, undef, undef, undef, undef, undef, undef, undef, undef, undef, undef, undef, undef, undef, undef, undef, undef, undef, undef, undef, undef, undef, undef, undef, undef, undef, undef, undef, undef, undef, undef, undef, undef, undef, undef, undef, undef, undef, undef, undef, undef, undef, undef, undef, undef, undef, undef, undef, undef, undef, undef, undef, undef, undef, undef, undef, undef, undef, undef, undef, undef, undef, undef, undef, undef, undef, undef, undef, undef, undef, undef, undef, undef, undef, undef, undef, undef, undef, undef, undef, undef, undef, undef, undef, undef, undef, undef, undef, undef, undef, undef, undef, undef, undef, undef, undef, undef, undef], []⟩ wr := by
  obtain ⟨i0, hi0, hz0, hz1, hz2⟩ := info_parts cell_info
  obtain ⟨j0, hj0, hy0, hy1, hy2⟩ := info_parts int_info
  have HI0 := Lib.hid hi0
  have HI1 := Lib.hid hz0
  have HI2 := Lib.hid hz1
  have HI3 := Lib.hid hz2
  have HJ0 := Lib.hid hj0
  have HJ1 := Lib.hid hy0
  have HJ2 := Lib.hid hy1
  have HJ3 := Lib.hid hy2
  clear hi0 hz0 hz1 hz2 hj0 hy0 hy1 hy2
  have hu := And.intro hR1 (And.intro hR2 (And.intro hC1 hC2))
  clear hu
  conv => arg 2; whnf
  obtain ⟨b, off, rfl, hbl, e0, e1, e2, e3⟩ := HA.out.at_ i _ hx
  have hwr : Below w.heap.size w wr := hb0.out.trans (hP.bel.mono HW0.out)
  have d0 := (hwr.cell (p := ⟨b, off + i * 4, none⟩) hbl).trans e0
  have d1 := (hwr.cell (p := ⟨b, off + i * 4 + 1, none⟩) hbl).trans e1
  have d2 := (hwr.cell (p := ⟨b, off + i * 4 + 2, none⟩) hbl).trans e2
  have d3 := (hwr.cell (p := ⟨b, off + i * 4 + 3, none⟩) hbl).trans e3
  dsimp only at d0 d1 d2 d3
  clear e0 e1 e2 e3 hx
  have hfew := hP.few
  have hP1 := hP.carry (bel_new wr (.cells #[.int .i64 op, .int .i64 row, .int .i64 cl, .int .i64 v] 31))
  have hX1 : Box (wr.alloc (.cells #[.int .i64 op, .int .i64 row, .int .i64 cl, .int .i64 v] 31)) wr.heap.size 31 #[.int .i64 op, .int .i64 row, .int .i64 cl, .int .i64 v] := Box.fresh wr _ _ rfl
  obtain ⟨AM, cM, rfl, hcM, hRM⟩ := hP.reads
  obtain ⟨AF, cF, rfl⟩ := own_slice hP.f
  obtain ⟨m, hm⟩ : ∃ m, M.length = m := ⟨_, rfl⟩
  have u0 : (op == 1) = true := by simpa using hop
  by_cases hbad : row < 0 ∨ (R : Int) ≤ row
  · have HPB := Lib.hid (hP1.push_bad hbad v)
    have HEND : Hid (PlJ w0 B g R C (.slice AM M.length cM) (.slice AF F.length cF) ((M.length + F.length : Nat) : Int) (wr.alloc (.cells #[.int .i64 op, .int .i64 row, .int .i64 cl, .int .i64 v] 31))) := Lib.hid ⟨M, F, hP1, rfl⟩
    by_cases hneg : row < 0
    · have u1 : decide (row < 0) = true := by simpa using hneg
      clear hP hP1 hX1 hwr hRM hcM hm hop hbad hneg hfew
      go_wp2_with (go_at_call 8; refine HPB.out.mono ?_; rintro _ _ ⟨rfl, rfl⟩)
      exact HE.out _ _ _ _ HEND.out _ _ _ _ _ _ _ _ _ _ _ _ _ _ _ _ _ _ _ _ _ _ _ _ _ _ _ _ _ _ _ _ _ _ _ _ _ _ _ _ _ _ _ _ _ _ _ _ _ _ _ _ _ _ _ _ _ _ _ _ _ _ _ _ _ _ _ _ _ _ _ _ _ _ _ _ _ _ _ _ _ _ _ _ _ _ _ _ _ _ _ _ _ _ _ _ _ _ _ _ _ _ _ _ _ _ _ _ _ _ _ _ _ _ _ _ _ _ _ _ _ _ _ _ _ _ _ _ _ _ _ _
    · have u1 : decide (row < 0) = false := by simpa using hneg
      have u2 : decide ((R : Int) ≤ row) = true := by simp; omega
      clear hP hP1 hX1 hwr hRM hcM hm hop hbad hneg hfew
      go_wp2_with (go_at_call 8; refine HPB.out.mono ?_; rintro _ _ ⟨rfl, rfl⟩)
      exact HE.out _ _ _ _ HEND.out _ _ _ _ _ _ _ _ _ _ _ _ _ _ _ _ _ _ _ _ _ _ _ _ _ _ _ _ _ _ _ _ _ _ _ _ _ _ _ _ _ _ _ _ _ _ _ _ _ _ _ _ _ _ _ _ _ _ _ _ _ _ _ _ _ _ _ _ _ _ _ _ _ _ _ _ _ _ _ _ _ _ _ _ _ _ _ _ _ _ _ _ _ _ _ _ _ _ _ _ _ _ _ _ _ _ _ _ _ _ _ _ _ _ _ _ _ _ _ _ _ _ _ _ _ _ _ _ _ _ _ _
  · obtain ⟨rr, rfl⟩ : ∃ rr : Nat, row = rr := ⟨row.toNat, by omega⟩
    have hrr : rr < R := by omega
    have u1 : decide ((rr : Int) < 0) = false := by simp
    have u2 : decide (R ≤ rr) = false := by simp; omega
    by_cases hfull : C ≤ M.length
    · have HPB := Lib.hid (hP1.push_full (row := rr) (by omega) (by omega) hfull v)
      have HEND : Hid (PlJ w0 B g R C (.slice AM M.length cM) (.slice AF F.length cF) ((M.length + F.length : Nat) : Int) (wr.alloc (.cells #[.int .i64 op, .int .i64 rr, .int .i64 cl, .int .i64 v] 31))) := Lib.hid ⟨M, F, hP1, rfl⟩
      have u3 : decide (C ≤ m) = true := by rw [← hm]; simpa using hfull
      rw [hm] at HEND ⊢
      clear hP hP1 hX1 hwr hRM hcM hm hop hbad hfew hfull
      go_wp2_with (go_at_call 8; refine HPB.out.mono ?_; rintro _ _ ⟨rfl, rfl⟩)
      exact HE.out _ _ _ _ HEND.out _ _ _ _ _ _ _ _ _ _ _ _ _ _ _ _ _ _ _ _ _ _ _ _ _ _ _ _ _ _ _ _ _ _ _ _ _ _ _ _ _ _ _ _ _ _ _ _ _ _ _ _ _ _ _ _ _ _ _ _ _ _ _ _ _ _ _ _ _ _ _ _ _ _ _ _ _ _ _ _ _ _ _ _ _ _ _ _ _ _ _ _ _ _ _ _ _ _ _ _ _ _ _ _ _ _ _ _ _ _ _ _ _ _ _ _ _ _ _ _ _ _ _ _ _ _ _ _ _ _ _ _
    · exact absurd ⟨by omega, by omega⟩ hno
end Go.Proofs.Ytmgfeofkbblmjaa

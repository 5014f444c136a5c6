/- LifePlays: a round: an order that is entered. -/
import Derived.Test.YtfidihmiadjpjaaLifPlM
import Derived.Test.YtfidihmiadjpjaaLifAct
import Derived.Deep.RegionLaw
import Derived.Deep.RegionHeld3
import Derived.Deep.QuietTactic
import Derived.BigQuiet
set_option linter.unusedSimpArgs false
namespace Go.Proofs.Ytfidihmiadjpjaa
open Go.RowKit Go.Mem1 Go.LifMath

set_option maxRecDepth 100000 in
set_option maxHeartbeats 4000000 in
/-- An order that is entered. -/
theorem round_enter {A : Option Addr} {n cp : Nat} {ow se si : Int} {l : List Ac} {w w0 wr : World} {g i : Nat} {L : List Ent} {op aow ase asi id q : Int} {u10 u8 u12 u13 u14 u15 u16 u32 u33 u34 u35 u36 u37 u38 u39 u40 u41 u42 u43 u44 u45 u46 u47 u48 u49 u50 u51 u52 u53 u54 u55 u56 u57 u58 u59 u60 u61 u62 u63 u64 u65 u66 u67 u68 u69 u70 u71 u72 u73 u74 u75 u76 u77 u78 u79 u80 u81 u82 u83 u84 u85 u86 u87 u88 u89 u90 u91 u92 u93 u94 u95 u96 u97 u98 u99 u100 u101 u102 u103 u104 u105 u106 u107 u108 u109 u110 u111 u112 u113 u114 u115 u116 u117 u118 u119 u120 u121 u122 u123 u124 u125 u126 u127 u128 u129 u130 u131 u132 u133 u134 u135 u136 u137 u138 u139 u140 u141 u142 u143 u144 u145 u146 u147 u148 u149 u150 u151 u152 u153 u154 u155 u156 u157 u158 u159 u160 u161 u162 u163 u164 u165 u166 u167 u168 u169 u170 u171 u172 u173 u174 u175 u176 u177 u178 u179 u180 u181 u182 u183 : Value} {F0 K0 : Act → World → Prop}
    (HA : Hid (Acts w w.heap.size A n l)) (hb0 : Hid (Below w.heap.size w w0)) (HW0 : Hid (w.heap.size ≤ g)) (hn : n ≤ 100) (hlt : i < n) (hP : PlE w0 g g u10 L L wr) (hLi : L.length ≤ i) (hx : l[i]? = some ⟨op, aow, ase, asi, id, q⟩) (hop : op = 1) (hq : 1 ≤ q ∧ q ≤ 1000000)
    (HE : Hid (∀ (v10 : Value) (w2 : World), PlJ w0 g g v10 (i + 1) w2 → ∀ (u8 u12 u13 u14 u15 u16 u32 u33 u34 u35 u36 u37 u38 u39 u40 u41 u42 u43 u44 u45 u46 u47 u48 u49 u50 u51 u52 u53 u54 u55 u56 u57 u58 u59 u60 u61 u62 u63 u64 u65 u66 u67 u68 u69 u70 u71 u72 u73 u74 u75 u76 u77 u78 u79 u80 u81 u82 u83 u84 u85 u86 u87 u88 u89 u90 u91 u92 u93 u94 u95 u96 u97 u98 u99 u100 u101 u102 u103 u104 u105 u106 u107 u108 u109 u110 u111 u112 u113 u114 u115 u116 u117 u118 u119 u120 u121 u122 u123 u124 u125 u126 u127 u128 u129 u130 u131 u132 u133 u134 u135 u136 u137 u138 u139 u140 u141 u142 u143 u144 u145 u146 u147 u148 u149 u150 u151 u152 u153 u154 u155 u156 u157 u158 u159 u160 u161 u162 u163 u164 u165 u166 u167 u168 u169 u170 u171 u172 u173 u174 u175 u176 u177 u178 u179 u180 u181 u182 u183 : Value), F0 ⟨#[Value.slice A n cp, Value.int IntKind.i64 ow, Value.int IntKind.i64 se, Value.int IntKind.i64 si, undef, undef, undef, undef, u8, Value.pointer (some ⟨g, 0, none⟩), v10, Value.int IntKind.i64 ((i : Int) + 1), u12, u13, u14, u15, u16, undef, undef, undef, undef, undef, undef, undef, undef, undef, Value.bool true, Value.bool false, Value.slice A n cp, Value.int IntKind.i64 (n : Int), Value.bool false, Value.pointer (some ⟨g, 0, none⟩), u32, u33, u34, u35, u36, u37, u38, u39, u40, u41, u42, u43, u44, u45, u46, u47, u48, u49, u50, u51, u52, u53, u54, u55, u56, u57, u58, u59, u60, u61, u62, u63, u64, u65, u66, u67, u68, u69, u70, u71, u72, u73, u74, u75, u76, u77, u78, u79, u80, u81, u82, u83, u84, u85, u86, u87, u88, u89, u90, u91, u92, u93, u94, u95, u96, u97, u98, u99, u100, u101, u102, u103, u104, u105, u106, u107, u108, u109, u110, u111, u112, u113, u114, u115, u116, u117, u118, u119, u120, u121, u122, u123, u124, u125, u126, u127, u128, u129, u130, u131, u132, u133, u134, u135, u136, u137, u138, u139, u140, u141, u142, u143, u144, u145, u146, u147, u148, u149, u150, u151, u152, u153, u154, u155, u156, u157, u158, u159, u160, u161, u162, u163, u164, u165, u166, u167, u168, u169, u170, u171, u172, u173, u174, u175, u176, u177, u178, u179, u180, u181, u182, u183, undef, undef, undef, undef, undef, undef, undef, undef, undef, undef, undef, undef, undef, undef, undef, undef, undef, undef, undef, undef, undef, undef, undef, undef, undef, undef, undef, undef, undef, undef, undef, undef, undef, undef, undef, undef, undef, undef, undef, undef, undef, undef, undef, undef, undef, undef, undef, undef, undef, undef, undef, undef, undef, undef, undef, undef, undef, undef, undef, undef, undef, undef, undef, undef, undef, undef, undef, undef, undef, undef, undef, undef, undef, undef, undef, undef, undef, undef, undef, undef, undef, undef, undef, undef, undef, undef, undef, undef, undef, undef, undef, undef, undef, undef, undef, undef, undef, undef, undef, undef, undef, undef, undef, undef, undef, undef, undef, undef, undef, undef, undef, undef, undef, undef, undef, undef, undef, undef, undef, undef, undef, undef, undef, undef, undef, undef, undef, undef, undef, undef, undef, undef, undef, undef, undef, undef, undef, undef, undef, undef, undef, undef, undef, undef, undef, undef, undef, undef, undef, undef, undef, undef, undef, undef, undef, undef, undef, undef, undef, undef, undef, undef, undef, undef, undef, undef, undef, undef, undef, undef, undef, undef, undef, undef, undef, undef, undef, undef, undef, undef, undef], []⟩ w2)) :
    Code.wp Try.prog (((Try.f3.body.map loopsOf).getD []).headD Code.skip) (Exit.then F0 (Exit.inBlock 0 (Exit.then K0 (bodyPost Try.prog Try.f3 (PTrue w))))) ⟨#[Value.slice A n cp, Value.int IntKind.i64 ow, Value.int IntKind.i64 se, Value.int IntKind.i64 si, undef, undef, undef, undef, u8, Value.pointer (some ⟨g, 0, none⟩), u10, Value.int IntKind.i64 (i : Int), u12, u13, u14, u15, u16, undef, undef, undef, undef, undef, undef, undef, undef, undef, Value.bool true, Value.bool false, Value.slice A n cp, Value.int IntKind.i64 (n : Int), Value.bool false, Value.pointer (some ⟨g, 0, none⟩), u32, u33, u34, u35, u36, u37, u38, u39, u40, u41, u42, u43, u44, u45, u46, u47, u48, u49, u50, u51, u52, u53, u54, u55, u56, u57, u58, u59, u60, u61, u62, u63, u64, u65, u66, u67, u68, u69, u70, u71, u72, u73, u74, u75, u76, u77, u78, u79, u80, u81, u82, u83, u84, u85, u86, u87, u88, u89, u90, u91, u92, u93, u94, u95, u96, u97, u98, u99, u100, u101, u102, u103, u104, u105, u106, u107, u108, u109, u110, u111, u112, u113, u114, u115, u116, u117, u118, u119, u120, u121, u122, u123, u124, u125, u126, u127, u128, u129, u130, u131, u132, u133, u134, u135, u136, u137, u138, u139, u140, u141, u142, u143, u144, u145, u146, u147, u148, u149, u150, u151, u152, u153, u154, u155, u156, u157, u158, u159, u160, u161, u162, u163, u164, u165, u166, u167, u168, u169, u170, u171, u172, u173, u174, u175, u176, u177, u178, u179, u180, u181, u182, u183, undef, undef, undef, undef, undef, undef, undef, undef, undef, undef, undef, undef, undef, undef, undef, undef, undef, undef, undef, undef, undef, undef, undef, undef, undef, undef, undef, undef, undef, undef, undef, undef, undef, undef, undef, undef, undef, undef, undef, undef, undef, undef, undef, undef, undef, undef, undef, undef, undef, undef, undef, undef, undef, undef, undef, undef, undef, undef, undef, undef, undef, undef, undef, undef, undef, undef, undef, undef, undef, undef, undef, undef, undef, undef, undef, undef, undef, undef, undef, undef, undef, undef, undef, undef, undef, undef, undef, undef, undef, undef, undef, undef, undef, undef, undef, undef, undef, undef, undef, undef, undef, undef, undef, undef, undef, undef, undef, undef, undef, undef, undef, undef, undef, undef, undef, undef, undef, undef, undef, undef, undef, undef, undef, undef, undef, undef, undef, undef, undef, undef, undef, undef, undef, undef, undef, undef, undef, undef, undef, undef, undef, undef, undef, undef, undef, undef, undef, undef, undef, undef, undef, undef, undef, undef, undef, undef, undef, undef, undef, undef, undef, undef, undef, undef, undef, undef, undef, undef, undef, undef, undef, undef, undef, undef, undef, undef, undef, undef, undef, undef, undef], []⟩ wr := by
  conv => arg 2; whnf
  obtain ⟨b, off, rfl, hbl, e0, e1, e2, e3, e4, e5⟩ := HA.out.at_ i _ hx
  have hwr : Below w.heap.size w wr := hb0.out.trans (hP.bel.mono HW0.out)
  have d0 := (hwr.cell (p := ⟨b, off + i * 6, none⟩) hbl).trans e0
  have d1 := (hwr.cell (p := ⟨b, off + i * 6 + 1, none⟩) hbl).trans e1
  have d2 := (hwr.cell (p := ⟨b, off + i * 6 + 2, none⟩) hbl).trans e2
  have d3 := (hwr.cell (p := ⟨b, off + i * 6 + 3, none⟩) hbl).trans e3
  have d4 := (hwr.cell (p := ⟨b, off + i * 6 + 4, none⟩) hbl).trans e4
  have d5 := (hwr.cell (p := ⟨b, off + i * 6 + 5, none⟩) hbl).trans e5
  dsimp only at d0 d1 d2 d3 d4 d5
  clear e0 e1 e2 e3 e4 e5 hx hwr
  obtain ⟨AM, cM, rfl⟩ := own_slice hP.m
  have hP1 := hP.carry (bel_new wr (.cells #[.int .i64 op, .int .i64 aow, .int .i64 ase, .int .i64 asi, .int .i64 id, .int .i64 q] 28))
  have hX1 : Box (wr.alloc (.cells #[.int .i64 op, .int .i64 aow, .int .i64 ase, .int .i64 asi, .int .i64 id, .int .i64 q] 28)) wr.heap.size 28 #[.int .i64 op, .int .i64 aow, .int .i64 ase, .int .i64 asi, .int .i64 id, .int .i64 q] := Box.fresh wr _ _ rfl
  obtain ⟨m, hm⟩ : ∃ m, L.length = m := ⟨_, rfl⟩
  have HM := Lib.hid hm
  rw [hm] at hLi ⊢
  obtain ⟨i0, hi0, hz0, hz1, hz2⟩ := info_parts entry_info
  have HI0 := Lib.hid hi0
  have HI1 := Lib.hid hz0
  have HI2 := Lib.hid hz1
  have HI3 := Lib.hid hz2
  have u0 : (op == 1) = true := by simpa using hop
  have u1 : decide (q < 1) = false := by simp; omega
  have u2 : decide ((1000000 : Int) < q) = false := by simp; omega
  have HPE := Lib.hid (PlE.enter (ow := aow) (se := ase) (si := asi) hP1 hq (by omega))
  rw [hm] at HPE
  have HX1 := Lib.hid hX1
  clear hi0 hz0 hz1 hz2 hP hP1 hX1 hm hop hq
  go_wp2_with (go_at_call 8; refine Hid.out ?_)
  refine Lib.hid ?_
  refine HPE.out.mono ?_
  rintro _ w2 ⟨rfl, hP2, hK2⟩
  have hx2 := hK2 _ _ _ HX1.out (by decide) (by decide)
  have x1 : w2.cell? ⟨wr.heap.size, 1, none⟩ = some (.int .i64 aow) := hx2.reads 1
  have x2 : w2.cell? ⟨wr.heap.size, 2, none⟩ = some (.int .i64 ase) := hx2.reads 2
  have x3 : w2.cell? ⟨wr.heap.size, 3, none⟩ = some (.int .i64 asi) := hx2.reads 3
  have x5 : w2.cell? ⟨wr.heap.size, 5, none⟩ = some (.int .i64 q) := hx2.reads 5
  have HO2 := Lib.hid (fun o => (hP2.carry (bel_new w2 o)).m)
  rw [HM.out] at HO2
  have HB2 : Hid (g ≤ w2.heap.size) := Lib.hid (Nat.le_of_lt hP2.base)
  have HEND := Lib.hid (fun (o : Obj) (v7 : Value) (w7 : World) (hg7 : (w2.alloc o).grownBy w7 (Value.slice AM m cM).ownBlock) (ho : w7.ownsRow g 33 7 v7 (m + 1) (L.flatMap ent1 ++ ent1 (newE aow ase asi q))) (hb : v7.ownBlock = (Value.slice AM m cM).ownBlock ∨ v7.ownBlock = some (w2.alloc o).heap.size) =>
    (⟨L ++ [newE aow ase asi q], (hP2.carry (bel_new w2 o)).grownM hg7 (by rw [List.length_append, HM.out, List.flatMap_append]; simpa using ho) hb, by rw [List.length_append, HM.out]; simp; omega⟩ : PlJ w0 g g v7 (i + 1) w7))
  clear hP2 hK2 hx2 HPE HX1 d0 d1 d2 d3 d4 d5
  go_wp2_with (at_builtin; refine Hid.out ?_)
  refine Lib.hid ?_
  refine wpList_append_own_at _ rfl (.tmp 72) (.tmp 84) _ rfl g 33 i0 _ 7 56 Try.underlying26 HI0.out HI1.out HI2.out HI3.out rfl (by omega) (.slice AM m cM) m _ rfl (HO2.out _) ⟨_, 0, none⟩ 1 1 [.int .i64 q, .int .i64 0, .int .i64 0, .int .i64 q, .int .i64 aow, .int .i64 ase, .int .i64 asi] rfl rfl (cells_new _ _ _ (by simp)) (ent1_one (newE aow ase asi q)) (by simp only [maxLen]; omega) (by omega) (by have := HB2.out; simp; omega) ?_
  intro v7 w7 hown7 hgr7 _ hbk7
  obtain ⟨A7, c7, rfl⟩ := own_slice hown7
  have HEND := Lib.hid (HEND.out _ _ _ hgr7 hown7 hbk7)
  clear hown7 hgr7 hbk7 HO2 x1 x2 x3 x5
  go_wp2_with fail
  exact HE.out _ _ HEND.out _ _ _ _ _ _ _ _ _ _ _ _ _ _ _ _ _ _ _ _ _ _ _ _ _ _ _ _ _ _ _ _ _ _ _ _ _ _ _ _ _ _ _ _ _ _ _ _ _ _ _ _ _ _ _ _ _ _ _ _ _ _ _ _ _ _ _ _ _ _ _ _ _ _ _ _ _ _ _ _ _ _ _ _ _ _ _ _ _ _ _ _ _ _ _ _ _ _ _ _ _ _ _ _ _ _ _ _ _ _ _ _ _ _ _ _ _ _ _ _ _ _ _ _ _ _ _ _ _ _ _ _ _ _ _ _ _ _ _ _ _ _ _ _ _ _ _ _ _ _ _ _ _ _ _ _ _ _
end Go.Proofs.Ytfidihmiadjpjaa

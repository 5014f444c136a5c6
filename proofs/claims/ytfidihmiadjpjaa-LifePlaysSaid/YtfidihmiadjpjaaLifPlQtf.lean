/- LifePlays: a round of the second loop. -/
import Derived.Test.YtfidihmiadjpjaaLifPlM
import Derived.Test.YtfidihmiadjpjaaLifRead
import Derived.Deep.RegionLaw
import Derived.Deep.RegionHeld3
import Derived.Deep.QuietTactic
import Derived.BigQuiet
set_option linter.unusedSimpArgs false
namespace Go.Proofs.Ytfidihmiadjpjaa
open Go.RowKit Go.Mem1 Go.LifMath

set_option maxRecDepth 100000 in
set_option maxHeartbeats 4000000 in
theorem asked_tf {A AM A5 : Option Addr} {i k m q cp cM c5 : Nat} {ow se si S en fi ca op xow xse xsi : Int} {w w0 wQ wr : World} {g : Nat} {L : List Ent} {u8 u12 u13 u14 u15 u16 u20 u21 u36 u37 u38 u39 u40 u41 u42 u43 u44 u45 u46 u47 u48 u49 u50 u51 u52 u53 u54 u55 u56 u57 u58 u59 u60 u61 u62 u63 u64 u65 u66 u67 u68 u69 u70 u71 u72 u73 u74 u75 u76 u77 u78 u79 u80 u81 u82 u83 u84 u85 u86 u87 u88 u89 u90 u91 u92 u93 u94 u95 u96 u97 u98 u99 u100 u101 u102 u103 u104 u105 u106 u107 u108 u109 u110 u111 u112 u113 u114 u115 u116 u117 u118 u119 u120 u121 u122 u123 u124 u125 u126 u127 u128 u129 u130 u131 u132 u133 u134 u135 u136 u137 u138 u139 u140 u141 u142 u143 u144 u145 u146 u147 u148 u149 u150 u151 u152 u153 u154 u155 u156 u157 u158 u159 u160 u161 u162 u163 u164 u165 u166 u167 u168 u169 u170 u171 u172 u173 u174 u175 u176 u177 u178 u179 u180 u181 u182 u183 u184 u185 u186 u187 u188 u189 u190 u191 u192 u193 u194 u195 u196 u197 u198 u199 u200 u201 u202 u203 u204 u205 u206 u207 u208 u209 u210 u211 u212 u213 u214 u215 u216 u217 u218 u219 u220 u221 u222 u223 u224 u225 u226 u227 u228 u229 u230 u231 u232 u233 u234 u235 u236 u237 u238 u239 u240 u241 u242 u243 u244 u245 u246 u247 u248 u249 u250 u251 u252 u253 u254 u255 u256 u257 u258 u259 u260 u261 u262 u263 u264 u265 u266 u267 u268 u269 u270 u271 u272 u273 u274 u275 u276 u277 u278 u279 u280 u281 u282 u283 u284 u285 u286 u287 u288 u289 u290 u291 u292 u293 u294 u295 u296 u297 u298 u299 u300 u301 u302 u303 u304 u305 u306 u307 u308 u309 u310 u311 : Value} {F0 K0 : Act → World → Prop}
    (HM : Hid (L.length = m)) (HP : Hid (PlE w0 g g (.slice AM m cM) L L wQ)) (hJ : Hid (OpenJ wQ ow L k (.slice A5 q c5) wr)) (hk : k < m) (hm100 : m ≤ 100) (HQ : Hid ((opens ow L k).length = q)) (hS : sumE se si L k = S) (hx : L[k]? = some ⟨en, fi, ca, op, xow, xse, xsi⟩) (o1 : (xow == ow) = true) (o2 : decide (0 < op) = false) 
    (HE : Hid (∀ (v17 : Value) (S2 : Int) (w2 : World), OpenJ wQ ow L (k + 1) v17 w2 → S2 = sumE se si L (k + 1) → ∀ (u8 u20 u21 u184 u185 u186 u187 u188 u189 u190 u191 u192 u193 u194 u195 u196 u197 u198 u199 u200 u201 u202 u203 u204 u205 u206 u207 u208 u209 u210 u211 u212 u213 u214 u215 u216 u217 u218 u219 u220 u221 u222 u223 u224 u225 u226 u227 u228 u229 u230 u231 u232 u233 u234 u235 u236 u237 u238 u239 u240 u241 u242 u243 u244 u245 u246 u247 u248 u249 u250 u251 u252 u253 u254 u255 u256 u257 u258 u259 u260 u261 u262 u263 u264 u265 u266 u267 u268 u269 u270 u271 u272 u273 u274 u275 u276 u277 u278 u279 u280 u281 u282 u283 u284 u285 u286 u287 u288 u289 u290 u291 u292 u293 u294 u295 u296 u297 u298 u299 u300 u301 u302 u303 u304 u305 u306 u307 u308 u309 u310 u311 : Value), F0 ⟨#[Value.slice A i cp, Value.int IntKind.i64 ow, Value.int IntKind.i64 se, Value.int IntKind.i64 si, undef, undef, undef, undef, u8, Value.pointer (some ⟨g, 0, none⟩), Value.slice AM m cM, Value.int IntKind.i64 (i : Int), u12, u13, u14, u15, u16, v17, Value.int IntKind.i64 S2, Value.int IntKind.i64 ((k : Int) + 1), u20, u21, undef, undef, undef, undef, Value.bool true, Value.bool false, Value.slice A i cp, Value.int IntKind.i64 (i : Int), Value.bool false, Value.pointer (some ⟨g, 0, none⟩), Value.int IntKind.i64 (i : Int), Value.slice A i cp, Value.int IntKind.i64 (i : Int), Value.bool false, u36, u37, u38, u39, u40, u41, u42, u43, u44, u45, u46, u47, u48, u49, u50, u51, u52, u53, u54, u55, u56, u57, u58, u59, u60, u61, u62, u63, u64, u65, u66, u67, u68, u69, u70, u71, u72, u73, u74, u75, u76, u77, u78, u79, u80, u81, u82, u83, u84, u85, u86, u87, u88, u89, u90, u91, u92, u93, u94, u95, u96, u97, u98, u99, u100, u101, u102, u103, u104, u105, u106, u107, u108, u109, u110, u111, u112, u113, u114, u115, u116, u117, u118, u119, u120, u121, u122, u123, u124, u125, u126, u127, u128, u129, u130, u131, u132, u133, u134, u135, u136, u137, u138, u139, u140, u141, u142, u143, u144, u145, u146, u147, u148, u149, u150, u151, u152, u153, u154, u155, u156, u157, u158, u159, u160, u161, u162, u163, u164, u165, u166, u167, u168, u169, u170, u171, u172, u173, u174, u175, u176, u177, u178, u179, u180, u181, u182, u183, u184, u185, u186, u187, u188, u189, u190, u191, u192, u193, u194, u195, u196, u197, u198, u199, u200, u201, u202, u203, u204, u205, u206, u207, u208, u209, u210, u211, u212, u213, u214, u215, u216, u217, u218, u219, u220, u221, u222, u223, u224, u225, u226, u227, u228, u229, u230, u231, u232, u233, u234, u235, u236, u237, u238, u239, u240, u241, u242, u243, u244, u245, u246, u247, u248, u249, u250, u251, u252, u253, u254, u255, u256, u257, u258, u259, u260, u261, u262, u263, u264, u265, u266, u267, u268, u269, u270, u271, u272, u273, u274, u275, u276, u277, u278, u279, u280, u281, u282, u283, u284, u285, u286, u287, u288, u289, u290, u291, u292, u293, u294, u295, u296, u297, u298, u299, u300, u301, u302, u303, u304, u305, u306, u307, u308, u309, u310, u311, undef, undef, undef, undef, undef, undef, undef, undef, undef, undef, undef, undef, undef, undef, undef, undef, undef, undef, undef, undef, undef, undef, undef, undef, undef, undef, undef, undef, undef, undef, undef, undef, undef, undef, undef, undef, undef, undef, undef, undef, undef, undef, undef, undef, undef, undef, undef, undef, undef, undef, undef, undef, undef], []⟩ w2)) :
    Code.wp Try.prog (((Try.f3.body.map loopsOf).getD []).drop 1 |>.headD Code.skip) (Exit.then F0 (Exit.inBlock 3 (Exit.then K0 (bodyPost Try.prog Try.f3 (PTrue w))))) ⟨#[Value.slice A i cp, Value.int IntKind.i64 ow, Value.int IntKind.i64 se, Value.int IntKind.i64 si, undef, undef, undef, undef, u8, Value.pointer (some ⟨g, 0, none⟩), Value.slice AM m cM, Value.int IntKind.i64 (i : Int), u12, u13, u14, u15, u16, Value.slice A5 q c5, Value.int IntKind.i64 S, Value.int IntKind.i64 (k : Int), u20, u21, undef, undef, undef, undef, Value.bool true, Value.bool false, Value.slice A i cp, Value.int IntKind.i64 (i : Int), Value.bool false, Value.pointer (some ⟨g, 0, none⟩), Value.int IntKind.i64 (i : Int), Value.slice A i cp, Value.int IntKind.i64 (i : Int), Value.bool false, u36, u37, u38, u39, u40, u41, u42, u43, u44, u45, u46, u47, u48, u49, u50, u51, u52, u53, u54, u55, u56, u57, u58, u59, u60, u61, u62, u63, u64, u65, u66, u67, u68, u69, u70, u71, u72, u73, u74, u75, u76, u77, u78, u79, u80, u81, u82, u83, u84, u85, u86, u87, u88, u89, u90, u91, u92, u93, u94, u95, u96, u97, u98, u99, u100, u101, u102, u103, u104, u105, u106, u107, u108, u109, u110, u111, u112, u113, u114, u115, u116, u117, u118, u119, u120, u121, u122, u123, u124, u125, u126, u127, u128, u129, u130, u131, u132, u133, u134, u135, u136, u137, u138, u139, u140, u141, u142, u143, u144, u145, u146, u147, u148, u149, u150, u151, u152, u153, u154, u155, u156, u157, u158, u159, u160, u161, u162, u163, u164, u165, u166, u167, u168, u169, u170, u171, u172, u173, u174, u175, u176, u177, u178, u179, u180, u181, u182, u183, u184, u185, u186, u187, u188, u189, u190, u191, u192, u193, u194, u195, u196, u197, u198, u199, u200, u201, u202, u203, u204, u205, u206, u207, u208, u209, u210, u211, u212, u213, u214, u215, u216, u217, u218, u219, u220, u221, u222, u223, u224, u225, u226, u227, u228, u229, u230, u231, u232, u233, u234, u235, u236, u237, u238, u239, u240, u241, u242, u243, u244, u245, u246, u247, u248, u249, u250, u251, u252, u253, u254, u255, u256, u257, u258, u259, u260, u261, u262, u263, u264, u265, u266, u267, u268, u269, u270, u271, u272, u273, u274, u275, u276, u277, u278, u279, u280, u281, u282, u283, u284, u285, u286, u287, u288, u289, u290, u291, u292, u293, u294, u295, u296, u297, u298, u299, u300, u301, u302, u303, u304, u305, u306, u307, u308, u309, u310, u311, undef, undef, undef, undef, undef, undef, undef, undef, undef, undef, undef, undef, undef, undef, undef, undef, undef, undef, undef, undef, undef, undef, undef, undef, undef, undef, undef, undef, undef, undef, undef, undef, undef, undef, undef, undef, undef, undef, undef, undef, undef, undef, undef, undef, undef, undef, undef, undef, undef, undef, undef, undef, undef], []⟩ wr := by
  conv => arg 2; whnf
  obtain ⟨i0, hi0, hz0, hz1, hz2⟩ := info_parts i64_info
  have HI0 := Lib.hid hi0
  have HI1 := Lib.hid hz0
  have HI2 := Lib.hid hz1
  have HI3 := Lib.hid hz2
  clear hi0 hz0 hz1 hz2
  obtain ⟨hO, hB⟩ := hJ.out
  rw [HQ.out] at hO
  have HP4 := Lib.hid (HP.out.carry hB)
  obtain ⟨vE, hE⟩ := HP4.out.at_
  have HGET := Lib.hid (get_ok hE hx)
  obtain ⟨bM, cM', hvM, hbM, hcap, k0, k1, k2, k3, k4, k5, k6⟩ := HP.out.ent hx
  dsimp only at k0 k1 k2 k3 k4 k5 k6
  have KQ := Lib.hid (fun (w' : World) (hb : Below wQ.heap.size wQ w') => (⟨(hb.cell (p := ⟨bM, k * 7, none⟩) hbM).trans k0, (hb.cell (p := ⟨bM, k * 7 + 1, none⟩) hbM).trans k1, (hb.cell (p := ⟨bM, k * 7 + 2, none⟩) hbM).trans k2, (hb.cell (p := ⟨bM, k * 7 + 3, none⟩) hbM).trans k3, (hb.cell (p := ⟨bM, k * 7 + 4, none⟩) hbM).trans k4, (hb.cell (p := ⟨bM, k * 7 + 5, none⟩) hbM).trans k5, (hb.cell (p := ⟨bM, k * 7 + 6, none⟩) hbM).trans k6⟩ : World.cell? w' ⟨bM, k * 7, none⟩ = some (.int .i64 en) ∧ World.cell? w' ⟨bM, k * 7 + 1, none⟩ = some (.int .i64 fi) ∧ World.cell? w' ⟨bM, k * 7 + 2, none⟩ = some (.int .i64 ca) ∧ World.cell? w' ⟨bM, k * 7 + 3, none⟩ = some (.int .i64 op) ∧ World.cell? w' ⟨bM, k * 7 + 4, none⟩ = some (.int .i64 xow) ∧ World.cell? w' ⟨bM, k * 7 + 5, none⟩ = some (.int .i64 xse) ∧ World.cell? w' ⟨bM, k * 7 + 6, none⟩ = some (.int .i64 xsi)))
  have hSB := sum_bound (se := se) (si := si) HP4.out.fair k (by rw [HM.out]; omega)
  have hFx := HP4.out.fair _ (List.mem_of_getElem? hx)
  rw [HM.out] at hvM
  injection hvM with hvM1 hvM2 hvM3
  subst hvM1; subst hvM3
  clear hvM2 hE
  have hcs := opens_len ow L k
  rw [HQ.out] at hcs
  rw [hS] at hSB
  obtain ⟨x1, x2, x3, x4, x5⟩ := hFx
  dsimp only at x1 x2 x3 x4 x5
  obtain ⟨s0, s3⟩ := hSB
  have i1 : (0 : Int) ≤ (k : Int) := by omega
  have i2 : (k : Int) < (m : Int) := by omega
  have iw : wrap64 (k : Int) = (k : Int) := by unfold wrap64; omega
  have y1 : fi ≤ 1000000 := by omega
  have HOS := Lib.hid (opens_skip (ow := ow) hx (by unfold openE; rw [Bool.and_eq_false_iff]; exact .inr o2))
  have HST := Lib.hid (fun (h : ofE se si ⟨en, fi, ca, op, xow, xse, xsi⟩ = true) => sum_take hx h)
  have HSS := Lib.hid (fun (h : ofE se si ⟨en, fi, ca, op, xow, xse, xsi⟩ = false) => sum_skip hx h)
  rw [hS] at HST HSS
  have HO := Lib.hid hO
  have HBB := Lib.hid hB
  clear x1 x3 x4 x5 hcap hx hS hO hB hJ HP4 HP k0 k1 k2 k3 k4 k5 k6
  go_wp2_with (go_at_call 11; refine Hid.out ?_)
  refine Lib.hid ?_
  refine HGET.out.mono ?_
  rintro _ w4 ⟨rfl, hb4⟩
  unfold entV
  dsimp only
  have hbr : bM ≠ w4.heap.size := by have := HBB.out.size; have := hb4.size; omega
  have hB4 := HBB.out.trans (hb4.mono HBB.out.size)
  have hO4 := own_keep HO.out hb4
  obtain ⟨W5, hW5⟩ : ∃ W5, w4.alloc (.cells #[.int .i64 en, .int .i64 fi, .int .i64 ca, .int .i64 op, .int .i64 xow, .int .i64 xse, .int .i64 xsi] 33) = W5 := ⟨_, rfl⟩
  have hX5 : Box W5 w4.heap.size 33 #[.int .i64 en, .int .i64 fi, .int .i64 ca, .int .i64 op, .int .i64 xow, .int .i64 xse, .int .i64 xsi] := by rw [← hW5]; exact Box.fresh w4 _ _ rfl
  have x0 : W5.cell? ⟨w4.heap.size, 0, none⟩ = some (.int .i64 en) := hX5.reads 0
  have x1 : W5.cell? ⟨w4.heap.size, 1, none⟩ = some (.int .i64 fi) := hX5.reads 1
  have x3 : W5.cell? ⟨w4.heap.size, 2, none⟩ = some (.int .i64 ca) := hX5.reads 2
  have x4 : W5.cell? ⟨w4.heap.size, 3, none⟩ = some (.int .i64 op) := hX5.reads 3
  have x5 : W5.cell? ⟨w4.heap.size, 4, none⟩ = some (.int .i64 xow) := hX5.reads 4
  have x6 : W5.cell? ⟨w4.heap.size, 5, none⟩ = some (.int .i64 xse) := hX5.reads 5
  have x7 : W5.cell? ⟨w4.heap.size, 6, none⟩ = some (.int .i64 xsi) := hX5.reads 6
  have hB5 : Below wQ.heap.size wQ W5 := by rw [← hW5]; exact hB4.trans ((bel_new w4 _).mono hB4.size)
  have hO5 : W5.ownsRow wQ.heap.size 2 1 (.slice A5 q c5) q (nums (opens ow L k)) := by rw [← hW5]; exact own_alloc hO4 _
  obtain ⟨k0, k1, k2, k3, k4, k5, k6⟩ := KQ.out W5 hB5
  have HB5 := Lib.hid hB5
  have HO5 := Lib.hid hO5
  clear HGET HBB HO hb4 hB4 hO4 hX5 hB5 hO5
  go_wp2_with fail
  conv => arg 2; dsimp only [List.append]
  go_quiet (fail)
  obtain ⟨W6, hW6⟩ : ∃ W6, W5.drewN nq = W6 := ⟨_, rfl⟩
  have hB6 : Below wQ.heap.size wQ W6 := by rw [← hW6]; exact HB5.out.trans ⟨rfl, rfl, rfl, Nat.le_refl _, fun _ _ => rfl⟩
  have hs6 : wQ.heap.size ≤ W6.heap.size := hB6.size
  have hO6 : W6.ownsRow wQ.heap.size 2 1 (.slice A5 q c5) q (nums (opens ow L k)) := by rw [← hW6]; exact own_keep HO5.out ⟨rfl, rfl, rfl, Nat.le_refl _, fun _ _ => rfl⟩
  clear k0 k1 k2 k3 k4 k5 k6 x0 x1 x3 x4 x5 x6 x7
  obtain ⟨k0, k1, k2, k3, k4, k5, k6⟩ := KQ.out W6 hB6
  rw [hW6]
  have HK7 : Hid (OpenJ wQ ow L (k + 1) (.slice A5 q c5) W6) := Lib.hid ⟨by rw [HOS.out, HQ.out]; exact hO6, hB6⟩
  clear hW5 hW6 hB6 hs6 hO6 HB5 HO5
  cases s1 : (xse == se) with
  | true =>
    cases s2 : (xsi == si) with
    | true =>
      have HS2 := Lib.hid (HST.out (by unfold ofE; rw [Bool.and_eq_true]; exact ⟨s1, s2⟩))
      go_wp2_with fail
      exact HE.out _ _ _ HK7.out HS2.out.symm _ _ _ _ _ _ _ _ _ _ _ _ _ _ _ _ _ _ _ _ _ _ _ _ _ _ _ _ _ _ _ _ _ _ _ _ _ _ _ _ _ _ _ _ _ _ _ _ _ _ _ _ _ _ _ _ _ _ _ _ _ _ _ _ _ _ _ _ _ _ _ _ _ _ _ _ _ _ _ _ _ _ _ _ _ _ _ _ _ _ _ _ _ _ _ _ _ _ _ _ _ _ _ _ _ _ _ _ _ _ _ _ _ _ _ _ _ _ _ _ _ _ _ _ _ _ _ _ _ _ _
    | false =>
      have HS2 := Lib.hid (HSS.out (by unfold ofE; rw [Bool.and_eq_false_iff]; exact .inr s2))
      go_wp2_with fail
      exact HE.out _ _ _ HK7.out HS2.out.symm _ _ _ _ _ _ _ _ _ _ _ _ _ _ _ _ _ _ _ _ _ _ _ _ _ _ _ _ _ _ _ _ _ _ _ _ _ _ _ _ _ _ _ _ _ _ _ _ _ _ _ _ _ _ _ _ _ _ _ _ _ _ _ _ _ _ _ _ _ _ _ _ _ _ _ _ _ _ _ _ _ _ _ _ _ _ _ _ _ _ _ _ _ _ _ _ _ _ _ _ _ _ _ _ _ _ _ _ _ _ _ _ _ _ _ _ _ _ _ _ _ _ _ _ _ _ _ _ _ _ _
  | false =>
    have HS2 := Lib.hid (HSS.out (by unfold ofE; rw [Bool.and_eq_false_iff]; exact .inl s1))
    go_wp2_with fail
    exact HE.out _ _ _ HK7.out HS2.out.symm _ _ _ _ _ _ _ _ _ _ _ _ _ _ _ _ _ _ _ _ _ _ _ _ _ _ _ _ _ _ _ _ _ _ _ _ _ _ _ _ _ _ _ _ _ _ _ _ _ _ _ _ _ _ _ _ _ _ _ _ _ _ _ _ _ _ _ _ _ _ _ _ _ _ _ _ _ _ _ _ _ _ _ _ _ _ _ _ _ _ _ _ _ _ _ _ _ _ _ _ _ _ _ _ _ _ _ _ _ _ _ _ _ _ _ _ _ _ _ _ _ _ _ _ _ _ _ _ _ _ _
end Go.Proofs.Ytfidihmiadjpjaa

/- LifePlays: a round: too little. -/
import Derived.Test.YtfidihmiadjpjaaLifPlM
import Derived.Test.YtfidihmiadjpjaaLifAct
import Derived.Deep.RegionLaw
import Derived.Deep.RegionHeld3
import Derived.Deep.QuietTactic
import Derived.BigQuiet
set_option linter.unusedSimpArgs false
namespace Go.Proofs.Ytfidihmiadjpjaa
open Go.RowKit Go.Mem1 Go.LifMath

set_option maxRecDepth 100000 in
set_option maxHeartbeats 4000000 in
/-- Too little. -/
theorem round_few_fill {A : Option Addr} {n cp : Nat} {ow se si : Int} {l : List Ac} {w w0 wr : World} {g i : Nat} {L : List Ent} {op aow ase asi id q : Int} {k : Nat} {e : Ent} {u10 u8 u12 u13 u14 u15 u16 u32 u33 u34 u35 u36 u37 u38 u39 u40 u41 u42 u43 u44 u45 u46 u47 u48 u49 u50 u51 u52 u53 u54 u55 u56 u57 u58 u59 u60 u61 u62 u63 u64 u65 u66 u67 u68 u69 u70 u71 u72 u73 u74 u75 u76 u77 u78 u79 u80 u81 u82 u83 u84 u85 u86 u87 u88 u89 u90 u91 u92 u93 u94 u95 u96 u97 u98 u99 u100 u101 u102 u103 u104 u105 u106 u107 u108 u109 u110 u111 u112 u113 u114 u115 u116 u117 u118 u119 u120 u121 u122 u123 u124 u125 u126 u127 u128 u129 u130 u131 u132 u133 u134 u135 u136 u137 u138 u139 u140 u141 u142 u143 u144 u145 u146 u147 u148 u149 u150 u151 u152 u153 u154 u155 u156 u157 u158 u159 u160 u161 u162 u163 u164 u165 u166 u167 u168 u169 u170 u171 u172 u173 u174 u175 u176 u177 u178 u179 u180 u181 u182 u183 : Value} {F0 K0 : Act → World → Prop}
    (HA : Hid (Acts w w.heap.size A n l)) (hb0 : Hid (Below w.heap.size w w0)) (HW0 : Hid (w.heap.size ≤ g)) (hn : n ≤ 100) (hlt : i < n) (hP : PlE w0 g g u10 L L wr) (hLi : L.length ≤ i) (hx : l[i]? = some ⟨op, aow, ase, asi, id, q⟩) (hop : op = 2) (hk : L[k]? = some e) (hid : id = (k : Int) + 1) (hq : q < 1)
    (HE : Hid (∀ (v10 : Value) (w2 : World), PlJ w0 g g v10 (i + 1) w2 → ∀ (u8 u12 u13 u14 u15 u16 u32 u33 u34 u35 u36 u37 u38 u39 u40 u41 u42 u43 u44 u45 u46 u47 u48 u49 u50 u51 u52 u53 u54 u55 u56 u57 u58 u59 u60 u61 u62 u63 u64 u65 u66 u67 u68 u69 u70 u71 u72 u73 u74 u75 u76 u77 u78 u79 u80 u81 u82 u83 u84 u85 u86 u87 u88 u89 u90 u91 u92 u93 u94 u95 u96 u97 u98 u99 u100 u101 u102 u103 u104 u105 u106 u107 u108 u109 u110 u111 u112 u113 u114 u115 u116 u117 u118 u119 u120 u121 u122 u123 u124 u125 u126 u127 u128 u129 u130 u131 u132 u133 u134 u135 u136 u137 u138 u139 u140 u141 u142 u143 u144 u145 u146 u147 u148 u149 u150 u151 u152 u153 u154 u155 u156 u157 u158 u159 u160 u161 u162 u163 u164 u165 u166 u167 u168 u169 u170 u171 u172 u173 u174 u175 u176 u177 u178 u179 u180 u181 u182 u183 : Value), F0 ⟨#[Value.slice A n cp, Value.int IntKind.i64 ow, Value.int IntKind.i64 se, Value.int IntKind.i64 si, undef, undef, undef, undef, u8, Value.pointer (some ⟨g, 0, none⟩), v10, Value.int IntKind.i64 ((i : Int) + 1), u12, u13, u14, u15, u16, undef, undef, undef, undef, undef, undef, undef, undef, undef, Value.bool true, Value.bool false, Value.slice A n cp, Value.int IntKind.i64 (n : Int), Value.bool false, Value.pointer (some ⟨g, 0, none⟩), u32, u33, u34, u35, u36, u37, u38, u39, u40, u41, u42, u43, u44, u45, u46, u47, u48, u49, u50, u51, u52, u53, u54, u55, u56, u57, u58, u59, u60, u61, u62, u63, u64, u65, u66, u67, u68, u69, u70, u71, u72, u73, u74, u75, u76, u77, u78, u79, u80, u81, u82, u83, u84, u85, u86, u87, u88, u89, u90, u91, u92, u93, u94, u95, u96, u97, u98, u99, u100, u101, u102, u103, u104, u105, u106, u107, u108, u109, u110, u111, u112, u113, u114, u115, u116, u117, u118, u119, u120, u121, u122, u123, u124, u125, u126, u127, u128, u129, u130, u131, u132, u133, u134, u135, u136, u137, u138, u139, u140, u141, u142, u143, u144, u145, u146, u147, u148, u149, u150, u151, u152, u153, u154, u155, u156, u157, u158, u159, u160, u161, u162, u163, u164, u165, u166, u167, u168, u169, u170, u171, u172, u173, u174, u175, u176, u177, u178, u179, u180, u181, u182, u183, undef, undef, undef, undef, undef, undef, undef, undef, undef, undef, undef, undef, undef, undef, undef, undef, undef, undef, undef, undef, undef, undef, undef, undef, undef, undef, undef, undef, undef, undef, undef, undef, undef, undef, undef, undef, undef, undef, undef, undef, undef, undef, undef, undef, undef, undef, undef, undef, undef, undef, undef, undef, undef, undef, undef, undef, undef, undef, undef, undef, undef, undef, undef, undef, undef, undef, undef, undef, undef, undef, undef, undef, undef, undef, undef, undef, undef, undef, undef, undef, undef, undef, undef, undef, undef, undef, undef, undef, undef, undef, undef, undef, undef, undef, undef, undef, undef, undef, undef, undef, undef, undef, undef, undef, undef, undef, undef, undef, undef, undef, undef, undef, undef, undef, undef, undef, undef, undef, undef, undef, undef, undef, undef, undef, undef, undef, undef, undef, undef, undef, undef, undef, undef, undef, undef, undef, undef, undef, undef, undef, undef, undef, undef, undef, undef, undef, undef, undef, undef, undef, undef, undef, undef, undef, undef, undef, undef, undef, undef, undef, undef, undef, undef, undef, undef, undef, undef, undef, undef, undef, undef, undef, undef, undef, undef, undef, undef, undef, undef, undef, undef], []⟩ w2)) :
    Code.wp Try.prog (((Try.f3.body.map loopsOf).getD []).headD Code.skip) (Exit.then F0 (Exit.inBlock 0 (Exit.then K0 (bodyPost Try.prog Try.f3 (PTrue w))))) ⟨#[Value.slice A n cp, Value.int IntKind.i64 ow, Value.int IntKind.i64 se, Value.int IntKind.i64 si, undef, undef, undef, undef, u8, Value.pointer (some ⟨g, 0, none⟩), u10, Value.int IntKind.i64 (i : Int), u12, u13, u14, u15, u16, undef, undef, undef, undef, undef, undef, undef, undef, undef, Value.bool true, Value.bool false, Value.slice A n cp, Value.int IntKind.i64 (n : Int), Value.bool false, Value.pointer (some ⟨g, 0, none⟩), u32, u33, u34, u35, u36, u37, u38, u39, u40, u41, u42, u43, u44, u45, u46, u47, u48, u49, u50, u51, u52, u53, u54, u55, u56, u57, u58, u59, u60, u61, u62, u63, u64, u65, u66, u67, u68, u69, u70, u71, u72, u73, u74, u75, u76, u77, u78, u79, u80, u81, u82, u83, u84, u85, u86, u87, u88, u89, u90, u91, u92, u93, u94, u95, u96, u97, u98, u99, u100, u101, u102, u103, u104, u105, u106, u107, u108, u109, u110, u111, u112, u113, u114, u115, u116, u117, u118, u119, u120, u121, u122, u123, u124, u125, u126, u127, u128, u129, u130, u131, u132, u133, u134, u135, u136, u137, u138, u139, u140, u141, u142, u143, u144, u145, u146, u147, u148, u149, u150, u151, u152, u153, u154, u155, u156, u157, u158, u159, u160, u161, u162, u163, u164, u165, u166, u167, u168, u169, u170, u171, u172, u173, u174, u175, u176, u177, u178, u179, u180, u181, u182, u183, undef, undef, undef, undef, undef, undef, undef, undef, undef, undef, undef, undef, undef, undef, undef, undef, undef, undef, undef, undef, undef, undef, undef, undef, undef, undef, undef, undef, undef, undef, undef, undef, undef, undef, undef, undef, undef, undef, undef, undef, undef, undef, undef, undef, undef, undef, undef, undef, undef, undef, undef, undef, undef, undef, undef, undef, undef, undef, undef, undef, undef, undef, undef, undef, undef, undef, undef, undef, undef, undef, undef, undef, undef, undef, undef, undef, undef, undef, undef, undef, undef, undef, undef, undef, undef, undef, undef, undef, undef, undef, undef, undef, undef, undef, undef, undef, undef, undef, undef, undef, undef, undef, undef, undef, undef, undef, undef, undef, undef, undef, undef, undef, undef, undef, undef, undef, undef, undef, undef, undef, undef, undef, undef, undef, undef, undef, undef, undef, undef, undef, undef, undef, undef, undef, undef, undef, undef, undef, undef, undef, undef, undef, undef, undef, undef, undef, undef, undef, undef, undef, undef, undef, undef, undef, undef, undef, undef, undef, undef, undef, undef, undef, undef, undef, undef, undef, undef, undef, undef, undef, undef, undef, undef, undef, undef, undef, undef, undef, undef, undef, undef], []⟩ wr := by
  conv => arg 2; whnf
  obtain ⟨b, off, rfl, hbl, e0, e1, e2, e3, e4, e5⟩ := HA.out.at_ i _ hx
  have hwr : Below w.heap.size w wr := hb0.out.trans (hP.bel.mono HW0.out)
  have d0 := (hwr.cell (p := ⟨b, off + i * 6, none⟩) hbl).trans e0
  have d1 := (hwr.cell (p := ⟨b, off + i * 6 + 1, none⟩) hbl).trans e1
  have d2 := (hwr.cell (p := ⟨b, off + i * 6 + 2, none⟩) hbl).trans e2
  have d3 := (hwr.cell (p := ⟨b, off + i * 6 + 3, none⟩) hbl).trans e3
  have d4 := (hwr.cell (p := ⟨b, off + i * 6 + 4, none⟩) hbl).trans e4
  have d5 := (hwr.cell (p := ⟨b, off + i * 6 + 5, none⟩) hbl).trans e5
  dsimp only at d0 d1 d2 d3 d4 d5
  clear e0 e1 e2 e3 e4 e5 hx hwr
  obtain ⟨AM, cM, rfl⟩ := own_slice hP.m
  have hP1 := hP.carry (bel_new wr (.cells #[.int .i64 op, .int .i64 aow, .int .i64 ase, .int .i64 asi, .int .i64 id, .int .i64 q] 28))
  have hX1 : Box (wr.alloc (.cells #[.int .i64 op, .int .i64 aow, .int .i64 ase, .int .i64 asi, .int .i64 id, .int .i64 q] 28)) wr.heap.size 28 #[.int .i64 op, .int .i64 aow, .int .i64 ase, .int .i64 asi, .int .i64 id, .int .i64 q] := Box.fresh wr _ _ rfl
  obtain ⟨m, hm⟩ : ∃ m, L.length = m := ⟨_, rfl⟩
  have HM := Lib.hid hm
  rw [hm] at hLi ⊢
  have u0 : (op == 1) = false := by subst hop; rfl
  have u00 : (op == 2) = true := by subst hop; rfl
  subst hid
  have hkm : k < m := by rw [← hm]; exact at_lt hk
  obtain ⟨vE, hE⟩ := hP1.at_
  have HC := Lib.hid (fill_bad_qty hE hk (q := q) (by simp; omega))
  obtain ⟨bM, cM', hvM, hbM, hcap, k0, k1, k2, k3, k4, k5, k6⟩ := hP1.ent hk
  rw [hm] at hvM
  injection hvM with hvM1 hvM2 hvM3
  subst hvM1; subst hvM3
  clear hvM2
  have HEND := Lib.hid (fun nq => (⟨L, by rw [← hm]; exact hP1.carry ⟨rfl, rfl, rfl, Nat.le_refl _, fun _ _ => rfl⟩, by omega⟩ : PlJ w0 g g (.slice (some ⟨bM, 0, none⟩) m cM) (i + 1) ((wr.alloc (.cells #[.int .i64 op, .int .i64 aow, .int .i64 ase, .int .i64 asi, .int .i64 ((k : Int) + 1), .int .i64 q] 28)).drewN nq)))
  have u1 : decide ((k : Int) + 1 < 1) = false := by simp; omega
  have u2 : decide ((m : Int) < (k : Int) + 1) = false := by simp; omega
  have i1 : (0 : Int) ≤ (k : Int) := by omega
  have i2 : (k : Int) < (m : Int) := by omega
  have iw : wrap64 (k : Int) = (k : Int) := by unfold wrap64; omega
  have u3 : decide (q < 1) = true := by simpa using hq
  clear hP hP1 hX1 hm hop hq hLi hE hk k0 k1 k2 k3 k4 k5 k6
  go_wp2_with (go_at_call 9; refine HC.out.mono ?_; rintro _ _ ⟨rfl, rfl⟩)
  go_quiet (fail)
  go_wp2_with fail
  exact HE.out _ _ (HEND.out _) _ _ _ _ _ _ _ _ _ _ _ _ _ _ _ _ _ _ _ _ _ _ _ _ _ _ _ _ _ _ _ _ _ _ _ _ _ _ _ _ _ _ _ _ _ _ _ _ _ _ _ _ _ _ _ _ _ _ _ _ _ _ _ _ _ _ _ _ _ _ _ _ _ _ _ _ _ _ _ _ _ _ _ _ _ _ _ _ _ _ _ _ _ _ _ _ _ _ _ _ _ _ _ _ _ _ _ _ _ _ _ _ _ _ _ _ _ _ _ _ _ _ _ _ _ _ _ _ _ _ _ _ _ _ _ _ _ _ _ _ _ _ _ _ _ _ _ _ _ _ _ _ _ _ _ _ _ _
end Go.Proofs.Ytfidihmiadjpjaa

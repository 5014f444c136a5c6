/- LifePlays: a round: a quantity that is filled of the last order. -/
import Derived.Test.YtfidihmiadjpjaaLifPlM
import Derived.Test.YtfidihmiadjpjaaLifAct
import Derived.Deep.RegionLaw
import Derived.Deep.RegionHeld3
import Derived.Deep.QuietTactic
import Derived.BigQuiet
set_option linter.unusedSimpArgs false
namespace Go.Proofs.Ytfidihmiadjpjaa
open Go.RowKit Go.Mem1 Go.LifMath

set_option maxRecDepth 100000 in
set_option maxHeartbeats 4000000 in
/-- A quantity that is filled. -/
theorem round_set_fill_end {A : Option Addr} {n cp : Nat} {ow se si : Int} {l : List Ac} {w w0 wr : World} {g i : Nat} {L : List Ent} {op aow ase asi id q : Int} {k : Nat} {een efi eca eop eow ese esi : Int} {u10 u8 u12 u13 u14 u15 u16 u32 u33 u34 u35 u36 u37 u38 u39 u40 u41 u42 u43 u44 u45 u46 u47 u48 u49 u50 u51 u52 u53 u54 u55 u56 u57 u58 u59 u60 u61 u62 u63 u64 u65 u66 u67 u68 u69 u70 u71 u72 u73 u74 u75 u76 u77 u78 u79 u80 u81 u82 u83 u84 u85 u86 u87 u88 u89 u90 u91 u92 u93 u94 u95 u96 u97 u98 u99 u100 u101 u102 u103 u104 u105 u106 u107 u108 u109 u110 u111 u112 u113 u114 u115 u116 u117 u118 u119 u120 u121 u122 u123 u124 u125 u126 u127 u128 u129 u130 u131 u132 u133 u134 u135 u136 u137 u138 u139 u140 u141 u142 u143 u144 u145 u146 u147 u148 u149 u150 u151 u152 u153 u154 u155 u156 u157 u158 u159 u160 u161 u162 u163 u164 u165 u166 u167 u168 u169 u170 u171 u172 u173 u174 u175 u176 u177 u178 u179 u180 u181 u182 u183 : Value} {F0 K0 : Act → World → Prop}
    (HA : Hid (Acts w w.heap.size A n l)) (hb0 : Hid (Below w.heap.size w w0)) (HW0 : Hid (w.heap.size ≤ g)) (hn : n ≤ 100) (hlt : i < n) (hP : PlE w0 g g u10 L L wr) (hLi : L.length ≤ i) (hx : l[i]? = some ⟨op, aow, ase, asi, id, q⟩) (hop : op = 2) (hk : L[k]? = some ⟨een, efi, eca, eop, eow, ese, esi⟩) (hid : id = (k : Int) + 1) (hq : 1 ≤ q ∧ q ≤ eop) (hcap : ∀ b n c, u10 = .slice (some ⟨b, 0, none⟩) n c → c = k + 1)
    (HE : Hid (∀ (v10 : Value) (w2 : World), PlJ w0 g g v10 (i + 1) w2 → ∀ (u8 u12 u13 u14 u15 u16 u32 u33 u34 u35 u36 u37 u38 u39 u40 u41 u42 u43 u44 u45 u46 u47 u48 u49 u50 u51 u52 u53 u54 u55 u56 u57 u58 u59 u60 u61 u62 u63 u64 u65 u66 u67 u68 u69 u70 u71 u72 u73 u74 u75 u76 u77 u78 u79 u80 u81 u82 u83 u84 u85 u86 u87 u88 u89 u90 u91 u92 u93 u94 u95 u96 u97 u98 u99 u100 u101 u102 u103 u104 u105 u106 u107 u108 u109 u110 u111 u112 u113 u114 u115 u116 u117 u118 u119 u120 u121 u122 u123 u124 u125 u126 u127 u128 u129 u130 u131 u132 u133 u134 u135 u136 u137 u138 u139 u140 u141 u142 u143 u144 u145 u146 u147 u148 u149 u150 u151 u152 u153 u154 u155 u156 u157 u158 u159 u160 u161 u162 u163 u164 u165 u166 u167 u168 u169 u170 u171 u172 u173 u174 u175 u176 u177 u178 u179 u180 u181 u182 u183 : Value), F0 ⟨#[Value.slice A n cp, Value.int IntKind.i64 ow, Value.int IntKind.i64 se, Value.int IntKind.i64 si, undef, undef, undef, undef, u8, Value.pointer (some ⟨g, 0, none⟩), v10, Value.int IntKind.i64 ((i : Int) + 1), u12, u13, u14, u15, u16, undef, undef, undef, undef, undef, undef, undef, undef, undef, Value.bool true, Value.bool false, Value.slice A n cp, Value.int IntKind.i64 (n : Int), Value.bool false, Value.pointer (some ⟨g, 0, none⟩), u32, u33, u34, u35, u36, u37, u38, u39, u40, u41, u42, u43, u44, u45, u46, u47, u48, u49, u50, u51, u52, u53, u54, u55, u56, u57, u58, u59, u60, u61, u62, u63, u64, u65, u66, u67, u68, u69, u70, u71, u72, u73, u74, u75, u76, u77, u78, u79, u80, u81, u82, u83, u84, u85, u86, u87, u88, u89, u90, u91, u92, u93, u94, u95, u96, u97, u98, u99, u100, u101, u102, u103, u104, u105, u106, u107, u108, u109, u110, u111, u112, u113, u114, u115, u116, u117, u118, u119, u120, u121, u122, u123, u124, u125, u126, u127, u128, u129, u130, u131, u132, u133, u134, u135, u136, u137, u138, u139, u140, u141, u142, u143, u144, u145, u146, u147, u148, u149, u150, u151, u152, u153, u154, u155, u156, u157, u158, u159, u160, u161, u162, u163, u164, u165, u166, u167, u168, u169, u170, u171, u172, u173, u174, u175, u176, u177, u178, u179, u180, u181, u182, u183, undef, undef, undef, undef, undef, undef, undef, undef, undef, undef, undef, undef, undef, undef, undef, undef, undef, undef, undef, undef, undef, undef, undef, undef, undef, undef, undef, undef, undef, undef, undef, undef, undef, undef, undef, undef, undef, undef, undef, undef, undef, undef, undef, undef, undef, undef, undef, undef, undef, undef, undef, undef, undef, undef, undef, undef, undef, undef, undef, undef, undef, undef, undef, undef, undef, undef, undef, undef, undef, undef, undef, undef, undef, undef, undef, undef, undef, undef, undef, undef, undef, undef, undef, undef, undef, undef, undef, undef, undef, undef, undef, undef, undef, undef, undef, undef, undef, undef, undef, undef, undef, undef, undef, undef, undef, undef, undef, undef, undef, undef, undef, undef, undef, undef, undef, undef, undef, undef, undef, undef, undef, undef, undef, undef, undef, undef, undef, undef, undef, undef, undef, undef, undef, undef, undef, undef, undef, undef, undef, undef, undef, undef, undef, undef, undef, undef, undef, undef, undef, undef, undef, undef, undef, undef, undef, undef, undef, undef, undef, undef, undef, undef, undef, undef, undef, undef, undef, undef, undef, undef, undef, undef, undef, undef, undef, undef, undef, undef, undef, undef, undef], []⟩ w2)) :
    Code.wp Try.prog (((Try.f3.body.map loopsOf).getD []).headD Code.skip) (Exit.then F0 (Exit.inBlock 0 (Exit.then K0 (bodyPost Try.prog Try.f3 (PTrue w))))) ⟨#[Value.slice A n cp, Value.int IntKind.i64 ow, Value.int IntKind.i64 se, Value.int IntKind.i64 si, undef, undef, undef, undef, u8, Value.pointer (some ⟨g, 0, none⟩), u10, Value.int IntKind.i64 (i : Int), u12, u13, u14, u15, u16, undef, undef, undef, undef, undef, undef, undef, undef, undef, Value.bool true, Value.bool false, Value.slice A n cp, Value.int IntKind.i64 (n : Int), Value.bool false, Value.pointer (some ⟨g, 0, none⟩), u32, u33, u34, u35, u36, u37, u38, u39, u40, u41, u42, u43, u44, u45, u46, u47, u48, u49, u50, u51, u52, u53, u54, u55, u56, u57, u58, u59, u60, u61, u62, u63, u64, u65, u66, u67, u68, u69, u70, u71, u72, u73, u74, u75, u76, u77, u78, u79, u80, u81, u82, u83, u84, u85, u86, u87, u88, u89, u90, u91, u92, u93, u94, u95, u96, u97, u98, u99, u100, u101, u102, u103, u104, u105, u106, u107, u108, u109, u110, u111, u112, u113, u114, u115, u116, u117, u118, u119, u120, u121, u122, u123, u124, u125, u126, u127, u128, u129, u130, u131, u132, u133, u134, u135, u136, u137, u138, u139, u140, u141, u142, u143, u144, u145, u146, u147, u148, u149, u150, u151, u152, u153, u154, u155, u156, u157, u158, u159, u160, u161, u162, u163, u164, u165, u166, u167, u168, u169, u170, u171, u172, u173, u174, u175, u176, u177, u178, u179, u180, u181, u182, u183, undef, undef, undef, undef, undef, undef, undef, undef, undef, undef, undef, undef, undef, undef, undef, undef, undef, undef, undef, undef, undef, undef, undef, undef, undef, undef, undef, undef, undef, undef, undef, undef, undef, undef, undef, undef, undef, undef, undef, undef, undef, undef, undef, undef, undef, undef, undef, undef, undef, undef, undef, undef, undef, undef, undef, undef, undef, undef, undef, undef, undef, undef, undef, undef, undef, undef, undef, undef, undef, undef, undef, undef, undef, undef, undef, undef, undef, undef, undef, undef, undef, undef, undef, undef, undef, undef, undef, undef, undef, undef, undef, undef, undef, undef, undef, undef, undef, undef, undef, undef, undef, undef, undef, undef, undef, undef, undef, undef, undef, undef, undef, undef, undef, undef, undef, undef, undef, undef, undef, undef, undef, undef, undef, undef, undef, undef, undef, undef, undef, undef, undef, undef, undef, undef, undef, undef, undef, undef, undef, undef, undef, undef, undef, undef, undef, undef, undef, undef, undef, undef, undef, undef, undef, undef, undef, undef, undef, undef, undef, undef, undef, undef, undef, undef, undef, undef, undef, undef, undef, undef, undef, undef, undef, undef, undef, undef, undef, undef, undef, undef, undef], []⟩ wr := by
  conv => arg 2; whnf
  obtain ⟨b, off, rfl, hbl, e0, e1, e2, e3, e4, e5⟩ := HA.out.at_ i _ hx
  have hwr : Below w.heap.size w wr := hb0.out.trans (hP.bel.mono HW0.out)
  have d0 := (hwr.cell (p := ⟨b, off + i * 6, none⟩) hbl).trans e0
  have d1 := (hwr.cell (p := ⟨b, off + i * 6 + 1, none⟩) hbl).trans e1
  have d2 := (hwr.cell (p := ⟨b, off + i * 6 + 2, none⟩) hbl).trans e2
  have d3 := (hwr.cell (p := ⟨b, off + i * 6 + 3, none⟩) hbl).trans e3
  have d4 := (hwr.cell (p := ⟨b, off + i * 6 + 4, none⟩) hbl).trans e4
  have d5 := (hwr.cell (p := ⟨b, off + i * 6 + 5, none⟩) hbl).trans e5
  dsimp only at d0 d1 d2 d3 d4 d5
  clear e0 e1 e2 e3 e4 e5 hx hwr
  obtain ⟨AM, cM, rfl⟩ := own_slice hP.m
  have hP1 := hP.carry (bel_new wr (.cells #[.int .i64 op, .int .i64 aow, .int .i64 ase, .int .i64 asi, .int .i64 id, .int .i64 q] 28))
  have hX1 : Box (wr.alloc (.cells #[.int .i64 op, .int .i64 aow, .int .i64 ase, .int .i64 asi, .int .i64 id, .int .i64 q] 28)) wr.heap.size 28 #[.int .i64 op, .int .i64 aow, .int .i64 ase, .int .i64 asi, .int .i64 id, .int .i64 q] := Box.fresh wr _ _ rfl
  obtain ⟨m, hm⟩ : ∃ m, L.length = m := ⟨_, rfl⟩
  have HM := Lib.hid hm
  rw [hm] at hLi ⊢
  obtain ⟨i0, hi0, hz0, hz1, hz2⟩ := info_parts entry_info
  have HI0 := Lib.hid hi0
  have HI1 := Lib.hid hz0
  have HI2 := Lib.hid hz1
  have HI3 := Lib.hid hz2
  have u0 : (op == 1) = false := by subst hop; rfl
  have u00 : (op == 2) = true := by subst hop; rfl
  subst hid
  have hkm : k < m := by rw [← hm]; exact at_lt hk
  have HC := Lib.hid (PlE.fill hP1 hk hq.1 hq.2)
  obtain ⟨bM, cM', hvM, hbM, hcM, k0, k1, k2, k3, k4, k5, k6⟩ := hP1.ent hk
  rw [hm] at hvM hcM
  injection hvM with hvM1 hvM2 hvM3
  subst hvM1; subst hvM3
  clear hvM2
  have hck := hcap _ _ _ rfl
  have hF := hP.fair _ (List.mem_of_getElem? hk)
  obtain ⟨s1, s2, s3, s4, s5⟩ := hF
  dsimp only at s1 s2 s3 s4 s5 k0 k1 k2 k3 k4 k5 k6
  have u1 : decide ((k : Int) + 1 < 1) = false := by simp; omega
  have u2 : decide ((m : Int) < (k : Int) + 1) = false := by simp; omega
  have i1 : (0 : Int) ≤ (k : Int) := by omega
  have i2 : (k : Int) < (m : Int) := by omega
  have iw : wrap64 (k : Int) = (k : Int) := by unfold wrap64; omega
  have u3 : decide (q < 1) = false := by simp; omega
  have u4 : decide (eop < q) = false := by simp; omega
  have o1 : 0 ≤ eop - q := by omega
  have o2 : eop - q ≤ 1000000 := by omega
  have o3 : 0 ≤ efi + q := by omega
  have o4 : efi + q ≤ 1000000 := by omega
  have o5 : 0 ≤ eca + q := by omega
  have o6 : eca + q ≤ 1000000 := by omega
  have hm100 : m ≤ 100 := Nat.le_trans hLi (Nat.le_of_lt (Nat.lt_of_lt_of_le hlt hn))
  have HX1 := Lib.hid hX1
  have HK := Lib.hid hk
  rw [hm] at HC
  clear hi0 hz0 hz1 hz2 hP hP1 hX1 hm hop hk k0 k1 k2 k3 k4 k5 k6 hcap s1 s2 s3 s4 s5 hq o5 o6
  go_wp2_with (go_at_call 9; refine Hid.out ?_)
  refine Lib.hid ?_
  refine HC.out.mono ?_
  rintro _ w2 ⟨rfl, hP2, hK2⟩
  have hx2 := hK2 _ _ _ HX1.out (by decide) (by decide)
  have x0 : w2.cell? ⟨wr.heap.size, 0, none⟩ = some (.int .i64 op) := hx2.reads 0
  have x4 : w2.cell? ⟨wr.heap.size, 4, none⟩ = some (.int .i64 ((k : Int) + 1)) := hx2.reads 4
  have x5 : w2.cell? ⟨wr.heap.size, 5, none⟩ = some (.int .i64 q) := hx2.reads 5
  obtain ⟨bM', cM', hvM, hbM2, _, k0, k1, k2, k3, k4, k5, k6⟩ := hP2.ent HK.out
  injection hvM with hvM1 hvM2 hvM3
  injection hvM1 with hvM1
  injection hvM1 with hvM1
  subst hvM1; subst hvM3
  clear hvM2
  dsimp only at k0 k1 k2 k3 k4 k5 k6
  have HP2 := Lib.hid hP2
  have HX2 := Lib.hid hx2
  clear hP2 hK2 hx2 HC HX1 d0 d1 d2 d3 d4 d5
  go_wp2_with fail
  go_quiet (fail)
  obtain ⟨wD, hwD⟩ : ∃ wD, w2.drewN nq = wD := ⟨_, rfl⟩
  have hBD : Below w2.heap.size w2 wD := by rw [← hwD]; exact ⟨rfl, rfl, rfl, Nat.le_refl _, fun _ _ => rfl⟩
  have hPD := HP2.out.carry hBD
  have hxD := HX2.out.kept_below hBD HX2.out.there
  rw [hwD]
  clear hwD hBD HP2 HX2 k0 k1 k2 k3 k4 k5 k6 x0 x4 x5 hbM hbM2
  obtain ⟨bM', cM', hvM, hbM, _, k0, k1, k2, k3, k4, k5, k6⟩ := hPD.ent HK.out
  injection hvM with hvM1 hvM2 hvM3
  injection hvM1 with hvM1
  injection hvM1 with hvM1
  subst hvM1; subst hvM3
  clear hvM2
  dsimp only at k0 k1 k2 k3 k4 k5 k6
  have x4 : wD.cell? ⟨wr.heap.size, 4, none⟩ = some (.int .i64 ((k : Int) + 1)) := hxD.reads 4
  have X0 : ∀ o, (wD.alloc o).cell? ⟨wr.heap.size, 0, none⟩ = some (.int .i64 op) := fun o => (hxD.kept_below (bel_new wD o) hxD.there).reads 0
  have X4 : ∀ o, (wD.alloc o).cell? ⟨wr.heap.size, 4, none⟩ = some (.int .i64 ((k : Int) + 1)) := fun o => (hxD.kept_below (bel_new wD o) hxD.there).reads 4
  have X5 : ∀ o, (wD.alloc o).cell? ⟨wr.heap.size, 5, none⟩ = some (.int .i64 q) := fun o => (hxD.kept_below (bel_new wD o) hxD.there).reads 5
  have HPD := Lib.hid hPD
  have HXD := Lib.hid hxD
  clear hPD hxD
  go_wp2_with fail
  obtain ⟨W, hW⟩ : ∃ W, wD.alloc (.cells #[.int .i64 een, .int .i64 (efi + q), .int .i64 (eca), .int .i64 (eop - q), .int .i64 eow, .int .i64 ese, .int .i64 esi] 33) = W := ⟨_, rfl⟩
  have hPW := HPD.out.carry (bel_new wD (.cells #[.int .i64 een, .int .i64 (efi + q), .int .i64 (eca), .int .i64 (eop - q), .int .i64 eow, .int .i64 ese, .int .i64 esi] 33))
  have hxW := HXD.out.kept_below (bel_new wD (.cells #[.int .i64 een, .int .i64 (efi + q), .int .i64 (eca), .int .i64 (eop - q), .int .i64 eow, .int .i64 ese, .int .i64 esi] 33)) HXD.out.there
  have hyW := Box.fresh wD 33 #[.int .i64 een, .int .i64 (efi + q), .int .i64 (eca), .int .i64 (eop - q), .int .i64 eow, .int .i64 ese, .int .i64 esi] rfl
  rw [hW] at hPW hxW hyW ⊢
  obtain ⟨X, hX⟩ : ∃ X, wD.heap.size = X := ⟨_, rfl⟩
  rw [hX] at hyW ⊢
  clear hW hX X0 X4 X5 HPD HXD x4 k0 k1 k2 k3 k4 k5 k6 hbM
  obtain ⟨Y, hY⟩ : ∃ Y, wr.heap.size = Y := ⟨_, rfl⟩
  rw [hY] at hxW ⊢
  clear hY
  have hkL : k < L.length := by rw [HM.out]; exact hkm
  obtain ⟨hF1, hF2⟩ := hPW.front rfl hkL
  rw [HM.out] at hF2
  have RD1 := Lib.hid (fun W' (hb : Below W.heap.size W W') => hF1.carry hb)
  have RD2 := Lib.hid (fun W' (hb : Below W.heap.size W W') => hF2.carry hb)
  have KX : Hid (∀ W', Below W.heap.size W W' → World.cell? W' ⟨X, 0, none⟩ = some (.int .i64 een) ∧ World.cell? W' ⟨X, 1, none⟩ = some (.int .i64 (efi + q)) ∧ World.cell? W' ⟨X, 2, none⟩ = some (.int .i64 (eca)) ∧ World.cell? W' ⟨X, 3, none⟩ = some (.int .i64 (eop - q)) ∧ World.cell? W' ⟨X, 4, none⟩ = some (.int .i64 eow) ∧ World.cell? W' ⟨X, 5, none⟩ = some (.int .i64 ese) ∧ World.cell? W' ⟨X, 6, none⟩ = some (.int .i64 esi) ∧ World.cell? W' ⟨Y, 4, none⟩ = some (.int .i64 ((k : Int) + 1))) := Lib.hid (fun W' hb => ⟨(hyW.kept_below hb hyW.there).reads 0, (hyW.kept_below hb hyW.there).reads 1, (hyW.kept_below hb hyW.there).reads 2, (hyW.kept_below hb hyW.there).reads 3, (hyW.kept_below hb hyW.there).reads 4, (hyW.kept_below hb hyW.there).reads 5, (hyW.kept_below hb hyW.there).reads 6, (hxW.kept_below hb hxW.there).reads 4⟩)
  obtain ⟨y0, y1, y2, y3, y4, y5, y6, x4⟩ := KX.out W (Below.refl _ _)
  have HENDF := Lib.hid (fun (v7 : Value) (w7 : World) (nB : Nat) (xB : List Value) (hb : Below W.heap.size W w7) (hnB : nB = 1 + 0) (hxB : xB = [.int .i64 een, .int .i64 (efi + q), .int .i64 (eca), .int .i64 (eop - q), .int .i64 eow, .int .i64 ese, .int .i64 esi] ++ (L.drop (k + 1)).flatMap ent1) (ho : w7.ownsRow W.heap.size 33 7 v7 (k + nB) ((L.take k).flatMap ent1 ++ xB)) => (⟨L.set k (fillE q ⟨een, efi, eca, eop, eow, ese, esi⟩), hPW.newM (N := L.set k (fillE q ⟨een, efi, eca, eop, eow, ese, esi⟩)) hb (by
    rw [List.length_set, HM.out, set_cut hkL, List.flatMap_append, List.flatMap_cons]
    rw [hxB, show k + nB = m by omega] at ho
    exact ho), by rw [List.length_set, HM.out]; omega⟩ : PlJ w0 g g v7 (i + 1) w7))
  have OW0 := Lib.hid (fun W' (h : W.heap.size ≤ W'.heap.size) => own_empty W' 33 W.heap.size 7 h)
  have HON := Lib.hid (fun W' (h : W.heap.size ≤ W'.heap.size) (G : Nat) (hG : G = W'.heap.size) => one_made W' 33 G [.int .i64 een, .int .i64 (efi + q), .int .i64 (eca), .int .i64 (eop - q), .int .i64 eow, .int .i64 ese, .int .i64 esi] rfl hG h)
  have q3 : (0 : Int) ≤ (k : Int) := by omega
  have q6 : (0 : Int) ≤ (k : Int) + 1 := by omega
  have q7 : IntKind.i64.wrap ((k : Int) + 1) = (k : Int) + 1 := by rw [IntKind.wrap_i64]; omega
  have q8 : ((k : Int) + 1).toNat = k + 1 := by omega
  have q10 : IntKind.i64.wrap (k : Int) = (k : Int) := by rw [IntKind.wrap_i64]; omega
  obtain rfl : m = k + 1 := by omega
  subst hck
  have q1 : (k : Int) ≤ (k : Int) + 1 := by omega
  have q4 : k ≤ k + 1 := by omega
  have RDB := Lib.hid (fun W' (_ : Below W.heap.size W W') => RdS.nothing W' W.heap.size (some ⟨bM, 0, none⟩) 7)
  clear hPW hxW hyW hF1 hF2 u0 u1 u2 u3 u4 i1 hLi o1 o2 o3 o4
  go_wp2_with fail
  go_region_held3 (fun w' => World.cell? w' ⟨X, 0, none⟩ = some (.int .i64 een) ∧ World.cell? w' ⟨X, 1, none⟩ = some (.int .i64 (efi + q)) ∧ World.cell? w' ⟨X, 2, none⟩ = some (.int .i64 (eca)) ∧ World.cell? w' ⟨X, 3, none⟩ = some (.int .i64 (eop - q)) ∧ World.cell? w' ⟨X, 4, none⟩ = some (.int .i64 eow) ∧ World.cell? w' ⟨X, 5, none⟩ = some (.int .i64 ese) ∧ World.cell? w' ⟨X, 6, none⟩ = some (.int .i64 esi) ∧ World.cell? w' ⟨Y, 4, none⟩ = some (.int .i64 ((k : Int) + 1))) (first | go_keep | exact ⟨y0, y1, y2, y3, y4, y5, y6, x4⟩ | exact KX.out _ HBC.out | exact KX.out _ HBB.out | exact KX.out _ HBA.out | exact KX.out _ (bel_new W _).drew | exact KX.out _ (bel_alloc (bel_new W _) _).drew | exact KX.out _ (bel_alloc HBA.out _) | exact KX.out _ (bel_alloc HBB.out _)) ((first
    | (refine step_appendS rfl (.tmp 136) (.tmp 141) _ rfl W.heap.size 33 i0 _ 7 56 Try.underlying26 HI0.out HI1.out HI2.out HI3.out rfl (by omega) (.slice (some ⟨_, 0, none⟩) 0 0) 0 [] rfl
        (by first
          | exact HEA.out
          | exact (OW0.out W (Nat.le_refl _)).drew
          | exact (own_alloc (OW0.out W (Nat.le_refl _)) _).drew
          | exact (own_empty_at (W.alloc _) _ _ _ _ (by simp) (by simp)).drew
          | exact OW0.out _ HBB.out.size)
        (some ⟨bM, 0, none⟩) k (k + 1) (by intro h; cases h) ((L.take k).flatMap ent1) rfl
        (RD1.out _ (by first | exact (bel_new W _).drew | exact (bel_alloc (bel_new W _) _).drew | exact HBB.out | exact bel_alloc HBB.out _))
        (ents1_one _) (by simp only [maxLen]; omega) (by omega) (by first | exact HBB.out.size | exact Nat.le_trans HBB.out.size (by simp) | (simp <;> omega)) ?_
       intro v4 w4 hown4 hgr4 hbk4
       rw [Nat.zero_add, List.nil_append] at hown4
       obtain ⟨A4, c4, rfl⟩ := own_slice hown4
       have HOA := Lib.hid hown4
       have HGA := Lib.hid hgr4
       have HKA := Lib.hid hbk4
       have HBA : Hid (Below W.heap.size W w4) := Lib.hid (by first
          | exact (bel_new W _).drew.grown HGA.out (by simp) (by simp [Value.ownBlock])
          | exact (bel_alloc (bel_new W _) _).drew.grown HGA.out (by simp <;> omega) (by simp [Value.ownBlock] <;> omega)
          | exact HBB.out.grown HGA.out HBB.out.size (fun k hk => (HEA.out.lt k hk).1)
          | exact (bel_alloc HBB.out _).grown HGA.out (Nat.le_trans HBB.out.size (by simp)) (fun k hk => by have := HBB.out.size; simp [Value.ownBlock] at hk; omega))
       (try have HEB := Lib.hid (row_kept (by first
          | exact (HON.out (W.alloc _) (by simp) (W.heap.size + 1) (by simp)).drew
          | exact (own_alloc (HON.out W (Nat.le_refl _) W.heap.size rfl) _).drew) HGA.out (by intro j hj e; simp [Value.ownBlock] at hj e; omega)))
       (try have HOB2 := Lib.hid (by first
          | exact row_kept HOB.out HGA.out (apart_of HKB.out rfl (by simp <;> omega) (by simp <;> omega))
          | exact row_kept (own_alloc HOB.out _) HGA.out (apart_new HOB.out rfl (Nat.le_refl _))))
       clear hown4 hgr4 hbk4)
    | (refine step_appendS rfl (.tmp 144) (.tmp 148) _ rfl W.heap.size 33 i0 _ 7 56 Try.underlying26 HI0.out HI1.out HI2.out HI3.out rfl (by omega) (.slice (some ⟨_, 0, none⟩) 1 1) 1 [.int .i64 een, .int .i64 (efi + q), .int .i64 (eca), .int .i64 (eop - q), .int .i64 eow, .int .i64 ese, .int .i64 esi] rfl
        (by first
          | exact HEB.out
          | exact (HON.out W (Nat.le_refl _) _ rfl).drew
          | exact (own_alloc (HON.out W (Nat.le_refl _) _ rfl) _).drew
          | exact (HON.out (W.alloc _) (by simp) _ (by simp)).drew
          | exact HON.out _ HBA.out.size _ rfl)
        (some ⟨bM, 0, none⟩) 0 0 (by intro h; cases h) [] rfl
        (by first | exact RDB.out _ (bel_new W _).drew | exact RDB.out _ (bel_alloc (bel_new W _) _).drew | exact RDB.out _ HBA.out | exact RDB.out _ (bel_alloc HBA.out _))
        (by simp) (by simp only [maxLen]; omega) (by omega) (by first | exact HBA.out.size | exact Nat.le_trans HBA.out.size (by simp) | (simp <;> omega)) ?_
       intro v5 w5 hown5 hgr5 hbk5
       obtain ⟨A5, c5, rfl⟩ := own_slice hown5
       have HOB := Lib.hid hown5
       have HGB := Lib.hid hgr5
       have HKB := Lib.hid hbk5
       have HBB : Hid (Below W.heap.size W w5) := Lib.hid (by first
          | exact (bel_new W _).drew.grown HGB.out (by simp) (by simp [Value.ownBlock])
          | exact (bel_alloc (bel_new W _) _).drew.grown HGB.out (by simp <;> omega) (by simp [Value.ownBlock] <;> omega)
          | exact HBA.out.grown HGB.out HBA.out.size (fun k hk => (HEB.out.lt k hk).1)
          | exact (bel_alloc HBA.out _).grown HGB.out (Nat.le_trans HBA.out.size (by simp)) (fun k hk => by have := HBA.out.size; simp [Value.ownBlock] at hk; omega))
       (try have HEA := Lib.hid (row_kept (by first
          | exact (own_alloc (OW0.out W (Nat.le_refl _)) _).drew
          | exact (own_empty_at (W.alloc _) _ W.heap.size 7 (W.heap.size + 1) (by simp) (by simp)).drew) HGB.out (by intro j hj e; simp [Value.ownBlock] at hj e; omega)))
       (try have HOA2 := Lib.hid (by first
          | exact row_kept HOA.out HGB.out (apart_of HKA.out rfl (by simp <;> omega) (by simp <;> omega))
          | exact row_kept (own_alloc HOA.out _) HGB.out (apart_new HOA.out rfl (Nat.le_refl _))))
       clear hown5 hgr5 hbk5)
    | (refine step_appendS rfl (.tmp 142) (.tmp 149) _ rfl W.heap.size 33 i0 _ 7 56 Try.underlying26 HI0.out HI1.out HI2.out HI3.out rfl (by omega) (.slice A4 k c4) k ((L.take k).flatMap ent1) rfl (by first | exact HOA2.out | exact HOA.out)
        A5 (1 + 0) c5 (own_cap0 HOB.out) ([.int .i64 een, .int .i64 (efi + q), .int .i64 (eca), .int .i64 (eop - q), .int .i64 eow, .int .i64 ese, .int .i64 esi] ++ []) rfl (by first | exact RdS.ofOwn HOB2.out | exact RdS.ofOwn HOB.out)
        (by
          intro u hu
          rcases List.mem_append.1 hu with hu | hu
          · exact ent1_one ⟨een, efi + q, eca, eop - q, eow, ese, esi⟩ u hu
          · cases hu) (by simp only [maxLen]; omega) (by omega) (by first | exact HBA.out.size | exact HBB.out.size) ?_
       intro v6 w6 hown6 hgr6 _
       obtain ⟨A6, c6, rfl⟩ := own_slice hown6
       have HOC := Lib.hid hown6
       have HBC : Hid (Below W.heap.size W w6) := Lib.hid (by first
          | exact HBA.out.grown hgr6 HBA.out.size (fun k hk => (HOA.out.lt k hk).1)
          | exact HBB.out.grown hgr6 HBB.out.size (fun k hk => (HOA.out.lt k hk).1))
       clear hown6 hgr6)))
  all_goals
    have HEND := Lib.hid (HENDF.out _ _ _ _ HBC.out rfl (by rw [List.drop_eq_nil_of_le (by rw [HM.out]; exact Nat.le_refl _)]; rfl) HOC.out)
    clear HENDF HBC HOC HBA HBB HOA HOB HGA HGB HKA HKB RD1 RD2 RDB OW0 HON KX y0 y1 y2 y3 y4 y5 y6 x4 q7 q8 q10 iw
    go_wp2_with fail
    exact HE.out _ _ HEND.out _ _ _ _ _ _ _ _ _ _ _ _ _ _ _ _ _ _ _ _ _ _ _ _ _ _ _ _ _ _ _ _ _ _ _ _ _ _ _ _ _ _ _ _ _ _ _ _ _ _ _ _ _ _ _ _ _ _ _ _ _ _ _ _ _ _ _ _ _ _ _ _ _ _ _ _ _ _ _ _ _ _ _ _ _ _ _ _ _ _ _ _ _ _ _ _ _ _ _ _ _ _ _ _ _ _ _ _ _ _ _ _ _ _ _ _ _ _ _ _ _ _ _ _ _ _ _ _ _ _ _ _ _ _ _ _ _ _ _ _ _ _ _ _ _ _ _ _ _ _ _ _ _ _ _ _ _ _
end Go.Proofs.Ytfidihmiadjpjaa

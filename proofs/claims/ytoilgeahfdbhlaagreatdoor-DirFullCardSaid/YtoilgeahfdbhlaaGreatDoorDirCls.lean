/- The contract of the directory's Class, where the class may be put in. -/
import Derived.Test.YtoilgeahfdbhlaaGreatDoorDirList
set_option linter.unusedSimpArgs false
namespace Go.Proofs.YtoilgeahfdbhlaaGreatDoor
open Go.RowKit Go.Mem1 Go.GridMath Go.DirMath

theorem class_info : (Tryz.prog.info? 95).map (fun i => (i.zero, i.size, i.bytes)) = some (some (.agg #[.string ⟨#[]⟩, .slice none 0 0]), 2, 40) := by kernel_rfl
set_option maxRecDepth 100000 in
set_option maxHeartbeats 1000000 in
theorem wrongClass_ok {w : World} {B g : Nat} {vC vL : Value} {cs : List Cl} {L : List Lst} {day : Int} (h : DirAt w B g vC vL cs L day) (name : ByteArray) (hs : name.size ≤ 1000000) (hg : goodB name = true) (hn : lookC cs name = none) (hC : cs.length < 16)
    (A : Option Addr) (n c : Nat) (l : List Stp) (ht : TabAt w w.heap.size A n l) (hl : chk l = none) :
    Calls Tryz.prog 35 #[.pointer (some ⟨g, 0, none⟩), .string name, .slice A n c] w fun e w' => e = .returned .nilIface ∧ Below w.heap.size w w' := by
  have HT := Lib.hid (table_any h name)
  rw [hn] at HT
  have HT2 : Hid (Calls Tryz.prog 52 #[.pointer (some ⟨g, 0, none⟩), .string name] w fun e w' => e = .returned (.tuple #[.slice none 0 0, .bool false]) ∧ Below w.heap.size w w') := HT
  have HG := Lib.hid (fun w' => good_any name w' hs)
  rw [hg] at HG
  have hlen := chk_len hl
  have hnl := ht.len
  have HK := Lib.hid (fun w' (hb : Below w.heap.size w w') => (check_any A n c l w' ((ht.carry hb).wider hb.size) (by omega)).mono (R' := fun e w2 => e = .returned .nilIface ∧ Below w'.heap.size w' w2) (fun e w2 h2 => by
    unfold ChkPost at h2; rw [hl] at h2; exact ⟨h2.2, h2.1⟩))
  obtain ⟨cA, cc, hv⟩ := h.formC
  have hc0 := fun w' (hb : Below w.heap.size w w') => (h.carry hb).c0
  rw [hv] at hc0
  obtain ⟨m, hm⟩ : ∃ m, cs.length = m := ⟨_, rfl⟩
  rw [hm] at hc0 hC
  have HC := Lib.hid hc0
  have t16 : decide ((16 : Int) ≤ (m : Int)) = false := by simp; omega
  clear h hs hg hn ht hl hlen hnl hv hc0 hm HT
  go_enter Tryz.func35, Tryz.ntmps35
  go_wp2_with (go_at_call 52; refine Hid.out ?_)
  refine Lib.hid ?_
  refine HT2.out.mono ?_
  rintro e w1 ⟨rfl, hb1⟩
  have c0 := HC.out w1 hb1
  have HB1 := Lib.hid hb1
  clear hb1
  go_wp2_with ((first
    | (go_at_call 66; refine (HG.out _).mono ?_; rintro e w' ⟨rfl, rfl⟩)
    | (go_at_call 67; refine (HK.out _ HB1.out).mono ?_; rintro e w2 ⟨rfl, hb2⟩; replace hb2 := Lib.hid (bel_trans HB1.out hb2))))
  go_ret
  exact ⟨rfl, hb2.out⟩
/-- One more class. -/
theorem DirAt.classed {w w7 : World} {B g : Nat} {vC vL : Value} {cs : List Cl} {L : List Lst} {day : Int} (h : DirAt w B g vC vL cs L day) (name : ByteArray) (v : Value) (l : List Stp)
    (hv : w.ownsRow B 74 2 v l.length (stepCells l)) (hl : chk l = none) (v7 : Value)
    (hown : w7.ownsRow B 95 2 v7 (cs.length + 1) (cs.flatMap cls1 ++ [.string name, v])) (hgr : w.grownBy w7 vC.ownBlock) (hC : cs.length < 16) :
    DirAt (w7.setCell ⟨g, 0, none⟩ v7) B g v7 vL (cs ++ [(name, v, l)]) L day ∧ Below B w (w7.setCell ⟨g, 0, none⟩ v7) ∧ w7.frozen? ⟨g, 0, none⟩ = false ∧ w7.cell? ⟨g, 0, none⟩ = some vC := by
  have hS := Chg.of_grown hgr
  have hgC : ¬ some g = vC.ownBlock := fun e => h.box.off_row h.rowC (by decide) e.symm
  have hb7 : Box w7 g _ _ := h.box.kept hS hgC
  have hv7 : v7.ownBlock ≠ some g := hb7.off_row hown (by decide)
  have hL7 := own_chg h.rowL hS (fun k hk e => own_apart h.rowL h.rowC (by decide) hk e.symm)
  refine ⟨⟨hb7.wrote 0 v7, h.low, ?_, own_set hL7 _ _ (hb7.off_row hL7 (by decide)), ?_, by simp; omega, h.mostL⟩, ?_, hb7.unmarked 0, hb7.reads 0⟩
  · have := own_set hown ⟨g, 0, none⟩ v7 hv7
    simpa [cls1] using this
  · intro c hc
    obtain ⟨ht, hk⟩ : w.ownsRow B 74 2 c.2.1 c.2.2.length (stepCells c.2.2) ∧ chk c.2.2 = none := by
      rcases List.mem_append.1 hc with h1 | h1
      · exact h.tabs c h1
      · obtain rfl := List.mem_singleton.1 h1
        exact ⟨hv, hl⟩
    have h7 := own_chg ht hS (fun k hk e => own_apart ht h.rowC (by decide) hk e.symm)
    exact ⟨own_set h7 _ _ (hb7.off_row h7 (by decide)), hk⟩
  · have hc : Chg (fun k => some k = vC.ownBlock ∨ k = g) w (w7.setCell ⟨g, 0, none⟩ v7) := Chg.setCell (S := fun k => some k = vC.ownBlock ∨ k = g) (hS.mono (fun i _ h => Or.inl h)) (p := ⟨g, 0, none⟩) (fun _ => Or.inr rfl) v7
    refine hc.small (Nat.le_of_lt h.base) (fun i hi hs => ?_)
    rcases hs with e | e
    · obtain ⟨h1, _⟩ := h.rowC.lt i e.symm; omega
    · have := h.low; omega
theorem pair_one (s : ByteArray) (A : Option Addr) (n c : Nat) : ∀ u ∈ [Value.string s, .slice A n c], u.oneCell' = true := by
  intro u hu
  simp at hu
  rcases hu with rfl | rfl <;> rfl
def ClassOk (B g : Nat) (vL : Value) (cs : List Cl) (L : List Lst) (day : Int) (name : ByteArray) (l : List Stp) (w : World) (e : Ending) (w' : World) : Prop :=
  e = .returned .nilIface ∧ ∃ vC' v, DirAt w' B g vC' vL (cs ++ [(name, v, l)]) L day ∧ Below B w w'
set_option maxRecDepth 100000 in
set_option maxHeartbeats 2000000 in
theorem class_ok {w : World} {B g : Nat} {vC vL : Value} {cs : List Cl} {L : List Lst} {day : Int} (h : DirAt w B g vC vL cs L day) (name : ByteArray) (hs : name.size ≤ 1000000) (hg : goodB name = true) (hn : lookC cs name = none) (hC : cs.length < 16)
    (A : Option Addr) (n c : Nat) (l : List Stp) (hA : PlainA A c) (ht : TabAt w w.heap.size A n l) (hl : chk l = none) :
    Calls Tryz.prog 8 #[.pointer (some ⟨g, 0, none⟩), .string name, .slice A n c] w (ClassOk B g vL cs L day name l w) := by
  obtain ⟨i0, hi0, hz0, hz1, hz2⟩ := info_parts class_info
  have HI0 := Lib.hid hi0
  have HI1 := Lib.hid hz0
  have HI2 := Lib.hid hz1
  have HI3 := Lib.hid hz2
  have HW := Lib.hid (wrongClass_ok h name hs hg hn hC A n c l ht hl)
  have HCS := Lib.hid (fun w' => sclone_any name w' hs)
  have hlen := chk_len hl
  have hnl := ht.len
  subst hnl
  have HCT := Lib.hid (fun w' (hb : Below w.heap.size w w') => tclone_any A l.length c l w' hA ((ht.carry hb).wider hb.size) (by omega))
  have HD := Lib.hid (fun w' (hb : Below w.heap.size w w') => h.carry hb)
  have hBw : B ≤ w.heap.size := Nat.le_of_lt h.base
  obtain ⟨cA, cc, hv⟩ := h.formC
  obtain ⟨m, hm⟩ : ∃ m, cs.length = m := ⟨_, rfl⟩
  have HV := Lib.hid hv
  have HM := Lib.hid hm
  rw [hm] at hC
  have HL := Lib.hid hl
  obtain ⟨k, hk⟩ : ∃ k, l.length = k := ⟨_, rfl⟩
  rw [hk] at HW HCT ⊢
  have HK := Lib.hid hk
  clear h hs hg hn hA ht hl hv hm hi0 hz0 hz1 hz2 hk
  go_enter Tryz.func8, Tryz.ntmps8
  go_wp2_with (go_at_call 35; refine Hid.out ?_)
  refine Lib.hid ?_
  refine HW.out.mono ?_
  rintro e w2 ⟨rfl, hb2⟩
  have HB2 := Lib.hid hb2
  have HD2 := Lib.hid (fun w' (hb : Below w2.heap.size w2 w') => HD.out w' (bel_trans hb2 hb))
  have HT2 := Lib.hid (fun w' (hb : Below w2.heap.size w2 w') => HCT.out w' (bel_trans hb2 hb))
  have hS := fun w' (hb : Below w2.heap.size w2 w') => (show w'.cell? ⟨g, 0, none⟩ = some (.slice cA m cc) from by rw [(HD2.out w' hb).c0, HV.out, HM.out])
  have HS := Lib.hid hS
  have hS0 := hS w2 (Below.refl _ _)
  have hSd := hS w2.drew (Below.refl _ _).drew
  have hrow := fun w' (hb : Below w2.heap.size w2 w') (o : Obj) => own_alloc ((HD2.out w' hb).rowC) o
  rw [HV.out, HM.out] at hrow
  have HROW := Lib.hid hrow
  have hst := fun (w' : World) (hb : Below w2.heap.size w2 w') (v : Value) (hv : w'.ownsRow w2.heap.size 74 2 v l.length (stepCells l)) (o : Obj) (v7 : Value) (w7 : World)
      (hown : w7.ownsRow B 95 2 v7 (m + 1) (cs.flatMap cls1 ++ [.string name, v])) (hgr : (w'.alloc o).grownBy w7 (Value.slice cA m cc).ownBlock) =>
    DirAt.classed ((HD2.out w' hb).carry (bel_new w' o)) name v l (own_alloc (own_wider hv (Nat.le_trans hBw HB2.out.size)) o) HL.out v7 (by rw [HM.out]; exact hown) (by rw [HV.out, HM.out]; exact hgr) (by rw [HM.out]; exact hC)
  have HST := Lib.hid hst
  have hBw2 : B ≤ w2.heap.size := Nat.le_trans hBw HB2.out.size
  have hmx : m < 16 := hC
  have hB0 : Below w2.heap.size w2 w2.drew := (Below.refl _ _).drew
  have HB0 := Lib.hid hB0
  clear hb2 hS hrow hst HD HCT hB0
  go_wp2_with fail
  go_region_law ((first
      | (go_simp; go_at_call 37; refine (HCS.out _).mono ?_; rintro e wA ⟨rfl, hbA⟩; have BA : Below w2.heap.size w2 wA := (by first | exact bel_trans BB hbA | exact bel_trans HB0.out hbA); (try have OA := Lib.hid (own_keep OB.out hbA)); have gA := HS.out _ BA; have gA2 := (fun o => HS.out _ (bel_alloc BA o)); clear hbA; dsimp only)
      | (go_simp; go_at_call 38; ((with_reducible refine (HT2.out _ (by first | exact BA | exact HB0.out)).mono ?_)); rintro e wB ⟨vB, rfl, hoB, hbB⟩; have BB : Below w2.heap.size w2 wB := (by first | exact bel_trans BA hbB | exact bel_trans HB0.out hbB); have OB := Lib.hid (own_wider hoB (show w2.heap.size ≤ _ from (by first | exact BA.size | exact HB0.out.size))); have gB := HS.out _ BB; have gB2 := (fun o => HS.out _ (bel_alloc BB o)); clear hbB hoB; obtain ⟨vA, vc, rfl⟩ := own_slice OB.out; dsimp only)
      | (refine step_append_at rfl (.tmp 25) (.tmp 31) _ rfl B 95 i0 _ 2 40 Tryz.underlying76 HI0.out HI1.out HI2.out HI3.out rfl (by omega) (.slice cA m cc) m _ rfl (by first | exact HROW.out _ BA _ | exact HROW.out _ BB _) ⟨_, 0, none⟩ 1 1 [.string name, .slice vA l.length vc] rfl rfl (cells_new _ _ _ rfl) (pair_one _ _ _ _) (by simp only [maxLen]; omega) (by omega) (by first | (have := BA.size; simp; omega) | (have := BB.size; simp; omega)) ?_; intro v7 w7 hown7 hgr7 _; obtain ⟨A7, c7, rfl⟩ := own_slice hown7; (first | (have hh := HST.out _ BA _ OA.out _ _ _ hown7 hgr7) | (have hh := HST.out _ BB _ OB.out _ _ _ hown7 hgr7)); obtain ⟨hfin, hbl, f7, g7⟩ := hh; rw [HV.out, HM.out] at g7; have HF := Lib.hid hfin; have HBL := Lib.hid hbl; clear hown7 hgr7 hfin hbl)))
  all_goals
    clear f7 g7
    go_wp2_with fail
    go_ret
    exact ⟨rfl, _, _, HF.out, by first | exact ((HB2.out.mono hBw).trans ((bel_alloc BA _).mono hBw2)).trans HBL.out | exact ((HB2.out.mono hBw).trans ((bel_alloc BB _).mono hBw2)).trans HBL.out⟩
end Go.Proofs.YtoilgeahfdbhlaaGreatDoor

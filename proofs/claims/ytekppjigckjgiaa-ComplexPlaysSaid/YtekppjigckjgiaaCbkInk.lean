/- The landed book: Insert of an order that may wait. -/
import Derived.Test.YtekppjigckjgiaaCbkInb
set_option linter.unusedSimpArgs false
namespace Go.Proofs.Ytekppjigckjgiaa
open Go.RowKit Go.Mem1 Go.CbkMath

/-- A side's row: where it stands. -/
theorem BkAt.rowAt {w : World} {B g : Nat} {v1 v2 : Value} {D : Dk} (h : BkAt w B g v1 v2 D) {s : Int} (hs : s = 1 ∨ s = 2) :
    ∃ i v, (if s = 1 then 0 else 1) = i ∧ (#[v1, v2] : Array Value)[i]? = some v ∧ w.ownsRow B 31 5 v (rowD s D).length ((rowD s D).flatMap co1) ∧ w.cell? ⟨g, i, none⟩ = some v ∧ Sorted s (rowD s D) ∧ ∀ j, v.ownBlock = some j → BkO g v1 v2 j := by
  rcases hs with rfl | rfl
  · exact ⟨0, v1, rfl, rfl, h.b, h.c0, h.inv.s1, fun j hj => .inr (.inl hj)⟩
  · exact ⟨1, v2, rfl, rfl, h.s, h.c1, h.inv.s2, fun j hj => .inr (.inr hj)⟩
set_option maxRecDepth 100000 in
set_option maxHeartbeats 2000000 in
theorem bins_ok {w : World} {B g : Nat} {v1 v2 : Value} {D : Dk} (h : BkAt w B g v1 v2 D) {o : CO} (he : insE D o = 0) :
    Calls Try.prog 9 #[.pointer (some ⟨g, 0, none⟩), coV o] w (BkDid w B g v1 v2 (insD D o) (.int .i64 0)) := by
  have hI : Inv (insD D o) := ins_inv h.inv o
  have hD : insD D o = setD o.si (putC o (rowD o.si D)) D := by unfold insD; rw [if_pos he]
  rw [hD] at hI ⊢
  have h1 : okC o := by
    unfold insE at he
    by_cases h1 : okC o
    · exact h1
    · rw [if_pos h1] at he; cases he
  have hg : (get2 D o.id).isSome = false := by
    unfold insE at he
    rw [if_neg (not_not_intro h1)] at he
    cases hq : (get2 D o.id).isSome with
    | false => rfl
    | true => rw [hq, if_pos rfl] at he; cases he
  have hlt : D.1.length + D.2.length < 256 := by
    unfold insE at he
    rw [if_neg (not_not_intro h1), hg, if_neg (by decide)] at he
    by_cases h2 : 256 ≤ D.1.length + D.2.length
    · rw [if_pos h2] at he; cases he
    · omega
  have hs := h1.2.1
  have hk : decide (okC o) = true := by simp [h1]
  obtain ⟨W, hW⟩ : ∃ W, w.alloc (.cells (co1 o).toArray 31) = W := ⟨_, rfl⟩
  have BW : Below w.heap.size w W := by rw [← hW]; exact bel_new _ _
  have hX : Box W w.heap.size 31 (co1 o).toArray := by rw [← hW]; exact Box.fresh w _ _ rfl
  have HX := Lib.hid (fun w' (hb : Below W.heap.size W w') => hX.kept_below hb hX.there)
  have HK := Lib.hid (fun w' (hb : Below W.heap.size W w') => (h.carry BW).carry hb)
  have HM := Lib.hid (bmay_any o W)
  have HW := Lib.hid (fun w' (hb : Below W.heap.size W w') => bwaits_any ((h.carry BW).carry hb) o.id)
  have HL := Lib.hid (fun w' (hb : Below W.heap.size W w') => blen_any ((h.carry BW).carry hb))
  have HF := Lib.hid (fun w' (hb : Below W.heap.size W w') => bof_any ((h.carry BW).carry hb) o.si)
  have HO := Lib.hid (fun j (hj : BkO g v1 v2 j) => h.own_lt hj)
  have HB := Lib.hid BW
  have HI := Lib.hid hI
  have HH := Lib.hid h
  have HN := Lib.hid (row_len h.inv o.si)
  unfold BkDid
  have hW' : w.alloc (.cells #[.int .i64 o.id, .int .i64 o.ow, .int .i64 o.si, .int .i64 o.ne, .int .i64 o.un] 31) = W := hW
  have o0 : W.cell? ⟨w.heap.size, 0, none⟩ = some (.int .i64 o.id) := hX.reads 0
  have o1 : W.cell? ⟨w.heap.size, 1, none⟩ = some (.int .i64 o.ow) := hX.reads 1
  have o2 : W.cell? ⟨w.heap.size, 2, none⟩ = some (.int .i64 o.si) := hX.reads 2
  have o3 : W.cell? ⟨w.heap.size, 3, none⟩ = some (.int .i64 o.ne) := hX.reads 3
  have o4 : W.cell? ⟨w.heap.size, 4, none⟩ = some (.int .i64 o.un) := hX.reads 4
  obtain ⟨m, hmm⟩ : ∃ m, D.1.length + D.2.length = m := ⟨_, rfl⟩
  rw [hk] at HM
  rw [hg] at HW
  rw [hmm] at HL hlt
  have d1 : ¬ ((256 : Int) ≤ (m : Int)) := by omega
  have hS := Lib.hid hs
  clear h BW hX hW hD hI hk hg hmm h1 he hs hlt
  unfold coV at *
  go_enter Try.func9, Try.ntmps9
  go_wp2_with (first
    | (go_at_call 27; refine HM.out.mono ?_; rintro e w2 ⟨rfl, hb2⟩; obtain ⟨q0, q1, q2, q3, q4⟩ := OrdAt.cells (HX.out w2 hb2); replace hb2 := Lib.hid hb2)
    | (go_at_call 28; refine (HW.out _ hb2.out).mono ?_; rintro e w3 ⟨rfl, hb3⟩; replace hb3 := Lib.hid (bel_trans hb2.out hb3))
    | (go_at_call 25; refine (HL.out _ hb3.out).mono ?_; rintro e w4 ⟨rfl, hb4⟩; obtain ⟨r0, r1, r2, r3, r4⟩ := OrdAt.cells (HX.out w4 (bel_trans hb3.out hb4)); replace hb4 := Lib.hid (bel_trans hb3.out hb4))
    | (go_at_call 29; refine Hid.out ?_))
  refine Lib.hid ?_
  refine (HF.out _ hb4.out).mono ?_
  rintro e w5 ⟨p, v, rfl, hb5, hc, hr, hp1, hp2⟩
  have hb6 := bel_trans hb4.out hb5
  have hE := HK.out w5 hb6
  obtain ⟨i, v', hi, hv, hro, hcv, hso, hvo⟩ := hE.rowAt hS.out
  obtain ⟨rfl, rfl⟩ : p = ⟨g, i, none⟩ ∧ v = v' := by
    rcases hS.out with e | e
    · rw [e] at hi
      subst hi
      injection hv with hv
      rw [(hp1 e).1, (hp1 e).2]
      exact ⟨rfl, hv⟩
    · rw [e] at hi
      subst hi
      injection hv with hv
      rw [(hp2 e).1, (hp2 e).2]
      exact ⟨rfl, hv⟩
  obtain ⟨W6, hW6⟩ : ∃ W6, w5.alloc (.cells #[.pointer (some ⟨g, i, none⟩)] 70) = W6 := ⟨_, rfl⟩
  have B6 : Below w5.heap.size w5 W6 := by rw [← hW6]; exact bel_new _ _
  have xh : Box W6 w5.heap.size 70 #[.pointer (some ⟨g, i, none⟩)] := by rw [← hW6]; exact Box.fresh w5 _ _ rfl
  have hWW := bel_trans hb6 B6
  have xo := HX.out W6 hWW
  have hro6 := own_keep hro B6
  have hc6 : W6.cell? ⟨g, i, none⟩ = some v := (B6.cell (p := ⟨g, i, none⟩) hE.there).trans hcv
  have HS := Lib.hid (bsearch_any hS.out xo xh hc6 hro6 HN.out hso)
  obtain ⟨n, hn⟩ : ∃ n, (rowD o.si D).length = n := ⟨_, rfl⟩
  obtain ⟨A, c, e⟩ := own_slice hro6
  rw [hn] at e HS
  have p0 : W6.cell? ⟨w5.heap.size, 0, none⟩ = some (.pointer (some ⟨g, i, none⟩)) := xh.reads 0
  have HV := Lib.hid (And.intro hi (And.intro hv (And.intro hcv hvo)))
  have HR := Lib.hid hro6
  have HBX := Lib.hid (And.intro xh (And.intro B6 hWW))
  have HNN := Lib.hid hn
  have HEE := Lib.hid e
  have hc6' : W6.cell? ⟨g, i, none⟩ = some (.slice A n c) := by rw [hc6, e]
  clear hp1 hp2 hi hv hcv hso hvo hro xo xh hr hb5 hE hc hc6 hro6 B6 hWW hn e
  go_wp2_with (go_at_call 30; refine Hid.out ?_)
  refine Lib.hid ?_
  refine HS.out.mono ?_
  rintro e w7 ⟨rfl, hb7⟩
  obtain ⟨xh, B6, hWW⟩ := HBX.out
  obtain ⟨hi, hv, hcv, hvo⟩ := HV.out
  have hb57 := bel_trans B6 hb7
  have hW7 := bel_trans hWW hb7
  have hE7 := HK.out w7 hW7
  have xo7 := HX.out w7 hW7
  have hro7 := own_keep HR.out hb7
  have xh7 := xh.kept_below hb7 xh.there
  have hcg : w7.cell? ⟨g, i, none⟩ = some v := (hE7.box.reads i).trans hv
  have hkl := cut_le o (rowD o.si D)
  obtain ⟨k, hk⟩ : ∃ k, cutC o (rowD o.si D) = k := ⟨_, rfl⟩
  rw [hk] at hkl ⊢
  rw [HNN.out] at hkl
  have s0 : w7.cell? ⟨w5.heap.size, 0, none⟩ = some (.pointer (some ⟨g, i, none⟩)) := xh7.reads 0
  have s1 : w7.cell? ⟨g, i, none⟩ = some (.slice A n c) := by rw [hcg, HEE.out]
  obtain ⟨y0, y1, y2, y3, y4⟩ := OrdAt.cells xo7
  obtain ⟨W8, hW8⟩ : ∃ W8, (w7.alloc (.cells (co1 o).toArray 31)).drew = W8 := ⟨_, rfl⟩
  have B8 : Below w7.heap.size w7 W8 := by rw [← hW8]; exact (bel_new w7 _).drew
  have hV8 : OrdAt W8 w7.heap.size 31 o := by
    rw [← hW8]
    exact Box.fresh w7 31 (co1 o).toArray rfl
  have hro8 := own_keep hro7 B8
  have hvb : v.ownBlock ≠ some w7.heap.size := fun e => by have := (World.ownsRow.lt hro7 _ e).2; omega
  have hBs : B ≤ W8.heap.size := by
    have := hE7.base
    have := B8.size
    omega
  have hIN := sins_any (k := k) hro8 hBs (by rw [HNN.out]; exact hkl) HN.out hV8 hvb
  have hgv : v.ownBlock ≠ some g := hE7.box.off_row hro7 (by decide)
  have hh5 := xh7.there
  have hxh : ∀ w9, Chg (fun j => v.ownBlock = some j) W8 w9 → w9.cell? ⟨w5.heap.size, 0, none⟩ = some (.pointer (some ⟨g, i, none⟩)) ∧ w9.cell? ⟨g, i, none⟩ = some (.slice A n c) ∧ (w9.cell? ⟨w.heap.size, 0, none⟩ = some (.int .i64 o.id) ∧ w9.cell? ⟨w.heap.size, 1, none⟩ = some (.int .i64 o.ow) ∧ w9.cell? ⟨w.heap.size, 2, none⟩ = some (.int .i64 o.si) ∧ w9.cell? ⟨w.heap.size, 3, none⟩ = some (.int .i64 o.ne) ∧ w9.cell? ⟨w.heap.size, 4, none⟩ = some (.int .i64 o.un)) ∧ w9.frozen? ⟨g, i, none⟩ = false := fun w9 hC => by
    have a1 := (xh7.kept_below B8 xh7.there).kept hC (fun e => xh7.off_row hro7 (by decide) e)
    have a2 := (hE7.box.kept_below B8 hE7.there).kept hC hgv
    have a3 := (xo7.kept_below B8 xo7.there).kept hC (fun e => by
      have := (HO.out _ (hvo _ e)).2
      omega)
    have a4 : w9.cell? ⟨g, i, none⟩ = some v := (a2.reads i).trans hv
    rw [HEE.out] at a4
    exact ⟨a1.reads 0, a4, OrdAt.cells a3, a2.unmarked i⟩
  have hS8 := hxh W8 (Chg.refl _ _)
  have HS9 := Lib.hid hxh
  have HFIN := Lib.hid (fun w9 v' (ho : w9.ownsRow B 31 5 v' ((rowD o.si D).length + 1) (((rowD o.si D).take k ++ o :: (rowD o.si D).drop k).flatMap co1)) (hC : Chg (fun j => v.ownBlock = some j) W8 w9) (hn : ∀ j, v'.ownBlock = some j → v.ownBlock = some j ∨ W8.heap.size ≤ j) =>
    (show ∃ u1 u2, BkAt (w9.setCell ⟨g, i, none⟩ v') B g u1 u2 (setD o.si (putC o (rowD o.si D)) D) ∧ Chg (BkO g v1 v2) w (w9.setCell ⟨g, i, none⟩ v') ∧ ∀ j, BkO g u1 u2 j → BkO g v1 v2 j ∨ w.heap.size ≤ j from by
      have hb08 := bel_trans (bel_trans HB.out hW7) B8
      have hs : Chg (fun j => j = g) w9 (w9.setCell ⟨g, i, none⟩ v') := Chg.setCell (S := fun j => j = g) (Chg.refl _ _) (p := ⟨g, i, none⟩) (fun _ => rfl) v'
      have hx9 := ((hE7.box.kept_below B8 hE7.there).kept hC hgv).wrote i v'
      have he : putC o (rowD o.si D) = (rowD o.si D).take k ++ o :: (rowD o.si D).drop k := by unfold putC; rw [hk]
      have hgl : g < W8.heap.size := Nat.lt_of_lt_of_le hE7.there B8.size
      have hne : ∀ j, v'.ownBlock = some j → ¬ j = g := fun j hj e => by
        rcases hn j hj with h1 | h1
        · exact hgv (by rw [h1, e])
        · omega
      refine HH.out.row hS.out hi hv hx9 (by rw [put_len, he]; exact own_chg ho hs hne) ?_ (fun j hj => ?_) HI.out
      · exact ((Chg.of_below hb08 _).then (hC.mono (fun j _ e => .inr e)) (fun j _ e => e)).then (hs.mono (fun j _ e => .inl e)) (fun j _ e => e)
      · rcases hn j hj with h1 | h1
        · exact .inl h1
        · exact .inr (Nat.le_trans hb08.size h1)))
  have hW8' : (w7.alloc (.cells #[.int .i64 o.id, .int .i64 o.ow, .int .i64 o.si, .int .i64 o.ne, .int .i64 o.un] 31)).drew = W8 := hW8
  rw [HEE.out] at hIN HS9 HFIN
  unfold SInsPost at hIN
  have HIN := Lib.hid hIN
  have HW8 := Lib.hid hW8'
  have S0 := And.intro s0 (And.intro s1 (And.intro y0 (And.intro y1 (And.intro y2 (And.intro y3 y4)))))
  have S8 := And.intro hS8.1 (And.intro hS8.2.1 hS8.2.2.1)
  clear xh B6 hWW hi hv hcv hvo hb57 hW7 hE7 xo7 hro7 xh7 hcg hk hb7 p0 hc6' r0 r1 r2 r3 r4 q0 q1 q2 q3 q4 hIN hW8 hxh hgv hBs hvb hro8 hV8 B8 hS8
  rw [HNN.out] at HIN HFIN
  rw [← hW8'] at HIN S8 HS9 HFIN
  clear hW8' HW8
  obtain ⟨t0, t1, t2, t3, t4, t5, t6⟩ := (show (w7.alloc (.cells #[.int .i64 o.id, .int .i64 o.ow, .int .i64 o.si, .int .i64 o.ne, .int .i64 o.un] 31)).cell? ⟨w5.heap.size, 0, none⟩ = some (.pointer (some ⟨g, i, none⟩)) ∧ _ from S8)
  clear S0
  go_wp2_with fail
  go_region_law ((go_simp; go_at_call 32; refine HIN.out.mono ?_; rintro e w9 ⟨v', rfl, ho, hC, hn'⟩; obtain ⟨u1, u2, u3, fz⟩ := HS9.out w9 hC; have HE := Lib.hid (HFIN.out w9 v' ho hC hn'); obtain ⟨A', c', e9⟩ := own_slice ho; subst e9; clear ho hC hn' u3; dsimp only))
  all_goals (go_wp2_with fail)
  all_goals go_ret
  all_goals exact ⟨rfl, HE.out⟩
theorem bins_any {w : World} {B g : Nat} {v1 v2 : Value} {D : Dk} (h : BkAt w B g v1 v2 D) (o : CO) :
    Calls Try.prog 9 #[.pointer (some ⟨g, 0, none⟩), coV o] w (BkDid w B g v1 v2 (insD D o) (.int .i64 (insE D o))) := by
  by_cases he : insE D o = 0
  · rw [he]; exact bins_ok h he
  · exact bins_bad h he
end Go.Proofs.Ytekppjigckjgiaa

/- The contract of the directory's Row. -/
import Derived.Test.YtoilgeahfdbhlaaGreatDoorDirDay
import Derived.Test.YtoilgeahfdbhlaaGreatDoorDirCmp
set_option linter.unusedSimpArgs false
namespace Go.Mem1
open Go.RowKit Go.Sort Go.Proofs
variable {α : Type} [Inhabited α]
theorem chg_sortWorld (enc : α → Value) (w : World) (blk off m : Nat) (d : Array α) (os : Array Obj) : Chg (fun k => k = blk) w (sortWorld enc w blk off m d os) :=
  ⟨rfl, rfl, rfl, by unfold sortWorld; simp, fun k hk hn => by
    unfold sortWorld
    rw [heap_grow_old _ _ (by simpa using hk)]
    unfold putRow mapBlock
    simp only [Array.getElem?_modify, heap_ahead]
    rw [if_neg (fun e => hn e.symm)]⟩
end Go.Mem1
namespace Go.Proofs.YtoilgeahfdbhlaaGreatDoor
open Go.RowKit Go.Mem1 Go.GridMath Go.DirMath

theorem rowAll_any (s : Ser) (w : World) : Calls Tryz.prog 54 #[serV s] w fun e w' => e = .returned (.bool true) ∧ Below w.heap.size w w' := by
  obtain ⟨sc, se, st, sr⟩ := s
  go_enter Tryz.func54, Tryz.ntmps54
  go_wp2_with fail
  go_ret
  exact ⟨rfl, bel_new _ _⟩
set_option maxRecDepth 100000 in
set_option maxHeartbeats 1000000 in
theorem rowCmp_any {w : World} {B g p : Nat} {vC vL : Value} {cs : List Cl} {L : List Lst} {day : Int} (h : DirAt w B g vC vL cs L day) (hp : w.cell? ⟨p, 0, none⟩ = some (.pointer (some ⟨g, 0, none⟩))) (i j : Nat) (x y : Lst) (hx : L[i]? = some x) (hy : L[j]? = some y) :
    Calls Tryz.prog 72 #[.int .i64 ((i : Int) + 1), .int .i64 ((j : Int) + 1), .pointer (some ⟨p, 0, none⟩)] w fun e w' => e = .returned (.int .i64 (cmpS x.1 y.1)) ∧ Grw w w' := by
  have HC := Lib.hid (fun w' => compare_any x.1 y.1 w')
  obtain ⟨b, c, hv, hb, _, k0, k1, k2, k3, k4⟩ := h.lst hx
  obtain ⟨b', c', hv', hb', _, q0, q1, q2, q3, q4⟩ := h.lst hy
  rw [hv] at hv'
  injection hv' with e1 _ e2
  injection e1 with e1
  injection e1 with e1
  subst e1; subst e2
  have c1 := h.c1
  rw [hv] at c1
  have hi : i < L.length := by
    rcases Nat.lt_or_ge i L.length with h' | h'
    · exact h'
    · rw [List.getElem?_eq_none h'] at hx; cases hx
  have hj : j < L.length := by
    rcases Nat.lt_or_ge j L.length with h' | h'
    · exact h'
    · rw [List.getElem?_eq_none h'] at hy; cases hy
  have hm := h.mostL
  obtain ⟨n, hn⟩ : ∃ n, L.length = n := ⟨_, rfl⟩
  rw [hn] at c1 hi hj hm
  obtain ⟨⟨xc, xe, xs, xr⟩, xst⟩ := x
  obtain ⟨⟨yc, ye, ys, yr⟩, yst⟩ := y
  dsimp only at k0 k1 k2 k3 k4 q0 q1 q2 q3 q4 HC ⊢
  obtain ⟨R, hR⟩ : ∃ R, cmpS ⟨xc, xe, xs, xr⟩ ⟨yc, ye, ys, yr⟩ = R := ⟨_, rfl⟩
  rw [hR] at HC ⊢
  have i1 : (0 : Int) ≤ (i : Int) := by omega
  have i2 : (i : Int) < (n : Int) := by omega
  have i3 : IntKind.i64.wrap (i : Int) = (i : Int) := iwrap (by omega)
  have j1 : (0 : Int) ≤ (j : Int) := by omega
  have j2 : (j : Int) < (n : Int) := by omega
  have j3 : IntKind.i64.wrap (j : Int) = (j : Int) := iwrap (by omega)
  clear h hx hy hv hn hR hb hb'
  go_enter Tryz.func72, Tryz.ntmps72
  go_wp2_with fail
  refine wp_region_still_tail 18 (by kernel_rfl) (by kernel_rfl) ?_
  simp only [List.take_succ_cons, List.take_zero, List.drop_succ_cons, List.drop_zero]
  change wpStill _ _ (World.drew _) _ _ _
  still_step; still_step; still_step; still_step; still_step; still_step; still_step; still_step; still_step
  still_step; still_step; still_step; still_step; still_step; still_step; still_step; still_step; still_step
  refine wpStill_nil ?_
  change wpList _ _ _ _ _ (World.drew w)
  have HG := Lib.hid ((Grw.refl w).drew)
  clear hp k0 k1 k2 k3 k4 q0 q1 q2 q3 q4 c1
  go_wp2_with (go_at_call 73; refine (HC.out _).mono ?_; rintro e w' ⟨rfl, hg⟩; replace hg := Lib.hid (HG.out.trans hg))
  go_ret
  exact ⟨rfl, hg.out⟩
/-- The numbers 1 to n. -/
def upN (n : Nat) : List Int := (List.range n).map fun (i : Nat) => (i : Int) + 1
theorem upN_len (n : Nat) : (upN n).length = n := by simp [upN]
theorem upN_succ (n : Nat) : upN (n + 1) = upN n ++ [(n : Int) + 1] := by simp [upN, List.range_succ]
theorem upN_at {n j : Nat} (h : j < n) : (ints (upN n))[j]? = some (.int .i64 ((j : Int) + 1)) := by simp [ints, upN, h]
theorem sort_any {w : World} {B g p : Nat} {vC vL : Value} {cs : List Cl} {L : List Lst} {day : Int} (h : DirAt w B g vC vL cs L day) (hp : Box w p 24 #[.pointer (some ⟨g, 0, none⟩)]) {base : Nat} {v : Value} (ho : w.ownsRow base 3 1 v L.length (ints (upN L.length))) :
    Calls Tryz.prog 71 #[v, .func (.func 72) #[] #[.pointer (some ⟨p, 0, none⟩)]] w fun e w' => e = .returned (.tuple #[]) ∧ Chg (fun k => some k = v.ownBlock) w w' := by
  rcases Nat.eq_zero_or_pos L.length with h0 | h0
  · obtain ⟨A, c, e⟩ := own_slice ho
    rw [h0] at e
    subst e
    exact (AnyF.slices_SortFunc_none (P := Tryz.prog) (ρ := Tryz.sortL_ren) { Tryz.sortL with } A c _ w).mono fun e w' ⟨he, hw⟩ => ⟨he, hw ▸ Chg.refl _ _⟩
  · rcases own_form ho with ⟨_, h1⟩ | ⟨blk, c, rfl, hB, hb, hc⟩
    · omega
    · have hm := h.mostL
      have hk : ∃ k, L.length = k + 1 := ⟨L.length - 1, by omega⟩
      obtain ⟨k, hk⟩ := hk
      have eg : ∀ args w, (callFunc 72 args).run Tryz.prog w = .ok (.enter 72 args) w := enters_of Tryz.func72 (by kernel_rfl) rfl
      let enc : Fin (k + 1) → Value := fun i => .int .i64 ((i.val : Int) + 1)
      let el : Fin (k + 1) → Lst := fun i => L[i.val]'(by have := i.isLt; omega)
      let cf : Fin (k + 1) → Fin (k + 1) → Int := fun i j => cmpS (el i).1 (el j).1
      let d : Array (Fin (k + 1)) := Array.ofFn id
      have hds : d.size = k + 1 := Array.size_ofFn
      have hd : ∀ j (hj : j < k + 1), d[j]! = ⟨j, hj⟩ := fun j hj => by
        rw [getElem!_pos d j (by rw [hds]; exact hj)]
        simp [d]
      have hH : Sort.Holds enc w blk 0 d := fun j hj => by
        rw [hds] at hj
        rw [hd j hj, Nat.zero_add]
        exact ⟨own_cell ho (by rw [hk]; exact upN_at hj), ho.frozenAt j⟩
      have hO : Sort.SWO (ltOf cf) := (ordS.on (fun i => (el i).1)).swo
      have hcmp : CmpLays1 Tryz.prog 72 #[.pointer (some ⟨p, 0, none⟩)] enc cf blk 0 d.size w := fun m os dk _ x y => by
        have C := chg_sortWorld enc w blk 0 m dk os
        have C2 : Chg (fun k => some k = (Value.slice (some ⟨blk, 0, none⟩) L.length c).ownBlock) w (sortWorld enc w blk 0 m dk os) := C.mono (fun i _ e => by rw [e]; rfl)
        have D := h.other ho (by decide) (by decide) (by decide) (by decide) C2
        have P := hp.kept C (fun e => hp.off_row ho (by decide) (by rw [e]; rfl))
        exact rowCmp_any D (P.reads 0) x.val y.val (el x) (el y) (List.getElem?_eq_getElem _) (List.getElem?_eq_getElem _)
      have hcon := Any.slices_SortFunc Tryz.sortL enc (fun _ => rfl) cf hO 72 #[.pointer (some ⟨p, 0, none⟩)] blk 0 c d w eg hcmp hH hb (by omega)
      rw [show L.length = d.size by rw [hds, hk]]
      exact hcon.mono fun e w' ⟨he, d', n, os, _, _, hw⟩ => ⟨he, by rw [hw]; exact (chg_sortWorld enc w blk 0 n d' os).mono (fun i _ e => by rw [e]; rfl)⟩
/-- At the head of a round of row. -/
def RowJ (w : World) (g : Nat) (k : Nat) (v : Value) (wr : World) : Prop :=
  wr.ownsRow (w.heap.size + 1) 3 1 v k (ints (upN k)) ∧ Below w.heap.size w wr ∧ Box wr w.heap.size 24 #[.pointer (some ⟨g, 0, none⟩)]
theorem RowJ.step {w wr w1 w7 : World} {g k : Nat} {v v' : Value} (h : RowJ w g k v wr) (hb : Below wr.heap.size wr w1) (o : Obj) (hown : w7.ownsRow (w.heap.size + 1) 3 1 v' (k + 1) (ints (upN k) ++ [.int .i64 ((k : Int) + 1)])) (hgr : (w1.alloc o).grownBy w7 v.ownBlock) : RowJ w g (k + 1) v' w7 := by
  obtain ⟨h1, h2, h3⟩ := h
  have hb1 : Below wr.heap.size wr (w1.alloc o) := bel_alloc hb o
  have r1 := own_keep h1 hb1
  have b1 := h3.kept_below hb1 h3.there
  have hC := Chg.of_grown hgr
  refine ⟨by rw [upN_succ]; simpa [ints] using hown, ?_, b1.kept hC (fun e => b1.off_row r1 (by decide) e.symm)⟩
  have hs : w.heap.size ≤ wr.heap.size := h2.size
  exact Chg.toBelow (bel_trans h2 hb1) hC (by have := hb1.size; omega) (fun i hi e => by have := (r1.lt i e.symm).1; omega)
set_option maxRecDepth 100000 in
set_option maxHeartbeats 2000000 in
theorem row_any {w : World} {B g : Nat} {vC vL : Value} {cs : List Cl} {L : List Lst} {day : Int} (h : DirAt w B g vC vL cs L day) :
    Calls Tryz.prog 53 #[.pointer (some ⟨g, 0, none⟩), .func (.func 54) #[] #[]] w fun e w' => (∃ A c, e = .returned (.slice A L.length c)) ∧ Below w.heap.size w w' := by
  obtain ⟨i0, hi0, hz0, hz1, hz2⟩ := info_parts int_info
  have HD := Lib.hid (fun w' (hb : Below w.heap.size w w') => h.carry hb)
  obtain ⟨A, c, hv⟩ := h.formL
  have hm := h.mostL
  have hg := h.there
  have c1 := h.c1
  rw [hv] at c1
  obtain ⟨n, hn⟩ : ∃ n, L.length = n := ⟨_, rfl⟩
  rw [hn] at c1 hm ⊢
  have c1' : ∀ o, (w.alloc o).cell? ⟨g, 1, none⟩ = some (.slice A n c) := fun o => ((bel_new w o).cell (p := ⟨g, 1, none⟩) hg).trans c1
  have HV := Lib.hid hv
  have HN := Lib.hid hn
  have HI0 := Lib.hid hi0
  have HI1 := Lib.hid hz0
  have HI2 := Lib.hid hz1
  have HI3 := Lib.hid hz2
  have HJ0 : Hid (RowJ w g 0 (.slice none 0 0) (w.alloc (.cells #[.pointer (some ⟨g, 0, none⟩)] 24))) := ⟨World.ownsRow_nil _ _ _ _, bel_new _ _, Box.fresh _ _ _ rfl⟩
  clear h hv hn hi0 hz0 hz1 hz2 c1
  go_enter Tryz.func53, Tryz.ntmps53
  go_wp2_with fail
  clear c1'
  go_loopw [5, 13] (fun v5 v13 wr => ∃ k : Nat, k ≤ n ∧ v13 = .int .i64 k ∧ Hid (RowJ w g k v5 wr)) (fun _ v13 _ => n - (intOf v13).toNat)
  case atStart => exact ⟨0, by omega, rfl, HJ0⟩
  case round =>
    obtain ⟨k, hk, rfl, hJ⟩ := hrel
    obtain ⟨hR, hB, hP⟩ := hJ.out
    obtain ⟨A5, c5, e5⟩ := own_slice hR
    subst e5
    have hwb := hB.size
    by_cases hlt : k < n
    · obtain ⟨x, hx⟩ : ∃ x, L[k]? = some x := ⟨_, List.getElem?_eq_getElem (by rw [HN.out]; exact hlt)⟩
      obtain ⟨b, c', e1, hb, _, k0, k1, k2, k3, k4⟩ := (HD.out wr hB).lst hx
      have hv2 := HV.out
      rw [e1] at hv2
      injection hv2 with e2 _ e3
      subst e2; subst e3
      have HST := Lib.hid (fun w1 hb o v' w7 hown hgr => RowJ.step (w1 := w1) (w7 := w7) (v' := v') hJ.out hb o hown hgr)
      have HR := Lib.hid (fun w1 (hb : Below wr.heap.size wr w1) o => own_alloc (own_keep hR hb) o)
      obtain ⟨⟨xc, xe, xs, xr⟩, xst⟩ := x
      have HA := Lib.hid (fun w' => rowAll_any ⟨xc, xe, xs, xr⟩ w')
      dsimp only at k0 k1 k2 k3 k4
      have i1 : (0 : Int) ≤ (k : Int) := by omega
      have i2 : (k : Int) < (n : Int) := by omega
      clear hx hR hB hP e1
      go_wp2_with (go_at_call 54; refine Hid.out ?_)
      refine Lib.hid ?_
      refine (HA.out _).mono ?_
      rintro e w1 ⟨rfl, hb1⟩
      have hb2 := Lib.hid (bel_trans (bel_new wr _) hb1)
      clear hb1 k0 k1 k2 k3 k4
      go_wp2_with (at_builtin; refine Hid.out ?_)
      refine Lib.hid ?_
      refine wpList_append_own_at _ rfl (.tmp 22) (.tmp 25) _ rfl (w.heap.size + 1) 3 i0 _ 1 8 Tryz.underlying29 HI0.out HI1.out HI2.out HI3.out rfl (by omega) (.slice A5 k c5) k _ rfl (HR.out _ hb2.out _) ⟨_, 0, none⟩ 1 1 [.int .i64 ((k : Int) + 1)] rfl rfl (cells_new _ _ _ (by simp)) (ints_one [(k : Int) + 1]) (by simp only [maxLen]; omega) (by omega) (by have := hb2.out.size; simp; omega) ?_
      intro v7 w7 hown7 hgr7 _ _
      have HK2 := Lib.hid (HST.out _ hb2.out _ _ _ hown7 hgr7)
      clear hown7 hgr7 HST HR hb2
      go_wp2_with fail
      go_roundw
      case rel => exact ⟨k + 1, by omega, by go_num, HK2⟩
      case measure => simp [intOf]; omega
    · obtain rfl : k = n := by omega
      have hS := sort_any (HD.out wr hB) hP (base := w.heap.size + 1) (v := .slice A5 k c5) (by rw [HN.out]; exact hR)
      have HS := Lib.hid hS
      have HF := Lib.hid (fun w' (hc : Chg (fun j => some j = (Value.slice A5 k c5).ownBlock) wr w') => Chg.toBelow hB hc hwb (fun i hi e => by have := (hR.lt i e.symm).1; omega))
      clear hR hB hP hS
      go_wp2_with (go_at_call 71; refine HS.out.mono ?_; rintro e w' ⟨rfl, hc⟩; replace hc := Lib.hid hc)
      go_ret
      exact ⟨⟨_, _, rfl⟩, HF.out _ hc.out⟩
theorem Row_any {w : World} {B g : Nat} {vC vL : Value} {cs : List Cl} {L : List Lst} {day : Int} (h : DirAt w B g vC vL cs L day) :
    Calls Tryz.prog 28 #[.pointer (some ⟨g, 0, none⟩)] w fun e w' => (∃ A c, e = .returned (.slice A L.length c)) ∧ Below w.heap.size w w' := by
  have HR := Lib.hid (row_any h)
  obtain ⟨n, hn⟩ : ∃ n, L.length = n := ⟨_, rfl⟩
  rw [hn] at HR ⊢
  clear h hn
  go_enter Tryz.func28, Tryz.ntmps28
  go_wp2_with (go_at_call 53; refine HR.out.mono ?_; rintro e w' ⟨⟨A, c, rfl⟩, hb⟩; replace hb := Lib.hid hb)
  go_ret
  exact ⟨⟨_, _, rfl⟩, hb.out⟩
end Go.Proofs.YtoilgeahfdbhlaaGreatDoor

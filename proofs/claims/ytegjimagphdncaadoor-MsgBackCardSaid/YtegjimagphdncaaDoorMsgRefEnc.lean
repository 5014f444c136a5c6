/- The reference's Encode, whatever the message. -/
import Derived.Test.YtegjimagphdncaaDoorMsgOf
import Derived.Test.YtegjimagphdncaaDoorRefInt
import Derived.Test.YtegjimagphdncaaDoorMsgCuts
import Derived.Deep.RegionHeld3
set_option linter.unusedSimpArgs false
namespace Go.Proofs.YtegjimagphdncaaDoor
open Go.RowKit Go.Mem1 Go.CodMath

theorem PartsAt.chg {w w' : World} {B g n : Nat} {t : TypeId} {cs : Array Value} {A : Option Addr} {l : List (ByteArray × Int)} (h : PartsAt w B A n l) (hb : Box w g t cs) (h0 : ∀ (i : Nat) (s : ByteArray), cs[i]? ≠ some (Value.string s)) (hc : Chg (· = g) w w') : PartsAt w' B A n l :=
  ⟨h.len, fun i x hx => by
    obtain ⟨b, off, e, hlt, h1, h2⟩ := h.at_ i x hx
    have hne : b ≠ g := by
      rintro rfl
      rw [hb.reads] at h1
      exact h0 _ _ h1
    exact ⟨b, off, e, hlt, hc.cell h1 hne, hc.cell h2 hne⟩⟩
def set2 (w : World) (g : Nat) (v0 v1 : Value) : World := (w.setCell ⟨g, 0, none⟩ v0).setCell ⟨g, 1, none⟩ v1
theorem set2_def (w : World) (g : Nat) (v0 v1 : Value) : (w.setCell ⟨g, 0, none⟩ v0).setCell ⟨g, 1, none⟩ v1 = set2 w g v0 v1 := rfl
theorem set2_chg (w : World) (g : Nat) (v0 v1 : Value) : Chg (· = g) w (set2 w g v0 v1) :=
  ((Chg.refl (· = g) w).setCell (p := ⟨g, 0, none⟩) (fun _ => rfl) v0).setCell (p := ⟨g, 1, none⟩) (fun _ => rfl) v1
theorem set2_box {w : World} {g : Nat} {t : TypeId} {c0 c1 : Value} (h : Box w g t #[c0, c1]) (v0 v1 : Value) : Box (set2 w g v0 v1) g t #[v0, v1] := by
  have := (h.wrote 0 v0).wrote 1 v1
  simpa [set2] using this
theorem set2_size (w : World) (g : Nat) (v0 v1 : Value) : (set2 w g v0 v1).heap.size = w.heap.size := by simp [set2, World.setCell]
/-- The bytes so far, in a row of the call's own. -/
def RE (w W0 : World) (l : List Nat) (v : Value) (wr : World) : Prop :=
  ∃ A n c, v = .slice A n c ∧ wr.ownsRow (w.heap.size + 2) 5 1 (.slice A n c) n (l.map bv) ∧ (∀ x ∈ l, x < 256) ∧ Below (w.heap.size + 2) W0 wr ∧ w.heap.size + 2 ≤ wr.heap.size
theorem RE.after' {wr w2 : World} {base : Nat} {xs : List Value} {A : Option Addr} {n c : Nat} (h : wr.ownsRow base 5 1 (.slice A n c) n xs) (hB : Below wr.heap.size wr w2) : w2.ownsRow base 5 1 (.slice A n c) n xs :=
  own_chg h (Chg.of_below hB (fun _ => False)) (fun _ _ h => h)
/-- A call between, and an append. -/
theorem RE.after {w wr w2 : World} {l : List Nat} {A : Option Addr} {n c : Nat} (h : wr.ownsRow (w.heap.size + 2) 5 1 (.slice A n c) n (l.map bv)) (hB : Below wr.heap.size wr w2) : w2.ownsRow (w.heap.size + 2) 5 1 (.slice A n c) n (l.map bv) :=
  own_chg h (Chg.of_below hB (fun _ => False)) (fun _ _ h => h)
theorem RE.next {w W0 w2 w3 : World} {l m : List Nat} {A : Option Addr} {n c k : Nat} {v : Value} (ho : w2.ownsRow (w.heap.size + 2) 5 1 (.slice A n c) n (l.map bv)) (hb : ∀ x ∈ l, x < 256) (hm : ∀ x ∈ m, x < 256) (hB : Below (w.heap.size + 2) W0 w2) (hs : w.heap.size + 2 ≤ w2.heap.size)
    (hown : w3.ownsRow (w.heap.size + 2) 5 1 v (n + k) (l.map bv ++ m.map bv)) (hgr : w2.grownBy w3 (Value.slice A n c).ownBlock) : RE w W0 (l ++ m) v w3 := by
  obtain ⟨A3, c3, rfl⟩ := own_slice hown
  refine ⟨A3, n + k, c3, rfl, by rw [List.map_append]; exact hown, fun x hx => (List.mem_append.1 hx).elim (hb x) (hm x), hB.grown hgr hs (fun i hi => (ho.lt i hi).1), Nat.le_trans hs hgr.size⟩
def REncBad (w : World) (h : Hd) (n : Nat) (e : Ending) (w' : World) : Prop :=
  ∃ A m c, e = .returned (.tuple #[.slice none 0 0, .agg #[.slice A m c, .int .i64 ((MsgMath.chk h.k h.s n : Nat) : Int)]]) ∧ (A = none → c = 0) ∧ PartsAt w' w'.heap.size A m [(msgBytes, MsgMath.cut h.k)] ∧ Below w.heap.size w w'
def REncOk (w : World) (h : Hd) (rs : List R5) (e : Ending) (w' : World) : Prop :=
  ∃ A c, e = .returned (.tuple #[.slice A (encOf h rs).length c, .agg #[.slice none 0 0, .int .i64 0]]) ∧ (A = none → c = 0) ∧ Byt w' w'.heap.size A (encOf h rs).length (encOf h rs) ∧ Below w.heap.size w w'
set_option maxRecDepth 100000 in
set_option maxHeartbeats 1000000 in
theorem refEncode_bad (h : Hd) (A : Option Addr) (n c : Nat) (w : World) (hc : MsgMath.chk h.k h.s n ≠ 0) :
    Calls Tryd.prog 11 #[.agg #[.int .i64 h.k, .int .i64 h.s, .int .i64 h.a, .int .i64 h.b, .int .i64 h.c, .int .i64 h.d, .int .i64 h.e, .int .i64 h.f, .slice A n c]] w (REncBad w h n) := by
  have hw := fun w => refWrong_any h.k h.s n w
  unfold IntPost at hw
  have HW := Lib.hid hw
  have hne : (((MsgMath.chk h.k h.s n : Nat) : Int) != 0) = true := by simp; omega
  obtain ⟨X, hX⟩ : ∃ X, X = MsgMath.chk h.k h.s n := ⟨_, rfl⟩
  rw [← hX] at HW hne
  have HX := Lib.hid hX
  clear hw hc hX
  go_enter Tryd.func11, Tryd.ntmps11
  go_wp2_with (go_at_call 29; refine Hid.out ?_)
  refine Lib.hid ?_
  refine (HW.out _).mono ?_
  rintro e w1 ⟨rfl, rfl⟩
  go_wp2_with (go_at_call 30; refine Hid.out ?_)
  refine Lib.hid ?_
  refine (refCut_any h.k _).mono ?_
  rintro e w1 ⟨rfl, rfl⟩
  go_wp2_with (go_at_call 24; refine Hid.out ?_)
  refine Lib.hid ?_
  refine (refAt_any _ _ _ _).mono ?_
  rintro e w2 ⟨A2, m2, c2, rfl, hk2, hp2, B2⟩
  have B2' : Below w.heap.size w w2 := bel_trans (bel_alloc (bel_new w _) _) B2
  have hr2 : Box w2 (w.heap.size + 1) 34 #[.slice none 0 0, .int .i64 0] := (Box.fresh _ _ _ (by simp)).kept_below B2 (by simp)
  have r0 := (hr2.reads 0).trans (show _ = some (Value.slice none 0 0) from rfl)
  have r1 := (hr2.reads 1).trans (show _ = some (Value.int .i64 0) from rfl)
  have f0 := hr2.unmarked 0
  have f1 := hr2.unmarked 1
  have HP2 := Lib.hid hp2
  have HB2 := Lib.hid hr2
  have HK2 := Lib.hid hk2
  clear hp2 hr2 hk2 B2
  go_wp2_with fail
  rw [set2_def]
  have hb9 := set2_box HB2.out (.slice A2 m2 c2) (.int .i64 (X : Int))
  have fin : REncBad w h n (.returned (.tuple #[.slice none 0 0, .agg #[.slice A2 m2 c2, .int .i64 (X : Int)]])) (set2 w2 (w.heap.size + 1) (.slice A2 m2 c2) (.int .i64 (X : Int))) := by
    refine ⟨A2, m2, c2, by rw [HX.out], HK2.out, ?_, Chg.toBelow B2' (set2_chg _ _ _ _) B2'.size (fun i hi e => by omega)⟩
    rw [set2_size]
    exact HP2.out.chg HB2.out (fun i s hi => by
      match i, hi with
      | 0, hi => simp at hi
      | 1, hi => simp at hi
      | k + 2, hi => simp at hi) (set2_chg _ _ _ _)
  generalize set2 w2 (w.heap.size + 1) (.slice A2 m2 c2) (.int .i64 (X : Int)) = W9 at *
  have q0 := (hb9.reads 0).trans (show _ = some (Value.slice A2 m2 c2) from rfl)
  have q1 := (hb9.reads 1).trans (show _ = some (Value.int .i64 (X : Int)) from rfl)
  exact bodyPost_ret (v := .tuple #[.slice none 0 0, .agg #[.slice A2 m2 c2, .int .i64 (X : Int)]]) (by simp [results, Tryd.results11, go_sem, q0, q1]) rfl fin

theorem take_ints {zs : List Int} {k : Nat} {z : Int} (h : zs[k]? = some z) : (zs.take (k + 1)).flatMap ien = (zs.take k).flatMap ien ++ ien z := by
  rw [List.take_add_one, h, Option.toList_some, List.flatMap_append]
  simp
theorem RE.len {w wr : World} {l : List Nat} {A : Option Addr} {n c : Nat} (ho : wr.ownsRow (w.heap.size + 2) 5 1 (.slice A n c) n (l.map bv)) : n = l.length := by have := ho.1; simp at this; exact this.symm
theorem RowsAt.num {w : World} {B b off n k j : Nat} {rs : List R5} {x : R5} {z : Int} (h : RowsAt w B (some ⟨b, off, none⟩) n rs) (hx : rs[k]? = some x) (hz : x.l[j]? = some z) (hk : k < n) (hj : j < 5) : w.cell? ⟨b, off + k * 5 + j, none⟩ = some (.int .i64 z) := by
  obtain ⟨b', off', e, _, hc⟩ := h.rd.cells (by omega)
  cases e
  have := hc (k * 5 + j) (.int .i64 z) ((rowCells_at hx hj).trans (by rw [List.getElem?_map, hz]; rfl))
  rw [← Nat.add_assoc] at this
  exact this
theorem a_at {h : Hd} {A : Option Addr} {n c k : Nat} (hk : k < 6) : ∃ z, h.l[2 + k]? = some z ∧ (#[.int .i64 h.k, .int .i64 h.s, .int .i64 h.a, .int .i64 h.b, .int .i64 h.c, .int .i64 h.d, .int .i64 h.e, .int .i64 h.f, .slice A n c] : Array Value)[2 + k]? = some (.int .i64 z) := by
  match k, hk with
  | 0, _ => exact ⟨h.a, rfl, rfl⟩
  | 1, _ => exact ⟨h.b, rfl, rfl⟩
  | 2, _ => exact ⟨h.c, rfl, rfl⟩
  | 3, _ => exact ⟨h.d, rfl, rfl⟩
  | 4, _ => exact ⟨h.e, rfl, rfl⟩
  | 5, _ => exact ⟨h.f, rfl, rfl⟩
set_option maxRecDepth 100000 in
set_option maxHeartbeats 3000000 in
theorem refEncode_ok (h : Hd) (rs : List R5) (A : Option Addr) (n c : Nat) (w : World) (hok : h.ok) (hr : RowsAt w w.heap.size A n rs) (hc : MsgMath.chk h.k h.s n = 0) :
    Calls Tryd.prog 11 #[.agg #[.int .i64 h.k, .int .i64 h.s, .int .i64 h.a, .int .i64 h.b, .int .i64 h.c, .int .i64 h.d, .int .i64 h.e, .int .i64 h.f, .slice A n c]] w (REncOk w h rs) := by
  have hn64 : n ≤ 64 := by have := MsgMath.chk_ok hc; have := MsgMath.most_bd h.k; omega
  have hw := fun w => refWrong_any h.k h.s n w
  unfold IntPost at hw
  rw [hc] at hw
  have HW := Lib.hid hw
  have HR := Lib.hid hr
  have HO := Lib.hid hok
  obtain ⟨i0, hi0, hz0, hz1, hz2⟩ := info_parts u8_info
  have HI0 := Lib.hid hi0
  have HI1 := Lib.hid hz0
  have HI2 := Lib.hid hz1
  have HI3 := Lib.hid hz2
  clear hw hc hr hok hi0 hz0 hz1 hz2
  go_enter Tryd.func11, Tryd.ntmps11
  go_wp2_with (go_at_call 29; refine Hid.out ?_)
  refine Lib.hid ?_
  refine (HW.out _).mono ?_
  rintro e w1 ⟨rfl, rfl⟩
  have hW0 : ∃ W0, W0 = ((w.alloc (.cells #[.int .i64 h.k, .int .i64 h.s, .int .i64 h.a, .int .i64 h.b, .int .i64 h.c, .int .i64 h.d, .int .i64 h.e, .int .i64 h.f, .slice A n c] 39)).alloc (.cells #[.slice none 0 0, .int .i64 0] 34)) := ⟨_, rfl⟩
  obtain ⟨W0, hW0⟩ := hW0
  have hb0 : Box W0 w.heap.size 39 #[.int .i64 h.k, .int .i64 h.s, .int .i64 h.a, .int .i64 h.b, .int .i64 h.c, .int .i64 h.d, .int .i64 h.e, .int .i64 h.f, .slice A n c] := by rw [hW0]; exact (Box.fresh w _ _ rfl).kept_below (bel_new _ _) (by simp)
  have hb1 : Box W0 (w.heap.size + 1) 34 #[.slice none 0 0, .int .i64 0] := by rw [hW0]; exact Box.fresh _ _ _ (by simp)
  have B0 : Below w.heap.size w W0 := by rw [hW0]; exact bel_alloc (bel_new w _) _
  have z0 : W0.heap.size = w.heap.size + 2 := by rw [hW0]; simp
  rw [← hW0]
  have HB0 := Lib.hid hb0
  have HB1 := Lib.hid hb1
  have HZ0 := Lib.hid z0
  have k0 := (hb0.reads 0).trans (show _ = some (Value.int .i64 h.k) from rfl)
  have k1 := (hb0.reads 1).trans (show _ = some (Value.int .i64 h.s) from rfl)
  have hik := fun w => refInt_any h.k w (HO.out h.k (by simp [Hd.l]))
  have his := fun w => refInt_any h.s w (HO.out h.s (by simp [Hd.l]))
  have HIK := Lib.hid hik
  have HIS := Lib.hid his
  have lk := ien_len (HO.out h.k (by simp [Hd.l]))
  have ls := ien_len (HO.out h.s (by simp [Hd.l]))
  clear hW0 hb0 hb1 z0 hik his
  go_wp2_with fail
  go_region_held3 (fun w' => w'.cell? ⟨w.heap.size, 0, none⟩ = some (.int .i64 h.k) ∧ w'.cell? ⟨w.heap.size, 1, none⟩ = some (.int .i64 h.s))
    (first | exact ⟨k0, k1⟩ | exact ⟨ja0, ja1⟩ | exact ⟨jb0, jb1⟩ | exact ⟨jc0, jc1⟩)
    ((first | (go_at_call 31; ((with_reducible refine (HIK.out _).mono ?_)); rintro e wA ⟨Aa, na, ca, rfl, hoa, Ba⟩; have hoa2 := own_wider (base' := w.heap.size + 2) hoa (by first | (have := HZ0.out; show w.heap.size + 2 ≤ W0.heap.size; omega) | (have := HZ0.out; have := BB.size; omega)); have BA : Below W0.heap.size W0 wA := (by first | exact bel_trans BB Ba | exact ((Below.refl W0.heap.size W0).drew).trans Ba); have ja0 := (BA.cell (p := ⟨w.heap.size, 0, none⟩) (by show w.heap.size < W0.heap.size; have := HZ0.out; omega)).trans k0; have ja1 := (BA.cell (p := ⟨w.heap.size, 1, none⟩) (by show w.heap.size < W0.heap.size; have := HZ0.out; omega)).trans k1)
            | (go_at_call 31; ((with_reducible refine (HIS.out _).mono ?_)); rintro e wB ⟨Ab, nb, cb, rfl, hob, Bb⟩; have hob2 := own_wider (base' := w.heap.size + 2) hob (by first | (have := HZ0.out; show w.heap.size + 2 ≤ W0.heap.size; omega) | (have := HZ0.out; have := BA.size; omega)); have BB : Below W0.heap.size W0 wB := (by first | exact bel_trans BA Bb | exact ((Below.refl W0.heap.size W0).drew).trans Bb); have jb0 := (BB.cell (p := ⟨w.heap.size, 0, none⟩) (by show w.heap.size < W0.heap.size; have := HZ0.out; omega)).trans k0; have jb1 := (BB.cell (p := ⟨w.heap.size, 1, none⟩) (by show w.heap.size < W0.heap.size; have := HZ0.out; omega)).trans k1)
            | (refine step_append rfl (.tmp 26) (.tmp 29) _ rfl (w.heap.size + 2) 5 i0 _ 1 Tryd.underlying27 HI0.out HI1.out HI2.out HI3.out rfl (.slice Aa na ca) na ((ien h.k).map bv) rfl (by first | exact RE.after' hoa2 Bb | exact hoa2) Ab nb cb (by first | exact own_nilcap hob) ((ien h.s).map bv) rfl (by first | exact (Rd.ofOwn hob) | exact ((Rd.ofOwn hob).carry Ba)) (oneCell_bv _) (by have q1 := hoa.1; have q2 := hob.1; simp at q1 q2; simp only [maxLen]; omega) (by have q1 := hoa.1; have q2 := hob.1; simp at q1 q2; omega) (by have := HZ0.out; have := BB.size; have := BA.size; omega) ?_; intro vC wC hownC hgrC hatC; have BC : Below W0.heap.size W0 wC := (by first | exact BB.grown hgrC BB.size (fun i hi => by have := (hoa2.lt i hi).1; have := HZ0.out; omega) | exact BA.grown hgrC BA.size (fun i hi => by have := (hoa2.lt i hi).1; have := HZ0.out; omega)); have jc0 := (BC.cell (p := ⟨w.heap.size, 0, none⟩) (by show w.heap.size < W0.heap.size; have := HZ0.out; omega)).trans k0; have jc1 := (BC.cell (p := ⟨w.heap.size, 1, none⟩) (by show w.heap.size < W0.heap.size; have := HZ0.out; omega)).trans k1; have HOC := Lib.hid hownC; clear hownC hgrC hatC)))
  all_goals
    have hre : RE w W0 ((h.l.take 2).flatMap ien) vC wC := by
      have q1 := hoa.1
      have q2 := hob.1
      simp at q1 q2
      obtain ⟨AC, cC, rfl⟩ := own_slice HOC.out
      refine ⟨AC, na + nb, cC, rfl, ?_, ?_, BC.mono (by have := HZ0.out; omega), by have := HZ0.out; have := BC.size; omega⟩
      · have e : (h.l.take 2).flatMap ien = ien h.k ++ ien h.s := by simp [Hd.l]
        rw [e, List.map_append]
        exact HOC.out
      · intro x hx
        have e : (h.l.take 2).flatMap ien = ien h.k ++ ien h.s := by simp [Hd.l]
        rw [e] at hx
        exact (List.mem_append.1 hx).elim (vint_bnd _ x) (vint_bnd _ x)
    have HRE := Lib.hid hre
    clear hre jc0 jc1 ja0 ja1 jb0 jb1 BA BB BC Ba Bb hoa hob hoa2 hob2 HOC
    go_wp2_with fail
    go_loopw [5, 6] (fun v5 v6 wr => ∃ k : Nat, k ≤ 6 ∧ v6 = .int .i64 k ∧ Hid (RE w W0 ((h.l.take (2 + k)).flatMap ien) v5 wr)) (fun _ v6 _ => 6 - (intOf v6).toNat)
    case atStart => exact ⟨0, by omega, rfl, HRE⟩
    case round =>
      obtain ⟨k, hk, rfl, hRE⟩ := hrel
      obtain ⟨A5, n5, c5, rfl, ho, hb, hB, hs⟩ := hRE.out
      have hbx := HB0.out.kept_below hB (by omega)
      have hln := RE.len ho
      have hlb := iens_len (h.l.take (2 + k)) (fun z hz => HO.out z (List.mem_of_mem_take hz))
      have hlt8 : (h.l.take (2 + k)).length ≤ 2 + k := List.length_take_le _ _
      by_cases hlt : k < 6
      · obtain ⟨z, hz, hcz⟩ := a_at (h := h) (A := A) (n := n) (c := c) hlt
        have hcell := (hbx.reads (2 + k)).trans hcz
        have hzb := HO.out z (List.mem_of_getElem? hz)
        have hiz := fun w => refInt_any z w hzb
        have htk := take_ints hz
        have lz := ien_len hzb
        have HIZ := Lib.hid hiz
        have HTK := Lib.hid htk
        have HOW := Lib.hid ho
        have HBD := Lib.hid hb
        have HBB := Lib.hid hB
        have HLN := Lib.hid hln
        have i1 : (0 : Int) ≤ (k : Int) := by omega
        have i2 : (k : Int) < 6 := by omega
        have n5b : n5 ≤ 100 := by omega
        clear hz hcz hiz htk ho hb hB hbx hln hlb hlt8 hzb
        go_wp2_with (go_at_call 31; refine Hid.out ?_)
        refine Lib.hid ?_
        refine (HIZ.out _).mono ?_
        rintro e w2 ⟨Am, nm, cm, rfl, hom, Bm⟩
        have ho2 := RE.after' HOW.out Bm
        have hB2 : Below (w.heap.size + 2) W0 w2 := HBB.out.trans (Bm.mono hs)
        have hs2 : w.heap.size + 2 ≤ w2.heap.size := Nat.le_trans hs Bm.size
        have hnm : nm = (ien z).length := by have := hom.1; simp at this; exact this.symm
        have HO2 := Lib.hid ho2
        have HOM := Lib.hid hom
        have HB2 := Lib.hid hB2
        have nmb : nm ≤ 10 := by omega
        clear ho2 hom hB2 hnm Bm hcell
        go_wp2_with (at_builtin; refine Hid.out ?_)
        refine Lib.hid ?_
        refine wpList_append rfl (.tmp 35) (.tmp 40) _ rfl (w.heap.size + 2) 5 i0 _ 1 Tryd.underlying27 HI0.out HI1.out HI2.out HI3.out rfl (.slice A5 n5 c5) n5 _ rfl HO2.out Am nm cm (own_nilcap HOM.out) ((ien z).map bv) rfl (Rd.ofOwn HOM.out) (oneCell_bv _) (by simp only [maxLen]; omega) (by omega) hs2 ?_
        intro v7 w7 hown7 hgr7 _
        have hre7 := RE.next (W0 := W0) (m := ien z) HO2.out HBD.out (vint_bnd _) HB2.out hs2 hown7 hgr7
        rw [← HTK.out] at hre7
        have HR7 := Lib.hid hre7
        clear hown7 hgr7 hre7
        go_wp2_with fail
        go_roundw
        case rel => exact ⟨k + 1, by omega, by go_num, HR7⟩
        case measure => simp [intOf]; omega
      · obtain rfl : k = 6 := by omega
        have ht8 : (h.l.take (2 + 6)).flatMap ien = h.l.flatMap ien := rfl
        rw [ht8] at ho hb
        have d8 := (hbx.reads 8).trans (show _ = some (Value.slice A n c) from rfl)
        have hin := fun w => refInt_any (n : Int) w ⟨by omega, by omega⟩
        have HIN := Lib.hid hin
        have HOW := Lib.hid ho
        have HBD := Lib.hid hb
        have HBB := Lib.hid hB
        have n5b : n5 ≤ 100 := by omega
        clear ho hb hB hbx hln hlb hlt8 hin hRE ht8
        go_wp2_with (go_at_call 31; refine Hid.out ?_)
        refine Lib.hid ?_
        refine (HIN.out _).mono ?_
        rintro e w2 ⟨Am, nm, cm, rfl, hom, Bm⟩
        have ho2 := RE.after' HOW.out Bm
        have hB2 : Below (w.heap.size + 2) W0 w2 := HBB.out.trans (Bm.mono hs)
        have hs2 : w.heap.size + 2 ≤ w2.heap.size := Nat.le_trans hs Bm.size
        have hnm : nm = (ien (n : Int)).length := by have := hom.1; simp at this; exact this.symm
        have lnn := ien_len (z := (n : Int)) ⟨by omega, by omega⟩
        have HO2 := Lib.hid ho2
        have HOM := Lib.hid hom
        have HB2 := Lib.hid hB2
        have nmb : nm ≤ 10 := by omega
        clear ho2 hom hB2 hnm Bm d8
        go_wp2_with (at_builtin; refine Hid.out ?_)
        refine Lib.hid ?_
        refine wpList_append rfl (.tmp 42) (.tmp 46) _ rfl (w.heap.size + 2) 5 i0 _ 1 Tryd.underlying27 HI0.out HI1.out HI2.out HI3.out rfl (.slice A5 n5 c5) n5 _ rfl HO2.out Am nm cm (own_nilcap HOM.out) ((ien (n : Int)).map bv) rfl (Rd.ofOwn HOM.out) (oneCell_bv _) (by simp only [maxLen]; omega) (by omega) hs2 ?_
        intro v7 w7 hown7 hgr7 _
        have hre7 := RE.next (W0 := W0) (m := ien (n : Int)) HO2.out HBD.out (vint_bnd _) HB2.out hs2 hown7 hgr7
        have hlen := HR.out.len
        have hbase : (h.l.flatMap ien ++ ien (n : Int)).length ≤ 90 := by
          have h1 := iens_len h.l HO.out
          have h3 : h.l.length = 8 := rfl
          rw [List.length_append]; omega
        have henc : encOf h rs = (h.l.flatMap ien ++ ien (n : Int)) ++ rs.flatMap fun x => x.l.flatMap ien := by rw [← hlen]; rfl
        have HEN := Lib.hid henc
        have HLEN := Lib.hid hlen
        generalize h.l.flatMap ien ++ ien (n : Int) = base at hre7 hbase HEN
        have HR7 := Lib.hid hre7
        clear hown7 hgr7 hre7 henc hlen HO2 HOM HB2 HBD HBB HOW HIN
        go_wp2_with fail
        go_loopw [5, 7] (fun v5 v7 wr => ∃ k : Nat, k ≤ n ∧ v7 = .int .i64 k ∧ Hid (RE w W0 (base ++ (rs.take k).flatMap fun x => x.l.flatMap ien) v5 wr)) (fun _ v7 _ => n - (intOf v7).toNat)
        case atStart => exact ⟨0, by omega, rfl, by simpa using HR7⟩
        case round =>
          obtain ⟨k, hk, rfl, hRE⟩ := hrel
          have hR0 := hRE.out
          obtain ⟨A6, n6, c6, rfl, ho, hb, hB, hs⟩ := hR0
          have hbx := HB0.out.kept_below hB (by omega)
          have d8 := (hbx.reads 8).trans (show _ = some (Value.slice A n c) from rfl)
          by_cases hlt : k < n
          · have Bw : Below w.heap.size w wr := B0.trans (hB.mono (by omega))
            obtain ⟨b, off, x, rfl, hbl, hx, hxo, x0, x1, x2, x3, x4⟩ := (HR.out.carry Bw).at_ hlt
            have HX := Lib.hid hx
            have HXO := Lib.hid hxo
            clear ho hb hB hbx hx hxo x0 x1 x2 x3 x4
            go_wp2_with fail
            go_loopw [5, 8] (fun v5 v8 w2 => ∃ j : Nat, j ≤ 5 ∧ v8 = .int .i64 j ∧ Hid (RE w W0 ((base ++ (rs.take k).flatMap fun x => x.l.flatMap ien) ++ (x.l.take j).flatMap ien) v5 w2)) (fun _ v8 _ => 5 - (intOf v8).toNat)
            case atStart => exact ⟨0, by omega, rfl, by simpa using hRE⟩
            case round =>
              obtain ⟨j, hj, rfl, hRE2⟩ := hrel
              obtain ⟨A7, n7, c7, rfl, ho2, hb2, hB2, hs2⟩ := hRE2.out
              have hln := RE.len ho2
              have hbx2 := HB0.out.kept_below hB2 (by omega)
              have g8 := (hbx2.reads 8).trans (show _ = some (Value.slice (some ⟨b, off, none⟩) n c) from rfl)
              by_cases hjt : j < 5
              · have hzj : x.l[j]? = some (x.l[j]'(by simp [R5.l]; omega)) := List.getElem?_eq_getElem _
                generalize x.l[j]'(by simp [R5.l]; omega) = z at hzj
                have hzb := HXO.out z (List.mem_of_getElem? hzj)
                have Bw2 : Below w.heap.size w wr := B0.trans (hB2.mono (by omega))
                have hcell := (HR.out.carry Bw2).num HX.out hzj hlt hjt
                have hiz := fun w => refInt_any z w hzb
                have htk := take_ints hzj
                have lz := ien_len hzb
                have HIZ := Lib.hid hiz
                have HTK := Lib.hid htk
                have hlb : (base ++ (rs.take k).flatMap (fun x => x.l.flatMap ien) ++ (x.l.take j).flatMap ien).length ≤ 90 + 50 * 64 + 50 := by
                  have h1 := flat_len (rs.take k) (fun y hy => HR.out.ok y (List.mem_of_mem_take hy))
                  have h2 : (rs.take k).length ≤ k := List.length_take_le _ _
                  have h3 := iens_len (x.l.take j) (fun y hy => HXO.out y (List.mem_of_mem_take hy))
                  have h4 : (x.l.take j).length ≤ j := List.length_take_le _ _
                  rw [List.length_append, List.length_append]; omega
                have HOW := Lib.hid ho2
                have HBD := Lib.hid hb2
                have HBB := Lib.hid hB2
                have i1 : (0 : Int) ≤ (j : Int) := by omega
                have i2 : (j : Int) < 5 := by omega
                have i3 : (0 : Int) ≤ (k : Int) := by omega
                have i4 : (k : Int) < (n : Int) := by omega
                have n7b : n7 ≤ 4000 := by omega
                have ht2 : base ++ (rs.take k).flatMap (fun x => x.l.flatMap ien) ++ (x.l.take (j + 1)).flatMap ien = (base ++ (rs.take k).flatMap (fun x => x.l.flatMap ien) ++ (x.l.take j).flatMap ien) ++ ien z := by rw [htk]; simp only [List.append_assoc]
                have HT2 := Lib.hid ht2
                clear ht2
                clear hzj hiz htk ho2 hb2 hB2 hbx2 hln hlb hzb
                go_wp2_with (go_at_call 31; refine Hid.out ?_)
                refine Lib.hid ?_
                refine (HIZ.out _).mono ?_
                rintro e w9 ⟨Am9, nm9, cm9, rfl, hom, Bm⟩
                have ho9 := RE.after' HOW.out Bm
                have hB9 : Below (w.heap.size + 2) W0 w9 := HBB.out.trans (Bm.mono hs2)
                have hs9 : w.heap.size + 2 ≤ w9.heap.size := Nat.le_trans hs2 Bm.size
                have hnm : nm9 = (ien z).length := by have := hom.1; simp at this; exact this.symm
                have HO9 := Lib.hid ho9
                have HOM9 := Lib.hid hom
                have HB9 := Lib.hid hB9
                have nmb9 : nm9 ≤ 10 := by omega
                clear ho9 hom hB9 hnm Bm hcell g8
                go_wp2_with (at_builtin; refine Hid.out ?_)
                refine Lib.hid ?_
                refine wpList_append rfl (.tmp 59) (.tmp 67) _ rfl (w.heap.size + 2) 5 i0 _ 1 Tryd.underlying27 HI0.out HI1.out HI2.out HI3.out rfl (.slice A7 n7 c7) n7 _ rfl HO9.out Am9 nm9 cm9 (own_nilcap HOM9.out) ((ien z).map bv) rfl (Rd.ofOwn HOM9.out) (oneCell_bv _) (by simp only [maxLen]; omega) (by omega) hs9 ?_
                intro v10 w10 hown10 hgr10 _
                have hre10 := RE.next (W0 := W0) (m := ien z) HO9.out HBD.out (vint_bnd _) HB9.out hs9 hown10 hgr10
                rw [← HT2.out] at hre10
                have HR10 := Lib.hid hre10
                clear hown10 hgr10 hre10
                go_wp2_with fail
                go_roundw
                case rel => exact ⟨j + 1, by omega, by go_num, HR10⟩
                case measure => simp [intOf]; omega
              · obtain rfl : j = 5 := by omega
                have ht5 : base ++ (rs.take k).flatMap (fun x => x.l.flatMap ien) ++ (x.l.take 5).flatMap ien = base ++ (rs.take (k + 1)).flatMap fun x => x.l.flatMap ien := by
                  rw [flat_take HX.out, List.append_assoc]
                  rfl
                rw [ht5] at hRE2
                clear ht5 ho2 hb2 hB2 hbx2 hln g8
                go_wp2_with fail
                go_roundw
                case rel => exact ⟨k + 1, by omega, by go_num, hRE2⟩
                case measure => simp [intOf]; omega
          · obtain rfl : k = n := by omega
            have htk : rs.take k = rs := List.take_of_length_le (by have := HLEN.out; omega)
            rw [htk, ← HEN.out] at ho hb
            have hln := RE.len ho
            have hr9 := HB1.out.kept_below hB (by omega)
            have r0 := (hr9.reads 0).trans (show _ = some (Value.slice none 0 0) from rfl)
            have r1 := (hr9.reads 1).trans (show _ = some (Value.int .i64 0) from rfl)
            have f0 := hr9.unmarked 0
            have f1 := hr9.unmarked 1
            have HR9 := Lib.hid hr9
            have HOW := Lib.hid ho
            have HBD := Lib.hid hb
            have HBB := Lib.hid hB
            have HLN := Lib.hid hln
            clear ho hb hB hbx hln hr9 hRE htk
            go_wp2_with fail
            rw [set2_def]
            have hb9 := set2_box HR9.out (.slice none 0 0) (.int .i64 0)
            have hch := set2_chg wr (w.heap.size + 1) (.slice none 0 0) (.int .i64 0)
            have fin : REncOk w h rs (.returned (.tuple #[.slice A6 n6 c6, .agg #[.slice none 0 0, .int .i64 0]])) (set2 wr (w.heap.size + 1) (.slice none 0 0) (.int .i64 0)) := by
              have hl := HLN.out
              subst hl
              refine ⟨A6, c6, rfl, own_nilcap HOW.out, (Byt.ofOwn HOW.out HBD.out).kept hch (fun b o e _ hb => ?_), Chg.toBelow (B0.trans (HBB.out.mono (by omega))) hch (by omega) (fun i hi e => by omega)⟩
              have := HOW.out.lt b (by rw [e]; rfl)
              omega
            generalize set2 wr (w.heap.size + 1) (.slice none 0 0) (.int .i64 0) = W9 at *
            have q0 := (hb9.reads 0).trans (show _ = some (Value.slice none 0 0) from rfl)
            have q1 := (hb9.reads 1).trans (show _ = some (Value.int .i64 0) from rfl)
            exact bodyPost_ret (v := .tuple #[.slice A6 n6 c6, .agg #[.slice none 0 0, .int .i64 0]]) (by simp [results, Tryd.results11, go_sem, q0, q1]) rfl fin
end Go.Proofs.YtegjimagphdncaaDoor

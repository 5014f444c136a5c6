/- The reference's Remove. -/
import Derived.Test.YtekppjigckjgiaaCbkGet
import Derived.Test.YtekppjigckjgiaaCbkIns
import Derived.Test.YtekppjigckjgiaaCbkFlat
import Derived.Test.YtekppjigckjgiaaCbkFlat
import Derived.Test.YtekppjigckjgiaaAppS
import Derived.Deep.RegionLaw
import Derived.Deep.RegionHeld3
import Derived.BigQuiet
set_option linter.unusedSimpArgs false
namespace Go.Proofs.Ytekppjigckjgiaa
open Go.RowKit Go.Mem1 Go.CbkMath

theorem Zero5.carry {w w' : World} {r : Nat} {t : TypeId} (h : Zero5 w r t) (hb : Below w.heap.size w w') : Zero5 w' r t := ⟨h.box.kept_below hb h.box.there⟩
theorem Zero5.ups {w : World} {r : Nat} {t : TypeId} (h : Zero5 w r t) : (∀ x, (w.alloc x).cell? ⟨r, 0, Option.none⟩ = some (.int .i64 0)) ∧ (∀ x, (w.alloc x).cell? ⟨r, 1, Option.none⟩ = some (.int .i64 0)) ∧ (∀ x, (w.alloc x).cell? ⟨r, 2, Option.none⟩ = some (.int .i64 0)) ∧ (∀ x, (w.alloc x).cell? ⟨r, 3, Option.none⟩ = some (.int .i64 0)) ∧ (∀ x, (w.alloc x).cell? ⟨r, 4, Option.none⟩ = some (.int .i64 0)) ∧
    (∀ x, (w.alloc x).frozen? ⟨r, 0, Option.none⟩ = false) ∧ (∀ x, (w.alloc x).frozen? ⟨r, 1, Option.none⟩ = false) ∧ (∀ x, (w.alloc x).frozen? ⟨r, 2, Option.none⟩ = false) ∧ (∀ x, (w.alloc x).frozen? ⟨r, 3, Option.none⟩ = false) ∧ ∀ x, (w.alloc x).frozen? ⟨r, 4, Option.none⟩ = false :=
  have h' := fun x => (h.carry (bel_new w x)).cells
  ⟨fun x => (h' x).1, fun x => (h' x).2.1, fun x => (h' x).2.2.1, fun x => (h' x).2.2.2.1, fun x => (h' x).2.2.2.2.1, fun x => (h' x).2.2.2.2.2.1, fun x => (h' x).2.2.2.2.2.2.1, fun x => (h' x).2.2.2.2.2.2.2.1, fun x => (h' x).2.2.2.2.2.2.2.2.1, fun x => (h' x).2.2.2.2.2.2.2.2.2⟩
theorem bel_set5 {w wr : World} (h : Below w.heap.size w wr) {u0 u1 u2 u3 u4 : Value} : Below w.heap.size w (((((wr.setCell ⟨w.heap.size, 0, Option.none⟩ u0).setCell ⟨w.heap.size, 1, Option.none⟩ u1).setCell ⟨w.heap.size, 2, Option.none⟩ u2).setCell ⟨w.heap.size, 3, Option.none⟩ u3).setCell ⟨w.heap.size, 4, Option.none⟩ u4) :=
  bel_set (bel_set (bel_set (bel_set (bel_set h _ 0 (Nat.le_refl _) _) _ 1 (Nat.le_refl _) _) _ 2 (Nat.le_refl _) _) _ 3 (Nat.le_refl _) _) _ 4 (Nat.le_refl _) _
theorem RefAt.kept {w w' : World} {B g : Nat} {u1 u2 : Value} {D : Dk} (h : RefAt w B g u1 u2 D) {S : Nat → Prop} (hc : Chg S w w') (hg : ¬ S g) (h1 : ∀ j, u1.ownBlock = some j → ¬ S j) (h2 : ∀ j, u2.ownBlock = some j → ¬ S j) : RefAt w' B g u1 u2 D :=
  ⟨h.box.kept hc hg, h.low, own_chg h.b hc h1, own_chg h.s hc h2⟩
theorem chg_set5 (w : World) (R : Nat) {u0 u1 u2 u3 u4 : Value} : Chg (fun j => j = R) w (((((w.setCell ⟨R, 0, Option.none⟩ u0).setCell ⟨R, 1, Option.none⟩ u1).setCell ⟨R, 2, Option.none⟩ u2).setCell ⟨R, 3, Option.none⟩ u3).setCell ⟨R, 4, Option.none⟩ u4) :=
  Chg.setCell (S := fun j => j = R) (Chg.setCell (S := fun j => j = R) (Chg.setCell (S := fun j => j = R) (Chg.setCell (S := fun j => j = R) (Chg.setCell (S := fun j => j = R) (Chg.refl _ _) (p := ⟨R, 0, Option.none⟩) (fun _ => rfl) _) (p := ⟨R, 1, Option.none⟩) (fun _ => rfl) _) (p := ⟨R, 2, Option.none⟩) (fun _ => rfl) _) (p := ⟨R, 3, Option.none⟩) (fun _ => rfl) _) (p := ⟨R, 4, Option.none⟩) (fun _ => rfl) _
theorem chg_own5 {S : Nat → Prop} {w w9 : World} (h : Chg S w w9) {R : Nat} (hR : w.heap.size ≤ R) {u0 u1 u2 u3 u4 : Value} : Chg S w (((((w9.setCell ⟨R, 0, Option.none⟩ u0).setCell ⟨R, 1, Option.none⟩ u1).setCell ⟨R, 2, Option.none⟩ u2).setCell ⟨R, 3, Option.none⟩ u3).setCell ⟨R, 4, Option.none⟩ u4) :=
  h.then (chg_set5 w9 R) (fun i hi e => absurd hi (by omega))
/-- What Remove makes: each row is the old one or new. -/
def RRem (w : World) (B g : Nat) (v1 v2 : Value) (D : Dk) (id : Int) (e : Ending) (w' : World) : Prop := e = .returned (.tuple #[coV (remO D id).1, .bool (remO D id).2]) ∧ (∃ u1 u2, RefAt w' B g u1 u2 (remD D id) ∧ (∀ j, u1.ownBlock = some j → v1.ownBlock = some j ∨ w.heap.size ≤ j) ∧ ∀ j, u2.ownBlock = some j → v2.ownBlock = some j ∨ w.heap.size ≤ j) ∧ Chg (fun j => j = g) w w'
section
variable {w : World} {B g : Nat} {v1 v2 : Value} {D : Dk}
set_option maxRecDepth 100000 in
set_option maxHeartbeats 2000000 in
theorem rrem_bad (h : RefAt w B g v1 v2 D) (hm : D.1.length + D.2.length ≤ 256) {id : Int} (hE : get2 D id = none) :
    Calls Try.prog 13 #[.pointer (some ⟨g, 0, none⟩), .int .i64 id] w (RRem w B g v1 v2 D id) := by
  have HD : Hid (∀ w', Below w.heap.size w w' → (∃ u1 u2, RefAt w' B g u1 u2 (remD D id) ∧ (∀ j, u1.ownBlock = some j → v1.ownBlock = some j ∨ w.heap.size ≤ j) ∧ ∀ j, u2.ownBlock = some j → v2.ownBlock = some j ∨ w.heap.size ≤ j) ∧ Chg (fun j => j = g) w w') := Lib.hid fun w' hb => ⟨⟨v1, v2, by unfold remD; rw [hE]; exact h.carry hb, fun _ h => .inl h, fun _ h => .inl h⟩, Chg.of_below hb _⟩
  have HG := Lib.hid (fun w' (hb : Below w.heap.size w w') => rget_any (h.carry hb) hm id)
  have hV : getV D id = .tuple #[coV zeroC, .int .i64 (-1)] := by unfold getV; rw [hE]
  rw [hV] at HG
  have hR : remO D id = (zeroC, false) := by unfold remO; rw [hE]
  unfold RRem
  rw [hR]
  unfold coV zeroC at HG
  clear h hE hV hR hm
  go_enter Try.func13, Try.ntmps13
  go_wp2_with (go_at_call 20; refine (HG.out _ (bel_new _ _)).mono ?_; rintro e w1 ⟨rfl, hb1⟩; obtain ⟨z0, z1, z2, z3, z4, f0, f1, f2, f3, f4⟩ := (Zero5.carry ⟨Box.fresh w 37 zero5 rfl⟩ hb1).ups; replace hb1 := Lib.hid (bel_trans (bel_new _ _) hb1))
  refine bodyPost_ret (v := .tuple #[coV zeroC, .bool false]) (by simp [results, Try.results13, go_sem, coV, zeroC, z0, z1, z2, z3, z4, Try.isAgg37, Try.sizeOf37]) rfl ⟨rfl, ?_⟩
  exact HD.out _ (bel_set5 (bel_alloc hb1.out _))
set_option maxRecDepth 100000 in
set_option maxHeartbeats 4000000 in
theorem rrem_ok (h : RefAt w B g v1 v2 D) (hI : Inv D) {id : Int} {k : Nat} {o : CO} (hE : get2 D id = some (k, o)) :
    Calls Try.prog 13 #[.pointer (some ⟨g, 0, none⟩), .int .i64 id] w (RRem w B g v1 v2 D id) := by
  have hm := hI.most
  have HL := Lib.hid (fun w' (hb : Below w.heap.size w w') => (h.carry hb))
  have HG := Lib.hid (fun w' (hb : Below w.heap.size w w') => rget_any (h.carry hb) hm id)
  have hV : getV D id = .tuple #[coV o, .int .i64 k] := by unfold getV; rw [hE]
  rw [hV] at HG
  have hR : remO D id = (o, true) := by unfold remO; rw [hE]
  have hR2 : remD D id = cutD D k o := by unfold remD; rw [hE]
  obtain ⟨hk, hid, hok, _⟩ := get2_some hI hE
  have hsi : o.si = 1 ∨ o.si = 2 := hok.2.1
  have HS := Lib.hid (fun w' (hb : Below w.heap.size w w') => rside_any (h.carry hb) o.si)
  have hrow := h.row hsi
  have hfew : (rowD o.si D).length ≤ 256 := by
    rcases hsi with e | e <;> rw [e] <;> simp [rowD] <;> omega
  have hkn := at_lt hk
  have HB : Hid (B ≤ w.heap.size) := Lib.hid (Nat.le_of_lt h.base)
  rcases own_form hrow with ⟨_, h0⟩ | ⟨b, c, hv, hbB, hbw, hc⟩
  · omega
  obtain ⟨n, hn⟩ : ∃ n, (rowD o.si D).length = n := ⟨_, rfl⟩
  rw [hv] at hrow HS
  rw [hn] at hrow HS hfew hkn hc
  have HN := Lib.hid hn
  replace hrow := Lib.hid hrow
  unfold RRem
  rw [hR, hR2]
  have HCUT : Hid (cutD D k o = setD o.si ((rowD o.si D).eraseIdx k) D) := Lib.hid rfl
  obtain ⟨oi, oo, os, on, ou⟩ := o
  dsimp only at HS hrow HCUT HN hsi hid
  subst hid
  unfold coV at HG
  have hgw := h.there
  have HV1 : Hid (∀ j, v1.ownBlock = some j → ¬ j = w.heap.size) := Lib.hid (fun j hj => by have := (h.b.lt j hj).2; omega)
  have HV2 : Hid (∀ j, v2.ownBlock = some j → ¬ j = w.heap.size) := Lib.hid (fun j hj => by have := (h.s.lt j hj).2; omega)
  clear h hE hV hR hR2 hm hk hok hn hv hI
  go_enter Try.func13, Try.ntmps13
  go_wp2_with ((first
    | (go_at_call 20; refine (HG.out _ (bel_new _ _)).mono ?_; rintro e w1 ⟨rfl, hb1⟩; have hZ := (Zero5.carry ⟨Box.fresh w 37 zero5 rfl⟩ hb1); replace hb1 := Lib.hid (bel_trans (bel_new _ _) hb1))
    | (go_at_call 18; refine Hid.out ?_)))
  refine Lib.hid ?_
  refine (HS.out _ (bel_alloc hb1.out _)).mono ?_
  rintro _ w4 ⟨rfl, hw4⟩
  have hOW := Lib.hid (show OrdAt w4 w1.heap.size 37 ⟨oi, oo, os, on, ou⟩ from hw4 ▸ Box.fresh w1 _ _ rfl)
  have hZW := Lib.hid (hw4 ▸ hZ.carry (bel_new w1 _) : Zero5 w4 w.heap.size 37)
  have hW := Lib.hid (hw4 ▸ bel_alloc hb1.out _ : Below w.heap.size w w4)
  have hXR : w.heap.size < w1.heap.size := hZ.box.there
  have hrW := own_keep hrow.out hW.out
  have hrd := RdS.ofOwn hrW
  obtain ⟨X, hX⟩ : ∃ X, w1.heap.size = X := ⟨_, rfl⟩
  obtain ⟨R, hR⟩ : ∃ R, w.heap.size = R := ⟨_, rfl⟩
  rw [hX] at hOW hXR ⊢
  have HGR : Hid (¬ X = g ∧ ¬ R = g) := Lib.hid ⟨by omega, by omega⟩
  rw [hR] at hZW hXR HV1 HV2 ⊢
  have hX4 : X < w4.heap.size := Box.there hOW.out
  clear hw4 hZ hrW HG HS hX
  obtain ⟨y0, y1, y2, y3, y4⟩ := hOW.out.cells
  by_cases hck : c = k + 1
  · subst hck
    obtain rfl : n = k + 1 := by omega
    obtain ⟨i0, hi0, hz0, hz1, hz2⟩ := info_parts co_info
    have HI0 := Lib.hid hi0
    have HI1 := Lib.hid hz0
    have HI2 := Lib.hid hz1
    have HI3 := Lib.hid hz2
    have RD1 : Hid (∀ W', Below w4.heap.size w4 W' → RdS W' w4.heap.size (some ⟨b, 0, Option.none⟩) k 5 (((rowD os D).take k).flatMap co1)) := Lib.hid (fun W' hb => by
      have := (hrd.head (k := k) (Nat.le_of_lt hkn)).carry hb
      rw [flat_take5] at this
      exact this)
    have RD2 : Hid (∀ W', Below w4.heap.size w4 W' → RdS W' w4.heap.size (some ⟨b, 0, Option.none⟩) (0) 5 (((rowD os D).drop (k + 1)).flatMap co1)) := Lib.hid (fun W' hb => by
      rw [show (rowD os D).drop (k + 1) = [] from List.drop_eq_nil_of_le (by rw [HN.out]; omega)]
      exact RdS.nothing _ _ _ _)
    have OW0 := Lib.hid (fun W' (h : w4.heap.size ≤ W'.heap.size) => own_empty W' 37 w4.heap.size 5 h)
    have HPUT : Hid (∀ (W' : World) (v : Value), W'.ownsRow w4.heap.size 37 5 v (k + (0)) (((rowD os D).take k).flatMap co1 ++ ((rowD os D).drop (k + 1)).flatMap co1) → W'.ownsRow B 37 5 v ((rowD os D).eraseIdx k).length (((rowD os D).eraseIdx k).flatMap co1)) := Lib.hid (fun W' v ho => by
      rw [List.eraseIdx_eq_take_drop_succ, List.flatMap_append, List.length_append, List.length_take, List.length_drop, HN.out, Nat.min_eq_left (Nat.le_of_lt hkn)]
      rw [show 0 = k + 1 - (k + 1) by omega] at ho
      exact own_wider ho (Nat.le_trans HB.out hW.out.size))
    clear hi0 hz0 hz1 hz2 hrd
    have i1 : (0 : Int) ≤ (k : Int) := by omega
    have i2 : (k : Int) < ((k + 1 : Nat) : Int) := by omega
    have q1 : (k : Int) + 1 ≤ ((k + 1 : Nat) : Int) := by omega
    have q2 : ((k + 1 : Nat) : Int) ≤ ((k + 1 : Nat) : Int) := by omega
    have q5 : k + 1 ≤ k + 1 := by omega
    have q9 : (k : Int) ≤ ((k + 1 : Nat) : Int) := by omega
    have q10 : (k : Int) ≤ ((k + 1 : Nat) : Int) := by omega
    have q8 : (0 : Int) ≤ (k : Int) + 1 := by omega
    have q11 : (k : Int) ≤ (k : Int) + 1 := by omega
    have q7 : ((k : Int) + 1).toNat = k + 1 := by omega
    have q6 : IntKind.i64.wrap ((k : Int) + 1) = (k : Int) + 1 := by rw [IntKind.wrap_i64]; omega
    go_wp2_with fail
    go_region_held3 (fun w' => World.cell? w' ⟨X, 2, Option.none⟩ = some (.int .i64 os)) (first | exact y2 | exact t2 | exact x2 | exact (OrdAt.carry hOW.out HB3.out).cells.2.2.1 | exact (OrdAt.carry hOW.out (bel_new w4 _).drew).cells.2.2.1 | exact (OrdAt.carry hOW.out (bel_new w4 _)).cells.2.2.1) ((first
      | (refine step_appendS rfl (.tmp 25) (.tmp 28) _ rfl w4.heap.size 37 i0 _ 5 40 Try.underlying27 HI0.out HI1.out HI2.out HI3.out rfl (by omega) (.slice (some ⟨_, 0, Option.none⟩) 0 0) 0 [] rfl (by first | exact (OW0.out w4 (Nat.le_refl _)).drew | exact OW0.out w4 (Nat.le_refl _)) (some ⟨b, 0, Option.none⟩) k (k + 1) (by intro h; cases h) (((rowD os D).take k).flatMap co1) rfl (RD1.out _ (by first | exact (bel_new w4 _).drew | exact bel_new w4 _)) (cos_one _) (by simp only [maxLen]; omega) (by omega) (by simp <;> omega) ?_; intro v3 w3 hown3 hgr3 _; rw [Nat.zero_add, List.nil_append] at hown3; obtain ⟨A3, c3, rfl⟩ := own_slice hown3; have HO3 := Lib.hid hown3; have hb3 : Below w4.heap.size w4 w3 := (by first | exact (bel_new w4 _).drew.grown hgr3 (by simp <;> omega) (by simp [Value.ownBlock] <;> omega) | exact (bel_new w4 _).grown hgr3 (by simp <;> omega) (by simp [Value.ownBlock] <;> omega)); have HB3 := Lib.hid hb3; clear hown3 hgr3 hb3)
      | (refine step_appendS rfl (.tmp 29) (.tmp 33) _ rfl w4.heap.size 37 i0 _ 5 40 Try.underlying27 HI0.out HI1.out HI2.out HI3.out rfl (by omega) (.slice A3 k c3) k _ rfl (by first | exact HO3.out | exact HO3.out.drew) (some ⟨b, 0, Option.none⟩) (0) (0) (by intro h; cases h) (((rowD os D).drop (k + 1)).flatMap co1) rfl (RD2.out _ (by first | exact HB3.out | exact HB3.out.drew)) (cos_one _) (by simp only [maxLen]; omega) (by omega) (by first | exact HB3.out.size | exact HB3.out.drew.size) ?_; intro v8 w8 hown8 hgr8 _; obtain ⟨A8, c8, rfl⟩ := own_slice hown8; have hb8 : Below w4.heap.size w4 w8 := (by first | exact HB3.out.grown hgr8 HB3.out.size (fun k hk => (HO3.out.lt k hk).1) | exact HB3.out.drew.grown hgr8 HB3.out.size (fun k hk => (HO3.out.lt k hk).1)); have t2 : w8.cell? ⟨X, 2, Option.none⟩ = some (.int .i64 os) := (OrdAt.carry hOW.out hb8).cells.2.2.1; have HB8 := Lib.hid hb8; have HO8 := Lib.hid (HPUT.out w8 _ hown8); have HA8 : Hid (∀ j, (Value.slice A8 (k + (0)) c8).ownBlock = some j → w4.heap.size ≤ j) := Lib.hid (fun j hj => (hown8.lt j hj).1); clear hown8 hgr8 hb8)
      | (go_at_call 34; refine (rput_any2 (HL.out _ (bel_trans hW.out (by first | exact HB8.out | exact HB8.out.drew))) hsi (l := (rowD os D).eraseIdx k) (by first | exact HO8.out | exact HO8.out.drew)).mono ?_; rintro e w9 ⟨rfl, HP9, hc9⟩; have HC9 := Lib.hid ((Chg.of_below (bel_trans hW.out (by first | exact HB8.out | exact HB8.out.drew)) (fun j => j = g)).then hc9 (fun _ _ h => h)); obtain ⟨u1, u2, HP9, e1, e2⟩ := HP9; have HU1 : Hid (∀ j, u1.ownBlock = some j → v1.ownBlock = some j ∨ w4.heap.size ≤ j) := Lib.hid (by rcases e1 with rfl | rfl; exact fun j hj => .inl hj; exact fun j hj => .inr (HA8.out j hj)); have HU2 : Hid (∀ j, u2.ownBlock = some j → v2.ownBlock = some j ∨ w4.heap.size ≤ j) := Lib.hid (by rcases e2 with rfl | rfl; exact fun j hj => .inl hj; exact fun j hj => .inr (HA8.out j hj)); clear e1 e2; replace HP9 := Lib.hid HP9; have HO9 : Hid (OrdAt w9 X 37 ⟨oi, oo, os, on, ou⟩) := Lib.hid (Box.kept (OrdAt.carry hOW.out (by first | exact HB8.out | exact HB8.out.drew)) hc9 HGR.out.1); have HZ9 : Hid (Zero5 w9 R 37) := Lib.hid ⟨(hZW.out.carry (by first | exact HB8.out | exact HB8.out.drew)).box.kept hc9 HGR.out.2⟩; have x2 : w9.cell? ⟨X, 2, Option.none⟩ = some (.int .i64 os) := HO9.out.cells.2.2.1; clear hc9)))
    all_goals
      obtain ⟨x0, x1, x2', x3, x4⟩ := HO9.out.cells
      obtain ⟨z0, z1, z2, z3, z4, f0, f1, f2, f3, f4⟩ := HZ9.out.cells
      go_wp2_with fail
      refine bodyPost_ret (v := .tuple #[coV ⟨oi, oo, os, on, ou⟩, .bool true]) (by simp [results, Try.results13, go_sem, coV, z0, z1, z2, z3, z4, Try.isAgg37, Try.sizeOf37]) rfl ⟨rfl, ⟨u1, u2, ?_, fun j hj => (HU1.out j hj).imp id (fun h => by have := hW.out.size; omega), fun j hj => (HU2.out j hj).imp id (fun h => by have := hW.out.size; omega)⟩, ?_⟩
      · rw [HCUT.out]
        exact HP9.out.kept (chg_set5 _ _) (by simpa using fun e => HGR.out.2 e.symm) (fun j hj e => by rcases HU1.out j hj with h | h; exact HV1.out j h e; omega) (fun j hj e => by rcases HU2.out j hj with h | h; exact HV2.out j h e; omega)
      · exact chg_own5 HC9.out (by omega)
  · skip
    obtain ⟨i0, hi0, hz0, hz1, hz2⟩ := info_parts co_info
    have HI0 := Lib.hid hi0
    have HI1 := Lib.hid hz0
    have HI2 := Lib.hid hz1
    have HI3 := Lib.hid hz2
    have RD1 : Hid (∀ W', Below w4.heap.size w4 W' → RdS W' w4.heap.size (some ⟨b, 0, Option.none⟩) k 5 (((rowD os D).take k).flatMap co1)) := Lib.hid (fun W' hb => by
      have := (hrd.head (k := k) (Nat.le_of_lt hkn)).carry hb
      rw [flat_take5] at this
      exact this)
    have RD2 : Hid (∀ W', Below w4.heap.size w4 W' → RdS W' w4.heap.size (some ⟨b, (k + 1) * 5, Option.none⟩) (n - (k + 1)) 5 (((rowD os D).drop (k + 1)).flatMap co1)) := Lib.hid (fun W' hb => by
      have := (hrd.tail (k := k + 1) hkn).carry hb
      rw [flat_drop5, Nat.zero_add] at this
      exact this)
    have OW0 := Lib.hid (fun W' (h : w4.heap.size ≤ W'.heap.size) => own_empty W' 37 w4.heap.size 5 h)
    have HPUT : Hid (∀ (W' : World) (v : Value), W'.ownsRow w4.heap.size 37 5 v (k + (n - (k + 1))) (((rowD os D).take k).flatMap co1 ++ ((rowD os D).drop (k + 1)).flatMap co1) → W'.ownsRow B 37 5 v ((rowD os D).eraseIdx k).length (((rowD os D).eraseIdx k).flatMap co1)) := Lib.hid (fun W' v ho => by
      rw [List.eraseIdx_eq_take_drop_succ, List.flatMap_append, List.length_append, List.length_take, List.length_drop, HN.out, Nat.min_eq_left (Nat.le_of_lt hkn)]
      rw [show n - (k + 1) = n - (k + 1) by omega] at ho
      exact own_wider ho (Nat.le_trans HB.out hW.out.size))
    clear hi0 hz0 hz1 hz2 hrd
    have i1 : (0 : Int) ≤ (k : Int) := by omega
    have i2 : (k : Int) < (n : Int) := by omega
    have q1 : (k : Int) + 1 ≤ (n : Int) := by omega
    have q2 : (n : Int) ≤ (c : Int) := by omega
    have q5 : k + 1 ≤ n := by omega
    have q9 : (k : Int) ≤ (c : Int) := by omega
    have q10 : (k : Int) ≤ (n : Int) := by omega
    have q8 : (0 : Int) ≤ (k : Int) + 1 := by omega
    have q11 : (k : Int) ≤ (k : Int) + 1 := by omega
    have q7 : ((k : Int) + 1).toNat = k + 1 := by omega
    have q6 : IntKind.i64.wrap ((k : Int) + 1) = (k : Int) + 1 := by rw [IntKind.wrap_i64]; omega
    go_wp2_with fail
    go_region_held3 (fun w' => World.cell? w' ⟨X, 2, Option.none⟩ = some (.int .i64 os)) (first | exact y2 | exact t2 | exact x2 | exact (OrdAt.carry hOW.out HB3.out).cells.2.2.1 | exact (OrdAt.carry hOW.out (bel_new w4 _).drew).cells.2.2.1 | exact (OrdAt.carry hOW.out (bel_new w4 _)).cells.2.2.1) ((first
      | (refine step_appendS rfl (.tmp 25) (.tmp 28) _ rfl w4.heap.size 37 i0 _ 5 40 Try.underlying27 HI0.out HI1.out HI2.out HI3.out rfl (by omega) (.slice (some ⟨_, 0, Option.none⟩) 0 0) 0 [] rfl (by first | exact (OW0.out w4 (Nat.le_refl _)).drew | exact OW0.out w4 (Nat.le_refl _)) (some ⟨b, 0, Option.none⟩) k c (by intro h; cases h) (((rowD os D).take k).flatMap co1) rfl (RD1.out _ (by first | exact (bel_new w4 _).drew | exact bel_new w4 _)) (cos_one _) (by simp only [maxLen]; omega) (by omega) (by simp <;> omega) ?_; intro v3 w3 hown3 hgr3 _; rw [Nat.zero_add, List.nil_append] at hown3; obtain ⟨A3, c3, rfl⟩ := own_slice hown3; have HO3 := Lib.hid hown3; have hb3 : Below w4.heap.size w4 w3 := (by first | exact (bel_new w4 _).drew.grown hgr3 (by simp <;> omega) (by simp [Value.ownBlock] <;> omega) | exact (bel_new w4 _).grown hgr3 (by simp <;> omega) (by simp [Value.ownBlock] <;> omega)); have HB3 := Lib.hid hb3; clear hown3 hgr3 hb3)
      | (refine step_appendS rfl (.tmp 29) (.tmp 33) _ rfl w4.heap.size 37 i0 _ 5 40 Try.underlying27 HI0.out HI1.out HI2.out HI3.out rfl (by omega) (.slice A3 k c3) k _ rfl (by first | exact HO3.out | exact HO3.out.drew) (some ⟨b, (k + 1) * 5, Option.none⟩) (n - (k + 1)) (c - (k + 1)) (by intro h; cases h) (((rowD os D).drop (k + 1)).flatMap co1) rfl (RD2.out _ (by first | exact HB3.out | exact HB3.out.drew)) (cos_one _) (by simp only [maxLen]; omega) (by omega) (by first | exact HB3.out.size | exact HB3.out.drew.size) ?_; intro v8 w8 hown8 hgr8 _; obtain ⟨A8, c8, rfl⟩ := own_slice hown8; have hb8 : Below w4.heap.size w4 w8 := (by first | exact HB3.out.grown hgr8 HB3.out.size (fun k hk => (HO3.out.lt k hk).1) | exact HB3.out.drew.grown hgr8 HB3.out.size (fun k hk => (HO3.out.lt k hk).1)); have t2 : w8.cell? ⟨X, 2, Option.none⟩ = some (.int .i64 os) := (OrdAt.carry hOW.out hb8).cells.2.2.1; have HB8 := Lib.hid hb8; have HO8 := Lib.hid (HPUT.out w8 _ hown8); have HA8 : Hid (∀ j, (Value.slice A8 (k + (n - (k + 1))) c8).ownBlock = some j → w4.heap.size ≤ j) := Lib.hid (fun j hj => (hown8.lt j hj).1); clear hown8 hgr8 hb8)
      | (go_at_call 34; refine (rput_any2 (HL.out _ (bel_trans hW.out (by first | exact HB8.out | exact HB8.out.drew))) hsi (l := (rowD os D).eraseIdx k) (by first | exact HO8.out | exact HO8.out.drew)).mono ?_; rintro e w9 ⟨rfl, HP9, hc9⟩; have HC9 := Lib.hid ((Chg.of_below (bel_trans hW.out (by first | exact HB8.out | exact HB8.out.drew)) (fun j => j = g)).then hc9 (fun _ _ h => h)); obtain ⟨u1, u2, HP9, e1, e2⟩ := HP9; have HU1 : Hid (∀ j, u1.ownBlock = some j → v1.ownBlock = some j ∨ w4.heap.size ≤ j) := Lib.hid (by rcases e1 with rfl | rfl; exact fun j hj => .inl hj; exact fun j hj => .inr (HA8.out j hj)); have HU2 : Hid (∀ j, u2.ownBlock = some j → v2.ownBlock = some j ∨ w4.heap.size ≤ j) := Lib.hid (by rcases e2 with rfl | rfl; exact fun j hj => .inl hj; exact fun j hj => .inr (HA8.out j hj)); clear e1 e2; replace HP9 := Lib.hid HP9; have HO9 : Hid (OrdAt w9 X 37 ⟨oi, oo, os, on, ou⟩) := Lib.hid (Box.kept (OrdAt.carry hOW.out (by first | exact HB8.out | exact HB8.out.drew)) hc9 HGR.out.1); have HZ9 : Hid (Zero5 w9 R 37) := Lib.hid ⟨(hZW.out.carry (by first | exact HB8.out | exact HB8.out.drew)).box.kept hc9 HGR.out.2⟩; have x2 : w9.cell? ⟨X, 2, Option.none⟩ = some (.int .i64 os) := HO9.out.cells.2.2.1; clear hc9)))
    all_goals
      obtain ⟨x0, x1, x2', x3, x4⟩ := HO9.out.cells
      obtain ⟨z0, z1, z2, z3, z4, f0, f1, f2, f3, f4⟩ := HZ9.out.cells
      go_wp2_with fail
      refine bodyPost_ret (v := .tuple #[coV ⟨oi, oo, os, on, ou⟩, .bool true]) (by simp [results, Try.results13, go_sem, coV, z0, z1, z2, z3, z4, Try.isAgg37, Try.sizeOf37]) rfl ⟨rfl, ⟨u1, u2, ?_, fun j hj => (HU1.out j hj).imp id (fun h => by have := hW.out.size; omega), fun j hj => (HU2.out j hj).imp id (fun h => by have := hW.out.size; omega)⟩, ?_⟩
      · rw [HCUT.out]
        exact HP9.out.kept (chg_set5 _ _) (by simpa using fun e => HGR.out.2 e.symm) (fun j hj e => by rcases HU1.out j hj with h | h; exact HV1.out j h e; omega) (fun j hj e => by rcases HU2.out j hj with h | h; exact HV2.out j h e; omega)
      · exact chg_own5 HC9.out (by omega)
end
end Go.Proofs.Ytekppjigckjgiaa

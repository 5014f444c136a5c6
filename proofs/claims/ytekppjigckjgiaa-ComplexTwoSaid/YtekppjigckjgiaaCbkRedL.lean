/- The reference's Reduce, where something of an order is left. -/
import Derived.Test.YtekppjigckjgiaaCbkRed
set_option linter.unusedSimpArgs false
namespace Go.Proofs.Ytekppjigckjgiaa
open Go.RowKit Go.Mem1 Go.CbkMath

theorem own_some {w : World} {base : Nat} {e : TypeId} {size n : Nat} {v : Value} {xs : List Value} (h : w.ownsRow base e size v n xs) (hn : 0 < n) : ∃ g c, v = .slice (some ⟨g, 0, Option.none⟩) n c ∧ base ≤ g ∧ g < w.heap.size ∧ n ≤ c := (own_form h).resolve_left (fun h => by omega)
/-- An order stored over the one that stands at its place, of which less is left. -/
theorem less_store {w : World} {B b c : Nat} {t : TypeId} {L : List CO} (h : w.ownsRow B t 5 (.slice (some ⟨b, 0, Option.none⟩) L.length c) L.length (L.flatMap co1)) {k : Nat} {o : CO} (hk : L[k]? = some o) (u : Int) :
    (((((w.setCell ⟨b, k * 5, Option.none⟩ (.int .i64 o.id)).setCell ⟨b, k * 5 + 1, Option.none⟩ (.int .i64 o.ow)).setCell ⟨b, k * 5 + 2, Option.none⟩ (.int .i64 o.si)).setCell ⟨b, k * 5 + 3, Option.none⟩ (.int .i64 o.ne)).setCell ⟨b, k * 5 + 4, Option.none⟩ (.int .i64 (o.un - u))).ownsRow B t 5 (.slice (some ⟨b, 0, Option.none⟩) L.length c) L.length ((L.set k (lessC u o)).flatMap co1) := by
  have same : ∀ (W : World) (i : Nat) (x : Value), i < 5 → (co1 o)[i]? = some x → W.ownsRow B t 5 (.slice (some ⟨b, 0, Option.none⟩) L.length c) L.length (L.flatMap co1) → (W.setCell ⟨b, k * 5 + i, Option.none⟩ x).ownsRow B t 5 (.slice (some ⟨b, 0, Option.none⟩) L.length c) L.length (L.flatMap co1) := fun W i x hi hx hW => by
    have hs := (hW.stored (k * 5 + i) x).1
    have hy : co1 o = (co1 o).set i x := by
      obtain ⟨hl, hv⟩ := List.getElem?_eq_some_iff.1 hx
      rw [← hv, List.set_getElem_self]
    rw [flat_set (f := co1) co1_len hk (y := o) hi hy] at hs
    have hL : L.set k o = L := by
      obtain ⟨hl, hv⟩ := List.getElem?_eq_some_iff.1 hk
      rw [← hv, List.set_getElem_self]
    rw [hL] at hs
    exact hs
  have h4 := same _ 3 _ (by omega) rfl (same _ 2 _ (by omega) rfl (same _ 1 _ (by omega) rfl (same _ 0 _ (by omega) rfl h)))
  have hs := (h4.stored (k * 5 + 4) (.int .i64 (o.un - u))).1
  rw [flat_set (f := co1) co1_len hk (y := lessC u o) (by omega) rfl] at hs
  exact hs
theorem chg_sets (w : World) (b i0 i1 i2 i3 i4 : Nat) (u0 u1 u2 u3 u4 : Value) : Chg (fun j => j = b) w (((((w.setCell ⟨b, i0, Option.none⟩ u0).setCell ⟨b, i1, Option.none⟩ u1).setCell ⟨b, i2, Option.none⟩ u2).setCell ⟨b, i3, Option.none⟩ u3).setCell ⟨b, i4, Option.none⟩ u4) :=
  Chg.setCell (S := fun j => j = b) (Chg.setCell (S := fun j => j = b) (Chg.setCell (S := fun j => j = b) (Chg.setCell (S := fun j => j = b) (Chg.setCell (S := fun j => j = b) (Chg.refl _ _) (p := ⟨b, i0, Option.none⟩) (fun _ => rfl) _) (p := ⟨b, i1, Option.none⟩) (fun _ => rfl) _) (p := ⟨b, i2, Option.none⟩) (fun _ => rfl) _) (p := ⟨b, i3, Option.none⟩) (fun _ => rfl) _) (p := ⟨b, i4, Option.none⟩) (fun _ => rfl) _
section
variable {w : World} {B g : Nat} {v1 v2 : Value} {D : Dk}
set_option maxRecDepth 100000 in
set_option maxHeartbeats 4000000 in
/-- Something is left: it stands where it stood. -/
theorem rred_less (h : RefAt w B g v1 v2 D) (hI : Inv D) {id u : Int} {k : Nat} {o : CO} (hE : get2 D id = some (k, o)) (hu : 1 ≤ u) (hu2 : u < o.un) :
    Calls Try.prog 15 #[.pointer (some ⟨g, 0, none⟩), .int .i64 id, .int .i64 u] w (RRed w B g D id u) := by
  have hm := hI.most
  have HG := Lib.hid (fun w' (hb : Below w.heap.size w w') => rget_any (h.carry hb) hI.most id)
  have HL := Lib.hid (fun w' (hb : Below w.heap.size w w') => (h.carry hb))
  have hV : getV D id = .tuple #[coV o, .int .i64 k] := by unfold getV; rw [hE]
  rw [hV] at HG
  have hR : redO D id u = (lessC u o, 0) := by unfold redO; rw [hE]; simp only; rw [if_pos ⟨hu, by omega⟩]
  have hR2 : redD D id u = setD o.si ((rowD o.si D).set k (lessC u o)) D := by unfold redD; rw [hE]; simp only; rw [if_pos ⟨hu, by omega⟩, if_neg (by omega)]
  unfold RRed
  rw [hR, hR2]
  obtain ⟨hk, hid, hok, _⟩ := get2_some hI hE
  have hou := hok.2.2.2.1
  have hsi : o.si = 1 ∨ o.si = 2 := hok.2.1
  have HS := Lib.hid (fun w' (hb : Below w.heap.size w w') => rside_any (h.carry hb) o.si)
  have hrow := h.row hsi
  have hfew : (rowD o.si D).length ≤ 256 := by
    rcases hsi with e | e <;> rw [e] <;> simp [rowD] <;> omega
  have hkn := at_lt hk
  have HB : Hid (B ≤ w.heap.size) := Lib.hid (Nat.le_of_lt h.base)
  rcases own_form hrow with ⟨_, h0⟩ | ⟨b, c, hv, hbB, hbw, hc⟩
  · omega
  obtain ⟨n, hn⟩ : ∃ n, (rowD o.si D).length = n := ⟨_, rfl⟩
  rw [hv] at hrow HS
  rw [hn] at hrow HS hfew hkn hc
  have HN := Lib.hid hn
  have HK := Lib.hid hk
  replace hrow := Lib.hid hrow
  obtain ⟨oi, oo, os, on, ou⟩ := o
  dsimp only at hu2 hou HS hrow HN HK hsi hid
  subst hid
  unfold lessC
  dsimp only
  have hgw := h.there
  have HV1 : Hid (∀ j, v1.ownBlock = some j → ¬ j = w.heap.size) := Lib.hid (fun j hj => by have := (h.b.lt j hj).2; omega)
  have HV2 : Hid (∀ j, v2.ownBlock = some j → ¬ j = w.heap.size) := Lib.hid (fun j hj => by have := (h.s.lt j hj).2; omega)
  unfold coV at HG
  clear h hE hV hR hR2 hI hm hk hok hn hv
  have d1 : decide (u < 1) = false := by simp; omega
  have d2 : decide (ou < u) = false := by simp; omega
  have o1 : 0 ≤ ou - u := by omega
  have o2 : ou - u ≤ 1000000 := by omega
  have o3 : ((ou - u) == 0) = false := by simp; omega
  go_enter Try.func15, Try.ntmps15
  go_wp2_with ((first
    | (go_at_call 20; refine (HG.out _ (bel_new _ _)).mono ?_; rintro e w1 ⟨rfl, hb1⟩; have hZ := (Zero5.carry ⟨Box.fresh w 37 zero5 rfl⟩ hb1); replace hb1 := Lib.hid (bel_trans (bel_new _ _) hb1))
    | (go_at_call 18; refine Hid.out ?_)))
  refine Lib.hid ?_
  refine (HS.out _ (bel_alloc (bel_alloc hb1.out _) _)).mono ?_
  rintro _ w4 ⟨rfl, hw4⟩
  have B2 := bel_trans (bel_new w1 (.cells #[.int .i64 oi, .int .i64 oo, .int .i64 os, .int .i64 on, .int .i64 (ou - u)] 37)) (bel_new _ (.cells #[] 37))
  have hW := bel_alloc (bel_alloc hb1.out (.cells #[.int .i64 oi, .int .i64 oo, .int .i64 os, .int .i64 on, .int .i64 (ou - u)] 37)) (.cells #[] 37)
  have hOW : OrdAt _ w1.heap.size 37 ⟨oi, oo, os, on, ou - u⟩ := OrdAt.carry (Box.fresh w1 37 #[.int .i64 oi, .int .i64 oo, .int .i64 os, .int .i64 on, .int .i64 (ou - u)] rfl) (bel_new _ (.cells #[] 37))
  have hZW := hZ.carry B2
  have hEM := own_empty_at (w1.alloc (.cells #[.int .i64 oi, .int .i64 oo, .int .i64 os, .int .i64 on, .int .i64 (ou - u)] 37)) 37 (w1.heap.size + 1) 5 (w1.heap.size + 1) (by simp) (by simp)
  have hsz : w1.heap.size + 2 = (((w1.alloc (.cells #[.int .i64 oi, .int .i64 oo, .int .i64 os, .int .i64 on, .int .i64 (ou - u)] 37)).alloc (.cells #[] 37))).heap.size := by simp
  have hXR : w.heap.size < w1.heap.size := hZ.box.there
  rw [hw4] at hW hOW hZW hEM hsz
  have hrd := RdS.ofOwn (own_keep hrow.out hW)
  replace hrd := Lib.hid hrd
  replace hOW := Lib.hid hOW
  replace hZW := Lib.hid hZW
  replace hW := Lib.hid hW
  replace hEM := Lib.hid hEM
  obtain ⟨X, hX⟩ : ∃ X, w1.heap.size = X := ⟨_, rfl⟩
  obtain ⟨R, hR⟩ : ∃ R, w.heap.size = R := ⟨_, rfl⟩
  rw [hX] at hOW hXR hEM hsz ⊢
  have HGR : Hid (¬ X = g ∧ ¬ R = g) := Lib.hid ⟨by omega, by omega⟩
  rw [hR] at hZW hXR HV1 HV2 ⊢
  clear hw4 hZ HG HS B2
  obtain ⟨i0, hi0, hz0, hz1, hz2⟩ := info_parts co_info
  go_wp2_with (at_builtin; refine wpList_appendS rfl (.tmp 41) (.tmp 45) _ rfl (X + 1) 37 i0 _ 5 40 Try.underlying27 hi0 hz0 hz1 hz2 rfl (by omega) (.slice (some ⟨X + 1, 0, Option.none⟩) 0 0) 0 [] rfl hEM.out (some ⟨b, 0, Option.none⟩) n c (by intro h; cases h) ((rowD os D).flatMap co1) rfl hrd.out (cos_one _) (by simp only [maxLen]; omega) (by omega) (by omega) ?_; intro v8 w8 hown8 hgr8 _; rw [Nat.zero_add, List.nil_append] at hown8; obtain ⟨b8, c8, hv8, hb8B, hb8L, hc8⟩ := own_some hown8 (by omega); subst hv8; have hC8 := Chg.of_grown hgr8; have hO8 : OrdAt w8 X 37 ⟨oi, oo, os, on, ou - u⟩ := Box.kept hOW.out hC8 (by intro e; simp [Value.ownBlock] at e <;> omega); have hZ8 : Zero5 w8 R 37 := ⟨hZW.out.box.kept hC8 (by intro e; simp [Value.ownBlock] at e <;> omega)⟩; have hB8 : Below w.heap.size w w8 := Chg.toBelow hW.out hC8 hW.out.size (fun i hi e => by simp [Value.ownBlock] at e <;> omega); have hr8 := hown8; rw [← HN.out] at hr8; obtain ⟨b', c', e1, _, _, _, _, k0, k1, k2, k3, k4, kf⟩ := co_cells hr8 HK.out; rw [HN.out] at e1; injection e1 with e1 _ e2; injection e1 with e1; injection e1 with e1; subst e1; subst e2; obtain ⟨x0, x1, x2, x3, x4⟩ := hO8.cells; have f0 := kf (k * 5); have f1 := kf (k * 5 + 1); have f2 := kf (k * 5 + 2); have f3 := kf (k * 5 + 3); have f4 := kf (k * 5 + 4); have hXb : X ≠ b8 := (by omega); have HS5 := Lib.hid (less_store hr8 HK.out u); rw [HN.out] at HS5; replace hO8 := Lib.hid hO8; replace hZ8 := Lib.hid hZ8; replace hB8 := Lib.hid hB8; have i1 : (0 : Int) ≤ (k : Int) := (by omega); have i2 : (k : Int) < (n : Int) := (by omega); clear hr8 hown8 hgr8 hC8 kf)
  have hC5 := chg_sets w8 b8 (k * 5) (k * 5 + 1) (k * 5 + 2) (k * 5 + 3) (k * 5 + 4) (.int .i64 oi) (.int .i64 oo) (.int .i64 os) (.int .i64 on) (.int .i64 (ou - u))
  have hB5 := Chg.toBelow hB8.out hC5 hB8.out.size (fun i hi e => by omega)
  have hO5 : OrdAt _ X 37 ⟨oi, oo, os, on, ou - u⟩ := Box.kept hO8.out hC5 hXb
  have hZ5 : Zero5 _ R 37 := ⟨hZ8.out.box.kept hC5 (by omega)⟩
  have hR5 := own_wider HS5.out (base' := B) (by have := HB.out; omega)
  unfold lessC at hR5
  dsimp only at hR5
  have hlen : n = ((rowD os D).set k ⟨oi, oo, os, on, ou - u⟩).length := by rw [List.length_set, HN.out]
  have hA8 : ∀ j, (Value.slice (some ⟨b8, 0, Option.none⟩) n c8).ownBlock = some j → ¬ j = R := fun j hj => by simp [Value.ownBlock] at hj; omega
  obtain ⟨v9, hv9⟩ : ∃ v9, Value.slice (some ⟨b8, 0, Option.none⟩) n c8 = v9 := ⟨_, rfl⟩
  rw [hv9] at hR5 hA8
  rw [hlen] at hR5
  rw [hv9]
  refine (rput_any2 (HL.out _ hB5) hsi hR5).mono ?_
  rintro _ w9 ⟨rfl, ⟨u1, u2, hP9, e1, e2⟩, hc9⟩
  have HC9 := Lib.hid ((Chg.of_below hB5 (fun j => j = g)).then hc9 (fun _ _ h => h))
  have hO9 : OrdAt w9 X 37 ⟨oi, oo, os, on, ou - u⟩ := Box.kept hO5 hc9 HGR.out.1
  have hZ9 : Zero5 w9 R 37 := ⟨hZ5.box.kept hc9 HGR.out.2⟩
  have HU1 : Hid (∀ j, u1.ownBlock = some j → ¬ j = R) := Lib.hid (by rcases e1 with rfl | rfl; exact HV1.out; exact hA8)
  have HU2 : Hid (∀ j, u2.ownBlock = some j → ¬ j = R) := Lib.hid (by rcases e2 with rfl | rfl; exact HV2.out; exact hA8)
  obtain ⟨y0, y1, y2, y3, y4⟩ := hO9.cells
  obtain ⟨z0, z1, z2, z3, z4, g0, g1, g2, g3, g4⟩ := hZ9.cells
  replace hP9 := Lib.hid hP9
  have hRw : Hid (w.heap.size ≤ R) := Lib.hid (by omega)
  clear e1 e2 hc9 hO9 hZ9 hC5 hB5 hO5 hZ5 hR5 hlen hA8 hv9 HV1 HV2 x0 x1 x2 x3 x4 k0 k1 k2 k3 k4 f0 f1 f2 f3 f4 HS5
  go_wp2_with fail
  refine bodyPost_ret (v := .tuple #[coV ⟨oi, oo, os, on, ou - u⟩, .int .i64 0]) (by simp [results, Try.results15, go_sem, coV, z0, z1, z2, z3, z4, Try.isAgg37, Try.sizeOf37]) rfl ⟨rfl, ⟨u1, u2, ?_⟩, ?_⟩
  · exact hP9.out.kept (chg_set5 _ _) (fun e => HGR.out.2 e.symm) HU1.out HU2.out
  · exact chg_own5 HC9.out hRw.out
end
end Go.Proofs.Ytekppjigckjgiaa

/- slices.Insert of one order into a row of orders: where there is no room; in all. -/
import Derived.Test.YtekppjigckjgiaaCbkSIn2
set_option linter.unusedSimpArgs false
namespace Go.Proofs.Ytekppjigckjgiaa
open Go.RowKit Go.Mem1 Go.CbkMath Go.Lib

/-- What stands in the new block behind both copies. -/
theorem grow_list {ROW : List Value} {L : List CO} {n G k z : Nat} {o : CO} (hR : ROW.length = G * 5) (hp : ROW.take (k * 5) = (L.take k).flatMap co1) (hk : k < n) (hG : n + 1 ≤ G) (hn : L.length = n) (hz : n - k = z) :
    let R1 := ROW.take (k * 5) ++ co1 o ++ ROW.drop (k * 5 + 5)
    let R2 := R1.take ((k + 1) * 5) ++ (L.drop k).flatMap co1 ++ R1.drop ((k + 1) * 5 + z * 5)
    R1.length = G * 5 ∧ R2.length = G * 5 ∧ R2.take ((n + 1) * 5) = (L.take k ++ o :: L.drop k).flatMap co1 := by
  intro R1 R2
  have l0 : (ROW.take (k * 5)).length = k * 5 := by rw [List.length_take, hR]; simp only [Nat.min_def]; split <;> omega
  have l1 : R1.length = G * 5 := by
    show (ROW.take (k * 5) ++ co1 o ++ ROW.drop (k * 5 + 5)).length = _
    rw [List.length_append, List.length_append, l0, co1_len, List.length_drop, hR]
    omega
  have ld : ((L.drop k).flatMap co1).length = z * 5 := by rw [flat_len co1_len, List.length_drop, hn, hz]
  have lt : (R1.take ((k + 1) * 5)).length = (k + 1) * 5 := by rw [List.length_take, l1]; simp only [Nat.min_def]; split <;> omega
  have t1 : R1.take ((k + 1) * 5) = (L.take k).flatMap co1 ++ co1 o := by
    show (ROW.take (k * 5) ++ co1 o ++ ROW.drop (k * 5 + 5)).take ((k + 1) * 5) = _
    rw [List.take_append_of_le_length (by rw [List.length_append, l0, co1_len]; omega), List.take_of_length_le (by rw [List.length_append, l0, co1_len]; omega), hp]
  refine ⟨l1, ?_, ?_⟩
  · show (R1.take ((k + 1) * 5) ++ (L.drop k).flatMap co1 ++ R1.drop ((k + 1) * 5 + z * 5)).length = _
    rw [List.length_append, List.length_append, lt, ld, List.length_drop, l1]
    omega
  · show (R1.take ((k + 1) * 5) ++ (L.drop k).flatMap co1 ++ R1.drop ((k + 1) * 5 + z * 5)).take ((n + 1) * 5) = _
    rw [List.take_append_of_le_length (by rw [List.length_append, lt, ld]; omega), List.take_of_length_le (by rw [List.length_append, lt, ld]; omega), t1, List.flatMap_append, List.flatMap_cons, List.append_assoc]
set_option maxRecDepth 100000 in
set_option maxHeartbeats 8000000 in
theorem sins_grow {w : World} {B g vb n c k : Nat} {tV : TypeId} {o : CO} {L : List CO} (h : w.ownsRow B 31 5 (.slice (some ⟨g, 0, none⟩) n c) n (L.flatMap co1)) (hB : B ≤ w.heap.size) (hn : L.length = n)
    (hk : k < n) (hnc : n ≤ c) (hroom : c < n + 1) (hn2 : n ≤ 256) (hv : OrdAt w vb tV o) :
    Calls Try.prog 32 #[.slice (some ⟨g, 0, none⟩) n c, .int .i64 k, .slice (some ⟨vb, 0, none⟩) 1 1] w (SInsPost w B (.slice (some ⟨g, 0, none⟩) n c) L k o) := by
  have mixed : Try.prog.follows Departure.mixedOrders = true := by kernel_rfl
  obtain ⟨i0, hi0, hz0, hzs, hzb⟩ := info_parts cco_info
  have hz2 : ¬ ((k : Int) = (n : Int)) := by omega
  have hz3 : (c : Int) < (n : Int) + 1 := by omega
  have hkk : (n : Int) + 1 - (k : Int) = ((n + 1 - k : Nat) : Int) := by omega
  have hik : k + (n + 1 - k) = n + 1 := by omega
  have hgb : g < w.heap.size := (h.lt g rfl).2
  have hvw : vb < w.heap.size := Box.there hv
  have hold : (Builtin.firstCells i0.size k (.slice (some ⟨g, 0, none⟩) k c)).run Try.prog w.drew = .ok ((L.take k).flatMap co1).toArray w.drew := by
    rw [hzs]
    refine run_firstCells_some w.drew 5 k ⟨g, 0, none⟩ k c ((L.take k).flatMap co1) (by rw [flat_len co1_len, List.length_take, hn, Nat.min_eq_left (by omega)]) (fun j v hj => ?_)
    rw [Addr.add_lit, Nat.zero_add]
    rw [← flat_take5, List.getElem?_take] at hj
    split at hj
    · exact own_cell h hj
    · cases hj
  obtain ⟨G, hG⟩ : ∃ G, G = grownCap w (n + 1) c 31 := ⟨_, rfl⟩
  obtain ⟨ROW, hROW⟩ : ∃ ROW : Array Value, ROW = ((L.take k).flatMap co1).toArray ++ Builtin.zeroCells (Value.agg #[.int .i64 0, .int .i64 0, .int .i64 0, .int .i64 0, .int .i64 0]).cells (n + 1 - k) ++ Builtin.zeroCells (Value.agg #[.int .i64 0, .int .i64 0, .int .i64 0, .int .i64 0, .int .i64 0]).cells (G - (n + 1)) := ⟨_, rfl⟩
  have hrz : ∀ ty, (Builtin.append_ #[64, 3] ty #[.slice (some ⟨g, 0, none⟩) k c, .int .i64 ((n : Int) + 1 - (k : Int))]).run Try.prog w =
      .ok (.slice (some ⟨w.heap.size, 0, none⟩) (n + 1) G) (w.drew.alloc (.cells ROW 31)) := fun ty => by
    have h := Lib.run_append_grow_zeros (P := Try.prog) w 64 3 ty 31 i0 _ .i64 .i64 Try.underlying64 Try.underlying3 hi0 hz0 (some ⟨g, 0, none⟩) k c ((L.take k).flatMap co1) hold (n + 1 - k) (by omega) (by omega) (by omega) (by omega) (by rw [hzb]; omega) (by rw [hzb, hik]; exact growslice_fits hroom (by omega))
    rw [hik] at h
    rw [hkk, hROW, hG]
    exact h
  have hGn : n + 1 ≤ G := by rw [hG]; exact grownCap_ge w _ _ _
  have hGm : G ≤ maxLen := by rw [hG]; exact grownCap_le_maxLen w (n + 1) c 31 (by unfold maxLen; omega)
  have hRl : ROW.toList.length = G * 5 := by
    rw [hROW]
    simp [Builtin.zeroCells, Value.cells, flat_len co1_len, hn]
    omega
  have hRp : ROW.toList.take (k * 5) = (L.take k).flatMap co1 := by
    rw [hROW]
    have hl : ((L.take k).flatMap co1).length = k * 5 := by rw [flat_len co1_len, List.length_take, hn, Nat.min_eq_left (by omega)]
    simp only [Array.toList_append, List.append_assoc]
    rw [List.take_append_of_le_length (by simpa using Nat.le_of_eq hl.symm), List.take_of_length_le (by simpa using Nat.le_of_eq hl)]
  obtain ⟨z, hz⟩ : ∃ z, n - k = z := ⟨_, rfl⟩
  obtain ⟨hl1, hl2, ht2⟩ := grow_list (ROW := ROW.toList) (o := o) hRl hRp hk hGn hn hz
  obtain ⟨R1, hR1⟩ : ∃ R1, ROW.toList.take (k * 5) ++ co1 o ++ ROW.toList.drop (k * 5 + 5) = R1 := ⟨_, rfl⟩
  rw [hR1] at hl1 hl2 ht2
  obtain ⟨R2, hR2⟩ : ∃ R2, R1.take ((k + 1) * 5) ++ (L.drop k).flatMap co1 ++ R1.drop ((k + 1) * 5 + z * 5) = R2 := ⟨_, rfl⟩
  rw [hR2] at hl2 ht2
  obtain ⟨N, hN⟩ : ∃ N, w.heap.size = N := ⟨_, rfl⟩
  obtain ⟨W1, hW1⟩ : ∃ W1, (w.alloc (.cells ROW 31)).drew = W1 := ⟨_, rfl⟩
  have hB1 : Below w.heap.size w W1 := by rw [← hW1]; exact (bel_new w _).drew
  have hN1 : W1.heap[N]? = some (.cells ROW 31 (0, 0)) := by rw [← hW1]; exact Box.fresh w _ _ hN.symm
  have hv1 : OrdAt W1 vb tV o := hv.carry hB1
  have hg1 := own_keep h hB1
  have hcpA : ∀ ty dc, (Builtin.copy_ #[64, 61] ty #[.slice (some ⟨N, k * 5, none⟩) (n + 1 - k) dc, .slice (some ⟨vb, 0, none⟩) 1 1]).run Try.prog W1 = .ok (goInt 1) (W1.setRow N R1.toArray) := fun ty dc => by
    have h := run_copy_rowK (P := Try.prog) W1 5 64 61 ty 31 N (k * 5) (n + 1 - k) dc ⟨vb, 0, none⟩ 1 1 ROW 31 (co1 o) Try.underlying64 co_size hN1 (by rw [co1_len]; simp only [Nat.min_def]; split <;> omega) (fun j v hj => by
      rw [Addr.add_lit, Nat.zero_add, Box.reads hv1]
      simpa [co1] using hj) (by rw [co1_len]; simp at hRl; omega) (co1_one o)
    rw [show Nat.min 1 (n + 1 - k) = 1 by simp only [Nat.min_def]; split <;> omega, co1_len, hR1] at h
    exact h
  have hN2 : (W1.setRow N R1.toArray).heap[N]? = some (.cells R1.toArray 31 (0, 0)) := setRow_heap W1 N ROW _ _ _ hN1
  have hC2 := chg_setRow W1 N R1.toArray
  have hg2 := own_chg hg1 hC2 (fun j hj e => by injection hj with hj; have : g = j := hj; omega)
  obtain ⟨W2, hW2⟩ : ∃ W2, W1.setRow N R1.toArray = W2 := ⟨_, rfl⟩
  rw [hW2] at hcpA hN2 hC2 hg2
  have ld : ((L.drop k).flatMap co1).length = z * 5 := by rw [flat_len co1_len, List.length_drop, hn, hz]
  have hcpB : ∀ ty dc sc, (Builtin.copy_ #[64, 64] ty #[.slice (some ⟨N, (k + 1) * 5, none⟩) z dc, .slice (some ⟨g, k * 5, none⟩) z sc]).run Try.prog W2.drew = .ok (goInt (z : Int)) (W2.drew.setRow N R2.toArray) := fun ty dc sc => by
    have h := run_copy_rowK (P := Try.prog) W2.drew 5 64 64 ty 31 N ((k + 1) * 5) z dc ⟨g, k * 5, none⟩ z sc R1.toArray 31 ((L.drop k).flatMap co1) Try.underlying64 co_size hN2 (by rw [ld]; simp only [Nat.min_def]; split <;> omega) (fun j v hj => by
      rw [Addr.add_lit]
      rw [← flat_drop5, List.getElem?_drop] at hj
      exact own_cell hg2 hj) (by rw [ld]; simp [hl1]; omega) (cos_one _)
    rw [show Nat.min z z = z by simp only [Nat.min_def]; split <;> omega, ld, hR2] at h
    exact h
  have hEND : Hid (∃ v', Ending.returned (.slice (some ⟨N, 0, none⟩) (n + 1) G) = .returned v' ∧ (W2.drew.setRow N R2.toArray).ownsRow B 31 5 v' (L.length + 1) ((L.take k ++ o :: L.drop k).flatMap co1) ∧ Chg (fun j => (Value.slice (some ⟨g, 0, Option.none⟩) n c).ownBlock = some j) w (W2.drew.setRow N R2.toArray) ∧ ∀ j, v'.ownBlock = some j → (Value.slice (some ⟨g, 0, Option.none⟩) n c).ownBlock = some j ∨ w.heap.size ≤ j) := Lib.hid (by
    refine ⟨_, rfl, ⟨?_, .inr ⟨N, G, R2.toArray, ?_, ?_, ?_, ?_, hGm, ?_, ?_⟩⟩, ?_, ?_⟩
    · rw [flat_len co1_len, List.length_append, List.length_cons, List.length_take, List.length_drop, hn]
      simp only [Nat.min_def]
      split <;> omega
    · rw [hn]
    · omega
    · exact setRow_heap W2.drew N _ _ _ _ hN2
    · rw [hn]; exact hGn
    · simp [hl2]
    · rw [hn]; simpa using ht2
    · exact ((Chg.of_below hB1 _).then hC2 (fun i hi e => by omega)).drew.then (chg_setRow W2.drew N _) (fun i hi e => by omega)
    · intro j hj
      injection hj with hj
      have : N = j := hj
      exact .inr (by omega))
  have hw1 : IntKind.i64.wrap ((k : Int) + 1) = (k : Int) + 1 := by rw [IntKind.wrap_i64]; omega
  have hb1 : (0 : Int) ≤ (k : Int) + 1 := by omega
  have hin : k ≤ n := by omega
  have htn : ((k : Int) + 1).toNat = k + 1 := by omega
  have hb3 : (k : Int) ≤ (n : Int) := by omega
  have hGi : ¬ (G = k) := by omega
  have hGim : ¬ (G = k + 1) := by omega
  have hci : ¬ (c = k) := by omega
  have hb4 : (k : Int) + 1 ≤ (n : Int) + 1 := by omega
  have hb5 : (k : Int) ≤ (n : Int) + 1 := by omega
  have hb6 : (n : Int) ≤ (c : Int) := by omega
  have hb7 : (n : Int) + 1 ≤ (G : Int) := by omega
  rw [hN] at hrz
  clear hkk hik hold hROW hG hRl hRp h hg1 hg2 hR1 hR2 hN1 hN2 hC2 hv1 hB1 hl1 hl2 ht2 ld hv hi0 hz0 hzs hzb
  unfold SInsPost
  go_enter Try.func32, Try.ntmps32
  go_wp2_with (at_builtin; refine Lib.wpList_append_run _ rfl _ _ _ _ rfl _ _ rfl rfl _ _ (hrz _) ?_)
  go_region_law_o (refine step_copy_runI rfl _ _ 64 64 rfl _ _ (by simp [Act.eval, Act.put]) (by simp [Act.eval, Act.put]) (hcpB _ _ _) ?_)
  go_wp2_with fail
  go_ret
  exact hEND.out
/-- slices.Insert of one order at any place of a row. -/
theorem sins_any {w : World} {B vb k : Nat} {v : Value} {tV : TypeId} {o : CO} {L : List CO} (h : w.ownsRow B 31 5 v L.length (L.flatMap co1)) (hB : B ≤ w.heap.size) (hk : k ≤ L.length) (hn2 : L.length ≤ 256) (hv : OrdAt w vb tV o) (hvb : v.ownBlock ≠ some vb) :
    Calls Try.prog 32 #[v, .int .i64 k, .slice (some ⟨vb, 0, none⟩) 1 1] w (SInsPost w B v L k o) := by
  by_cases hkn : k = L.length
  · subst hkn
    exact sins_end h hB hn2 hv
  · have hr := h
    rcases h.2 with ⟨_, h0⟩ | ⟨g, c, cur, rfl, hb, hg, hnc, hmc, hsz, hx⟩
    · omega
    · by_cases hroom : L.length + 1 ≤ c
      · have hne : vb ≠ g := fun e => hvb (by rw [e]; rfl)
        refine (sins_shift (n := L.length) hg hsz hx rfl (by omega) hroom hn2 hv hne).mono ?_
        rintro e w' ⟨rfl, h1, h2⟩
        have hl : ((L.take k).flatMap co1 ++ co1 o ++ (L.drop k).flatMap co1).length = (L.length + 1) * 5 := by
          rw [List.length_append, List.length_append, flat_len co1_len, flat_len co1_len, co1_len, List.length_take, List.length_drop]
          simp only [Nat.min_def]
          split <;> omega
        have he : (L.take k ++ o :: L.drop k).flatMap co1 = (L.take k).flatMap co1 ++ co1 o ++ (L.drop k).flatMap co1 := by
          rw [List.flatMap_append, List.flatMap_cons, List.append_assoc]
        refine ⟨_, rfl, ⟨by rw [he, hl], .inr ⟨g, c, _, rfl, hb, h1, hroom, hmc, ?_, ?_⟩⟩, h2.mono (fun j _ e => by rw [e]; rfl), fun j hj => .inl hj⟩
        · have e : cur.toList.length = c * 5 := by simpa using hsz
          rw [List.size_toArray, List.length_append, hl, List.length_drop, e]
          omega
        · rw [he]
          show List.take _ ((L.take k).flatMap co1 ++ co1 o ++ (L.drop k).flatMap co1 ++ cur.toList.drop ((L.length + 1) * 5)) = _
          rw [List.take_append_of_le_length (by rw [hl]; exact Nat.le_refl _), List.take_of_length_le (by rw [hl]; exact Nat.le_refl _)]
      · exact sins_grow hr hB rfl (by omega) hnc (by omega) hn2 hv
end Go.Proofs.Ytekppjigckjgiaa

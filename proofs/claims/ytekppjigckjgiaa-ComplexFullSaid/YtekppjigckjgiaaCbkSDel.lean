/- slices.Delete of one order of a row of orders. -/
import Derived.Test.YtekppjigckjgiaaCbkSIns
set_option linter.unusedSimpArgs false
namespace Go.Proofs.Ytekppjigckjgiaa
open Go.RowKit Go.Mem1 Go.CbkMath Go.Lib

theorem zero5_cells : (Builtin.zeroCells (Value.agg #[.int .i64 0, .int .i64 0, .int .i64 0, .int .i64 0, .int .i64 0]).cells 1).toList = co1 zeroC := by kernel_rfl
theorem zero_run (w : World) : (zeroValue 31).run Try.prog w = .ok (.agg #[.int .i64 0, .int .i64 0, .int .i64 0, .int .i64 0, .int .i64 0]) w := Try.zeroValue31 w
/-- What stands in the block behind both steps. -/
theorem del_list {cur : List Value} {L : List CO} {n c k z : Nat} (hcs : cur.length = c * 5) (hL : cur.take (n * 5) = L.flatMap co1) (hk : k < n) (hnc : n ≤ c) (hn : L.length = n) (hz : n - (k + 1) = z) :
    let R1 := cur.take (k * 5) ++ (L.drop (k + 1)).flatMap co1 ++ cur.drop (k * 5 + z * 5)
    let R2 := R1.take ((k + z) * 5) ++ co1 zeroC ++ R1.drop ((k + z) * 5 + 1 * 5)
    R1.length = c * 5 ∧ R2.length = c * 5 ∧ R2.take ((n - 1) * 5) = (L.eraseIdx k).flatMap co1 := by
  intro R1 R2
  have l0 : (cur.take (k * 5)).length = k * 5 := by rw [List.length_take, hcs]; simp only [Nat.min_def]; split <;> omega
  have ld : ((L.drop (k + 1)).flatMap co1).length = z * 5 := by rw [flat_len co1_len, List.length_drop, hn, hz]
  have l1 : R1.length = c * 5 := by
    show (cur.take (k * 5) ++ (L.drop (k + 1)).flatMap co1 ++ cur.drop (k * 5 + z * 5)).length = _
    rw [List.length_append, List.length_append, l0, ld, List.length_drop, hcs]
    omega
  have lt : (R1.take ((k + z) * 5)).length = (k + z) * 5 := by rw [List.length_take, l1]; simp only [Nat.min_def]; split <;> omega
  have h0 : cur.take (k * 5) = (L.take k).flatMap co1 := by
    rw [← flat_take5, ← hL, List.take_take]
    congr 1
    simp only [Nat.min_def]
    split <;> omega
  refine ⟨l1, ?_, ?_⟩
  · show (R1.take ((k + z) * 5) ++ co1 zeroC ++ R1.drop ((k + z) * 5 + 1 * 5)).length = _
    rw [List.length_append, List.length_append, lt, co1_len, List.length_drop, l1]
    omega
  · show (R1.take ((k + z) * 5) ++ co1 zeroC ++ R1.drop ((k + z) * 5 + 1 * 5)).take ((n - 1) * 5) = _
    rw [show n - 1 = k + z by omega, List.append_assoc, List.take_append_of_le_length (by rw [lt]; exact Nat.le_refl _), List.take_of_length_le (by rw [lt]; exact Nat.le_refl _)]
    show (cur.take (k * 5) ++ (L.drop (k + 1)).flatMap co1 ++ cur.drop (k * 5 + z * 5)).take ((k + z) * 5) = _
    rw [List.take_append_of_le_length (by rw [List.length_append, l0, ld]; omega), List.take_of_length_le (by rw [List.length_append, l0, ld]; omega), h0, List.eraseIdx_eq_take_drop_succ, List.flatMap_append]
set_option maxRecDepth 100000 in
set_option maxHeartbeats 4000000 in
theorem sdel_mid {w : World} {g n c k : Nat} {cur : Array Value} {L : List CO} (hg : Box w g 31 cur) (hcs : cur.size = c * 5) (hL : cur.toList.take (n * 5) = L.flatMap co1) (hn : L.length = n)
    (hk : k < n) (hnc : n ≤ c) (hn2 : n ≤ 256) (hck : ¬ c = k + 1) :
    Calls Try.prog 43 #[.slice (some ⟨g, 0, none⟩) n c, .int .i64 k, .int .i64 ((k : Int) + 1)] w fun e w' =>
      e = .returned (.slice (some ⟨g, 0, none⟩) (n - 1) c) ∧ (∃ R : Array Value, Box w' g 31 R ∧ R.size = c * 5 ∧ R.toList.take ((n - 1) * 5) = (L.eraseIdx k).flatMap co1) ∧ Chg (fun j => j = g) w w' := by
  have mixed : Try.prog.follows Departure.mixedOrders = true := by kernel_rfl
  obtain ⟨i0, hi0, hz0, hzs, hzb⟩ := info_parts cco_info
  have i1 : (0 : Int) ≤ (k : Int) := by omega
  have i2 : (k : Int) ≤ (k : Int) + 1 := by omega
  have i3 : (k : Int) + 1 ≤ (n : Int) := by omega
  have i4 : (n : Int) ≤ (c : Int) := by omega
  have i5 : ((k : Int) + 1).toNat = k + 1 := by omega
  have i6 : (0 : Int) ≤ (k : Int) + 1 := by omega
  have i7 : ¬ ((k : Int) = (k : Int) + 1) := by omega
  have i8 : (k : Int) ≤ (n : Int) := by omega
  have i9 : (k : Int) ≤ (c : Int) := by omega
  obtain ⟨z, hz⟩ : ∃ z, n - (k + 1) = z := ⟨_, rfl⟩
  obtain ⟨hl1, hl2, ht2⟩ := del_list (cur := cur.toList) (by simpa using hcs) hL hk hnc hn hz
  have ld : ((L.drop (k + 1)).flatMap co1).length = z * 5 := by rw [flat_len co1_len, List.length_drop, hn, hz]
  obtain ⟨R1, hR1⟩ : ∃ R1, cur.toList.take (k * 5) ++ (L.drop (k + 1)).flatMap co1 ++ cur.toList.drop (k * 5 + z * 5) = R1 := ⟨_, rfl⟩
  rw [hR1] at hl1 hl2 ht2
  obtain ⟨R2, hR2⟩ : ∃ R2, R1.take ((k + z) * 5) ++ co1 zeroC ++ R1.drop ((k + z) * 5 + 1 * 5) = R2 := ⟨_, rfl⟩
  rw [hR2] at hl2 ht2
  have happ : ∀ ty sc, (Builtin.append_ #[64, 64] ty #[.slice (some ⟨g, 0, none⟩) k c, .slice (some ⟨g, (k + 1) * 5, none⟩) z sc]).run Try.prog w.drew = .ok (.slice (some ⟨g, 0, none⟩) (k + z) c) (w.drew.setRow g R1.toArray) := fun ty sc => by
    have h := run_append_room (P := Try.prog) w.drew 64 ty 31 i0 Try.underlying64 hi0 g k c cur hg ⟨g, (k + 1) * 5, none⟩ z sc ((L.drop (k + 1)).flatMap co1) (by rw [ld, hzs]) (fun j v hj => by
      rw [Addr.add_lit]
      show w.cell? _ = _
      rw [hg.reads]
      rw [← flat_drop5, ← hL, List.getElem?_drop, List.getElem?_take] at hj
      split at hj
      · rw [← hj]; simp
      · cases hj) (cos_one _) (by omega) (by rw [ld, hzs, hcs]; omega)
    rw [hzs, ld, hR1] at h
    exact h
  have hN1 : (w.drew.setRow g R1.toArray).heap[g]? = some (.cells R1.toArray 31 (0, 0)) := setRow_heap w.drew g cur _ _ _ hg
  have hC1 : Chg (fun j => j = g) w (w.drew.setRow g R1.toArray) := (Chg.refl _ w).drew.then (chg_setRow w.drew g _) (fun _ _ h => h)
  obtain ⟨W1, hW1⟩ : ∃ W1, w.drew.setRow g R1.toArray = W1 := ⟨_, rfl⟩
  rw [hW1] at happ hN1 hC1
  have hclr : ∀ ty sc, (Builtin.clear_ #[64] ty #[.slice (some ⟨g, (k + z) * 5, none⟩) (n - (k + z)) sc]).run Try.prog W1 = .ok (.tuple #[]) (W1.setRow g R2.toArray) := fun ty sc => by
    have h := run_clear_rowK (P := Try.prog) W1 5 64 31 ty _ Try.underlying64 zero_run rfl (by intro v hv; exact co1_one zeroC v (by simpa [Value.cells, co1, zeroC] using hv)) (by omega) g ((k + z) * 5) 1 sc R1.toArray 31 hN1 (by omega) (by simp [hl1]; omega)
    rw [zero5_cells] at h
    rw [show n - (k + z) = 1 by omega]
    simp only [hR2] at h
    exact h
  have hEND : Hid ((∃ R : Array Value, Box (W1.setRow g R2.toArray) g 31 R ∧ R.size = c * 5 ∧ R.toList.take ((n - 1) * 5) = (L.eraseIdx k).flatMap co1) ∧ Chg (fun j => j = g) w (W1.setRow g R2.toArray)) :=
    Lib.hid ⟨⟨R2.toArray, setRow_heap W1 g _ _ _ _ hN1, by simpa using hl2, by simpa using ht2⟩, hC1.then (chg_setRow W1 g _) (fun _ _ h => h)⟩
  have j1 : (k : Int) + (z : Int) ≤ (n : Int) := by omega
  have j2 : ((k + z : Nat) : Int) ≤ (n : Int) := by omega
  have j3 : ¬ c = k + z := by omega
  have j4 : k + z = n - 1 := by omega
  have HN1 := Lib.hid j4
  clear j4 hL hR1 hR2 hN1 hC1 hl1 hl2 ht2 ld hg hi0 hz0 hzs hzb hn hcs
  go_enter Try.func43, Try.ntmps43
  go_wp2_with fail
  go_region_law_o (refine step_append_eq rfl (.tmp 22) (.tmp 25) 64 rfl (.slice (some ⟨g, 0, none⟩) k c) (.slice (some ⟨g, (k + 1) * 5, none⟩) z (c - (k + 1))) (by simp [Act.eval, Act.put]) (by simp [Act.eval, Act.put]) (happ _ _) ?_)
  go_wp2_with fail
  go_ret
  exact ⟨by rw [HN1.out]; rfl, hEND.out.1, hEND.out.2⟩
set_option maxRecDepth 100000 in
set_option maxHeartbeats 4000000 in
theorem sdel_end {w : World} {g k : Nat} {cur : Array Value} {L : List CO} (hg : Box w g 31 cur) (hcs : cur.size = (k + 1) * 5) (hL : cur.toList.take ((k + 1) * 5) = L.flatMap co1) (hn : L.length = (k + 1))
    (hn2 : k + 1 ≤ 256) :
    Calls Try.prog 43 #[.slice (some ⟨g, 0, none⟩) (k + 1) (k + 1), .int .i64 k, .int .i64 ((k : Int) + 1)] w fun e w' =>
      e = .returned (.slice (some ⟨g, 0, none⟩) ((k + 1) - 1) (k + 1)) ∧ (∃ R : Array Value, Box w' g 31 R ∧ R.size = (k + 1) * 5 ∧ R.toList.take (((k + 1) - 1) * 5) = (L.eraseIdx k).flatMap co1) ∧ Chg (fun j => j = g) w w' := by
  have hk : k < k + 1 := by omega
  have hnc : k + 1 ≤ k + 1 := Nat.le_refl _
  have mixed : Try.prog.follows Departure.mixedOrders = true := by kernel_rfl
  obtain ⟨i0, hi0, hz0, hzs, hzb⟩ := info_parts cco_info
  have i1 : (0 : Int) ≤ (k : Int) := by omega
  have i2 : (k : Int) ≤ (k : Int) + 1 := by omega
  have i3 : (k : Int) + 1 ≤ ((k + 1 : Nat) : Int) := by omega
  have i4 : ((k + 1 : Nat) : Int) ≤ ((k + 1 : Nat) : Int) := by omega
  have i5 : ((k : Int) + 1).toNat = k + 1 := by omega
  have i6 : (0 : Int) ≤ (k : Int) + 1 := by omega
  have i7 : ¬ ((k : Int) = (k : Int) + 1) := by omega
  have i8 : (k : Int) ≤ ((k + 1 : Nat) : Int) := by omega
  have i9 : (k : Int) ≤ ((k + 1 : Nat) : Int) := by omega
  obtain ⟨z, hz⟩ : ∃ z, (k + 1) - (k + 1) = z := ⟨_, rfl⟩
  obtain ⟨hl1, hl2, ht2⟩ := del_list (cur := cur.toList) (by simpa using hcs) hL hk hnc hn hz
  have ld : ((L.drop (k + 1)).flatMap co1).length = z * 5 := by rw [flat_len co1_len, List.length_drop, hn, hz]
  obtain ⟨R1, hR1⟩ : ∃ R1, cur.toList.take (k * 5) ++ (L.drop (k + 1)).flatMap co1 ++ cur.toList.drop (k * 5 + z * 5) = R1 := ⟨_, rfl⟩
  rw [hR1] at hl1 hl2 ht2
  obtain ⟨R2, hR2⟩ : ∃ R2, R1.take ((k + z) * 5) ++ co1 zeroC ++ R1.drop ((k + z) * 5 + 1 * 5) = R2 := ⟨_, rfl⟩
  rw [hR2] at hl2 ht2
  have happ : ∀ ty sc, (Builtin.append_ #[64, 64] ty #[.slice (some ⟨g, 0, none⟩) k (k + 1), .slice (some ⟨g, 0, none⟩) z sc]).run Try.prog w.drew = .ok (.slice (some ⟨g, 0, none⟩) (k + z) (k + 1)) (w.drew.setRow g R1.toArray) := fun ty sc => by
    have h := run_append_room (P := Try.prog) w.drew 64 ty 31 i0 Try.underlying64 hi0 g k (k + 1) cur hg ⟨g, 0, none⟩ z sc ((L.drop (k + 1)).flatMap co1) (by rw [ld, hzs]) (fun j v hj => by
      have : ((L.drop (k + 1)).flatMap co1).length = 0 := by rw [ld]; omega
      rw [List.length_eq_zero_iff.1 this] at hj
      simp at hj) (cos_one _) (by omega) (by rw [ld, hzs, hcs]; omega)
    rw [hzs, ld, hR1] at h
    exact h
  have hN1 : (w.drew.setRow g R1.toArray).heap[g]? = some (.cells R1.toArray 31 (0, 0)) := setRow_heap w.drew g cur _ _ _ hg
  have hC1 : Chg (fun j => j = g) w (w.drew.setRow g R1.toArray) := (Chg.refl _ w).drew.then (chg_setRow w.drew g _) (fun _ _ h => h)
  obtain ⟨W1, hW1⟩ : ∃ W1, w.drew.setRow g R1.toArray = W1 := ⟨_, rfl⟩
  rw [hW1] at happ hN1 hC1
  have hclr : ∀ ty sc, (Builtin.clear_ #[64] ty #[.slice (some ⟨g, (k + z) * 5, none⟩) ((k + 1) - (k + z)) sc]).run Try.prog W1 = .ok (.tuple #[]) (W1.setRow g R2.toArray) := fun ty sc => by
    have h := run_clear_rowK (P := Try.prog) W1 5 64 31 ty _ Try.underlying64 zero_run rfl (by intro v hv; exact co1_one zeroC v (by simpa [Value.cells, co1, zeroC] using hv)) (by omega) g ((k + z) * 5) 1 sc R1.toArray 31 hN1 (by omega) (by simp [hl1]; omega)
    rw [zero5_cells] at h
    rw [show (k + 1) - (k + z) = 1 by omega]
    simp only [hR2] at h
    exact h
  have hEND : Hid ((∃ R : Array Value, Box (W1.setRow g R2.toArray) g 31 R ∧ R.size = (k + 1) * 5 ∧ R.toList.take (((k + 1) - 1) * 5) = (L.eraseIdx k).flatMap co1) ∧ Chg (fun j => j = g) w (W1.setRow g R2.toArray)) :=
    Lib.hid ⟨⟨R2.toArray, setRow_heap W1 g _ _ _ _ hN1, by simpa using hl2, by simpa using ht2⟩, hC1.then (chg_setRow W1 g _) (fun _ _ h => h)⟩
  have j1 : (k : Int) + (z : Int) ≤ ((k + 1 : Nat) : Int) := by omega
  have j2 : ((k + z : Nat) : Int) ≤ ((k + 1 : Nat) : Int) := by omega
  have j3 : ¬ (k + 1) = k + z := by omega
  have j4 : k + z = (k + 1) - 1 := by omega
  have HN1 := Lib.hid j4
  clear j4 hL hR1 hR2 hN1 hC1 hl1 hl2 ht2 ld hg hi0 hz0 hzs hzb hn hcs
  have hz0 : z = 0 := by omega
  subst hz0
  simp only [Nat.add_zero, Nat.add_sub_cancel_left] at happ hclr
  simp only [Nat.add_zero] at j1 j2 j3 HN1
  go_enter Try.func43, Try.ntmps43
  go_wp2_with fail
  go_region_law_o (refine step_append_eq rfl (.tmp 22) (.tmp 25) 64 rfl (.slice (some ⟨g, 0, none⟩) k (k + 1)) (.slice (some ⟨g, 0, none⟩) 0 0) (by simp [Act.eval, Act.put]) (by simp [Act.eval, Act.put]) (happ _ _) ?_)
  go_wp2_with fail
  go_ret
  exact ⟨by rw [HN1.out]; rfl, hEND.out.1, hEND.out.2⟩
/-- What slices.Delete of one order leaves. -/
def SDelPost (w : World) (B : Nat) (v : Value) (L : List CO) (k : Nat) (e : Ending) (w' : World) : Prop :=
  ∃ v', e = .returned v' ∧ w'.ownsRow B 31 5 v' (L.length - 1) ((L.eraseIdx k).flatMap co1) ∧ Chg (fun j => v.ownBlock = some j) w w' ∧ v'.ownBlock = v.ownBlock
/-- slices.Delete of one order at any place of a row. -/
theorem sdel_any {w : World} {B k : Nat} {v : Value} {L : List CO} (h : w.ownsRow B 31 5 v L.length (L.flatMap co1)) (hk : k < L.length) (hn2 : L.length ≤ 256) :
    Calls Try.prog 43 #[v, .int .i64 k, .int .i64 ((k : Int) + 1)] w (SDelPost w B v L k) := by
  rcases h.2 with ⟨_, h0⟩ | ⟨g, c, cur, rfl, hb, hg, hnc, hmc, hsz, hx⟩
  · omega
  · have hl : ((L.eraseIdx k).flatMap co1).length = (L.length - 1) * 5 := by rw [flat_len co1_len, List.length_eraseIdx_of_lt hk]
    have key : Calls Try.prog 43 #[.slice (some ⟨g, 0, none⟩) L.length c, .int .i64 k, .int .i64 ((k : Int) + 1)] w fun e w' =>
        e = .returned (.slice (some ⟨g, 0, none⟩) (L.length - 1) c) ∧ (∃ R : Array Value, Box w' g 31 R ∧ R.size = c * 5 ∧ R.toList.take ((L.length - 1) * 5) = (L.eraseIdx k).flatMap co1) ∧ Chg (fun j => j = g) w w' := by
      by_cases hck : c = k + 1
      · have hn : L.length = k + 1 := by omega
        subst hck
        have := sdel_end hg hsz (by rw [← hn]; exact hx) hn (by omega)
        rw [← hn] at this
        rw [hn] at this ⊢
        exact this
      · exact sdel_mid hg hsz hx rfl hk hnc hn2 hck
    refine key.mono ?_
    rintro e w' ⟨rfl, ⟨R, hR, hRs, hRt⟩, h2⟩
    exact ⟨_, rfl, ⟨hl, .inr ⟨g, c, R, rfl, hb, hR, by omega, hmc, hRs, hRt⟩⟩, h2.mono (fun j _ e => by rw [e]; rfl), rfl⟩
end Go.Proofs.Ytekppjigckjgiaa

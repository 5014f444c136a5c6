/- slices.Insert of one order into a row of orders (5 cells each): where there is room. -/
import Derived.Test.YtekppjigckjgiaaCbkFlat
import Derived.Test.YtekppjigckjgiaaCbkIns
import Derived.Shelf.Spec.SlicesInsert
import Derived.Test.YtekppjigckjgiaaInsK
import Derived.Test.YtekppjigckjgiaaAppS
import Derived.Shelf.RegionOpenPlain
import Derived.Lib.Walk
import Derived.Lib.SliceRun
import Derived.Lib.JoinLaws
import Derived.Lib.AppendZeros
import Derived.Lib.Overlaps
import Derived.Laws.Externs
set_option linter.unusedSimpArgs false
namespace Go.Proofs.Ytekppjigckjgiaa
open Go.RowKit Go.Mem1 Go.CbkMath Go.Lib

theorem cco_info : (Try.prog.info? 31).map (fun i => (i.zero, i.size, i.bytes)) = some (some (.agg #[.int .i64 0, .int .i64 0, .int .i64 0, .int .i64 0, .int .i64 0]), 5, 40) := by kernel_rfl
theorem co_size : (Try.prog.info? 31).map (·.size) = some 5 := by kernel_rfl
theorem chg_setRow (w : World) (g : Nat) (cs : Array Value) : Chg (fun j => j = g) w (w.setRow g cs) :=
  ⟨rfl, rfl, rfl, by simp [World.setRow], fun k _ hn => setRow_other w g k cs hn⟩
/-- What stands in the block behind both copies. -/
theorem shift_list {cur : List Value} {L : List CO} {n c k z : Nat} {o : CO} (hcs : cur.length = c * 5) (hL : cur.take (n * 5) = L.flatMap co1) (hk : k < n) (hroom : n + 1 ≤ c) (hz : n - k = z) :
    (cur.take ((k + 1) * 5) ++ ((L.drop k).flatMap co1 ++ cur.drop ((k + 1) * 5 + z * 5))).take (k * 5) ++ co1 o ++ (cur.take ((k + 1) * 5) ++ ((L.drop k).flatMap co1 ++ cur.drop ((k + 1) * 5 + z * 5))).drop (k * 5 + 5) = (L.take k).flatMap co1 ++ co1 o ++ (L.drop k).flatMap co1 ++ cur.drop ((n + 1) * 5) := by
  have hl : (cur.take ((k + 1) * 5)).length = k * 5 + 5 := by rw [List.length_take, hcs]; simp only [Nat.min_def]; split <;> omega
  have h1 : (cur.take ((k + 1) * 5) ++ ((L.drop k).flatMap co1 ++ cur.drop ((k + 1) * 5 + z * 5))).take (k * 5) = (L.take k).flatMap co1 := by
    rw [List.take_append_of_le_length (by omega), List.take_take, ← flat_take5, ← hL, List.take_take]
    congr 1
    simp only [Nat.min_def]
    split <;> split <;> omega
  have h2 : (cur.take ((k + 1) * 5) ++ ((L.drop k).flatMap co1 ++ cur.drop ((k + 1) * 5 + z * 5))).drop (k * 5 + 5) = (L.drop k).flatMap co1 ++ cur.drop ((n + 1) * 5) := by
    rw [← hl, List.drop_left, show (k + 1) * 5 + z * 5 = (n + 1) * 5 by omega]
  rw [h1, h2]
  simp only [List.append_assoc]
set_option maxRecDepth 100000 in
set_option maxHeartbeats 4000000 in
theorem sins_shift {w : World} {g vb n c k : Nat} {cur : Array Value} {tV : TypeId} {o : CO} {L : List CO} (hg : Box w g 31 cur) (hcs : cur.size = c * 5) (hL : cur.toList.take (n * 5) = L.flatMap co1) (hn : L.length = n)
    (hk : k < n) (hroom : n + 1 ≤ c) (hn2 : n ≤ 256) (hv : OrdAt w vb tV o) (hvb : vb ≠ g) :
    Calls Try.prog 32 #[.slice (some ⟨g, 0, none⟩) n c, .int .i64 k, .slice (some ⟨vb, 0, none⟩) 1 1] w fun e w' =>
      e = .returned (.slice (some ⟨g, 0, none⟩) (n + 1) c) ∧ Box w' g 31 ((L.take k).flatMap co1 ++ co1 o ++ (L.drop k).flatMap co1 ++ cur.toList.drop ((n + 1) * 5)).toArray ∧ Chg (fun j => j = g) w w' := by
  have hz2 : ¬ ((k : Int) = (n : Int)) := by omega
  have hov : ∀ lb cb, (callFunc 39 #[.slice (some ⟨vb, 0, none⟩) 1 1, .slice (some ⟨g, (k + 1) * 5, none⟩) lb cb]).run Try.prog w = .ok (.value (.bool false)) w := fun lb cb => by
    have hsz : ∀ w, (sizeOf 31).run Try.prog w = .ok 5 w := fun w => Try.sizeOf31 w
    have hsa : w.shape? vb = some (tV, 5) := by
      have h := hv
      unfold OrdAt Box at h
      simp [World.shape?, h]
    have hsb : w.shape? g = some (31, cur.size) := by
      have h := hg
      unfold Box at h
      simp [World.shape?, h]
    rw [run_callFunc_extern Try.func39 (by kernel_rfl) (by kernel_rfl) (by kernel_rfl) (e := Extern.SlicesOverlaps.overlaps #[61, 61] #[4]) (by kernel_rfl),
      Lib.run_overlaps_apart w 61 4 31 Try.underlying61 5 hsz ⟨vb, 0, none⟩ ⟨g, (k + 1) * 5, none⟩ 1 1 lb cb hvb tV 31 5 cur.size hsa hsb (by omega) (Box.unmarked hv 0) (Box.unmarked hv 5)]
    rfl
  have mixed : Try.prog.follows Departure.mixedOrders = true := by kernel_rfl
  have hw1 : IntKind.i64.wrap ((k : Int) + 1) = (k : Int) + 1 := by rw [IntKind.wrap_i64]; omega
  have hb1 : (0 : Int) ≤ (k : Int) + 1 := by omega
  have hin : k ≤ n := by omega
  have htn : ((k : Int) + 1).toNat = k + 1 := by omega
  have hb2 : ¬ (c = k + 1) := by omega
  have hb3 : (k : Int) ≤ (n : Int) + 1 := by omega
  have hb4 : ¬ (c = k) := by omega
  have hb5 : (n : Int) + 1 ≤ (c : Int) := by omega
  have hb6 : (k : Int) + 1 ≤ (n : Int) + 1 := by omega
  have hb7 : (k : Int) ≤ (n : Int) := by omega
  obtain ⟨z, hz⟩ : ∃ z, n - k = z := ⟨_, rfl⟩
  have hdl : ((L.drop k).flatMap co1).length = z * 5 := by rw [flat_len co1_len, List.length_drop, hn, hz]
  have hcell : ∀ j v, ((L.drop k).flatMap co1)[j]? = some v → w.cell? ((⟨g, k * 5, none⟩ : Addr).add j) = some v := fun j v hj => by
    rw [Addr.add_lit, hg.reads]
    rw [← flat_drop5, ← hL, List.getElem?_drop, List.getElem?_take] at hj
    split at hj
    · rw [← hj]; simp
    · cases hj
  have hfit1 : (k + 1) * 5 + ((L.drop k).flatMap co1).length ≤ cur.size := by rw [hdl, hcs]; omega
  have hcp1 : ∀ ty dc sc, (Builtin.copy_ #[64, 64] ty #[.slice (some ⟨g, (k + 1) * 5, none⟩) z dc, .slice (some ⟨g, k * 5, none⟩) (n + 1 - k) sc]).run Try.prog w.drew = .ok (goInt (z : Int)) (w.drew.setRow g (cur.toList.take ((k + 1) * 5) ++ (L.drop k).flatMap co1 ++ cur.toList.drop ((k + 1) * 5 + ((L.drop k).flatMap co1).length)).toArray) := fun ty dc sc => by
    have h := run_copy_rowK (P := Try.prog) w.drew 5 64 64 ty 31 g ((k + 1) * 5) z dc ⟨g, k * 5, none⟩ (n + 1 - k) sc cur 31 ((L.drop k).flatMap co1) Try.underlying64 co_size hg (by rw [hdl]; simp only [Nat.min_def]; split <;> omega) hcell hfit1 (cos_one _)
    rw [show Nat.min (n + 1 - k) z = z by simp only [Nat.min_def]; split <;> omega] at h
    exact h
  go_enter Try.func32, Try.ntmps32
  go_wp2_with (simp only [hov])
  go_region_law_o (refine step_copy_runI rfl _ _ 64 64 rfl _ _ (by simp [Act.eval, Act.put]) (by simp [Act.eval, Act.put]) (hcp1 _ _ _) ?_)
  obtain ⟨R1, hR1⟩ : ∃ R1, List.take ((k + 1) * 5) cur.toList ++ ((L.drop k).flatMap co1 ++ List.drop ((k + 1) * 5 + z * 5) cur.toList) = R1 := ⟨_, rfl⟩
  rw [hR1]
  have hg1 : (w.drew.setRow g R1.toArray).heap[g]? = some (.cells R1.toArray 31 (0, 0)) := setRow_heap w.drew g cur _ _ _ hg
  have hv1 : OrdAt (w.drew.setRow g R1.toArray) vb tV o := by
    show (w.drew.setRow g R1.toArray).heap[vb]? = _
    rw [setRow_other w.drew g vb _ hvb]
    exact hv
  have hl1 : R1.length = c * 5 := by
    rw [← hR1, List.length_append, List.length_append, List.length_take, List.length_drop, hdl, Array.length_toList, hcs]
    simp only [Nat.min_def]
    split <;> omega
  obtain ⟨W1, hW1⟩ : ∃ W1, w.drew.setRow g R1.toArray = W1 := ⟨_, rfl⟩
  rw [hW1] at hg1 hv1 ⊢
  have hcp2 : ∀ ty dc, (Builtin.copy_ #[64, 61] ty #[.slice (some ⟨g, k * 5, none⟩) (n + 1 - k) dc, .slice (some ⟨vb, 0, none⟩) 1 1]).run Try.prog W1 = .ok (goInt 1) (W1.setRow g (R1.take (k * 5) ++ co1 o ++ R1.drop (k * 5 + 5)).toArray) := fun ty dc => by
    have h := run_copy_rowK (P := Try.prog) W1 5 64 61 ty 31 g (k * 5) (n + 1 - k) dc ⟨vb, 0, none⟩ 1 1 R1.toArray 31 (co1 o) Try.underlying64 co_size hg1 (by rw [co1_len]; simp only [Nat.min_def]; split <;> omega) (fun j v hj => by
      rw [Addr.add_lit, Nat.zero_add, Box.reads hv1]
      simpa [co1] using hj) (by rw [co1_len]; simp [hl1]; omega) (co1_one o)
    rw [show Nat.min 1 (n + 1 - k) = 1 by simp only [Nat.min_def]; split <;> omega] at h
    exact h
  have hEND : Hid (Box (W1.setRow g (R1.take (k * 5) ++ co1 o ++ R1.drop (k * 5 + 5)).toArray) g 31 ((L.take k).flatMap co1 ++ co1 o ++ (L.drop k).flatMap co1 ++ cur.toList.drop ((n + 1) * 5)).toArray ∧ Chg (fun j => j = g) w (W1.setRow g (R1.take (k * 5) ++ co1 o ++ R1.drop (k * 5 + 5)).toArray)) := Lib.hid (by
    refine ⟨?_, ?_⟩
    · have h3 := shift_list (cur := cur.toList) (o := o) (by simpa using hcs) hL hk hroom hz
      rw [hR1] at h3
      rw [← h3]
      exact setRow_heap W1 g _ _ _ _ hg1
    · rw [← hW1]
      exact ((Chg.refl _ w).drew.then (chg_setRow _ g _) (fun _ _ h => h)).then (chg_setRow _ g _) (fun _ _ h => h))
  obtain ⟨R2, hR2⟩ : ∃ R2, R1.take (k * 5) ++ co1 o ++ R1.drop (k * 5 + 5) = R2 := ⟨_, rfl⟩
  rw [hR2] at hcp2 hEND
  clear hR2
  clear hcp1 hcell hL hR1 hW1 hg hg1 hv1 hv hov
  go_wp2_with (at_builtin; refine wpList_copy_runI _ rfl _ _ 64 61 rfl _ _ rfl rfl (hcp2 _ _) ?_)
  go_ret
  exact ⟨rfl, hEND.out.1, hEND.out.2⟩
end Go.Proofs.Ytekppjigckjgiaa

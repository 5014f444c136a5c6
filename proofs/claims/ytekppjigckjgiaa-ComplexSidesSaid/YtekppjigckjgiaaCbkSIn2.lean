/- slices.Insert of one order into a row of orders: at its end; where there is no room; in all. -/
import Derived.Test.YtekppjigckjgiaaCbkSIns
import Derived.Lib.AppendZerosOnto
import Derived.Laws.NewBlocks
set_option linter.unusedSimpArgs false
namespace Go.Proofs.Ytekppjigckjgiaa
open Go.RowKit Go.Mem1 Go.CbkMath Go.Lib

/-- What Insert answers. -/
def SInsPost (w : World) (B : Nat) (v : Value) (L : List CO) (k : Nat) (o : CO) (e : Ending) (w' : World) : Prop :=
  ∃ v', e = .returned v' ∧ w'.ownsRow B 31 5 v' (L.length + 1) ((L.take k ++ o :: L.drop k).flatMap co1) ∧ Chg (fun j => v.ownBlock = some j) w w' ∧ ∀ j, v'.ownBlock = some j → v.ownBlock = some j ∨ w.heap.size ≤ j
set_option maxRecDepth 100000 in
set_option maxHeartbeats 4000000 in
theorem sins_end {w : World} {B vb : Nat} {v : Value} {tV : TypeId} {o : CO} {L : List CO} (h : w.ownsRow B 31 5 v L.length (L.flatMap co1)) (hB : B ≤ w.heap.size) (hn2 : L.length ≤ 256) (hv : OrdAt w vb tV o) :
    Calls Try.prog 32 #[v, .int .i64 L.length, .slice (some ⟨vb, 0, none⟩) 1 1] w (SInsPost w B v L L.length o) := by
  have mixed : Try.prog.follows Departure.mixedOrders = true := by kernel_rfl
  obtain ⟨i0, hi0, hz0, hz1, hz2⟩ := info_parts cco_info
  have hrd : RdS w (vb + 1) (some ⟨vb, 0, Option.none⟩) 1 5 (co1 o) := ⟨rfl, fun _ => ⟨vb, 0, rfl, Nat.lt_succ_self _, fun j u hj => by
    rw [Nat.zero_add, Box.reads hv]
    simpa [co1] using hj⟩⟩
  have hfl : (L.take L.length ++ o :: L.drop L.length).flatMap co1 = L.flatMap co1 ++ co1 o := by simp
  obtain ⟨A, c, rfl⟩ := own_slice h
  unfold SInsPost
  rw [hfl]
  obtain ⟨n, hn⟩ : ∃ n, L.length = n := ⟨_, rfl⟩
  rw [hn] at h hn2 ⊢
  have H := Lib.hid h
  have hAn : ∃ b, (A = Option.none ∧ n = 0 ∧ c = 0) ∨ (A = some ⟨b, 0, Option.none⟩ ∧ n ≤ c) := by
    rcases own_form h with ⟨e, e2⟩ | ⟨g, c', e, _, _, hc⟩
    · injection e with e1 _ e3
      exact ⟨0, .inl ⟨e1, e2, e3⟩⟩
    · injection e with e1 _ e3
      exact ⟨g, .inr ⟨e1, e3 ▸ hc⟩⟩
  have hc0 : A = Option.none → c = 0 := by
    obtain ⟨b, ⟨_, _, e⟩ | ⟨e, _⟩⟩ := hAn
    · exact fun _ => e
    · intro h; rw [e] at h; cases h
  have hrun : ∀ ty, ∃ v8 w8, (Builtin.append_ #[64, 61] ty #[.slice A n c, .slice (some ⟨vb, 0, Option.none⟩) 1 1]).run Try.prog w = .ok v8 w8 ∧
      Hid (∃ v', Ending.returned v8 = .returned v' ∧ w8.ownsRow B 31 5 v' (n + 1) (L.flatMap co1 ++ co1 o) ∧ Chg (fun j => (Value.slice A n c).ownBlock = some j) w w8 ∧ ∀ j, v'.ownBlock = some j → (Value.slice A n c).ownBlock = some j ∨ w.heap.size ≤ j) ∧ ∃ A' c', v8 = .slice A' (n + 1) c' := fun ty => by
    obtain ⟨v8, w8, hr8, hown8, hgr8, hor8⟩ := run_appendS (P := Try.prog) (w := w) B 64 ty 31 i0 _ 5 40 Try.underlying64 hi0 hz0 hz1 hz2 rfl (by omega) (.slice A n c) n _ H.out (some ⟨vb, 0, Option.none⟩) 1 1 (by intro h; cases h) (co1 o) hrd (co1_one o) (by simp only [maxLen]; omega) (by omega) hB
    refine ⟨v8, w8, ?_, Lib.hid ⟨v8, rfl, hown8, (Chg.of_grown hgr8).mono (fun _ _ e => e.symm), fun j hj => hor8.elim (fun e => Or.inl (e.symm.trans hj)) (fun e => Or.inr (by rw [e] at hj; injection hj with hj; omega))⟩, own_slice hown8⟩
    rw [append_types Try.underlying64 Try.underlying61 hi0]
    exact hr8
  obtain ⟨v8, w8, hr8, HE, A8, c8, e8⟩ := hrun 64
  subst e8
  clear h hn hfl hrun hc0
  obtain ⟨b, ⟨rfl, rfl, rfl⟩ | ⟨rfl, hnc⟩⟩ := hAn
  · go_enter Try.func32, Try.ntmps32
    go_wp2_with (at_builtin; refine Lib.wpList_append_run _ rfl _ _ _ _ rfl _ _ rfl rfl _ _ hr8 ?_)
    go_ret
    exact HE.out
  · have hnc2 : (n : Int) ≤ (c : Int) := by omega
    go_enter Try.func32, Try.ntmps32
    go_wp2_with (at_builtin; refine Lib.wpList_append_run _ rfl _ _ _ _ rfl _ _ rfl rfl _ _ hr8 ?_)
    all_goals
      go_ret
      exact HE.out
end Go.Proofs.Ytekppjigckjgiaa

/- The contracts of a ledger's Open, Sum, Fair. -/
import Derived.Test.YtfidihmiadjpjaaLifMut
import Derived.Maps.AppendAt
set_option linter.unusedSimpArgs false
namespace Go.Proofs.Ytfidihmiadjpjaa
open Go.RowKit Go.Mem1 Go.LifMath

section
variable {w : World} {B g : Nat} {vE : Value} {L : List Ent}
set_option maxHeartbeats 2000000 in
theorem sum_any (h : Led w B g vE L) (se si : Int) : Calls Try.prog 13 #[.pointer (some ⟨g, 0, none⟩), .int .i64 se, .int .i64 si] w fun e w' => e = .returned (.int .i64 (sumE se si L L.length)) ∧ Below w.heap.size w w' := by
  have HL := Lib.hid (fun w' (hb : Below w.heap.size w w') => h.carry hb)
  have hf := h.fair
  have c0 := h.at_.c0
  obtain ⟨A, c, hv⟩ := h.at_.form
  have hm := h.at_.most
  have hg := h.at_.there
  obtain ⟨n, hn⟩ : ∃ n, L.length = n := ⟨_, rfl⟩
  rw [hn] at hm hv ⊢
  rw [hv] at c0
  have HS := Lib.hid (fun k (hk : k ≤ n) => sum_bound (se := se) (si := si) hf k (by rw [hn]; exact hk))
  have HN := Lib.hid hn
  have HF := Lib.hid hf
  have HV := Lib.hid hv
  clear h hf hn hv
  go_enter Try.func13, Try.ntmps13
  go_wp2_with fail
  go_loopw [7, 15] (fun v7 v15 wr => ∃ k : Nat, k ≤ n ∧ v7 = .int .i64 (sumE se si L k) ∧ v15 = .int .i64 k ∧ Hid (Below w.heap.size w wr)) (fun _ v15 _ => n - (intOf v15).toNat)
  case atStart => exact ⟨0, by omega, rfl, rfl, Lib.hid (Below.refl _ _)⟩
  case round =>
    obtain ⟨k, hk, rfl, rfl, hB⟩ := hrel
    by_cases hlt : k < n
    · obtain ⟨x, hx⟩ : ∃ x, L[k]? = some x := ⟨_, List.getElem?_eq_getElem (by rw [HN.out]; exact hlt)⟩
      obtain ⟨b, c', e1, _, hb, _, _, k0, k1, k2, k3, k4, k5, k6, _⟩ := (HL.out wr hB.out).at_.ent hx
      rw [HV.out] at e1
      injection e1 with e1 e3 e2
      clear e3
      subst e1; subst e2
      have hbr : b ≠ wr.heap.size := by omega
      have hFx := HF.out x (List.mem_of_getElem? hx)
      have hs := HS.out k hk
      obtain ⟨s1, s2, s3, s4, s5⟩ := hFx
      have x0 : 0 ≤ x.fi := s2
      have x1 : x.fi ≤ 1000000 := by omega
      obtain ⟨S, hS⟩ : ∃ S, sumE se si L k = S := ⟨_, rfl⟩
      rw [hS] at hs ⊢
      cases ho : ofE se si x with
      | true =>
        have hT := Lib.hid ((sum_take hx ho).trans (by rw [hS]))
        unfold ofE at ho
        rw [Bool.and_eq_true] at ho
        obtain ⟨en, fi, ca, op, ow, xse, xsi⟩ := x
        dsimp only at k0 k1 k2 k3 k4 k5 k6 x0 x1 ho hT
        obtain ⟨o1, o2⟩ := ho
        clear hx s1 s2 s3 s4 s5 hS
        go_wp2_with fail
        go_roundw
        case rel => exact ⟨k + 1, by omega, by rw [hT.out], by go_num, Lib.hid (hB.out.alloc hB.out.size _)⟩
        case measure => simp [intOf]; omega
      | false =>
        have hT := Lib.hid ((sum_skip hx ho).trans hS)
        unfold ofE at ho
        obtain ⟨en, fi, ca, op, ow, xse, xsi⟩ := x
        dsimp only at k0 k1 k2 k3 k4 k5 k6 x0 x1 ho hT
        clear hx s1 s2 s3 s4 s5 hS
        cases o1 : (xse == se) with
        | true =>
          have o2 : (xsi == si) = false := by rw [o1] at ho; simpa using ho
          clear ho
          go_wp2_with fail
          go_roundw
          case rel => exact ⟨k + 1, by omega, by rw [hT.out], by go_num, Lib.hid (hB.out.alloc hB.out.size _)⟩
          case measure => simp [intOf]; omega
        | false =>
          clear ho
          go_wp2_with fail
          go_roundw
          case rel => exact ⟨k + 1, by omega, by rw [hT.out], by go_num, Lib.hid (hB.out.alloc hB.out.size _)⟩
          case measure => simp [intOf]; omega
    · obtain rfl : k = n := by omega
      go_wp2_with fail
      go_ret
      exact ⟨rfl, hB.out⟩
set_option maxHeartbeats 2000000 in
theorem fair_any (h : Led w B g vE L) : Calls Try.prog 15 #[.pointer (some ⟨g, 0, none⟩)] w fun e w' => e = .returned (.bool true) ∧ Below w.heap.size w w' := by
  have HL := Lib.hid (fun w' (hb : Below w.heap.size w w') => h.carry hb)
  have hf := h.fair
  have c0 := h.at_.c0
  obtain ⟨A, c, hv⟩ := h.at_.form
  have hm := h.at_.most
  have hg := h.at_.there
  obtain ⟨n, hn⟩ : ∃ n, L.length = n := ⟨_, rfl⟩
  rw [hn] at hm hv
  rw [hv] at c0
  have HN := Lib.hid hn
  have HF := Lib.hid hf
  have HV := Lib.hid hv
  clear h hf hn hv
  go_enter Try.func15, Try.ntmps15
  go_wp2_with fail
  go_loopw [10] (fun v10 wr => ∃ k : Nat, k ≤ n ∧ v10 = .int .i64 k ∧ Hid (Below w.heap.size w wr)) (fun v10 _ => n - (intOf v10).toNat)
  case atStart => exact ⟨0, by omega, rfl, Lib.hid (Below.refl _ _)⟩
  case round =>
    obtain ⟨k, hk, rfl, hB⟩ := hrel
    by_cases hlt : k < n
    · obtain ⟨x, hx⟩ : ∃ x, L[k]? = some x := ⟨_, List.getElem?_eq_getElem (by rw [HN.out]; exact hlt)⟩
      obtain ⟨b, c', e1, _, hb, _, _, k0, k1, k2, k3, k4, k5, k6, _⟩ := (HL.out wr hB.out).at_.ent hx
      rw [HV.out] at e1
      injection e1 with e1 e3 e2
      clear e3
      subst e1; subst e2
      have hbr : b ≠ wr.heap.size := by omega
      obtain ⟨s1, s2, s3, s4, s5⟩ := HF.out x (List.mem_of_getElem? hx)
      obtain ⟨en, fi, ca, op, ow, xse, xsi⟩ := x
      dsimp only at k0 k1 k2 k3 k4 k5 k6 s1 s2 s3 s4 s5
      have t1 : (en != fi + ca + op) = false := by simpa using s1
      have s6 := Lib.hid s1
      have x1 : fi + ca ≤ 1000000 := by omega
      have x2 : fi + ca + op ≤ 1000000 := by omega
      clear hx s1 s5
      go_wp2_with fail
      go_roundw
      case rel => exact ⟨k + 1, by omega, by go_num, Lib.hid (hB.out.alloc hB.out.size _)⟩
      case measure => simp [intOf]; omega
    · obtain rfl : k = n := by omega
      go_wp2_with fail
      go_ret
      exact ⟨rfl, hB.out⟩
/-- Numbers as cells. -/
def nums (l : List Int) : List Value := l.map (Value.int .i64)
theorem nums_one (l : List Int) : ∀ u ∈ nums l, u.oneCell' = true := by
  intro u hu
  obtain ⟨x, _, rfl⟩ := List.mem_map.1 hu
  rfl
theorem nums_snoc (l : List Int) (x : Int) : nums (l ++ [x]) = nums l ++ [.int .i64 x] := by simp [nums]
theorem i64_info : (Try.prog.info? 2).map (fun i => (i.zero, i.size, i.bytes)) = some (some (.int .i64 0), 1, 8) := by kernel_rfl
/-- At the head of a round of Open. -/
def OpenJ (w : World) (ow : Int) (L : List Ent) (k : Nat) (v : Value) (wr : World) : Prop := wr.ownsRow w.heap.size 2 1 v (opens ow L k).length (nums (opens ow L k)) ∧ Below w.heap.size w wr
theorem OpenJ.step {w wr w7 : World} {ow : Int} {L : List Ent} {k m : Nat} {v v7 : Value} {o o2 : Obj} (h : OpenJ w ow L k v wr) (hT : opens ow L (k + 1) = opens ow L k ++ [(k : Int) + 1]) (hm : (opens ow L k).length = m)
    (hown : w7.ownsRow w.heap.size 2 1 v7 (m + 1) (nums (opens ow L k) ++ [.int .i64 ((k : Int) + 1)])) (hg : ((wr.alloc o).alloc o2).grownBy w7 v.ownBlock) : OpenJ w ow L (k + 1) v7 w7 := by
  obtain ⟨h1, h2⟩ := h
  refine ⟨by rw [hT, nums_snoc, List.length_append, hm]; exact hown, ?_⟩
  have hs := h2.size
  exact Chg.toBelow ((h2.alloc hs o).alloc (by simp; omega) o2) (Chg.of_grown hg) (by simp; omega) (fun i hi e => by have := (h1.lt i e.symm).1; omega)
set_option maxHeartbeats 2000000 in
theorem open_any (h : Led w B g vE L) (ow : Int) : Calls Try.prog 12 #[.pointer (some ⟨g, 0, none⟩), .int .i64 ow] w fun e w' => (∃ A c, e = .returned (.slice A (opens ow L L.length).length c) ∧ w'.ownsRow w.heap.size 2 1 (.slice A (opens ow L L.length).length c) (opens ow L L.length).length (nums (opens ow L L.length))) ∧ Below w.heap.size w w' := by
  have HL := Lib.hid (fun w' (hb : Below w.heap.size w w') => h.carry hb)
  have c0 := h.at_.c0
  obtain ⟨A, c, hv⟩ := h.at_.form
  have hm := h.at_.most
  have hg := h.at_.there
  obtain ⟨n, hn⟩ : ∃ n, L.length = n := ⟨_, rfl⟩
  rw [hn] at hm hv ⊢
  rw [hv] at c0
  have HN := Lib.hid hn
  have HV := Lib.hid hv
  obtain ⟨i0, hi0, hz0, hz1, hz2⟩ := info_parts i64_info
  have HI0 := Lib.hid hi0
  have HI1 := Lib.hid hz0
  have HI2 := Lib.hid hz1
  have HI3 := Lib.hid hz2
  clear h hn hv hi0 hz0 hz1 hz2
  go_enter Try.func12, Try.ntmps12
  go_wp2_with fail
  clear c0
  go_loopw [5, 13] (fun v5 v13 wr => ∃ k : Nat, k ≤ n ∧ v13 = .int .i64 k ∧ Hid (OpenJ w ow L k v5 wr)) (fun _ v13 _ => n - (intOf v13).toNat)
  case atStart => exact ⟨0, by omega, rfl, Lib.hid ⟨World.ownsRow_nil _ _ _ _, Below.refl _ _⟩⟩
  case round =>
    obtain ⟨k, hk, rfl, hJ⟩ := hrel
    obtain ⟨hO, hB⟩ := hJ.out
    obtain ⟨A5, c5, e5⟩ := own_slice hO
    subst e5
    have hwb := hB.size
    by_cases hlt : k < n
    · obtain ⟨x, hx⟩ : ∃ x, L[k]? = some x := ⟨_, List.getElem?_eq_getElem (by rw [HN.out]; exact hlt)⟩
      obtain ⟨b, c', e1, _, hb, _, _, k0, k1, k2, k3, k4, k5, k6, _⟩ := (HL.out wr hB).at_.ent hx
      rw [HV.out] at e1
      injection e1 with e1 e3 e2
      clear e3
      subst e1; subst e2
      have hbr : b ≠ wr.heap.size := by omega
      have hX := Lib.hid hx
      obtain ⟨m, hm5⟩ : ∃ m, (opens ow L k).length = m := ⟨_, rfl⟩
      have hmk : m ≤ k := by rw [← hm5]; exact opens_len ow L k
      rw [hm5]
      have HM := Lib.hid hm5
      cases ho : openE ow x with
      | true =>
        have hT := Lib.hid (opens_take hx ho)
        have HO := Lib.hid (fun o o2 => own_alloc (own_alloc hO o) o2)
        rw [hm5] at HO
        unfold openE at ho
        rw [Bool.and_eq_true] at ho
        obtain ⟨en, fi, ca, op, xow, xse, xsi⟩ := x
        dsimp only at k0 k1 k2 k3 k4 k5 k6 ho
        obtain ⟨o1, o2⟩ := ho
        clear hx hO hB
        go_wp2_with (at_builtin; refine Hid.out ?_)
        refine Lib.hid ?_
        refine wpList_append_own_at _ rfl (.tmp 27) (.tmp 30) _ rfl w.heap.size 2 i0 _ 1 8 Try.underlying35 HI0.out HI1.out HI2.out HI3.out rfl (by omega) (.slice A5 m c5) m _ rfl (HO.out _ _) ⟨_, 0, none⟩ 1 1 [.int .i64 ((k : Int) + 1)] rfl rfl (cells_new _ _ _ (by simp)) (nums_one [(k : Int) + 1]) (by simp only [maxLen]; omega) (by omega) (by simp; omega) ?_
        intro v7 w7 hown7 hgr7 _ _
        have HK2 : Hid (OpenJ w ow L (k + 1) v7 w7) := Lib.hid (OpenJ.step hJ.out hT.out HM.out hown7 (by rw [HM.out]; exact hgr7))
        clear hown7 hgr7 HO hJ
        go_wp2_with fail
        go_roundw
        case rel =>
          exact ⟨k + 1, by omega, by go_num, HK2⟩
        case measure => simp [intOf]; omega
      | false =>
        have HK2 : ∀ o, Hid (OpenJ w ow L (k + 1) (.slice A5 m c5) (wr.alloc o)) := fun o => Lib.hid (by
          unfold OpenJ
          rw [opens_skip hx ho, hm5]
          exact ⟨by rw [hm5] at hO; exact own_alloc hO o, hB.alloc hwb o⟩)
        have HK3 := Lib.hid HK2
        unfold openE at ho
        obtain ⟨en, fi, ca, op, xow, xse, xsi⟩ := x
        dsimp only at k0 k1 k2 k3 k4 k5 k6 ho
        clear hx hO hB HK2 hJ
        cases o1 : (xow == ow) with
        | true =>
          have o2 : decide (0 < op) = false := by rw [o1] at ho; simpa using ho
          clear ho
          go_wp2_with fail
          go_roundw
          case rel => exact ⟨k + 1, by omega, by go_num, HK3.out _⟩
          case measure => simp [intOf]; omega
        | false =>
          clear ho
          go_wp2_with fail
          go_roundw
          case rel => exact ⟨k + 1, by omega, by go_num, HK3.out _⟩
          case measure => simp [intOf]; omega
    · obtain rfl : k = n := by omega
      go_wp2_with fail
      go_ret
      exact ⟨⟨A5, c5, rfl, hO⟩, hB⟩
end
end Go.Proofs.Ytfidihmiadjpjaa

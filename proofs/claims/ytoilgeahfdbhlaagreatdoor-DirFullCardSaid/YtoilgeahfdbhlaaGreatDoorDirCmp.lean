/- Contracts of cmp.Compare at three types, cmp.Or, series.Compare. -/
import Derived.Test.YtoilgeahfdbhlaaGreatDoorDirChk
import Derived.Test.YtoilgeahfdbhlaaGreatDoorShelf3
import Derived.Laws.Cover1
set_option linter.unusedSimpArgs false
namespace Go.Proofs.YtoilgeahfdbhlaaGreatDoor
open Go.RowKit Go.Mem1 Go.DirMath

theorem cmp64_any (x y : Int) (w : World) : Calls Tryz.prog 88 #[.int .i64 x, .int .i64 y] w fun e w' => e = .returned (.int .i64 (cmpI x y)) ∧ w = w' :=
  (AnyG.cmp_Compare_int Tryz.cmp64L x y w).mono fun e w' ⟨he, hw⟩ => ⟨by rw [he]; rfl, hw.symm⟩
theorem cmpInt_any (x y : Int) (w : World) : Calls Tryz.prog 89 #[.int .i64 x, .int .i64 y] w fun e w' => e = .returned (.int .i64 (cmpI x y)) ∧ w = w' :=
  (AnyG.cmp_Compare_int Tryz.cmpIL x y w).mono fun e w' ⟨he, hw⟩ => ⟨by rw [he]; rfl, hw.symm⟩
theorem nanS_any (x : ByteArray) (w : World) : Calls Tryz.prog 104 #[.string x] w fun e w' => e = .returned (.bool false) ∧ w = w' := by
  go_enter Tryz.func104, Tryz.ntmps104
  go_wp2
  go_ret
  exact ⟨by simp, rfl⟩
theorem gtr_less (a b : List UInt8) : (!(Op.bytesLess a b || a == b)) = Op.bytesLess b a := by
  rw [Go.Proofs.bytesLess_eq, Go.Proofs.bytesLess_eq]
  have h1 : a < b ∨ a = b ∨ b < a := by
    rcases Decidable.em (a < b) with h | h
    · exact Or.inl h
    · rcases List.le_iff_lt_or_eq.1 (List.not_lt.1 h) with h | h
      · exact Or.inr (Or.inr h)
      · exact Or.inr (Or.inl h.symm)
  rcases h1 with h | h | h
  · have := List.lt_asymm h; simp [h, this]
  · subst h; simp [List.lt_irrefl]
  · have h2 := List.lt_asymm h
    have h3 : ¬ a = b := fun e => by subst e; exact List.lt_irrefl _ h
    simp [h, h2, h3]
set_option maxHeartbeats 1000000 in
theorem cmpStr_any (x y : ByteArray) (w : World) : Calls Tryz.prog 87 #[.string x, .string y] w fun e w' => e = .returned (.int .i64 (cmpB x y)) ∧ w = w' := by
  have HN := Lib.hid (fun s w' => nanS_any s w')
  have hC := show cmpB x y = if Op.bytesLess x.toList y.toList = true then -1 else if Op.bytesLess y.toList x.toList = true then 1 else 0 from rfl
  have hg : (!(Op.bytesLess x.toList y.toList || x.toList == y.toList)) = Op.bytesLess y.toList x.toList := gtr_less _ _
  obtain ⟨R, hR⟩ : ∃ R, cmpB x y = R := ⟨_, rfl⟩
  rw [hR] at hC ⊢
  clear hR
  obtain ⟨A, hA⟩ : ∃ A, Op.bytesLess x.toList y.toList = A := ⟨_, rfl⟩
  obtain ⟨B, hB⟩ : ∃ B, Op.bytesLess y.toList x.toList = B := ⟨_, rfl⟩
  rw [hA, hB] at hC hg
  have HC := Lib.hid hC
  clear hC
  cases A with
  | true =>
    clear hg
    go_enter Tryz.func87, Tryz.ntmps87
    go_wp2_with (go_at_call 104; refine (HN.out _ _).mono ?_; rintro e w' ⟨rfl, rfl⟩)
    go_ret
    exact ⟨ri (by rw [HC.out]; rfl), rfl⟩
  | false =>
    have he : (x.toList == y.toList) = !B := by simpa using congrArg (!·) hg
    clear hg
    cases B with
    | true =>
      have he2 : (x.toList == y.toList) = false := he
      have he3 : ¬ x.toList = y.toList := by simpa using he2
      clear he
      go_enter Tryz.func87, Tryz.ntmps87
      go_wp2_with (go_at_call 104; refine (HN.out _ _).mono ?_; rintro e w' ⟨rfl, rfl⟩)
      go_ret
      exact ⟨ri (by rw [HC.out]; rfl), rfl⟩
    | false =>
      have he2 : (x.toList == y.toList) = true := he
      have he3 : x.toList = y.toList := by simpa using he2
      have HE := Lib.hid he3
      clear he he3
      go_enter Tryz.func87, Tryz.ntmps87
      go_wp2_with (go_at_call 104; refine (HN.out _ _).mono ?_; rintro e w' ⟨rfl, rfl⟩)
      go_ret
      exact ⟨ri (by rw [HC.out]; rfl), rfl⟩
/-- The first that is not zero. -/
def orI : List Int → Int
  | [] => 0
  | x :: l => if x = 0 then orI l else x
theorem orI_skip : ∀ (k : Nat) (l : List Int), (∀ j < k, l[j]?.getD 0 = 0) → orI (l.drop k) = orI l
  | 0, _, _ => rfl
  | k + 1, [], _ => by simp
  | k + 1, x :: l, h => by
    have h0 : x = 0 := h 0 (by omega)
    rw [List.drop_succ_cons, orI_skip k l (fun j hj => h (j + 1) (by omega))]
    show _ = if x = 0 then orI l else x
    rw [if_pos h0]
set_option maxRecDepth 100000 in
set_option maxHeartbeats 1000000 in
theorem or_any (b n c : Nat) (l : List Int) (w : World) (hl : l.length = n) (hn : n ≤ 1000) (hc : ∀ k (x : Int), l[k]? = some x → w.cell? ⟨b, k, none⟩ = some (.int .i64 x)) :
    Calls Tryz.prog 86 #[.slice (some ⟨b, 0, none⟩) n c] w fun e w' => e = .returned (.int .i64 (orI l)) ∧ w = w' := by
  have HC := Lib.hid hc
  have HL := Lib.hid hl
  clear hc hl
  go_enter Tryz.func86, Tryz.ntmps86
  go_wp2_with fail
  go_loop [8] (fun i => ∃ k : Nat, k ≤ n ∧ i = .int .i64 k ∧ Hid (∀ j < k, l[j]?.getD 0 = 0)) (fun i => n - (intOf i).toNat)
  case atStart => exact ⟨0, Nat.zero_le _, rfl, Lib.hid (fun j hj => absurd hj (Nat.not_lt_zero _))⟩
  case round =>
    obtain ⟨k, hk, rfl, hz⟩ := hrel
    by_cases hlt : k < n
    · have hx : l[k]? = some (l[k]'(by rw [HL.out]; exact hlt)) := List.getElem?_eq_getElem _
      obtain ⟨x, hx'⟩ : ∃ x, l[k]? = some x := ⟨_, hx⟩
      have hcell := HC.out k x hx'
      have HX := Lib.hid hx'
      clear hx hx'
      have hsk := Lib.hid (orI_skip k l hz.out)
      by_cases h0 : x = 0
      · subst h0
        go_wp2_with fail
        go_round
        case rel => exact ⟨k + 1, by omega, by go_num, Lib.hid (fun j hj => by
          rcases Nat.lt_or_ge j k with h | h
          · exact hz.out j h
          · obtain rfl : j = k := by omega
            rw [HX.out]; rfl)⟩
        case measure => simp [intOf]; omega
      · have h1 : (x != 0) = true := by simpa using h0
        have HZ := Lib.hid h0
        clear h0
        go_wp2_with fail
        go_ret
        exact ⟨ri (by
          rw [← hsk.out]
          have h2 : k < l.length := by rw [HL.out]; exact hlt
          have e1 := HX.out
          rw [List.getElem?_eq_getElem h2] at e1
          injection e1 with e1
          rw [List.drop_eq_getElem_cons h2, e1]
          show (if x = 0 then _ else x) = x
          rw [if_neg HZ.out]), rfl⟩
    · obtain rfl : k = n := by omega
      have hsk := Lib.hid (orI_skip k l hz.out)
      go_wp2_with fail
      go_ret
      exact ⟨ri (by rw [← hsk.out, List.drop_of_length_le (by rw [HL.out]; exact Nat.le_refl _)]; rfl), rfl⟩
/-- New blocks behind, draws on; nothing else. -/
def Grw (w w' : World) : Prop := ∃ q os, w' = Sort.grow (w.drewN q) os
theorem Grw.refl (w : World) : Grw w w := ⟨0, #[], by rw [Sort.grow_empty]; rfl⟩
theorem Grw.alloc {a w : World} (h : Grw a w) (o : Obj) : Grw a (w.alloc o) := by
  obtain ⟨q, os, rfl⟩ := h
  exact ⟨q, os ++ #[o], by rw [Sort.alloc_eq_grow, Sort.grow_grow]⟩
theorem Grw.drew {a w : World} (h : Grw a w) : Grw a w.drew := by
  obtain ⟨q, os, rfl⟩ := h
  exact ⟨q + 1, os, rfl⟩
theorem Grw.trans {a b c : World} (h : Grw a b) (k : Grw b c) : Grw a c := by
  obtain ⟨q, os, rfl⟩ := h
  obtain ⟨q2, os2, rfl⟩ := k
  exact ⟨q + q2, os ++ os2, by rw [← Sort.grow_grow]; unfold Sort.grow World.drewN; simp [Nat.add_assoc]⟩
theorem Grw.below {a w : World} (h : Grw a w) : Below a.heap.size a w := by
  obtain ⟨q, os, rfl⟩ := h
  exact ⟨rfl, rfl, rfl, by simp [World.drewN], fun k hk => by
    show (Sort.grow (a.drewN q) os).heap[k]? = _
    rw [Sort.heap_grow_old _ _ (show k < (a.drewN q).heap.size from hk)]; rfl⟩
set_option maxRecDepth 100000 in
set_option maxHeartbeats 2000000 in
theorem compare_any (a b : Ser) (w : World) :
    Calls Tryz.prog 73 #[serV a, serV b] w fun e w' => e = .returned (.int .i64 (cmpS a b)) ∧ Grw w w' := by
  obtain ⟨ac, ax, at_, ar⟩ := a
  obtain ⟨bc, bx, bt, br⟩ := b
  obtain ⟨R, hR⟩ : ∃ R, cmpS ⟨ac, ax, at_, ar⟩ ⟨bc, bx, bt, br⟩ = R := ⟨_, rfl⟩
  rw [hR]
  have hO : R = orI [cmpB ac bc, cmpI ax bx, cmpI at_ bt, cmpI ar br] := by
    rw [← hR]
    unfold cmpS thenC
    simp only [orI]
    repeat' split
    all_goals omega
  have HO := Lib.hid hO
  clear hO hR
  have K1 := Lib.hid (fun w' => (cmpStr_any ac bc w').mono (R' := fun e w'' => e = .returned (.int .i64 (cmpB ac bc)) ∧ w'' = w') fun e w' ⟨he, hw⟩ => ⟨he, hw.symm⟩)
  have K2 := Lib.hid (fun w' => (cmp64_any ax bx w').mono (R' := fun e w'' => e = .returned (.int .i64 (cmpI ax bx)) ∧ w'' = w') fun e w' ⟨he, hw⟩ => ⟨he, hw.symm⟩)
  have K3 := Lib.hid (fun w' => (cmp64_any at_ bt w').mono (R' := fun e w'' => e = .returned (.int .i64 (cmpI at_ bt)) ∧ w'' = w') fun e w' ⟨he, hw⟩ => ⟨he, hw.symm⟩)
  have K4 := Lib.hid (fun w' => (cmpInt_any ar br w').mono (R' := fun e w'' => e = .returned (.int .i64 (cmpI ar br)) ∧ w'' = w') fun e w' ⟨he, hw⟩ => ⟨he, hw.symm⟩)
  generalize cmpB ac bc = c1 at *
  generalize cmpI ax bx = c2 at *
  generalize cmpI at_ bt = c3 at *
  generalize cmpI ar br = c4 at *
  go_enter Tryz.func73, Tryz.ntmps73
  go_wp2_with fail
  refine wp_region_still_tail 20 (by kernel_rfl) (by kernel_rfl) ?_
  simp only [List.take_succ_cons, List.take_zero, List.drop_succ_cons, List.drop_zero]
  change wpStill _ _ (World.drew _) _ _ _
  still_step; still_step; still_step; still_step
  still_call (K1.out _)
  still_step; still_step; still_step; still_step
  still_call (K2.out _)
  still_step; still_step; still_step; still_step
  still_call (K3.out _)
  still_step; still_step; still_step; still_step
  still_call (K4.out _)
  refine wpStill_nil ?_
  clear K1 K2 K3 K4
  change wpList _ _ _ _ _ (World.drew ((w.alloc (.cells #[.string ac, .int .i64 ax, .int .i64 at_, .int .i64 ar] 35)).alloc (.cells #[.string bc, .int .i64 bx, .int .i64 bt, .int .i64 br] 35)))
  obtain ⟨w2, hw2⟩ : ∃ w2, World.drew ((w.alloc (.cells #[.string ac, .int .i64 ax, .int .i64 at_, .int .i64 ar] 35)).alloc (.cells #[.string bc, .int .i64 bx, .int .i64 bt, .int .i64 br] 35)) = w2 := ⟨_, rfl⟩
  rw [hw2]
  have G2 : Grw w w2 := by rw [← hw2]; exact (((Grw.refl w).alloc _).alloc _).drew
  have HG := Lib.hid G2
  clear hw2 G2
  have hor := or_any w2.heap.size 4 4 [c1, c2, c3, c4] (w2.alloc (.cells #[.int .i64 c1, .int .i64 c2, .int .i64 c3, .int .i64 c4] 3)) rfl (by omega) (fun k x hx => by
    match k, hx with
    | 0, hx => injection hx with hx; subst hx; simp
    | 1, hx => injection hx with hx; subst hx; simp
    | 2, hx => injection hx with hx; subst hx; simp
    | 3, hx => injection hx with hx; subst hx; simp)
  rw [← HO.out] at hor
  have HR := Lib.hid hor
  clear hor
  go_wp2_with (go_at_call 86; refine HR.out.mono ?_; rintro e w' ⟨rfl, rfl⟩)
  go_ret
  exact ⟨rfl, HG.out.alloc _⟩
end Go.Proofs.YtoilgeahfdbhlaaGreatDoor

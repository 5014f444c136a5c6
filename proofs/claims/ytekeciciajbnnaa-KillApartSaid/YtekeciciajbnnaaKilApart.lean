/- straddlelaw16.KillApart returns true. -/
import Derived.Test.YtekeciciajbnnaaKilKnown
import Derived.Test.YtekeciciajbnnaaBy
import Derived.Deep.RegionHeld3
set_option linter.unusedSimpArgs false
namespace Go.Proofs.Ytekeciciajbnnaa
open Go.RowKit Go.Mem1 Go.MapRow Go.KilMath

/-- How often each maker was filled, as it lies in memory. -/
def cntV (C : List Nat) : Array Value := (C.map (fun (x : Nat) => Value.int .i64 (x : Int))).toArray
/-- A maker that was filled so often. -/
def MkOk (T : Int → List Int) (last : Int → Option Int) (off : Int → Bool) (m : Int) (c : Nat) : Prop :=
  (c < 3 → T m = List.replicate c 5 ∧ off m = false) ∧ (3 ≤ c → T m = [] ∧ off m = true) ∧ (last m = none ∨ last m = some 5)
/-- The makers, and the law's own row: C are the makers' fills, N the row. -/
def ApJ (w0 : World) (B g nb : Nat) (C N : List Nat) (w : World) : Prop :=
  ∃ T last off, Sv w B g 3 100 T last off ∧ Box w nb 32 (cntV N) ∧ B ≤ nb ∧ (∀ (m c : Nat), C[m]? = some c → MkOk T last off (m : Int) c) ∧ Below B w0 w
section
variable {w0 w w' : World} {B g nb : Nat} {C N : List Nat}
theorem ok_m {m : Nat} (h : m < 8) : OkI (m : Int) := okI_small (by omega) (by omega)
theorem ApJ.cell (h : ApJ w0 B g nb C N w) {m c : Nat} (hc : N[m]? = some c) : w.cell? ⟨nb, m, none⟩ = some (.int .i64 (c : Int)) ∧ w.frozen? ⟨nb, m, none⟩ = false := by
  obtain ⟨T, la, of, a1, a2, a3, a4, a5⟩ := h
  refine ⟨(a2.reads m).trans ?_, a2.unmarked m⟩
  simp [cntV, hc]
/-- The law's row, one more. -/
theorem ApJ.count (h : ApJ w0 B g nb C N w) (m c : Nat) : ApJ w0 B g nb C (N.set m c) (w.setCell ⟨nb, m, none⟩ (.int .i64 (c : Int))) := by
  obtain ⟨T, la, of, a1, a2, a3, a4, a5⟩ := h
  have hc : Chg (fun j => j = nb) w (w.setCell ⟨nb, m, none⟩ (.int .i64 (c : Int))) := Chg.setCell (S := fun j => j = nb) (Chg.refl _ _) (p := ⟨nb, m, none⟩) (fun _ => rfl) _
  have hx := a2.wrote m (.int .i64 (c : Int))
  have e : (cntV N).setIfInBounds m (.int .i64 (c : Int)) = cntV (N.set m c) := by
    unfold cntV
    rw [List.setIfInBounds_toArray, List.map_set]
  rw [e] at hx
  have hb := a1.base
  obtain ⟨m1, m2, L, O, b1, b2⟩ := a1
  exact ⟨T, la, of, ⟨m1, m2, L, O, b1.kept hc (fun j hj e => b1.off a2 (by decide) (by decide) (e ▸ hj)), b2⟩, hx, a3, a4, Chg.toBelow a5 hc (Nat.le_of_lt hb) (fun i hi e => by omega)⟩
theorem fill_same5 (i : Nat) : fillT (List.replicate i 5) 5 100 = List.replicate (i + 1) 5 := by
  unfold fillT pastN
  rw [List.countP_replicate, show out 5 100 5 = false from rfl]
  simp [List.replicate_succ']
theorem last5 {o : Option Int} (h : o = none ∨ o = some 5) : lastOr o 5 = 5 := by rcases h with rfl | rfl <;> rfl
/-- The makers behind one fill of m. -/
theorem mk_step {T T' : Int → List Int} {la la' : Int → Option Int} {of of' : Int → Bool} {m : Nat} {c : Nat} (h : ∀ (k c : Nat), C[k]? = some c → MkOk T la of (k : Int) c) (hT : ∀ k : Int, k ≠ (m : Int) → T' k = T k ∧ la' k = la k ∧ of' k = of k) (hm : MkOk T' la' of' (m : Int) c) : ∀ (k c' : Nat), (C.set m c)[k]? = some c' → MkOk T' la' of' (k : Int) c' := by
  intro k c' hk
  rw [List.getElem?_set] at hk
  by_cases e : m = k
  · subst e
    rw [if_pos rfl] at hk
    split at hk
    · injection hk with hk
      subst hk
      exact hm
    · cases hk
  · rw [if_neg e] at hk
    obtain ⟨h1, h2, h3⟩ := hT (k : Int) (by omega)
    have := h k c' hk
    unfold MkOk at this ⊢
    rw [h1, h2, h3]
    exact this
theorem ApJ.fill (h : ApJ w0 B g nb C N w) {m c : Nat} (hm : m < 8) (hc : C[m]? = some c) :
    Calls Try.prog 7 #[.pointer (some ⟨g, 0, none⟩), .int .i64 (m : Int), .int .i64 5] w fun e w' => e = .returned (.bool (decide (((c + 1 : Nat) : Int) = 3))) ∧ ApJ w0 B g nb (C.set m (c + 1)) N w' := by
  obtain ⟨T, la, of, a1, a2, a3, a4, a5⟩ := h
  obtain ⟨k1, k2, k3⟩ := a4 m c hc
  by_cases h3 : 3 ≤ c
  · obtain ⟨t1, t2⟩ := k2 h3
    rw [decide_eq_false (by omega)]
    refine (ks_fill_no a1 (ok_m hm) t2 5).mono fun e w' ⟨b1, b2, b3⟩ => ⟨b1, T, la, of, b2, b3.boxes _ _ _ a2 (by decide) (by decide), a3, mk_step a4 (fun k _ => ⟨rfl, rfl, rfl⟩) ⟨fun h => by omega, fun _ => ⟨t1, t2⟩, k3⟩, a5.trans b3.below⟩
  · obtain ⟨t1, t2⟩ := k1 (by omega)
    have hl : (T (m : Int)).length < 1000 := by rw [t1]; simp; omega
    have hts : fillT (T (m : Int)) 5 100 = List.replicate (c + 1) 5 := by rw [t1]; exact fill_same5 c
    by_cases he : c + 1 = 3
    · rw [decide_eq_true (by omega)]
      refine (ks_fill_off a1 (ok_m hm) t2 (by omega) (by omega) hl (last5 k3) hts (by simp; omega)).mono fun e w' ⟨b1, b2, b3⟩ => ⟨b1, _, _, _, b2, b3.boxes _ _ _ a2 (by decide) (by decide), a3, mk_step a4 (fun k hk => ⟨upd_other _ _ hk, upd_other _ _ hk, upd_other _ _ hk⟩) ⟨fun h => by omega, fun _ => ⟨upd_same _ _ _, upd_same _ _ _⟩, .inr (upd_same _ _ _)⟩, a5.trans b3.below⟩
    · rw [decide_eq_false (by omega)]
      refine (ks_fill a1 (ok_m hm) t2 (by omega) (by omega) hl (last5 k3) hts (by simp; omega)).mono fun e w' ⟨b1, b2, b3⟩ => ⟨b1, _, _, _, b2, b3.boxes _ _ _ a2 (by decide) (by decide), a3, mk_step a4 (fun k hk => ⟨upd_other _ _ hk, upd_other _ _ hk, rfl⟩) ⟨fun _ => ⟨upd_same _ _ _, t2⟩, fun h => by omega, .inr (upd_same _ _ _)⟩, a5.trans b3.below⟩
theorem ApJ.off (h : ApJ w0 B g nb C N w) {m c : Nat} (hm : m < 8) (hc : C[m]? = some c) :
    Calls Try.prog 8 #[.pointer (some ⟨g, 0, none⟩), .int .i64 (m : Int)] w fun e w' => e = .returned (.bool (decide (3 ≤ c))) ∧ ApJ w0 B g nb C N w' := by
  obtain ⟨T, la, of, a1, a2, a3, a4, a5⟩ := h
  obtain ⟨k1, k2, k3⟩ := a4 m c hc
  have ho : of (m : Int) = decide (3 ≤ c) := by
    by_cases h3 : 3 ≤ c
    · rw [decide_eq_true h3]; exact (k2 h3).2
    · rw [decide_eq_false h3]; exact (k1 (by omega)).2
  have := ks_off a1 (ok_m hm)
  rw [ho] at this
  exact this.mono fun e w' ⟨b1, b2, b3⟩ => ⟨b1, T, la, of, b2, b3.boxes _ _ _ a2 (by decide) (by decide), a3, a4, a5.trans b3.below⟩
theorem ApJ.cnt (h : ApJ w0 B g nb C N w) {m c : Nat} (hm : m < 8) (hc : C[m]? = some c) :
    Calls Try.prog 9 #[.pointer (some ⟨g, 0, none⟩), .int .i64 (m : Int), .int .i64 5] w fun e w' => e = .returned (.int .i64 (if 3 ≤ c then 0 else (c : Int))) ∧ ApJ w0 B g nb C N w' := by
  obtain ⟨T, la, of, a1, a2, a3, a4, a5⟩ := h
  obtain ⟨k1, k2, k3⟩ := a4 m c hc
  have := ks_count a1 (ok_m hm) (now := 5) (by omega) (by omega)
  rw [last5 k3] at this
  have hv : ((T (m : Int)).length : Int) - pastN (T (m : Int)) 5 100 = if 3 ≤ c then 0 else (c : Int) := by
    by_cases h3 : 3 ≤ c
    · rw [(k2 h3).1, if_pos h3]; rfl
    · rw [(k1 (by omega)).1, if_neg h3]
      unfold pastN
      rw [List.countP_replicate, show out 5 100 5 = false from rfl]
      simp
  rw [hv] at this
  exact this.mono fun e w' ⟨b1, b2, b3⟩ => ⟨b1, T, la, of, b2, b3.boxes _ _ _ a2 (by decide) (by decide), a3, a4, a5.trans b3.below⟩
theorem ApJ.carry (h : ApJ w0 B g nb C N w) (hb : Below w.heap.size w w') : ApJ w0 B g nb C N w' := by
  obtain ⟨T, la, of, a1, a2, a3, a4, a5⟩ := h
  exact ⟨T, la, of, a1.carry hb, a2.kept_below hb a2.there, a3, a4, a5.trans (hb.mono (Nat.le_of_lt a1.base))⟩
theorem ApJ.below (h : ApJ w0 B g nb C N w) : Below B w0 w := by
  obtain ⟨T, la, of, a1, a2, a3, a4, a5⟩ := h
  exact a5
end
set_option maxRecDepth 100000 in
set_option maxHeartbeats 1000000 in
theorem apart_many (A : Option Addr) (n c : Nat) (w : World) (hn : 100 < n) :
    Calls Try.prog 4 #[.slice A n c] w fun e w' => e = .returned (.bool true) ∧ Below w.heap.size w w' := by
  have t0 : decide ((100 : Int) < (n : Int)) = true := by simp; omega
  go_enter Try.func4, Try.ntmps4
  go_wp2_with (go_at_call 5; refine (kknown_ok _).mono ?_; rintro e w0 ⟨rfl, hb0⟩; replace hb0 := Lib.hid hb0)
  go_ret
  exact ⟨rfl, hb0.out⟩
set_option maxRecDepth 100000 in
set_option maxHeartbeats 2000000 in
theorem apart_main (A : Option Addr) (n c : Nat) (l : List Nat) (w : World) (hA : Byt w w.heap.size A n l) (hn : n ≤ 100) :
    Calls Try.prog 4 #[.slice A n c] w fun e w' => e = .returned (.bool true) ∧ Below w.heap.size w w' := by
  have HA := Lib.hid hA
  have HLEN := Lib.hid hA.len
  have t0 : decide ((100 : Int) < (n : Int)) = false := by simp; omega
  have HN := Lib.hid (fun w1 => knew_ok (f := 3) (win := 100) (by omega) (by omega) (by omega) (by omega) w1)
  clear hA
  go_enter Try.func4, Try.ntmps4
  go_wp2_with ((first
    | (go_at_call 5; refine (kknown_ok _).mono ?_; rintro e w0 ⟨rfl, hb0⟩; replace hb0 := Lib.hid hb0)
    | (go_at_call 6; refine (HN.out _).mono ?_; rintro e w1 ⟨rfl, hS, hB⟩; replace hS := Lib.hid hS; replace hB := Lib.hid hB)))
  have HJ0 : Hid (ApJ w0 w0.heap.size w0.heap.size w1.heap.size [0, 0, 0, 0, 0, 0, 0, 0] [0, 0, 0, 0, 0, 0, 0, 0] (w1.alloc (.cells #[.int .i64 0, .int .i64 0, .int .i64 0, .int .i64 0, .int .i64 0, .int .i64 0, .int .i64 0, .int .i64 0] 32))) := Lib.hid ⟨_, _, _, hS.out.carry (bel_new _ _), Box.fresh _ _ _ rfl, hB.out.size, fun m c hc => by
    have hc0 : c = 0 := by
      have hm := (List.getElem?_eq_some_iff.1 hc).1
      simp at hm
      rcases (show m = 0 ∨ m = 1 ∨ m = 2 ∨ m = 3 ∨ m = 4 ∨ m = 5 ∨ m = 6 ∨ m = 7 by omega) with rfl | rfl | rfl | rfl | rfl | rfl | rfl | rfl <;> simp at hc <;> exact hc.symm
    subst hc0
    exact ⟨fun _ => ⟨rfl, rfl⟩, fun h => by omega, .inl rfl⟩, bel_alloc hB.out _⟩
  obtain ⟨g, hg⟩ : ∃ g, w0.heap.size = g := ⟨_, rfl⟩
  have HW0 : Hid (∀ w', Below g w0 w' → Below w.heap.size w w') := Lib.hid fun w' h => hb0.out.trans (h.mono (by rw [← hg]; exact hb0.out.size))
  rw [hg] at HJ0 ⊢
  clear hg hb0 hS hB HN t0
  generalize hW : w1.alloc (.cells #[.int .i64 0, .int .i64 0, .int .i64 0, .int .i64 0, .int .i64 0, .int .i64 0, .int .i64 0, .int .i64 0] 32) = W at HJ0 ⊢
  generalize hnb : w1.heap.size = nb at HJ0 ⊢
  clear hW hnb
  go_loopw [6] (fun v6 wr => ∃ (C : List Nat) (k : Nat), k ≤ n ∧ v6 = .int .i64 k ∧ Hid (C.length = 8 ∧ (∀ m c : Nat, C[m]? = some c → c ≤ k) ∧ ApJ w0 g g nb C C wr)) (fun v6 _ => n - (intOf v6).toNat)
  case atStart => exact ⟨_, 0, by omega, rfl, Lib.hid ⟨rfl, fun m c hc => by
    have hm := (List.getElem?_eq_some_iff.1 hc).1
    simp at hm
    rcases (show m = 0 ∨ m = 1 ∨ m = 2 ∨ m = 3 ∨ m = 4 ∨ m = 5 ∨ m = 6 ∨ m = 7 by omega) with rfl | rfl | rfl | rfl | rfl | rfl | rfl | rfl <;> simp at hc <;> omega, HJ0.out⟩⟩
  case round =>
    obtain ⟨C, k, hk, rfl, hJ⟩ := hrel
    clear HJ0
    by_cases hlt : k < n
    · obtain ⟨b, off, X, rfl, hbl, hX, hEk, hcell⟩ := HA.out.at_ hlt
      have hwr : Below w.heap.size w wr := HW0.out _ hJ.out.2.2.below
      have d0 := (hwr.cell (p := ⟨b, off + k, none⟩) hbl).trans hcell
      obtain ⟨m, hXm⟩ : ∃ m : Nat, ((X : Nat) : Int) % 8 = (m : Int) := ⟨X % 8, by omega⟩
      have hm8 : m < 8 := by omega
      obtain ⟨hC8, hCk, hJ1⟩ := hJ.out
      obtain ⟨q, hq⟩ : ∃ q, C[m]? = some q := ⟨C[m]'(by omega), by simp [hC8, hm8]⟩
      have hqk := hCk m q hq
      obtain ⟨x0, xf⟩ := hJ1.cell hq
      have hJ2 := hJ1.count m (q + 1)
      have hq2 : (C.set m (q + 1))[m]? = some (q + 1) := by simp [hC8, hm8]
      have hX0 : (0 : Int) ≤ (X : Int) := by omega
      have hX1 : (X : Int) < 256 := by omega
      have i0 : (m : Int) < 8 := by omega
      have hnext : Hid (∀ w3, ApJ w0 g g nb (C.set m (q + 1)) (C.set m (q + 1)) w3 → (C.set m (q + 1)).length = 8 ∧ (∀ m' c' : Nat, (C.set m (q + 1))[m']? = some c' → c' ≤ k + 1) ∧ ApJ w0 g g nb (C.set m (q + 1)) (C.set m (q + 1)) w3) := Lib.hid fun w3 h => ⟨by simp [hC8], fun m' c' h' => by
        rw [List.getElem?_set] at h'
        split at h'
        · split at h'
          · injection h' with h'; omega
          · cases h'
        · have := hCk m' c' h'; omega, h⟩
      rw [show ((q + 1 : Nat) : Int) = (q : Int) + 1 by omega] at hJ2
      have HF := Lib.hid (fun w' (hb : Below (wr.setCell ⟨nb, m, none⟩ (.int .i64 ((q : Int) + 1))).heap.size (wr.setCell ⟨nb, m, none⟩ (.int .i64 ((q : Int) + 1))) w') => (hJ2.carry hb).fill hm8 hq)
      have hy : ∀ w', ApJ w0 g g nb (C.set m (q + 1)) (C.set m (q + 1)) w' → w'.cell? ⟨nb, m, none⟩ = some (.int .i64 ((q : Int) + 1)) := fun w' h => by
        have := (h.cell hq2).1
        rw [this, show ((q + 1 : Nat) : Int) = (q : Int) + 1 by omega]
      have y0 : (wr.setCell ⟨nb, m, none⟩ (.int .i64 ((q : Int) + 1))).cell? ⟨nb, m, none⟩ = some (.int .i64 ((q : Int) + 1)) := by
        have := (hJ2.cell hq2).1
        rw [this, show ((q + 1 : Nat) : Int) = (q : Int) + 1 by omega]
      have y1 : (wr.setCell ⟨nb, m, none⟩ (.int .i64 ((q : Int) + 1))).drew.cell? ⟨nb, m, none⟩ = some (.int .i64 ((q : Int) + 1)) := y0
      replace hy := Lib.hid hy
      obtain ⟨bo, hbo⟩ : ∃ bo, decide (((q + 1 : Nat) : Int) = 3) = bo := ⟨_, rfl⟩
      rw [hbo] at HF
      have hbo2 : ((q : Int) + 1 == 3) = bo := by rw [← hbo, show ((q + 1 : Nat) : Int) = (q : Int) + 1 by omega]; rfl
      have hq0 : (q : Int) ≤ 100 := by omega
      clear hJ hwr hcell hEk hC8 hCk hJ1 hq hJ2 hq2 hbo
      have HF1 := Lib.hid (HF.out _ (Below.refl _ _).drew)
      clear HF
      go_wp2_with fail
      go_region_held3 (fun w' => w'.cell? ⟨nb, m, none⟩ = some (.int .i64 ((q : Int) + 1))) (first | go_keep | exact y0 | exact y1 | exact z0) ((go_at_call 7; (with_reducible refine HF1.out.mono ?_); rintro e w3 ⟨rfl, K⟩; have z0 := hy.out w3 K; replace K := Lib.hid (hnext.out w3 K)))
      all_goals (go_wp2_with fail)
      all_goals go_roundw
      case rel => exact ⟨_, k + 1, by omega, by go_num, K⟩
      case measure => simp [intOf]; omega
    · obtain rfl : k = n := by omega
      have HJ1 : Hid (C.length = 8 ∧ ApJ w0 g g nb C C wr) := Lib.hid ⟨hJ.out.1, hJ.out.2.2⟩
      clear hJ
      obtain ⟨wA, rfl⟩ : ∃ wA, wA = wr := ⟨_, rfl⟩
      go_wp2_with fail
      go_loopw [8] (fun v8 wr => ∃ m : Nat, m ≤ 8 ∧ v8 = .int .i64 m ∧ Hid (C.length = 8 ∧ ApJ w0 g g nb C C wr)) (fun v8 _ => 8 - (intOf v8).toNat)
      case atStart => exact ⟨0, by omega, rfl, HJ1⟩
      case round =>
        obtain ⟨m, hm, rfl, hJ⟩ := hrel
        clear HJ1
        by_cases hm8 : m < 8
        · obtain ⟨hC8, hJ1⟩ := hJ.out
          obtain ⟨q, hq⟩ : ∃ q, C[m]? = some q := ⟨C[m]'(by omega), by simp [hC8, hm8]⟩
          obtain ⟨x0, _⟩ := hJ1.cell hq
          have x1 : wr.drew.cell? ⟨nb, m, none⟩ = some (.int .i64 (q : Int)) := x0
          have hnext : Hid (∀ w3, ApJ w0 g g nb C C w3 → C.length = 8 ∧ ApJ w0 g g nb C C w3) := Lib.hid fun w3 h => ⟨hC8, h⟩
          have i0 : (m : Int) < 8 := by omega
          clear hJ hC8
          by_cases h3 : 3 ≤ q
          · have c3 : decide ((3 : Int) ≤ (q : Int)) = true := by simp; omega
            have HO := Lib.hid (fun w' (hb : Below wr.heap.size wr w') => (hJ1.carry hb).off hm8 hq)
            have HO1 := Lib.hid (HO.out _ (Below.refl _ _).drew)
            have HCN : Hid (∀ w', ApJ w0 g g nb C C w' → Calls Try.prog 9 #[.pointer (some ⟨g, 0, none⟩), .int .i64 (m : Int), .int .i64 5] w' fun e w2 => e = .returned (.int .i64 0) ∧ ApJ w0 g g nb C C w2) := Lib.hid fun w' h => by
              have := h.cnt hm8 hq
              rw [if_pos h3] at this
              exact this
            have hy : Hid (∀ w', ApJ w0 g g nb C C w' → w'.cell? ⟨nb, m, none⟩ = some (.int .i64 (q : Int))) := Lib.hid fun w' h => (h.cell hq).1
            rw [decide_eq_true h3] at HO1
            clear HO hJ1 hq
            go_wp2_with fail
            go_region_held3 (fun w' => w'.cell? ⟨nb, m, none⟩ = some (.int .i64 (q : Int))) (first | go_keep | exact x0 | exact x1 | exact z0 | exact z1) ((first
              | (go_at_call 8; (with_reducible refine HO1.out.mono ?_); rintro e w3 ⟨rfl, K3⟩; have z0 := hy.out w3 K3; replace K3 := Lib.hid K3)
              | (go_at_call 9; (with_reducible refine (HCN.out _ K3.out).mono ?_); rintro e w4 ⟨rfl, K4⟩; have z1 := hy.out w4 K4; replace K4 := Lib.hid (hnext.out w4 K4))))
            all_goals (go_wp2_with fail)
            all_goals go_roundw
            case rel => exact ⟨m + 1, by omega, by go_num, K4⟩
            case measure => simp [intOf]; omega

          · have c3 : decide ((3 : Int) ≤ (q : Int)) = false := by simp; omega
            have HO := Lib.hid (fun w' (hb : Below wr.heap.size wr w') => (hJ1.carry hb).off hm8 hq)
            have HO1 := Lib.hid (HO.out _ (Below.refl _ _).drew)
            have HCN : Hid (∀ w', ApJ w0 g g nb C C w' → Calls Try.prog 9 #[.pointer (some ⟨g, 0, none⟩), .int .i64 (m : Int), .int .i64 5] w' fun e w2 => e = .returned (.int .i64 (q : Int)) ∧ ApJ w0 g g nb C C w2) := Lib.hid fun w' h => by
              have := h.cnt hm8 hq
              rw [if_neg h3] at this
              exact this
            have hy : Hid (∀ w', ApJ w0 g g nb C C w' → w'.cell? ⟨nb, m, none⟩ = some (.int .i64 (q : Int))) := Lib.hid fun w' h => (h.cell hq).1
            rw [decide_eq_false h3] at HO1
            clear HO hJ1 hq
            go_wp2_with fail
            go_region_held3 (fun w' => w'.cell? ⟨nb, m, none⟩ = some (.int .i64 (q : Int))) (first | go_keep | exact x0 | exact x1 | exact z0 | exact z1) ((first
              | (go_at_call 8; (with_reducible refine HO1.out.mono ?_); rintro e w3 ⟨rfl, K3⟩; have z0 := hy.out w3 K3; replace K3 := Lib.hid K3)
              | (go_at_call 9; (with_reducible refine (HCN.out _ K3.out).mono ?_); rintro e w4 ⟨rfl, K4⟩; have z1 := hy.out w4 K4; replace K4 := Lib.hid (hnext.out w4 K4))))
            all_goals (go_wp2_with fail)
            all_goals go_roundw
            case rel => exact ⟨m + 1, by omega, by go_num, K4⟩
            case measure => simp [intOf]; omega

        · obtain rfl : m = 8 := by omega
          go_wp2_with fail
          go_ret
          exact ⟨rfl, HW0.out _ hJ.out.2.below⟩
end Go.Proofs.Ytekeciciajbnnaa

/- straddlelaw25.SessApart returns true. -/
import Derived.Test.YtpkkhmbcbcaelaaDoorSesKnown
import Derived.Test.YtpkkhmbcbcaelaaDoorBy
set_option linter.unusedSimpArgs false
namespace Go.Proofs.YtpkkhmbcbcaelaaDoor
open Go.RowKit Go.Mem1 Go.SesMath

/-- A row of counts, as it lies in memory. -/
def cntV (C : List Nat) : Array Value := (C.map (fun (x : Nat) => Value.int .i64 (x : Int))).toArray
/-- The desk, and the law's own two rows: I what came in, N what went out. -/
def ApaJ (w0 : World) (B g ni no : Nat) (D : Sk) (I N : List Nat) (w : World) : Prop :=
  SdJ w0 B g 1000 D (fun j => j = ni ∨ j = no) w ∧ Box w ni 56 (cntV I) ∧ Box w no 56 (cntV N) ∧ w0.heap.size ≤ ni ∧ w0.heap.size ≤ no ∧ ni ≠ no
section
variable {w0 w w' : World} {B g ni no : Nat} {D : Sk} {I N : List Nat}
theorem cnt_cell {b : Nat} {t : TypeId} {C : List Nat} (h : Box w b t (cntV C)) {m c : Nat} (hc : C[m]? = some c) : w.cell? ⟨b, m, none⟩ = some (.int .i64 (c : Int)) ∧ w.frozen? ⟨b, m, none⟩ = false := by
  refine ⟨(h.reads m).trans ?_, h.unmarked m⟩
  simp [cntV, hc]
theorem cnt_set (C : List Nat) (m c : Nat) : (cntV C).setIfInBounds m (.int .i64 (c : Int)) = cntV (C.set m c) := by
  unfold cntV
  rw [List.setIfInBounds_toArray, List.map_set]
theorem box_off {a b : Nat} {t : TypeId} {cs : Array Value} (h : Box w b t cs) (hn : a ≠ b) (i : Nat) (u : Value) : Box (w.setCell ⟨a, i, none⟩ u) b t cs :=
  h.kept (Chg.setCell (S := fun j => j = a) (Chg.refl _ _) (p := ⟨a, i, none⟩) (fun _ => rfl) _) (fun e => hn e.symm)
/-- One more came in, went out. -/
theorem ApaJ.inn (h : ApaJ w0 B g ni no D I N w) (m c : Nat) : ApaJ w0 B g ni no D (I.set m c) N (w.setCell ⟨ni, m, none⟩ (.int .i64 (c : Int))) := by
  obtain ⟨a1, a2, a3, a4, a5, a6⟩ := h
  have hx := a2.wrote m (.int .i64 (c : Int))
  rw [cnt_set] at hx
  exact ⟨a1.wrote (.inl rfl) a4 _ _, hx, box_off a3 a6 _ _, a4, a5, a6⟩
theorem ApaJ.outt (h : ApaJ w0 B g ni no D I N w) (m c : Nat) : ApaJ w0 B g ni no D I (N.set m c) (w.setCell ⟨no, m, none⟩ (.int .i64 (c : Int))) := by
  obtain ⟨a1, a2, a3, a4, a5, a6⟩ := h
  have hx := a3.wrote m (.int .i64 (c : Int))
  rw [cnt_set] at hx
  exact ⟨a1.wrote (.inr rfl) a5 _ _, box_off a2 a6.symm _ _, hx, a4, a5, a6⟩
theorem ApaJ.carry (h : ApaJ w0 B g ni no D I N w) (hb : Below w.heap.size w w') : ApaJ w0 B g ni no D I N w' := by
  obtain ⟨a1, a2, a3, a4, a5, a6⟩ := h
  exact ⟨a1.carry hb, a2.kept_below hb a2.there, a3.kept_below hb a3.there, a4, a5, a6⟩
theorem ApaJ.did {D' : Sk} (h : ApaJ w0 B g ni no D I N w) (h1 : SdJ w0 B g 1000 D' (fun j => j = ni ∨ j = no) w') (hc : Chg (fun j => ¬ (j = ni ∨ j = no)) w w') : ApaJ w0 B g ni no D' I N w' := by
  obtain ⟨a1, a2, a3, a4, a5, a6⟩ := h
  exact ⟨h1, a2.kept hc (fun e => e (.inl rfl)), a3.kept hc (fun e => e (.inr rfl)), a4, a5, a6⟩
theorem apa_in {C : List Nat} {n : Nat} (h : ApaJ w0 B g ni no (dOf C) I N w) (hC : ∀ s, C.getD s 0 ≤ n) (hn : n ≤ 1000) {s c : Nat} (h1 : 1 ≤ s) (h2 : s ≤ 64) (hc : C.getD s 0 = c) {k : Int} (hk : (if c = 0 then 1 else 2) = k) :
    Calls Tryd.prog 9 #[.pointer (some ⟨g, 0, none⟩), .int .i64 (s : Int), bareV k ((c : Int) + 1), .int .i64 0] w fun e w' => e = .returned .nilIface ∧ ApaJ w0 B g ni no (inD (dOf C) (s : Int) k 0) I N w' := by
  subst hk
  exact (sj_in h.1 (dOf_mild hC) (by omega) (s : Int) _ _ 0 (by decide) (by decide) (dOf_in h1 h2 hc)).mono fun _ _ ⟨a, b, d⟩ => ⟨a, h.did b d⟩
theorem apa_out {C : List Nat} {n : Nat} {s c : Nat} {k : Int} (h : ApaJ w0 B g ni no (inD (dOf C) (s : Int) k 0) I N w) (hC : ∀ s, C.getD s 0 ≤ n) (hn : n ≤ 900) (hl : C.length = 65) (h1 : 1 ≤ s) (h2 : s ≤ 64) (hc : C.getD s 0 = c) (hk : k ≠ 3) :
    Calls Tryd.prog 12 #[.pointer (some ⟨g, 0, none⟩), .int .i64 (s : Int)] w fun e w' => e = .returned (.int .i64 ((c : Int) + 1)) ∧ ApaJ w0 B g ni no (dOf (C.set s (c + 1))) I N w' := by
  have hs : isS (s : Int) = true := by unfold isS; simp; omega
  refine (sj_out h.1 ((dOf_mild hC).in_ _ _ (by decide) (by decide)) (by omega) hs (x := (c : Int) + 1) (by rw [dOf_out, hc])).mono ?_
  rintro e w' ⟨a, b, d⟩
  rw [dOf_step hl h1 h2 hk, hc] at b
  exact ⟨a, h.did b d⟩
theorem apa_next {C : List Nat} {n : Nat} {s c : Nat} (h : ApaJ w0 B g ni no (dOf C) I N w) (hC : ∀ s, C.getD s 0 ≤ n) (hn : n ≤ 900) (h1 : 1 ≤ s) (h2 : s ≤ 64) (hc : C.getD s 0 = c) :
    Calls Tryd.prog 16 #[.pointer (some ⟨g, 0, none⟩), .int .i64 (s : Int)] w fun e w' => e = .returned (.int .i64 ((c : Int) + 1)) ∧ ApaJ w0 B g ni no (dOf C) I N w' :=
  (sj_next h.1 (dOf_mild hC) (by omega) (s : Int) (x := (c : Int) + 1) (by rw [dOf_next h1 h2, hc])).mono fun _ _ ⟨a, _, k⟩ => ⟨a, h.carry k⟩
theorem apa_on {C : List Nat} {n : Nat} {s c : Nat} (h : ApaJ w0 B g ni no (dOf C) I N w) (hC : ∀ s, C.getD s 0 ≤ n) (hn : n ≤ 900) (h1 : 1 ≤ s) (h2 : s ≤ 64) (hc : C.getD s 0 = c) :
    Calls Tryd.prog 15 #[.pointer (some ⟨g, 0, none⟩), .int .i64 (s : Int)] w fun e w' => e = .returned (.bool (decide (0 < c))) ∧ ApaJ w0 B g ni no (dOf C) I N w' :=
  (sj_on h.1 (dOf_mild hC) (by omega) (s : Int) (x := decide (0 < c)) (by rw [dOf_on h1 h2, hc])).mono fun _ _ ⟨a, _, k⟩ => ⟨a, h.carry k⟩
end
set_option maxRecDepth 100000 in
set_option maxHeartbeats 1000000 in
theorem sapart_many (A : Option Addr) (n c : Nat) (w : World) (hg : ErrType w) (hn : 100 < n) :
    Calls Tryd.prog 6 #[.slice A n c] w fun e w' => e = .returned (.bool true) ∧ Below w.heap.size w w' := by
  have HG := Lib.hid hg
  have t0 : decide ((100 : Int) < (n : Int)) = true := by simp; omega
  clear hg
  go_enter Tryd.func6, Tryd.ntmps6
  go_wp2_with (go_at_call 7; refine (sknown_ok _ HG.out).mono ?_; rintro e w0 ⟨rfl, hb0⟩; replace hb0 := Lib.hid hb0)
  go_ret
  exact ⟨rfl, hb0.out⟩
set_option maxRecDepth 100000 in
set_option maxHeartbeats 2000000 in
theorem sapart_main (A : Option Addr) (n c : Nat) (l : List Nat) (w : World) (hg : ErrType w) (hA : Byt w w.heap.size A n l) (hn : n ≤ 100) :
    Calls Tryd.prog 6 #[.slice A n c] w fun e w' => e = .returned (.bool true) ∧ Below w.heap.size w w' := by
  have HA := Lib.hid hA
  have HLEN := Lib.hid hA.len
  have HG := Lib.hid hg
  have t0 : decide ((100 : Int) < (n : Int)) = false := by simp; omega
  clear hA hg
  go_enter Tryd.func6, Tryd.ntmps6
  go_wp2_with (go_at_call 7; refine (sknown_ok _ HG.out).mono ?_; rintro _ w1 ⟨rfl, hb1⟩; replace hb1 := Lib.hid hb1)
  go_wp2_with (go_at_call 8; refine Hid.out ?_)
  refine Lib.hid ?_
  refine (sj_new (by decide) (by decide) hb1.out).mono ?_
  rintro _ w2 ⟨B, g, rfl, hJ2⟩
  have HJ2 := Lib.hid hJ2
  clear hJ2 hb1
  have HZ : Hid (Tryd.zeroCells56 = cntV (List.replicate 65 0)) := Lib.hid (by kernel_rfl)
  have hs2 : w.heap.size ≤ w2.heap.size := HJ2.out.below.size
  have HJ0 : Hid (ApaJ w B g w2.heap.size (w2.heap.size + 1) (dOf (List.replicate 65 0)) (List.replicate 65 0) (List.replicate 65 0) ((w2.alloc (.cells Tryd.zeroCells56 56)).alloc (.cells Tryd.zeroCells56 56))) := by
    have a1 := HJ2.out.add (bel_new w2 (.cells Tryd.zeroCells56 56)) (b := w2.heap.size) (Nat.le_refl _) (by simp)
    have a2 := a1.add (bel_new _ (.cells Tryd.zeroCells56 56)) (b := w2.heap.size + 1) (by simp) (by simp)
    rw [← dOf_new] at a2
    rw [HZ.out] at a2 ⊢
    exact Lib.hid ⟨a2.less (fun j h => by rcases h with h | h <;> simp [h]), (Box.fresh w2 _ _ rfl).kept_below (bel_new _ _) (by simp), Box.fresh _ _ _ (by simp), hs2, by omega, by omega⟩
  clear HZ
  go_wp2_with fail
  generalize hW : (w2.alloc (.cells Tryd.zeroCells56 56)).alloc (.cells Tryd.zeroCells56 56) = W at HJ0 ⊢
  generalize hni : w2.heap.size = ni at HJ0 ⊢
  generalize hno : ni + 1 = no at HJ0 ⊢
  clear hW hni hno hs2 HJ2
  go_loopw [7] (fun v7 wr => ∃ (C : List Nat) (k : Nat), k ≤ n ∧ v7 = .int .i64 k ∧ Hid (C.length = 65 ∧ (∀ s, C.getD s 0 ≤ k) ∧ ApaJ w B g ni no (dOf C) C C wr)) (fun v7 _ => n - (intOf v7).toNat)
  case atStart => exact ⟨_, 0, by omega, rfl, Lib.hid ⟨by simp, fun s => by rw [List.getD_eq_getElem?_getD, List.getElem?_replicate]; split <;> exact Nat.le_refl _, HJ0.out⟩⟩
  case round =>
    obtain ⟨C, k, hk, rfl, hJ⟩ := hrel
    clear HJ0
    by_cases hlt : k < n
    · obtain ⟨b, off, X, rfl, hbl, hX, hEk, hcell⟩ := HA.out.at_ hlt
      have hwr : Below w.heap.size w wr := hJ.out.2.2.1.below
      have d0 := (hwr.cell (p := ⟨b, off + k, none⟩) hbl).trans hcell
      obtain ⟨m, hXm⟩ : ∃ m : Nat, (1 : Int) + ((X : Nat) : Int) % 64 = (m : Int) := ⟨1 + X % 64, by omega⟩
      have hm1 : 1 ≤ m := by omega
      have hm2 : m ≤ 64 := by omega
      obtain ⟨hC8, hCk, hJ1⟩ := hJ.out
      obtain ⟨q, hq⟩ : ∃ q, C[m]? = some q := ⟨C[m]'(by omega), List.getElem?_eq_getElem (by omega)⟩
      have hqd : C.getD m 0 = q := by rw [List.getD_eq_getElem?_getD, hq]; rfl
      have hqk : q ≤ k := hqd ▸ hCk m
      have hX0 : (0 : Int) ≤ (X : Int) := by omega
      have hX1 : (X : Int) < 256 := by omega
      have i0 : (m : Int) < 65 := by omega
      have i1 : (0 : Int) ≤ (m : Int) := by omega
      obtain ⟨x0, xf⟩ := cnt_cell hJ1.2.1 hq
      have hJ2 := hJ1.inn m (q + 1)
      obtain ⟨y0, yf⟩ := cnt_cell hJ2.2.2.1 hq
      have hJ3 := hJ2.outt m (q + 1)
      have hq2 : (C.set m (q + 1))[m]? = some (q + 1) := by rw [List.getElem?_set_self (by omega)]
      have u0 := (cnt_cell hJ3.2.1 hq2).1
      have u1 := (cnt_cell hJ3.2.2.1 hq2).1
      rw [show ((q + 1 : Nat) : Int) = (q : Int) + 1 by omega] at hJ2 hJ3 y0 yf u0 u1
      have hw0 : (0 : Int) ≤ (q : Int) := by omega
      have hq0 : (q : Int) ≤ 100 := by omega
      have hnext : Hid (∀ w3, ApaJ w B g ni no (dOf (C.set m (q + 1))) (C.set m (q + 1)) (C.set m (q + 1)) w3 → (C.set m (q + 1)).length = 65 ∧ (∀ s, (C.set m (q + 1)).getD s 0 ≤ k + 1) ∧ ApaJ w B g ni no (dOf (C.set m (q + 1))) (C.set m (q + 1)) (C.set m (q + 1)) w3) := Lib.hid fun w3 h => ⟨by simp [hC8], fun s => by
        rw [List.getD_eq_getElem?_getD, List.getElem?_set]
        split
        · split
          · simp; omega
          · simp
        · rw [← List.getD_eq_getElem?_getD]; have := hCk s; omega, h⟩
      have hy : Hid (∀ D w', ApaJ w B g ni no D (C.set m (q + 1)) (C.set m (q + 1)) w' → w'.cell? ⟨ni, m, none⟩ = some (.int .i64 ((q : Int) + 1)) ∧ w'.cell? ⟨no, m, none⟩ = some (.int .i64 ((q : Int) + 1))) := Lib.hid fun D w' h => by
        have a := (cnt_cell h.2.1 hq2).1
        have b := (cnt_cell h.2.2.1 hq2).1
        rw [show ((q + 1 : Nat) : Int) = (q : Int) + 1 by omega] at a b
        exact ⟨a, b⟩
      generalize hW3 : (wr.setCell ⟨ni, m, none⟩ (.int .i64 ((q : Int) + 1))).setCell ⟨no, m, none⟩ (.int .i64 ((q : Int) + 1)) = W3 at *
      by_cases h0 : q = 0
      · have tq : ((q : Int) == 0) = true := by simp; omega
        have HI := Lib.hid (apa_in (k := 1) (hJ3.carry (Below.refl _ _).drew) hCk (by omega) hm1 hm2 hqd (by rw [if_pos h0]))
        have HO : Hid (∀ w', ApaJ w B g ni no (inD (dOf C) (m : Int) 1 0) (C.set m (q + 1)) (C.set m (q + 1)) w' → Calls Tryd.prog 12 #[.pointer (some ⟨g, 0, none⟩), .int .i64 (m : Int)] w' fun e w2 => e = .returned (.int .i64 ((q : Int) + 1)) ∧ ApaJ w B g ni no (dOf (C.set m (q + 1))) (C.set m (q + 1)) (C.set m (q + 1)) w2) := Lib.hid fun w' h => apa_out h hCk (by omega) hC8 hm1 hm2 hqd (by decide)
        have v0 : W3.drew.cell? ⟨ni, m, none⟩ = some (.int .i64 ((q : Int) + 1)) := u0
        have v1 : W3.drew.cell? ⟨no, m, none⟩ = some (.int .i64 ((q : Int) + 1)) := u1
        unfold bareV at HI
        clear h0 hJ hwr hcell hEk hC8 hCk hJ1 hq hJ2 hJ3 hq2 hqd hm1 hm2
        go_wp2_with fail
        go_region_held3 (fun w' => w'.cell? ⟨ni, m, none⟩ = some (.int .i64 ((q : Int) + 1)) ∧ w'.cell? ⟨no, m, none⟩ = some (.int .i64 ((q : Int) + 1))) (first | go_keep | exact ⟨u0, u1⟩ | exact ⟨v0, v1⟩ | exact z0 | exact z1) ((first
          | (go_at_call 9; (with_reducible refine HI.out.mono ?_); rintro _ w4 ⟨rfl, K4⟩; have z0 := hy.out _ w4 K4; replace K4 := Lib.hid K4)
          | (go_at_call 12; (with_reducible refine (HO.out _ K4.out).mono ?_); rintro _ w5 ⟨rfl, K5⟩; have z1 := hy.out _ w5 K5; replace K5 := Lib.hid (hnext.out w5 K5))))
        all_goals (go_wp2_with fail)
        all_goals go_roundw
        case rel => exact ⟨_, k + 1, by omega, by go_num, K5⟩
        case measure => simp [intOf]; omega
      · have tq : ((q : Int) == 0) = false := by simp; omega
        have HI := Lib.hid (apa_in (k := 2) (hJ3.carry (Below.refl _ _).drew) hCk (by omega) hm1 hm2 hqd (by rw [if_neg h0]))
        have HO : Hid (∀ w', ApaJ w B g ni no (inD (dOf C) (m : Int) 2 0) (C.set m (q + 1)) (C.set m (q + 1)) w' → Calls Tryd.prog 12 #[.pointer (some ⟨g, 0, none⟩), .int .i64 (m : Int)] w' fun e w2 => e = .returned (.int .i64 ((q : Int) + 1)) ∧ ApaJ w B g ni no (dOf (C.set m (q + 1))) (C.set m (q + 1)) (C.set m (q + 1)) w2) := Lib.hid fun w' h => apa_out h hCk (by omega) hC8 hm1 hm2 hqd (by decide)
        have v0 : W3.drew.cell? ⟨ni, m, none⟩ = some (.int .i64 ((q : Int) + 1)) := u0
        have v1 : W3.drew.cell? ⟨no, m, none⟩ = some (.int .i64 ((q : Int) + 1)) := u1
        unfold bareV at HI
        clear h0 hJ hwr hcell hEk hC8 hCk hJ1 hq hJ2 hJ3 hq2 hqd hm1 hm2
        go_wp2_with fail
        go_region_held3 (fun w' => w'.cell? ⟨ni, m, none⟩ = some (.int .i64 ((q : Int) + 1)) ∧ w'.cell? ⟨no, m, none⟩ = some (.int .i64 ((q : Int) + 1))) (first | go_keep | exact ⟨u0, u1⟩ | exact ⟨v0, v1⟩ | exact z0 | exact z1) ((first
          | (go_at_call 9; (with_reducible refine HI.out.mono ?_); rintro _ w4 ⟨rfl, K4⟩; have z0 := hy.out _ w4 K4; replace K4 := Lib.hid K4)
          | (go_at_call 12; (with_reducible refine (HO.out _ K4.out).mono ?_); rintro _ w5 ⟨rfl, K5⟩; have z1 := hy.out _ w5 K5; replace K5 := Lib.hid (hnext.out w5 K5))))
        all_goals (go_wp2_with fail)
        all_goals go_roundw
        case rel => exact ⟨_, k + 1, by omega, by go_num, K5⟩
        case measure => simp [intOf]; omega
    · obtain rfl : k = n := by omega
      have HJ1 : Hid (C.length = 65 ∧ (∀ s, C.getD s 0 ≤ 100) ∧ ApaJ w B g ni no (dOf C) C C wr) := Lib.hid ⟨hJ.out.1, fun s => by have := hJ.out.2.1 s; omega, hJ.out.2.2⟩
      clear hJ
      obtain ⟨wA, rfl⟩ : ∃ wA, wA = wr := ⟨_, rfl⟩
      go_wp2_with fail
      go_loopw [10] (fun v9 wr => ∃ m : Nat, 1 ≤ m ∧ m ≤ 65 ∧ v9 = .int .i64 m ∧ Hid (C.length = 65 ∧ (∀ s, C.getD s 0 ≤ 100) ∧ ApaJ w B g ni no (dOf C) C C wr)) (fun v9 _ => 65 - (intOf v9).toNat)
      case atStart => exact ⟨1, by omega, by omega, rfl, HJ1⟩
      case round =>
        obtain ⟨m, hm1, hm, rfl, hJ⟩ := hrel
        clear HJ1
        by_cases hm8 : m < 65
        · obtain ⟨hC8, hCk, hJ1⟩ := hJ.out
          obtain ⟨q, hq⟩ : ∃ q, C[m]? = some q := ⟨C[m]'(by omega), List.getElem?_eq_getElem (by omega)⟩
          have hqd : C.getD m 0 = q := by rw [List.getD_eq_getElem?_getD, hq]; rfl
          have hqk : q ≤ 100 := hqd ▸ hCk m
          obtain ⟨x0, _⟩ := cnt_cell hJ1.2.1 hq
          have x1 : wr.drew.cell? ⟨ni, m, none⟩ = some (.int .i64 (q : Int)) := x0
          have hnext : Hid (∀ w3, ApaJ w B g ni no (dOf C) C C w3 → C.length = 65 ∧ (∀ s, C.getD s 0 ≤ 100) ∧ ApaJ w B g ni no (dOf C) C C w3) := Lib.hid fun w3 h => ⟨hC8, hCk, h⟩
          have i0 : (m : Int) < 65 := by omega
          have i1 : (0 : Int) ≤ (m : Int) := by omega
          have i2 : (m : Int) ≤ 64 := by omega
          have hw0 : (0 : Int) ≤ (q : Int) := by omega
          have hq0 : (q : Int) ≤ 100 := by omega
          have ew : IntKind.i64.wrap ((q : Int) + 1) = (q : Int) + 1 := by simp [IntKind.wrap, IntKind.signed, IntKind.bits]; omega
          have HX := Lib.hid (apa_next (hJ1.carry (Below.refl _ _).drew) hCk (by omega) hm1 (by omega) hqd)
          have HO : Hid (∀ w', ApaJ w B g ni no (dOf C) C C w' → Calls Tryd.prog 15 #[.pointer (some ⟨g, 0, none⟩), .int .i64 (m : Int)] w' fun e w2 => e = .returned (.bool (decide (0 < q))) ∧ ApaJ w B g ni no (dOf C) C C w2) := Lib.hid fun w' h => apa_on h hCk (by omega) hm1 (by omega) hqd
          have hy : Hid (∀ w', ApaJ w B g ni no (dOf C) C C w' → w'.cell? ⟨ni, m, none⟩ = some (.int .i64 (q : Int))) := Lib.hid fun w' h => (cnt_cell h.2.1 hq).1
          by_cases h3 : 0 < q
          · have c3 : decide (0 < q) = true := decide_eq_true h3
            rw [c3] at HO
            clear hJ hC8 hCk hJ1 hq hqd h3
            go_wp2_with fail
            go_region_held3 (fun w' => w'.cell? ⟨ni, m, none⟩ = some (.int .i64 (q : Int))) (first | go_keep | exact x0 | exact x1 | exact z0 | exact z1) ((first
              | (go_at_call 16; (with_reducible refine HX.out.mono ?_); rintro _ w3 ⟨rfl, K3⟩; have z0 := hy.out w3 K3; replace K3 := Lib.hid K3)
              | (go_at_call 15; (with_reducible refine (HO.out _ K3.out).mono ?_); rintro _ w4 ⟨rfl, K4⟩; have z1 := hy.out w4 K4; replace K4 := Lib.hid (hnext.out w4 K4))))
            all_goals (go_wp2_with fail)
            all_goals go_roundw
            case rel => exact ⟨m + 1, by omega, by omega, by go_num, K4⟩
            case measure => simp [intOf]; omega
          · have c3 : decide (0 < q) = false := decide_eq_false h3
            rw [c3] at HO
            clear hJ hC8 hCk hJ1 hq hqd h3
            go_wp2_with fail
            go_region_held3 (fun w' => w'.cell? ⟨ni, m, none⟩ = some (.int .i64 (q : Int))) (first | go_keep | exact x0 | exact x1 | exact z0 | exact z1) ((first
              | (go_at_call 16; (with_reducible refine HX.out.mono ?_); rintro _ w3 ⟨rfl, K3⟩; have z0 := hy.out w3 K3; replace K3 := Lib.hid K3)
              | (go_at_call 15; (with_reducible refine (HO.out _ K3.out).mono ?_); rintro _ w4 ⟨rfl, K4⟩; have z1 := hy.out w4 K4; replace K4 := Lib.hid (hnext.out w4 K4))))
            all_goals (go_wp2_with fail)
            all_goals go_roundw
            case rel => exact ⟨m + 1, by omega, by omega, by go_num, K4⟩
            case measure => simp [intOf]; omega
        · obtain rfl : m = 65 := by omega
          go_wp2_with fail
          go_ret
          exact ⟨rfl, hJ.out.2.2.1.below⟩
end Go.Proofs.YtpkkhmbcbcaelaaDoor

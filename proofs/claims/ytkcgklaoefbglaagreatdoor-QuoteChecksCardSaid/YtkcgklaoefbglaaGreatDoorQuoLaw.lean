/- straddlelaw15.QuoteChecks returns true. -/
import Derived.Test.YtkcgklaoefbglaaGreatDoorQuoKnown
import Derived.Test.YtkcgklaoefbglaaGreatDoorQuoRef
import Derived.Test.YtkcgklaoefbglaaGreatDoorGrdOf
import Derived.Test.YtkcgklaoefbglaaGreatDoorGrdRefChk
import Derived.Test.YtkcgklaoefbglaaGreatDoorAtTell
import Derived.Deep.RegionHeld3
set_option linter.unusedSimpArgs false
namespace Go.Proofs.YtkcgklaoefbglaaGreatDoor
open Go.RowKit Go.Mem1 Go.GridMath Go.OrdMath

theorem qwrong_field (A : Option Addr) (n c : Nat) (x : Int) (w : World) : (Instr.field 29 (.agg #[.slice A n c, .int .i64 x]) 1).run Tryz.prog w = .ok (.int .i64 x) w := by kernel_rfl
theorem ErrType.on {w w' : World} (h : ErrType w) (hb : Below w.heap.size w w') : ErrType w' := (hb.cell (p := ⟨0, 0, none⟩) h.lt).trans h
/-- Whatever is known of the quote's box. -/
def QBox (W1 : World) (g : Nat) (q : Quo) : Prop := ∀ w', Below W1.heap.size W1 w' → w'.cell? ⟨g, 0, none⟩ = some (.int .i64 q.b) ∧ w'.cell? ⟨g, 1, none⟩ = some (.int .i64 q.bq) ∧ w'.cell? ⟨g, 2, none⟩ = some (.int .i64 q.a) ∧ w'.cell? ⟨g, 3, none⟩ = some (.int .i64 q.aq)
theorem QBox.of {W1 : World} {g : Nat} {q : Quo} (hx : Box W1 g 23 #[.int .i64 q.b, .int .i64 q.bq, .int .i64 q.a, .int .i64 q.aq]) : QBox W1 g q := fun w' hb => by
  have h := hx.kept_below hb hx.there
  exact ⟨(h.reads 0).trans rfl, (h.reads 1).trans rfl, (h.reads 2).trans rfl, (h.reads 3).trans rfl⟩
set_option maxRecDepth 100000 in
set_option maxHeartbeats 2000000 in
theorem checks_long (q : Quo) (A : Option Addr) (n c : Nat) (w : World) (hn : 8 < n) :
    Calls Tryz.prog 3 #[quoV q, .slice A n c] w fun e w' => e = .returned (.bool true) ∧ Below w.heap.size w w' := by
  obtain ⟨b, bq, a, aq⟩ := q
  have HK := Lib.hid (fun w' => qknown_ok w')
  have t8 : decide ((8 : Int) < (n : Int)) = true := by simp; omega
  have WF := qwrong_field
  go_enter Tryz.func3, Tryz.ntmps3
  go_wp2_with (go_at_call 4; refine (HK.out _).mono ?_; rintro e w1 ⟨rfl, B1⟩; replace B1 := Lib.hid B1)
  go_ret
  exact ⟨rfl, bel_trans (bel_new _ _) B1.out⟩
set_option maxRecDepth 100000 in
set_option maxHeartbeats 2000000 in
theorem checks_bad (q : Quo) (A : Option Addr) (n c : Nat) (l : List Stp) (w : World) (h : TabAt w w.heap.size A n l) (hn : n ≤ 8) (k x : Nat) (hc : chk l = some (k, (x : Int))) :
    Calls Tryz.prog 3 #[quoV q, .slice A n c] w fun e w' => e = .returned (.bool true) ∧ Below w.heap.size w w' := by
  obtain ⟨b, bq, a, aq⟩ := q
  have HK := Lib.hid (fun w' => qknown_ok w')
  have t8 : decide ((8 : Int) < (n : Int)) = false := by simp; omega
  have hx' : ((x : Int) != 0) = true := by have := chk_bound hc; simp; omega
  have HC := Lib.hid hc
  have H := Lib.hid h
  clear hc h
  obtain ⟨W1, hW1⟩ : ∃ W1, w.alloc (.cells #[.int .i64 b, .int .i64 bq, .int .i64 a, .int .i64 aq] 23) = W1 := ⟨_, rfl⟩
  have B1 : Below w.heap.size w W1 := by rw [← hW1]; exact bel_new _ _
  have HB := Lib.hid B1
  clear B1
  have WF := qwrong_field
  go_enter Tryz.func3, Tryz.ntmps3
  go_wp2_with ((first
    | (go_at_call 4; refine (HK.out _).mono ?_; rintro e w1 ⟨rfl, B1⟩; replace B1 := Lib.hid (bel_trans HB.out B1))
    | (go_at_call 6; refine (of_any A n c l w1 ((H.out.carry B1.out).wider B1.out.size) (by omega)).mono ?_; rintro e w2 ⟨A1, c1, rfl, T2, B2⟩; replace B2 := Lib.hid (bel_trans B1.out B2); replace T2 := Lib.hid T2)
    | (go_at_call 5; refine (rchk_any A1 n c1 l w2 T2.out).mono ?_; intro e w3 hch; unfold RChk at hch; rw [HC.out] at hch; obtain ⟨hb3, A3, n3, c3, rfl, hP⟩ := hch; have B3 := Lib.hid (bel_trans B2.out hb3); clear hb3 hP)))
  go_ret
  exact ⟨rfl, by first | exact B3.out | exact bel_alloc B3.out _⟩
theorem sideE_bd {at_ : Nat} {p q : Int} {on : Bool} {k x : Nat} (h : sideE at_ p q on = some (k, x)) (ha : at_ ≤ 2) : k ≤ 3 ∧ (x = 1 ∨ x = 10 ∨ x = 11) := by
  unfold sideE prE at h
  split at h
  · rename_i y hy
    injection h with h
    injection h with h1 h2
    subst h1; subst h2
    repeat' split at hy
    all_goals first
      | (injection hy with hy; omega)
      | cases hy
  · split at h
    · injection h with h
      injection h with h1 h2
      omega
    · cases h
theorem quoE_bd {q : Quo} {ob oa : Bool} {k x : Nat} (h : quoE q ob oa = some (k, x)) : k ≤ 3 ∧ (x = 1 ∨ x = 10 ∨ x = 11) := by
  unfold quoE at h
  split at h
  · rename_i r hr
    injection h with h
    subst h
    exact sideE_bd hr (by omega)
  · split at h
    · rename_i r hr
      injection h with h
      subst h
      exact sideE_bd hr (by omega)
    · split at h
      · injection h with h
        injection h with h1 h2
        omega
      · cases h
set_option maxHeartbeats 1000000 in
theorem fAtHere_any (s : ByteArray) (k x : Int) (w : World) : Calls Tryz.prog 8 #[.string s, .int .i64 k, .int .i64 x] w fun e w' =>
    ∃ g, e = .returned (.agg #[.slice (some ⟨g, 0, none⟩) 1 1, .int .i64 x]) ∧ w.heap.size ≤ g ∧ Hid (PartsAt w' w'.heap.size (some ⟨g, 0, none⟩) 1 [(s, k)]) ∧ Hid (Below w.heap.size w w') := by
  go_enter Tryz.func8, Tryz.ntmps8
  go_wp2_with fail
  refine bodyPost_ret (v := .agg #[.slice (some ⟨w.heap.size + 1, 0, none⟩) 1 1, .int .i64 x]) (by simp [results, Tryz.results8, go_sem]) rfl ⟨w.heap.size + 1, rfl, by omega, ⟨rfl, fun i y hi => ?_⟩, ?_⟩
  · match i, hi with
    | 0, hi =>
      injection hi with hi
      subst hi
      exact ⟨_, 0, rfl, by simp, by simp, by simp⟩
  · exact bel_alloc (bel_new w _) _
theorem PartsAt.put {w : World} {B g n : Nat} {l : List (ByteArray × Int)} (h : PartsAt w B (some ⟨g, 0, none⟩) n l) {p : Addr} (hp : g ≠ p.block) (u : Value) : PartsAt (w.setCell p u) B (some ⟨g, 0, none⟩) n l :=
  ⟨h.len, fun i x hx => by
    obtain ⟨b, off, e, hlt, h1, h2⟩ := h.at_ i x hx
    injection e with e
    injection e with e1 e2
    subst e1; subst e2
    have hc : Chg (fun j => j = p.block) w (w.setCell p u) := Chg.setCell (S := fun j => j = p.block) (Chg.refl _ _) (fun _ => rfl) u
    exact ⟨_, _, rfl, hlt, hc.cell h1 hp, hc.cell h2 hp⟩⟩
set_option maxRecDepth 100000 in
set_option maxHeartbeats 8000000 in
theorem checks_good (q : Quo) (A : Option Addr) (n c : Nat) (l : List Stp) (w : World) (hg : ErrType w) (h : TabAt w w.heap.size A n l) (hn : n ≤ 8) (hc : chk l = none) :
    Calls Tryz.prog 3 #[quoV q, .slice A n c] w fun e w' => e = .returned (.bool true) ∧ Below w.heap.size w w' := by
  obtain ⟨b, bq, a, aq⟩ := q
  have HK := Lib.hid (fun w' => qknown_ok w')
  have t8 : decide ((8 : Int) < (n : Int)) = false := by simp; omega
  have HC := Lib.hid hc
  have H := Lib.hid h
  clear h
  obtain ⟨W1, hW1⟩ : ∃ W1, w.alloc (.cells #[.int .i64 b, .int .i64 bq, .int .i64 a, .int .i64 aq] 23) = W1 := ⟨_, rfl⟩
  have B1 : Below w.heap.size w W1 := by rw [← hW1]; exact bel_new _ _
  have hx : Box W1 w.heap.size 23 #[.int .i64 b, .int .i64 bq, .int .i64 a, .int .i64 aq] := by rw [← hW1]; exact Box.fresh _ _ _ rfl
  have HB := Lib.hid B1
  have KX := Lib.hid (QBox.of (q := ⟨b, bq, a, aq⟩) hx)
  clear B1 hx
  have WF := qwrong_field
  go_enter Tryz.func3, Tryz.ntmps3
  go_wp2_with ((first
    | (go_at_call 4; refine (HK.out _).mono ?_; rintro e w1 ⟨rfl, K1⟩; replace K1 := Lib.hid K1; have B1 := Lib.hid (bel_trans HB.out K1.out))
    | (go_at_call 6; refine (of_any A n c l w1 ((H.out.carry B1.out).wider B1.out.size) (by omega)).mono ?_; rintro e w2 ⟨A1, c1, rfl, T2, B2⟩; have K2 := Lib.hid (bel_trans K1.out B2); replace B2 := Lib.hid (bel_trans B1.out B2); replace T2 := Lib.hid T2)
    | (go_at_call 5; refine (rchk_any A1 n c1 l w2 T2.out).mono ?_; intro e w3 hch; unfold RChk at hch; rw [HC.out] at hch; obtain ⟨hb3, rfl⟩ := hch; have K3 := Lib.hid (bel_trans K2.out hb3); have B3 := Lib.hid (bel_trans B2.out hb3); clear hb3)))
  have hb := Lib.hid (K3.out.drew)
  have hS := KX.out w3.drew hb.out
  have HG := Lib.hid hg
  clear hW1 HK K1 K2 K3 B1 B2 B3 T2 hc hg
  dsimp only at hS
  have HOf := Lib.hid (fun w' (hb : Below W1.heap.size W1 w') => (of_any A n c l w' ((H.out.carry (bel_trans HB.out hb)).wider (bel_trans HB.out hb).size) (by omega)).mono (R' := fun e w2 => ∃ A1 c1, e = .returned (.slice A1 n c1) ∧ Hid (TabAt w2 w2.heap.size A1 n l) ∧ Hid (Below W1.heap.size W1 w2)) (fun e w2 ⟨A1, c1, he, hT, h2⟩ => ⟨A1, c1, he, hT, bel_trans hb h2⟩))
  have HRQ := Lib.hid (fun A1 c1 w' (hT : TabAt w' w'.heap.size A1 n l) (hb : Below W1.heap.size W1 w') => (rquote_any ⟨b, bq, a, aq⟩ A1 n c1 l w' hT HC.out).mono (R' := fun e w2 => e = .returned (refV (quoE ⟨b, bq, a, aq⟩ (onT l b) (onT l a))) ∧ Hid (Below W1.heap.size W1 w2)) (fun e w2 he => ⟨he.1, bel_trans hb he.2⟩))
  have HCk := Lib.hid (fun w' (hb : Below W1.heap.size W1 w') => qcheck_any ⟨b, bq, a, aq⟩ A n c l w' ((H.out.carry (bel_trans HB.out hb)).wider (bel_trans HB.out hb).size) HC.out)
  dsimp only at HRQ HCk
  generalize hE : quoE ⟨b, bq, a, aq⟩ (onT l b) (onT l a) = E at HRQ HCk
  cases E with
  | none =>
    replace HRQ := Lib.hid (fun A1 c1 w' hT hb => show Calls Tryz.prog 7 #[.agg #[.int .i64 b, .int .i64 bq, .int .i64 a, .int .i64 aq], .slice A1 n c1] w' (fun e w2 => e = .returned (.tuple #[.int .i64 0, .int .i64 0]) ∧ Hid (Below W1.heap.size W1 w2)) from HRQ.out A1 c1 w' hT hb)
    replace HCk := Lib.hid (fun w' (hb : Below W1.heap.size W1 w') => (HCk.out w' hb).mono (R' := fun e w2 => e = .returned .nilIface ∧ Below w'.heap.size w' w2) (fun e w2 he => he))
    clear hE
    go_region_held3 (fun w' => w'.cell? ⟨w.heap.size, 0, none⟩ = some (.int .i64 b) ∧ w'.cell? ⟨w.heap.size, 1, none⟩ = some (.int .i64 bq) ∧ w'.cell? ⟨w.heap.size, 2, none⟩ = some (.int .i64 a) ∧ w'.cell? ⟨w.heap.size, 3, none⟩ = some (.int .i64 aq))
      (first | exact hS | exact KX.out _ hb4.out | exact KX.out _ hb5.out)
      (first
        | (go_at_call 6; refine (HOf.out _ hb.out).mono ?_; rintro e w4 ⟨A4, c4, rfl, hT4, hb4⟩)
        | (go_at_call 7; refine (HRQ.out A4 c4 _ hT4.out hb4.out).mono ?_; rintro e w5 ⟨rfl, hb5⟩))
    all_goals
      go_wp2_with fail
      obtain ⟨W6, hW6⟩ : ∃ W6, w5.alloc (.cells #[.slice none 0 0, .int .i64 0] 29) = W6 := ⟨_, rfl⟩
      have B6 : Hid (Below W1.heap.size W1 W6) := by rw [← hW6]; exact bel_alloc hb5.out _
      have X7 : Hid (Box W6 w5.heap.size 29 #[.slice none 0 0, .int .i64 0]) := by rw [← hW6]; exact Box.fresh _ _ _ rfl
      rw [hW6]
      obtain ⟨r7, hr7⟩ : ∃ r, w5.heap.size = r := ⟨_, rfl⟩
      rw [hr7] at X7 ⊢
      have HS := Lib.hid (fun w' (hb : Below W6.heap.size W6 w') => (⟨(KX.out _ (bel_trans B6.out hb)).1, (KX.out _ (bel_trans B6.out hb)).2.1, (KX.out _ (bel_trans B6.out hb)).2.2.1, (KX.out _ (bel_trans B6.out hb)).2.2.2, ((X7.out.kept_below hb X7.out.there).reads 0).trans rfl, ((X7.out.kept_below hb X7.out.there).reads 1).trans rfl⟩ :
        w'.cell? ⟨w.heap.size, 0, none⟩ = some (.int .i64 b) ∧ w'.cell? ⟨w.heap.size, 1, none⟩ = some (.int .i64 bq) ∧ w'.cell? ⟨w.heap.size, 2, none⟩ = some (.int .i64 a) ∧ w'.cell? ⟨w.heap.size, 3, none⟩ = some (.int .i64 aq) ∧ w'.cell? ⟨r7, 0, none⟩ = some (.slice none 0 0) ∧ w'.cell? ⟨r7, 1, none⟩ = some (.int .i64 0)))
      have HC6 := Lib.hid ((HCk.out W6.drew (bel_trans B6.out (Below.refl _ _).drew)).mono (R' := fun e w2 => e = .returned .nilIface ∧ Hid (Below W6.heap.size W6 w2)) (fun e w2 he => ⟨he.1, bel_trans (Below.refl W6.heap.size W6).drew he.2⟩))
      have hS6 := HS.out W6.drew (Below.refl _ _).drew
      have HTl := Lib.hid (fun w' (hb : Below W6.heap.size W6 w') => (tells_nil none 0 0 w').mono (R' := fun r w2 => r = .returned (.bool true) ∧ Hid (Below W6.heap.size W6 w2)) (fun r w2 ⟨hr, h2⟩ => ⟨hr, bel_trans hb h2⟩))
      have HFIN := Lib.hid (bel_trans HB.out B6.out)
      clear hW6 hr7 hS X7 hb5 hb4 hT4 HRQ HOf HCk
      go_region_held3 (fun w' => w'.cell? ⟨w.heap.size, 0, none⟩ = some (.int .i64 b) ∧ w'.cell? ⟨w.heap.size, 1, none⟩ = some (.int .i64 bq) ∧ w'.cell? ⟨w.heap.size, 2, none⟩ = some (.int .i64 a) ∧ w'.cell? ⟨w.heap.size, 3, none⟩ = some (.int .i64 aq) ∧ w'.cell? ⟨r7, 0, none⟩ = some (.slice none 0 0) ∧ w'.cell? ⟨r7, 1, none⟩ = some (.int .i64 0))
        (first | exact hS6 | exact HS.out _ hb7.out | exact HS.out _ hb8.out)
        (first
          | (go_at_call 10; refine HC6.out.mono ?_; rintro e w7 ⟨rfl, hb7⟩)
          | (go_at_call 9; refine (HTl.out _ hb7.out).mono ?_; rintro e w8 ⟨rfl, hb8⟩))
      all_goals
        go_wp2_with fail
        go_ret
        exact ⟨rfl, bel_trans HFIN.out hb8.out⟩
  | some r =>
    obtain ⟨k, x⟩ := r
    have hbd := quoE_bd hE
    have hx0 : (((x : Nat) : Int) != 0) = true := by rcases hbd.2 with rfl | rfl | rfl <;> rfl
    have HBD := Lib.hid hbd
    replace HRQ := Lib.hid (fun A1 c1 w' hT hb => show Calls Tryz.prog 7 #[.agg #[.int .i64 b, .int .i64 bq, .int .i64 a, .int .i64 aq], .slice A1 n c1] w' (fun e w2 => e = .returned (.tuple #[.int .i64 (x : Int), .int .i64 (k : Int)]) ∧ Hid (Below W1.heap.size W1 w2)) from HRQ.out A1 c1 w' hT hb)
    replace HCk := Lib.hid (fun w' (hb : Below W1.heap.size W1 w') => (HCk.out w' hb).mono (R' := fun e w2 => ∃ p, e = .returned (.iface 63 (.pointer (some ⟨p, 0, none⟩))) ∧ Below w'.heap.size w' w2 ∧ IsErr w2 w2.heap.size [(quoB, (k : Int))] (x : Int) (.iface 63 (.pointer (some ⟨p, 0, none⟩)))) (fun e w2 he => by
      obtain ⟨h1, p, h2, h3⟩ := he
      exact ⟨p, h2, h1, h3⟩))
    clear hE hbd
    go_region_held3 (fun w' => w'.cell? ⟨w.heap.size, 0, none⟩ = some (.int .i64 b) ∧ w'.cell? ⟨w.heap.size, 1, none⟩ = some (.int .i64 bq) ∧ w'.cell? ⟨w.heap.size, 2, none⟩ = some (.int .i64 a) ∧ w'.cell? ⟨w.heap.size, 3, none⟩ = some (.int .i64 aq))
      (first | exact hS | exact KX.out _ hb4.out | exact KX.out _ hb5.out)
      (first
        | (go_at_call 6; refine (HOf.out _ hb.out).mono ?_; rintro e w4 ⟨A4, c4, rfl, hT4, hb4⟩)
        | (go_at_call 7; refine (HRQ.out A4 c4 _ hT4.out hb4.out).mono ?_; rintro e w5 ⟨rfl, hb5⟩))
    all_goals
      go_wp2_with (go_at_call 8; refine Hid.out ?_)
      obtain ⟨W6, hW6⟩ : ∃ W6, w5.alloc (.cells #[.slice none 0 0, .int .i64 0] 29) = W6 := ⟨_, rfl⟩
      have B6 : Hid (Below W1.heap.size W1 W6) := by rw [← hW6]; exact bel_alloc hb5.out _
      have X7 : Hid (Box W6 w5.heap.size 29 #[.slice none 0 0, .int .i64 0]) := by rw [← hW6]; exact Box.fresh _ _ _ rfl
      rw [hW6]
      obtain ⟨r7, hr7⟩ : ∃ r, w5.heap.size = r := ⟨_, rfl⟩
      rw [hr7] at X7 ⊢
      have HR7 : Hid (W1.heap.size ≤ r7) := by rw [← hr7]; exact hb5.out.size
      clear hW6 hr7
      refine Lib.hid ?_
      refine (fAtHere_any _ (k : Int) (x : Int) W6).mono ?_
      rintro e w7 ⟨gp, rfl, hgp, hP7, hb7⟩
      have X8 := Lib.hid (X7.out.kept_below hb7.out X7.out.there)
      have v0 : w7.cell? ⟨r7, 0, none⟩ = some (.slice none 0 0) := (X8.out.reads 0).trans rfl
      have v1 : w7.cell? ⟨r7, 1, none⟩ = some (.int .i64 0) := (X8.out.reads 1).trans rfl
      have u0 := X8.out.unmarked 0
      have u1 := X8.out.unmarked 1
      go_wp2_with fail
      have hlt7 : r7 < W6.heap.size := X7.out.there
      have hne : gp ≠ r7 := by omega
      have P8 : Hid (PartsAt ((w7.setCell ⟨r7, 0, none⟩ (.slice (some ⟨gp, 0, none⟩) 1 1)).setCell ⟨r7, 1, none⟩ (.int .i64 (x : Int))) ((w7.setCell ⟨r7, 0, none⟩ (.slice (some ⟨gp, 0, none⟩) 1 1)).setCell ⟨r7, 1, none⟩ (.int .i64 (x : Int))).heap.size (some ⟨gp, 0, none⟩) 1 [(quoB, (k : Int))]) :=
        have hp := (hP7.out.put (p := ⟨r7, 0, none⟩) hne (.slice (some ⟨gp, 0, none⟩) 1 1)).put (p := ⟨r7, 1, none⟩) hne (.int .i64 (x : Int))
        hp.wide (by simp [World.setCell])
      have Z7 : Hid (Box ((w7.setCell ⟨r7, 0, none⟩ (.slice (some ⟨gp, 0, none⟩) 1 1)).setCell ⟨r7, 1, none⟩ (.int .i64 (x : Int))) r7 29 #[.slice (some ⟨gp, 0, none⟩) 1 1, .int .i64 (x : Int)]) := (X8.out.wrote 0 _).wrote 1 _
      have B8 : Hid (Below W1.heap.size W1 ((w7.setCell ⟨r7, 0, none⟩ (.slice (some ⟨gp, 0, none⟩) 1 1)).setCell ⟨r7, 1, none⟩ (.int .i64 (x : Int)))) :=
        Chg.toBelow (bel_trans B6.out hb7.out) (Chg.setCell (S := fun j => j = r7) (Chg.setCell (S := fun j => j = r7) (Chg.refl _ _) (p := ⟨r7, 0, none⟩) (fun _ => rfl) _) (p := ⟨r7, 1, none⟩) (fun _ => rfl) _) (bel_trans B6.out hb7.out).size (fun i hi e => by have := HR7.out; omega)
      obtain ⟨W8, hW8⟩ : ∃ W8, (w7.setCell ⟨r7, 0, none⟩ (.slice (some ⟨gp, 0, none⟩) 1 1)).setCell ⟨r7, 1, none⟩ (.int .i64 (x : Int)) = W8 := ⟨_, rfl⟩
      rw [hW8] at P8 Z7 B8 ⊢
      have HS := Lib.hid (fun w' (hb : Below W8.heap.size W8 w') => (⟨(KX.out _ (bel_trans B8.out hb)).1, (KX.out _ (bel_trans B8.out hb)).2.1, (KX.out _ (bel_trans B8.out hb)).2.2.1, (KX.out _ (bel_trans B8.out hb)).2.2.2, ((Z7.out.kept_below hb Z7.out.there).reads 0).trans rfl, ((Z7.out.kept_below hb Z7.out.there).reads 1).trans rfl⟩ :
        w'.cell? ⟨w.heap.size, 0, none⟩ = some (.int .i64 b) ∧ w'.cell? ⟨w.heap.size, 1, none⟩ = some (.int .i64 bq) ∧ w'.cell? ⟨w.heap.size, 2, none⟩ = some (.int .i64 a) ∧ w'.cell? ⟨w.heap.size, 3, none⟩ = some (.int .i64 aq) ∧ w'.cell? ⟨r7, 0, none⟩ = some (.slice (some ⟨gp, 0, none⟩) 1 1) ∧ w'.cell? ⟨r7, 1, none⟩ = some (.int .i64 (x : Int))))
      have HC8 := Lib.hid ((HCk.out W8.drew (bel_trans B8.out (Below.refl _ _).drew)).mono (R' := fun e w2 => ∃ p, e = .returned (.iface 63 (.pointer (some ⟨p, 0, none⟩))) ∧ Hid (Below W8.heap.size W8 w2) ∧ Hid (IsErr w2 w2.heap.size [(quoB, (k : Int))] (x : Int) (.iface 63 (.pointer (some ⟨p, 0, none⟩))))) (fun e w2 ⟨p, he, h2, h3⟩ => ⟨p, he, bel_trans (Below.refl W8.heap.size W8).drew h2, h3⟩))
      have hS8 := HS.out W8.drew (Below.refl _ _).drew
      have HFIN := Lib.hid (bel_trans HB.out B8.out)
      have HTl := Lib.hid (fun p w' (hE : IsErr w' w'.heap.size [(quoB, (k : Int))] (x : Int) (.iface 63 (.pointer (some ⟨p, 0, none⟩)))) (hb : Below W8.heap.size W8 w') => (tells_one quoB k x (some ⟨gp, 0, none⟩) 1 1 p w' (HG.out.on (bel_trans HFIN.out hb)) hE ((P8.out.carry hb).wide hb.size) (by decide) (by have := HBD.out; omega) (by have := HBD.out; omega) (by have := HBD.out; omega)).mono (R' := fun r w2 => r = .returned (.bool true) ∧ Hid (Below W8.heap.size W8 w2)) (fun r w2 ⟨hr, h2⟩ => ⟨hr, bel_trans hb h2⟩))
      clear hW8 hlt7 hne hS X7 X8 v0 v1 u0 u1 hb5 hb4 hT4 HRQ HOf HCk hP7 hb7 hgp P8 Z7
      go_region_held3 (fun w' => w'.cell? ⟨w.heap.size, 0, none⟩ = some (.int .i64 b) ∧ w'.cell? ⟨w.heap.size, 1, none⟩ = some (.int .i64 bq) ∧ w'.cell? ⟨w.heap.size, 2, none⟩ = some (.int .i64 a) ∧ w'.cell? ⟨w.heap.size, 3, none⟩ = some (.int .i64 aq) ∧ w'.cell? ⟨r7, 0, none⟩ = some (.slice (some ⟨gp, 0, none⟩) 1 1) ∧ w'.cell? ⟨r7, 1, none⟩ = some (.int .i64 (x : Int)))
        (first | exact hS8 | exact HS.out _ hb9.out | exact HS.out _ hb10.out)
        (first
          | (go_at_call 10; refine HC8.out.mono ?_; rintro e w9 ⟨p, rfl, hb9, hE9⟩)
          | (go_at_call 9; refine (HTl.out _ _ hE9.out hb9.out).mono ?_; rintro e w10 ⟨rfl, hb10⟩))
      all_goals
        go_wp2_with fail
        go_ret
        exact ⟨rfl, bel_trans HFIN.out hb10.out⟩
theorem checks_any (q : Quo) (A : Option Addr) (n c : Nat) (l : List Stp) (w : World) (hg : ErrType w) (h : TabAt w w.heap.size A n l) :
    Calls Tryz.prog 3 #[quoV q, .slice A n c] w fun e w' => e = .returned (.bool true) ∧ Below w.heap.size w w' := by
  by_cases hn : 8 < n
  · exact checks_long q A n c w hn
  · cases hc : chk l with
    | none => exact checks_good q A n c l w hg h (by omega) hc
    | some r =>
      obtain ⟨k, x⟩ := r
      have hx := chk_bound hc
      obtain ⟨y, rfl⟩ : ∃ y : Nat, x = (y : Int) := ⟨x.toNat, by omega⟩
      exact checks_bad q A n c l w h (by omega) k y hc
end Go.Proofs.YtkcgklaoefbglaaGreatDoor

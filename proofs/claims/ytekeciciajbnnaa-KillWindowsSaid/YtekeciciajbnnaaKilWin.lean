/- straddlelaw16.KillWindows returns true. -/
import Derived.Test.YtekeciciajbnnaaKilKnown
set_option linter.unusedSimpArgs false
namespace Go.Proofs.Ytekeciciajbnnaa
open Go.RowKit Go.Mem1 Go.MapRow Go.KilMath

/-- The first loop's state: maker 1 has one fill, a window ago, or none; maker 2 none. -/
def WinJ (w0 : World) (B g : Nat) (f win t : Int) (w : World) : Prop :=
  ∃ T last off, Sv w B g f win T last off ∧ (T 1 = [] ∧ last 1 = none ∨ T 1 = [t - win] ∧ last 1 = some (t - win)) ∧ off 1 = false ∧ T 2 = [] ∧ last 2 = none ∧ off 2 = false ∧ Below B w0 w
/-- Behind a fill of maker 1. -/
def WinH (w0 : World) (B g : Nat) (f win t : Int) (w : World) : Prop :=
  ∃ T last off, Sv w B g f win T last off ∧ T 1 = [t] ∧ last 1 = some t ∧ off 1 = false ∧ T 2 = [] ∧ last 2 = none ∧ off 2 = false ∧ Below B w0 w
/-- The second loop's state: maker 2 has i fills, or is off. -/
def WinK (w0 : World) (B g : Nat) (f win t : Int) (i : Nat) (w : World) : Prop :=
  ∃ T last off, Sv w B g f win T last off ∧ off 1 = false ∧ ((i : Int) < f ∧ T 2 = List.replicate i t ∧ (last 2 = none ∨ last 2 = some t) ∧ off 2 = false ∨ (i : Int) = f ∧ off 2 = true) ∧ Below B w0 w
section
variable {w0 w : World} {B g : Nat} {f win t : Int}
theorem fill_past : fillT [t - win] t win = [t] := by
  have : out t win (t - win) = true := by simp [out]; omega
  simp [fillT, pastN, this]
theorem out_now (hw : 1 ≤ win) : out t win t = false := by simp [out]; omega
theorem fill_same (hw : 1 ≤ win) (i : Nat) : fillT (List.replicate i t) t win = List.replicate (i + 1) t := by
  unfold fillT pastN
  rw [List.countP_replicate, out_now hw]
  simp [List.replicate_succ']
theorem WinJ.fill (h : WinJ w0 B g f win t w) (hf : 2 ≤ f) (hw : 1 ≤ win) (h0 : 0 ≤ t) (h1 : t ≤ 1099511627776) :
    Calls Try.prog 7 #[.pointer (some ⟨g, 0, none⟩), .int .i64 1, .int .i64 t] w fun e w' => e = .returned (.bool false) ∧ WinH w0 B g f win t w' := by
  obtain ⟨T, la, of, a1, a2, a3, a4, a5, a6, a7⟩ := h
  have hl : (T 1).length < 1000 := by rcases a2 with ⟨e, _⟩ | ⟨e, _⟩ <;> rw [e] <;> simp
  have hts : fillT (T 1) t win = [t] := by
    rcases a2 with ⟨e, _⟩ | ⟨e, _⟩ <;> rw [e]
    · rfl
    · exact fill_past
  have hla : lastOr (la 1) t = t := by
    rcases a2 with ⟨_, e⟩ | ⟨_, e⟩ <;> rw [e]
    · rfl
    · show max t (t - win) = t; omega
  refine (ks_fill a1 ok1 a3 h0 h1 hl hla hts (by simp; omega)).mono fun e w' ⟨b1, b2, b3⟩ => ⟨b1, _, _, _, b2, upd_same _ _ _, upd_same _ _ _, a3, ?_, ?_, a6, a7.trans b3.below⟩
  · rw [upd_other _ _ (by decide)]; exact a4
  · rw [upd_other _ _ (by decide)]; exact a5
theorem WinH.off (h : WinH w0 B g f win t w) : Calls Try.prog 8 #[.pointer (some ⟨g, 0, none⟩), .int .i64 1] w fun e w' => e = .returned (.bool false) ∧ WinH w0 B g f win t w' := by
  obtain ⟨T, la, of, a1, a2, a3, a4, a5⟩ := h
  have := ks_off a1 ok1
  rw [a4] at this
  exact this.mono fun e w' ⟨b1, b2, b3⟩ => ⟨b1, T, la, of, b2, a2, a3, a4, a5.1, a5.2.1, a5.2.2.1, a5.2.2.2.trans b3.below⟩
theorem WinH.count (h : WinH w0 B g f win t w) (hw : 1 ≤ win) (h0 : 0 ≤ t) (h1 : t ≤ 1099511627776) : Calls Try.prog 9 #[.pointer (some ⟨g, 0, none⟩), .int .i64 1, .int .i64 t] w fun e w' => e = .returned (.int .i64 1) ∧ WinH w0 B g f win t w' := by
  obtain ⟨T, la, of, a1, a2, a3, a4, a5⟩ := h
  have := ks_count a1 ok1 h0 h1
  have e1 : lastOr (some t) t = t := by show max t t = t; omega
  rw [a2, a3, e1, show pastN [t] t win = 0 by simp [pastN, out_now hw]] at this
  exact this.mono fun e w' ⟨b1, b2, b3⟩ => ⟨b1, T, la, of, b2, a2, a3, a4, a5.1, a5.2.1, a5.2.2.1, a5.2.2.2.trans b3.below⟩
theorem WinH.next (h : WinH w0 B g f win t w) : WinJ w0 B g f win (t + win) w := by
  obtain ⟨T, la, of, a1, a2, a3, a4, a5⟩ := h
  have e : t + win - win = t := by omega
  exact ⟨T, la, of, a1, .inr ⟨by rw [e]; exact a2, by rw [e]; exact a3⟩, a4, a5⟩
theorem WinJ.second (h : WinJ w0 B g f win t w) (hf : 2 ≤ f) : WinK w0 B g f win t 0 w := by
  obtain ⟨T, la, of, a1, a2, a3, a4, a5, a6, a7⟩ := h
  exact ⟨T, la, of, a1, a3, .inl ⟨by omega, a4, .inl a5, a6⟩, a7⟩
theorem WinK.fill {i : Nat} (h : WinK w0 B g f win t i w) (hf : f ≤ 21) (hw : 1 ≤ win) (h0 : 0 ≤ t) (h1 : t ≤ 1099511627776) (hi : (i : Int) < f) :
    Calls Try.prog 7 #[.pointer (some ⟨g, 0, none⟩), .int .i64 2, .int .i64 t] w fun e w' => e = .returned (.bool (decide (((i + 1 : Nat) : Int) = f))) ∧ WinK w0 B g f win t (i + 1) w' := by
  obtain ⟨T, la, of, a1, a2, a3, a4⟩ := h
  rcases a3 with ⟨_, c1, c2, c3⟩ | ⟨c, _⟩
  · have hl : (T 2).length < 1000 := by rw [c1]; simp; omega
    have hts : fillT (T 2) t win = List.replicate (i + 1) t := by rw [c1]; exact fill_same hw i
    have hla : lastOr (la 2) t = t := by
      rcases c2 with e | e <;> rw [e]
      · rfl
      · show max t t = t; omega
    by_cases he : ((i + 1 : Nat) : Int) = f
    · rw [decide_eq_true he]
      refine (ks_fill_off a1 ok2 c3 h0 h1 hl hla hts (by simp; omega)).mono fun e w' ⟨b1, b2, b3⟩ => ⟨b1, _, _, _, b2, ?_, .inr ⟨he, upd_same _ _ _⟩, a4.trans b3.below⟩
      rw [upd_other _ _ (by decide)]; exact a2
    · rw [decide_eq_false he]
      exact (ks_fill a1 ok2 c3 h0 h1 hl hla hts (by simp; omega)).mono fun e w' ⟨b1, b2, b3⟩ => ⟨b1, _, _, _, b2, a2, .inl ⟨by omega, upd_same _ _ _, .inr (upd_same _ _ _), c3⟩, a4.trans b3.below⟩
  · omega
theorem WinK.off1 {i : Nat} (h : WinK w0 B g f win t i w) : Calls Try.prog 8 #[.pointer (some ⟨g, 0, none⟩), .int .i64 1] w fun e w' => e = .returned (.bool false) ∧ WinK w0 B g f win t i w' := by
  obtain ⟨T, la, of, a1, a2, a3, a4⟩ := h
  have := ks_off a1 ok1
  rw [a2] at this
  exact this.mono fun e w' ⟨b1, b2, b3⟩ => ⟨b1, T, la, of, b2, a2, a3, a4.trans b3.below⟩
theorem WinK.off2 {i : Nat} (h : WinK w0 B g f win t i w) (hi : (i : Int) = f) : Calls Try.prog 8 #[.pointer (some ⟨g, 0, none⟩), .int .i64 2] w fun e w' => e = .returned (.bool true) ∧ WinK w0 B g f win t i w' := by
  obtain ⟨T, la, of, a1, a2, a3, a4⟩ := h
  have ho : of 2 = true := by
    rcases a3 with ⟨c, _⟩ | ⟨_, c⟩
    · omega
    · exact c
  have := ks_off a1 ok2
  rw [ho] at this
  exact this.mono fun e w' ⟨b1, b2, b3⟩ => ⟨b1, T, la, of, b2, a2, a3, a4.trans b3.below⟩
theorem WinK.below {i : Nat} (h : WinK w0 B g f win t i w) : Below B w0 w := by
  obtain ⟨T, la, of, a1, a2, a3, a4⟩ := h
  exact a4
end
set_option maxRecDepth 100000 in
set_option maxHeartbeats 2000000 in
theorem win_main (a b c : Int) (ha : 0 ≤ a) (ha2 : a < 256) (hb : 0 ≤ b) (hb2 : b < 256) (hc : 0 ≤ c) (hc2 : c < 256) (w : World) :
    Calls Try.prog 3 #[.int .u8 a, .int .u8 b, .int .u8 c] w fun e w' => e = .returned (.bool true) ∧ Below w.heap.size w w' := by
  obtain ⟨f, hf⟩ : ∃ f, 2 + a % 20 = f := ⟨_, rfl⟩
  obtain ⟨win, hw⟩ : ∃ win, 1 + b % 50 = win := ⟨_, rfl⟩
  have f1 : 2 ≤ f := by omega
  have f2 : f ≤ 21 := by omega
  have w1' : 1 ≤ win := by omega
  have w2' : win ≤ 50 := by omega
  obtain ⟨N, hN⟩ : ∃ N : Nat, c % 40 = (N : Int) := ⟨(c % 40).toNat, by omega⟩
  have n1 : N < 40 := by omega
  have HN := Lib.hid (fun w1 => knew_ok (f := f) (win := win) (by omega) (by omega) (by omega) (by omega) w1)
  go_enter Try.func3, Try.ntmps3
  go_wp2_with ((first
    | (go_at_call 5; refine (kknown_ok _).mono ?_; rintro e w0 ⟨rfl, hb0⟩; replace hb0 := Lib.hid hb0)
    | (go_at_call 6; refine Hid.out ?_)))
  refine Lib.hid ?_
  refine (HN.out w0).mono ?_
  rintro _ w1 ⟨rfl, hS, hB⟩
  have HJ0 : Hid (WinJ w0 w0.heap.size w0.heap.size f win 100 w1) := Lib.hid ⟨_, _, _, hS, .inl ⟨rfl, rfl⟩, rfl, rfl, rfl, rfl, hB⟩
  clear hS hB HN
  obtain ⟨g, hg⟩ : ∃ g, w0.heap.size = g := ⟨_, rfl⟩
  have HW0 : Hid (∀ w', Below g w0 w' → Below w.heap.size w w') := Lib.hid fun w' h => hb0.out.trans (h.mono (by rw [← hg]; exact hb0.out.size))
  rw [hg] at HJ0 ⊢
  clear hg hb0
  go_wp2_with fail
  go_loopw [11, 12] (fun v11 v12 wr => ∃ (t : Int) (k : Nat), k ≤ N ∧ 100 ≤ t ∧ t ≤ 100 + 50 * k ∧ v11 = .int .i64 t ∧ v12 = .int .i64 k ∧ Hid (WinJ w0 g g f win t wr)) (fun _ v12 _ => N - (intOf v12).toNat)
  case atStart => exact ⟨100, 0, by omega, by omega, by omega, rfl, rfl, HJ0⟩
  case round =>
    obtain ⟨t, k, hk, t1, t2, rfl, rfl, hJ⟩ := hrel
    clear HJ0
    by_cases hlt : k < N
    · have HF := Lib.hid (hJ.out.fill f1 w1' (by omega) (by omega))
      have t3 : 0 ≤ t := by omega
      have t4 : t ≤ 1099511627776 := by omega
      clear hJ
      go_wp2_with (first
        | (go_at_call 7; refine HF.out.mono ?_; rintro e w2 ⟨rfl, K⟩; replace K := Lib.hid K)
        | (go_at_call 8; refine K.out.off.mono ?_; clear K; rintro e w2 ⟨rfl, K⟩; replace K := Lib.hid K)
        | (go_at_call 9; refine (K.out.count w1' t3 t4).mono ?_; clear K; rintro e w2 ⟨rfl, K⟩; replace K := Lib.hid K))
      go_roundw
      case rel => exact ⟨t + win, k + 1, by omega, by omega, by omega, rfl, by go_num, Lib.hid K.out.next⟩
      case measure => simp [intOf]; omega
    · obtain rfl : k = N := by omega
      have HJ1 : Hid (WinK w0 g g f win t 0 wr) := Lib.hid (hJ.out.second f1)
      clear hJ
      obtain ⟨wA, rfl⟩ : ∃ wA, wA = wr := ⟨_, rfl⟩
      go_wp2_with fail
      clear hN
      go_loopw [13] (fun v13 wr => ∃ i : Nat, (i : Int) ≤ f ∧ v13 = .int .i64 ((i : Int) + 1) ∧ Hid (WinK w0 g g f win t i wr)) (fun v13 _ => 22 - (intOf v13).toNat)
      case atStart => exact ⟨0, by omega, rfl, HJ1⟩
      case round =>
        obtain ⟨i, hi, rfl, hJ⟩ := hrel
        clear HJ1
        by_cases hlt2 : (i : Int) < f
        · have HF := Lib.hid (hJ.out.fill f2 w1' (by omega) (by omega) hlt2)
          obtain ⟨bo, hbo⟩ : ∃ bo, decide (((i + 1 : Nat) : Int) = f) = bo := ⟨_, rfl⟩
          rw [hbo] at HF
          have hbo2 : ((i : Int) + 1 == f) = bo := by rw [← hbo, show ((i + 1 : Nat) : Int) = (i : Int) + 1 by omega]; rfl
          have hle : decide ((i : Int) + 1 ≤ f) = true := by simp; omega
          clear hJ hbo
          go_wp2_with (go_at_call 7; refine HF.out.mono ?_; rintro e w2 ⟨rfl, K⟩; replace K := Lib.hid K)
          go_roundw
          case rel => exact ⟨i + 1, by omega, by go_num, K⟩
          case measure => simp [intOf]; omega
        · have he : (i : Int) = f := by omega
          have HE := Lib.hid he
          have hle : decide ((i : Int) + 1 ≤ f) = false := by simp; omega
          replace hJ := Lib.hid hJ.out
          clear hf hi he hlt2
          go_wp2_with (first
            | (go_at_call 8; (first
                | (with_reducible refine (hJ.out.off2 HE.out).mono ?_; rintro e w2 ⟨rfl, K⟩; replace K := Lib.hid K)
                | (with_reducible refine K.out.off1.mono ?_; clear K; rintro e w2 ⟨rfl, K⟩; replace K := Lib.hid K))))
          go_ret
          exact ⟨rfl, HW0.out _ K.out.below⟩
end Go.Proofs.Ytekeciciajbnnaa

/- straddlelaw15.DeskOnce returns true. -/
import Derived.Test.YtkcgklaoefbglaaQuoKnown
import Derived.Test.YtkcgklaoefbglaaQuoOnceM
import Derived.Test.YtkcgklaoefbglaaBy
set_option linter.unusedSimpArgs false
namespace Go.Proofs.Ytkcgklaoefbglaa
open Go.RowKit Go.Mem1 Go.MapRow Go.QuoMath

def DTrue (w : World) (e : Ending) (w' : World) : Prop := e = .returned (.bool true) ∧ Below w.heap.size w w'
/-- The law's state. -/
def OnJ (W : World) (g : Nat) (id : Int) (k : Nat) (wr : World) : Prop := ∃ m Q S, DeskAt wr W.heap.size g m Q S ∧ Below W.heap.size W wr ∧ One id Q S ∧ (0 < k → One.Held id Q S)
set_option maxRecDepth 100000 in
set_option maxHeartbeats 1000000 in
theorem once_skip (A : Option Addr) (n c : Nat) (id : Int) (w : World) (hn : n = 0 ∨ 40 < n ∨ id < 1) : Calls Try.prog 3 #[.slice A n c, .int .i64 id] w (DTrue w) := by
  by_cases h0 : n = 0
  · subst h0
    clear hn
    go_enter Try.func3, Try.ntmps3
    go_wp2_with (go_at_call 4; refine (qknown_ok _).mono ?_; rintro e w0 ⟨rfl, hb0⟩; replace hb0 := Lib.hid hb0)
    go_ret
    exact ⟨rfl, hb0.out⟩
  · have t0 : ((n : Int) == 0) = false := by simp; omega
    by_cases h1 : 40 < n
    · have t1 : decide ((40 : Int) < (n : Int)) = true := by simp; omega
      clear hn h0 h1
      go_enter Try.func3, Try.ntmps3
      go_wp2_with (go_at_call 4; refine (qknown_ok _).mono ?_; rintro e w0 ⟨rfl, hb0⟩; replace hb0 := Lib.hid hb0)
      go_ret
      exact ⟨rfl, hb0.out⟩
    · have t1 : decide ((40 : Int) < (n : Int)) = false := by simp; omega
      have t2 : decide (id < 1) = true := by simp; omega
      clear hn h0 h1
      go_enter Try.func3, Try.ntmps3
      go_wp2_with (go_at_call 4; refine (qknown_ok _).mono ?_; rintro e w0 ⟨rfl, hb0⟩; replace hb0 := Lib.hid hb0)
      go_ret
      exact ⟨rfl, hb0.out⟩
set_option maxRecDepth 100000 in
set_option maxHeartbeats 4000000 in
theorem once_main (A : Option Addr) (n c : Nat) (l : List Nat) (id : Int) (w : World) (hA : Byt w w.heap.size A n l) (hn : 0 < n) (hn2 : n ≤ 40) (hid : 1 ≤ id) (hok : OkI id) :
    Calls Try.prog 3 #[.slice A n c, .int .i64 id] w (DTrue w) := by
  have HA := Lib.hid hA
  have HOK := Lib.hid hok
  have HID := Lib.hid hid
  have t0 : ((n : Int) == 0) = false := by simp; omega
  have t1 : decide ((40 : Int) < (n : Int)) = false := by simp; omega
  have t2 : decide (id < 1) = false := by simp; omega
  clear hA hok hid
  go_enter Try.func3, Try.ntmps3
  go_wp2_with (go_at_call 4; refine (qknown_ok _).mono ?_; rintro e w0 ⟨rfl, hb0⟩; replace hb0 := Lib.hid hb0)
  clear t0 t1 t2
  go_wp2_with (go_at_call 5; refine Hid.out ?_)
  refine Lib.hid ?_
  refine (qnew_any w0).mono ?_
  rintro _ w1 ⟨rfl, hD, hB⟩
  obtain ⟨g, hg⟩ : ∃ g, w0.heap.size = g := ⟨_, rfl⟩
  have HJ0 : Hid (OnJ w0 g id 0 w1) := by
    rw [← hg]
    exact ⟨none, [], [], hD, hB, .inl ⟨rfl, rfl⟩, fun h => absurd h (Nat.lt_irrefl 0)⟩
  rw [hg]
  clear hg hD hB
  go_wp2_with fail
  go_loopw [6] (fun v6 wr => ∃ k : Nat, k ≤ n ∧ v6 = .int .i64 k ∧ Hid (OnJ w0 g id k wr)) (fun v6 _ => n - (intOf v6).toNat)
  case atStart => exact ⟨0, by omega, rfl, HJ0⟩
  case round =>
    obtain ⟨k, hk, rfl, hJ⟩ := hrel
    clear HJ0
    by_cases hlt : k < n
    · obtain ⟨b, off, X, rfl, hbl, hX, hEk, hcell⟩ := HA.out.at_ hlt
      have hwr : Below w.heap.size w wr := by
        obtain ⟨m, Q, S, _, h2, _⟩ := hJ.out
        exact hb0.out.trans (h2.mono hb0.out.size)
      have d0 := (hwr.cell (p := ⟨b, off + k, none⟩) hbl).trans hcell
      have d1 : ∀ o, (wr.alloc o).cell? ⟨b, off + k, none⟩ = some (.int .u8 (X : Int)) := fun o => ((bel_new wr o).cell (p := ⟨b, off + k, none⟩) (Nat.lt_of_lt_of_le hbl hwr.size)).trans d0
      have k0 : (0 : Int) ≤ (k : Int) := by omega
      have kn : (k : Int) < (n : Int) := by omega
      have hX0 : (0 : Int) ≤ (X : Int) := by omega
      have hX1 : (X : Int) < 256 := by omega
      clear hEk hcell hwr hbl
      go_wp2_with fail
      go_region
      obtain ⟨s1, hs1⟩ : ∃ s, (X : Int) % 8 = s := ⟨_, rfl⟩
      obtain ⟨s2, hs2⟩ : ∃ s, (X : Int) / 8 % 4 = s := ⟨_, rfl⟩
      have HS : Hid (OkP (s1, s2)) := ⟨okI_of (WalkArith.wf_i64 (by dsimp only; omega)), okI_of (WalkArith.wf_i64 (by dsimp only; omega))⟩
      rw [hs1, hs2]
      obtain ⟨m, Q, S, hd, hb, hone, _⟩ := hJ.out
      have K2 : Hid (KAt w0 (wr.alloc (.cells #[.int .i64 s1, .int .i64 s2] 28)).drew g m Q S wr.heap.size (s1, s2)) :=
        ⟨hd.carry (bel_new _ _).drew, hb.trans (((bel_new wr _).drew).mono hb.size), Box.fresh wr _ _ rfl⟩
      have HONE := Lib.hid hone
      obtain ⟨w2, hw2⟩ : ∃ w2, (wr.alloc (.cells #[.int .i64 s1, .int .i64 s2] 28)).drew = w2 := ⟨_, rfl⟩
      obtain ⟨r7, hr7⟩ : ∃ r, wr.heap.size = r := ⟨_, rfl⟩
      rw [hw2, hr7] at K2
      rw [hw2, hr7]
      obtain ⟨x0, x1⟩ := K2.out.cells
      clear hs1 hs2 hJ hd hb hone hw2 hr7 d0 d1
      by_cases hp : (k : Int) % 2 = 0
      · have tp : ((k : Int) % 2 == 0) = true := by simpa using hp
        go_wp2_with (go_at_call 6; refine Hid.out ?_)
        refine Lib.hid ?_
        refine (set_any (s := (s1, s2)) (nb := id) (na := 0) K2.out.desk HS.out HOK.out OkI.zero).mono ?_
        rintro e w3 ⟨rfl, m3, d3, c3, _⟩
        rw [(one_bid HID.out HONE.out (s1, s2)).1, (one_bid HID.out HONE.out (s1, s2)).2] at d3
        have K3 := Lib.hid (K2.out.turn d3 c3)
        generalize (prOf Q (s1, s2)).1 = z1
        generalize (prOf Q (s1, s2)).2 = z2
        clear d3 c3 K2 x0 x1
        go_wp2_with (go_at_call 7; refine Hid.out ?_)
        refine Lib.hid ?_
        refine ((whose_any (id := id) K3.out.desk HOK.out).mono (R' := fun e w2 => e = .returned (.tuple #[.agg #[.int .i64 s1, .int .i64 s2], .bool true]) ∧ Hid (Below w3.heap.size w3 w2)) (fun e w2 he => by rw [fget_one] at he; exact he)).mono ?_
        rintro e w4 ⟨rfl, b4⟩
        have K5 : Hid (KAt w0 (w4.alloc (.cells #[.int .i64 s1, .int .i64 s2] 28)) g m3 [((s1, s2), (id, 0))] [(id, (s1, s2))] r7 (s1, s2)) := K3.out.carry (bel_alloc b4.out _)
        have X8 : Hid (Box (w4.alloc (.cells #[.int .i64 s1, .int .i64 s2] 28)) w4.heap.size 28 #[.int .i64 s1, .int .i64 s2]) := Box.fresh _ _ _ rfl
        obtain ⟨w5, hw5⟩ : ∃ w5, w4.alloc (.cells #[.int .i64 s1, .int .i64 s2] 28) = w5 := ⟨_, rfl⟩
        obtain ⟨r8, hr8⟩ : ∃ r, w4.heap.size = r := ⟨_, rfl⟩
        rw [hw5] at K5
        rw [hw5, hr8] at X8
        have HL := Lib.hid (qlen_any K5.out.desk)
        obtain ⟨y0, y1⟩ := K5.out.cells
        have z80 : w5.cell? ⟨r8, 0, none⟩ = some (.int .i64 s1) := (X8.out.reads 0).trans rfl
        have z81 : w5.cell? ⟨r8, 1, none⟩ = some (.int .i64 s2) := (X8.out.reads 1).trans rfl
        have HJ1 : Hid (OnJ w0 g id (k + 1) w5) := ⟨m3, _, _, K5.out.desk, K5.out.bel, .inr (held_bid HS.out), fun _ => held_bid HS.out⟩
        clear K3 K5 X8 b4
        go_wp2_with (go_at_call 8; refine HL.out.mono ?_; rintro e wa ⟨rfl, rfl⟩)
        go_roundw
        case rel => exact ⟨k + 1, by omega, by go_num, HJ1⟩
        case measure => simp [intOf]; omega
      · have tp : ((k : Int) % 2 == 0) = false := by simpa using hp
        go_wp2_with (go_at_call 6; refine Hid.out ?_)
        refine Lib.hid ?_
        refine (set_any (s := (s1, s2)) (nb := 0) (na := id) K2.out.desk HS.out OkI.zero HOK.out).mono ?_
        rintro e w3 ⟨rfl, m3, d3, c3, _⟩
        rw [(one_ask HID.out HONE.out (s1, s2)).1, (one_ask HID.out HONE.out (s1, s2)).2] at d3
        have K3 := Lib.hid (K2.out.turn d3 c3)
        generalize (prOf Q (s1, s2)).1 = z1
        generalize (prOf Q (s1, s2)).2 = z2
        clear d3 c3 K2 x0 x1
        go_wp2_with (go_at_call 7; refine Hid.out ?_)
        refine Lib.hid ?_
        refine ((whose_any (id := id) K3.out.desk HOK.out).mono (R' := fun e w2 => e = .returned (.tuple #[.agg #[.int .i64 s1, .int .i64 s2], .bool true]) ∧ Hid (Below w3.heap.size w3 w2)) (fun e w2 he => by rw [fget_one] at he; exact he)).mono ?_
        rintro e w4 ⟨rfl, b4⟩
        have K5 : Hid (KAt w0 (w4.alloc (.cells #[.int .i64 s1, .int .i64 s2] 28)) g m3 [((s1, s2), (0, id))] [(id, (s1, s2))] r7 (s1, s2)) := K3.out.carry (bel_alloc b4.out _)
        have X8 : Hid (Box (w4.alloc (.cells #[.int .i64 s1, .int .i64 s2] 28)) w4.heap.size 28 #[.int .i64 s1, .int .i64 s2]) := Box.fresh _ _ _ rfl
        obtain ⟨w5, hw5⟩ : ∃ w5, w4.alloc (.cells #[.int .i64 s1, .int .i64 s2] 28) = w5 := ⟨_, rfl⟩
        obtain ⟨r8, hr8⟩ : ∃ r, w4.heap.size = r := ⟨_, rfl⟩
        rw [hw5] at K5
        rw [hw5, hr8] at X8
        have HL := Lib.hid (qlen_any K5.out.desk)
        obtain ⟨y0, y1⟩ := K5.out.cells
        have z80 : w5.cell? ⟨r8, 0, none⟩ = some (.int .i64 s1) := (X8.out.reads 0).trans rfl
        have z81 : w5.cell? ⟨r8, 1, none⟩ = some (.int .i64 s2) := (X8.out.reads 1).trans rfl
        have HJ1 : Hid (OnJ w0 g id (k + 1) w5) := ⟨m3, _, _, K5.out.desk, K5.out.bel, .inr (held_ask HS.out), fun _ => held_ask HS.out⟩
        clear K3 K5 X8 b4
        go_wp2_with (go_at_call 8; refine HL.out.mono ?_; rintro e wa ⟨rfl, rfl⟩)
        go_roundw
        case rel => exact ⟨k + 1, by omega, by go_num, HJ1⟩
        case measure => simp [intOf]; omega
    · obtain rfl : k = n := by omega
      obtain ⟨m, Q, S, hd, hb, _, hheld⟩ := hJ.out
      obtain ⟨s, hs, h1, h2, h3, _⟩ := one_gone HID.out (hheld hn)
      have HD := Lib.hid hd
      have HB := Lib.hid hb
      have HF := Lib.hid ((forget_any (id := id) hd HOK.out).mono (R' := fun e w2 => e = .returned (.tuple #[.agg #[.int .i64 s.1, .int .i64 s.2], .bool true]) ∧ Hid (DeskAt w2 w0.heap.size g m [] []) ∧ Hid (Below w0.heap.size w0 w2)) (fun e w2 he => by
        unfold Forgot at he
        rw [h1, h2, h3] at he
        exact ⟨he.1, he.2.1, Chg.toBelow hb he.2.2 hb.size (fun i hi ho => by have := hd.low i ho; omega)⟩))
      clear hJ hd hb hheld h1 h2 h3
      go_wp2_with (go_at_call 9; refine Hid.out ?_)
      refine Lib.hid ?_
      refine HF.out.mono ?_
      rintro e w2 ⟨rfl, d2, b2⟩
      clear HF HD HB
      have HW := Lib.hid (fun w' (hb : Below w2.heap.size w2 w') => ((whose_any (id := id) (d2.out.carry hb) HOK.out).mono (R' := fun e w3 => e = .returned (.tuple #[.agg #[.int .i64 0, .int .i64 0], .bool false]) ∧ Hid (Below w2.heap.size w2 w3)) (fun e w3 he => ⟨he.1, bel_trans hb he.2⟩)))
      go_wp2_with (go_at_call 7; refine Hid.out ?_)
      refine Lib.hid ?_
      refine (HW.out _ (bel_new _ _)).mono ?_
      rintro e w3 ⟨rfl, b3⟩
      have HL := Lib.hid (fun w' (hb : Below w2.heap.size w2 w') => qlen_any (d2.out.carry hb))
      have HE := Lib.hid (fun w' (hb : Below w2.heap.size w2 w') => (hb0.out.trans ((b2.out.trans (hb.mono b2.out.size)).mono hb0.out.size) : Below w.heap.size w w'))
      clear HW
      go_wp2_with (go_at_call 8; refine (HL.out _ (bel_alloc b3.out _)).mono ?_; rintro e wa ⟨rfl, rfl⟩)
      go_ret
      exact ⟨rfl, HE.out _ (bel_alloc b3.out _)⟩
theorem once_any (A : Option Addr) (n c : Nat) (l : List Nat) (id : Int) (w : World) (hA : Byt w w.heap.size A n l) (hok : OkI id) :
    Calls Try.prog 3 #[.slice A n c, .int .i64 id] w (DTrue w) := by
  by_cases h : n = 0 ∨ 40 < n ∨ id < 1
  · exact once_skip A n c id w h
  · exact once_main A n c l id w hA (by omega) (by omega) (by omega) hok
end Go.Proofs.Ytkcgklaoefbglaa

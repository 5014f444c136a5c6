/- The stream's small functions: size, end, wants, Held, fault, die; what a stream is in memory. -/
import Derived.Test.YtjfjdicdokdekaaDoorFrmMath
import Derived.Deep.RegionHeld3
import Derived.Deep.QuietTactic
import Derived.BigQuiet
set_option linter.unusedSimpArgs false
namespace Go.Proofs.YtjfjdicdokdekaaDoor
open Go.RowKit Go.Mem1

theorem below_drewN {B : Nat} {a w : World} (h : Below B a w) (n : Nat) : Below B a (w.drewN n) := ⟨h.os, h.tape, h.output, h.size, h.block⟩
theorem ret_int' {k : IntKind} {a b : Int} (h : a = b) : Ending.returned (.int k a) = .returned (.int k b) := by rw [h]
theorem or_size {a d : Nat} (ha : a < 256) (hd : d < 256) : bits .or .i64 (a : Int) ((d : Int) * 256) = ((a + d * 256 : Nat) : Int) := by
  have h1 : (d : Int) * 256 = ((d * 256 : Nat) : Int) := by omega
  rw [h1]
  have ho : a ||| d * 256 = a + d * 256 := by
    have := Nat.two_pow_add_eq_or_of_lt (i := 8) (b := a) (by omega) d
    rw [Nat.or_comm, Nat.mul_comm d 256]
    have e2 : (2 : Nat) ^ 8 = 256 := rfl
    rw [e2] at this
    omega
  have e1 : ∀ x : Nat, x < 18446744073709551616 → (BitVec.ofInt 64 (x : Int)).toNat = x := fun x hx => by
    rw [BitVec.ofInt_natCast, BitVec.toNat_ofNat]; exact Nat.mod_eq_of_lt (by omega)
  show IntKind.i64.wrap ((BitVec.ofInt 64 (a : Int) ||| BitVec.ofInt 64 ((d * 256 : Nat) : Int)).toNat : Int) = _
  rw [BitVec.toNat_or, e1 a (by omega), e1 (d * 256) (by omega), IntKind.wrap_i64, ho]
  omega

set_option maxHeartbeats 400000 in
theorem size_any (g b off n c a d : Nat) (w : World) (h0 : w.cell? ⟨g, 0, none⟩ = some (.slice (some ⟨b, off, none⟩) n c)) (hn : 2 ≤ n)
    (ha : a < 256) (hd : d < 256) (k0 : w.cell? ⟨b, off, none⟩ = some (.int .u8 (a : Int))) (k1 : w.cell? ⟨b, off + 1, none⟩ = some (.int .u8 (d : Int))) :
    Calls Tryd.prog 56 #[.pointer (some ⟨g, 0, none⟩)] w fun e w' => e = .returned (.int .i64 ((a + d * 256 : Nat) : Int)) ∧ Below w.heap.size w w' := by
  have ho := or_size ha hd
  have i1 : (0 : Int) < (n : Int) := by omega
  have i2 : (1 : Int) < (n : Int) := by omega
  go_enter Tryd.func56, Tryd.ntmps56
  go_wp2_with fail
  go_quiet (fail)
  go_wp2_with fail
  go_ret
  exact ⟨rfl, below_drewN (Below.refl _ _) _⟩

/-- A stream in block g; its held row lies from B on (its block: R). -/
def StrAt (w : World) (B g : Nat) (R : Option Nat) (s : FM.FS) : Prop :=
  ∃ A c v, R = (Value.slice A s.h.length c).ownBlock ∧ Box w g 70 #[.slice A s.h.length c, .int .i64 (s.k : Int), v] ∧
    w.ownsRow B 5 1 (.slice A s.h.length c) s.h.length (s.h.map bv) ∧ (∀ x ∈ s.h, x < 256) ∧ B ≤ g ∧ s.h.length ≤ 1030 ∧
    (s.e = 0 → v = .nilIface) ∧ (s.e ≠ 0 → ∃ b, v = .iface 78 (.pointer (some ⟨b, 0, none⟩)) ∧ IsErr w w.heap.size s.p (s.e : Int) v)
/-- Which blocks a stream's calls may turn. -/
def StrSet (g : Nat) (R : Option Nat) (k : Nat) : Prop := k = g ∨ some k = R
theorem StrAt.row {w : World} {B g : Nat} {R : Option Nat} {s : FM.FS} (h : StrAt w B g R s) : ∀ k, R = some k → B ≤ k ∧ k < w.heap.size := by
  obtain ⟨A, c, v, hr, hb, ho, _⟩ := h
  exact fun k hk => ho.lt k (hr ▸ hk)
theorem StrAt.there {w : World} {B g : Nat} {R : Option Nat} {s : FM.FS} (h : StrAt w B g R s) : B ≤ g ∧ g < w.heap.size := by
  obtain ⟨A, c, v, hr, hb, ho, hx, hB, _⟩ := h
  exact ⟨hB, hb.there⟩
theorem StrAt.carry {w w' : World} {B g : Nat} {R : Option Nat} {s : FM.FS} (h : StrAt w B g R s) (hb : Below w.heap.size w w') : StrAt w' B g R s := by
  obtain ⟨A, c, v, hr, hbx, ho, hx, hB, hl, h0, h1⟩ := h
  refine ⟨A, c, v, hr, hbx.kept_below hb hbx.there, own_chg ho (Chg.of_below hb (fun _ => False)) (fun _ _ h => h), hx, hB, hl, h0, fun he => ?_⟩
  obtain ⟨b, e, hE⟩ := h1 he
  exact ⟨b, e, (hE.carry hb).wider hb.size⟩
theorem StrAt.withOut {w : World} {B g : Nat} {R : Option Nat} {s : FM.FS} (h : StrAt w B g R s) (o : List (List Nat)) : StrAt w B g R { s with out := o } := h
theorem StrAt.two {w : World} {B g : Nat} {R : Option Nat} {s : FM.FS} (h : StrAt w B g R s) (hl : 2 ≤ s.h.length) :
    ∃ b c a d, w.cell? ⟨g, 0, none⟩ = some (.slice (some ⟨b, 0, none⟩) s.h.length c) ∧ a < 256 ∧ d < 256 ∧ w.cell? ⟨b, 0, none⟩ = some (.int .u8 ((a : Nat) : Int)) ∧ w.cell? ⟨b, 0 + 1, none⟩ = some (.int .u8 ((d : Nat) : Int)) ∧ FM.size s.h = a + d * 256 := by
  obtain ⟨A, c, v, hr, hbx, ho, hx, hB, _⟩ := h
  have c0 := hbx.reads 0
  obtain ⟨k, t⟩ := s
  match k, hl with
  | a :: d :: r, _ =>
    dsimp only at ho c0 hx ⊢
    rcases ho.2 with ⟨_, h0⟩ | ⟨gg, cap, cur, hv, _, hgg, _⟩
    · simp at h0
    · injection hv with hA _ _
      subst hA
      have e0 := ho.cells (g := gg) rfl 0 (bv a) rfl
      have e1 := ho.cells (g := gg) rfl 1 (bv d) rfl
      exact ⟨gg, c, a, d, c0, hx a (by simp), hx d (by simp), e0, e1, rfl⟩

theorem strSize {w : World} {B g : Nat} {R : Option Nat} {s : FM.FS} (h : StrAt w B g R s) (hl : 2 ≤ s.h.length) :
    Calls Tryd.prog 56 #[.pointer (some ⟨g, 0, none⟩)] w fun e w' => e = .returned (.int .i64 ((FM.size s.h : Nat) : Int)) ∧ Below w.heap.size w w' := by
  obtain ⟨b, c, a, d, h0, ha, hd, k0, k1, hs⟩ := h.two hl
  rw [hs]
  exact size_any g b 0 _ c a d w h0 hl ha hd k0 k1
theorem StrAt.len0 {w : World} {B g : Nat} {R : Option Nat} {s : FM.FS} (h : StrAt w B g R s) : ∃ A c, w.cell? ⟨g, 0, none⟩ = some (.slice A s.h.length c) := by
  obtain ⟨A, c, v, hr, hbx, _⟩ := h
  exact ⟨A, c, hbx.reads 0⟩
theorem fm_size_bd {w : World} {B g : Nat} {R : Option Nat} {s : FM.FS} (h : StrAt w B g R s) (hl : 2 ≤ s.h.length) : FM.size s.h < 65536 := by
  obtain ⟨b, c, a, d, h0, ha, hd, k0, k1, hs⟩ := h.two hl
  omega

set_option maxHeartbeats 400000 in
theorem strEnd {w : World} {B g : Nat} {R : Option Nat} {s : FM.FS} (h : StrAt w B g R s) (hl : 2 ≤ s.h.length) :
    Calls Tryd.prog 55 #[.pointer (some ⟨g, 0, none⟩)] w fun e w' => e = .returned (.int .i64 ((6 + FM.size s.h : Nat) : Int)) ∧ Below w.heap.size w w' := by
  have hs := strSize h hl
  have hb := fm_size_bd h hl
  have HS := Lib.hid hs
  clear hs h hl
  generalize FM.size s.h = z at *
  go_enter Tryd.func55, Tryd.ntmps55
  go_wp2_with fail
  refine HS.out.mono ?_
  rintro e w1 ⟨rfl, B1⟩
  have e1 : (2 : Int) + (z : Int) + 4 = ((6 + z : Nat) : Int) := by omega
  go_wp2_with fail
  go_ret
  exact ⟨ret_int' (by first | omega | (rw [IntKind.wrap_i64]; omega)), B1⟩
set_option maxHeartbeats 400000 in
theorem strHeld {w : World} {B g : Nat} {R : Option Nat} {s : FM.FS} (h : StrAt w B g R s) :
    Calls Tryd.prog 17 #[.pointer (some ⟨g, 0, none⟩)] w fun e w' => e = .returned (.int .i64 (s.h.length : Int)) ∧ w = w' := by
  obtain ⟨A, c, h0⟩ := h.len0
  clear h
  go_enter Tryd.func17, Tryd.ntmps17
  go_wp2_with fail
  go_ret
  exact ⟨rfl, rfl⟩
set_option maxHeartbeats 400000 in
theorem strWants {w : World} {B g : Nat} {R : Option Nat} {s : FM.FS} (h : StrAt w B g R s) (hL : FM.Live s) :
    Calls Tryd.prog 29 #[.pointer (some ⟨g, 0, none⟩)] w fun e w' => e = .returned (.int .i64 ((FM.goal s - s.h.length : Nat) : Int)) ∧ Below w.heap.size w w' := by
  obtain ⟨A, c, h0⟩ := h.len0
  have hgl := hL.goal_lt
  have hg := FM.goal_le hL
  unfold FM.goal at hgl hg ⊢
  by_cases hl : s.h.length < 2
  · rw [if_pos hl] at hgl hg ⊢
    have e1 : (2 : Int) - (s.h.length : Int) = ((2 - s.h.length : Nat) : Int) := by omega
    clear h hL
    generalize s.h.length = n at *
    have i1 : decide ((n : Int) < 2) = true := by simp; omega
    go_enter Tryd.func29, Tryd.ntmps29
    go_wp2_with fail
    go_ret
    exact ⟨ret_int' (by first | omega | (rw [IntKind.wrap_i64]; omega)), Below.refl _ _⟩
  · rw [if_neg hl] at hgl hg ⊢
    have hs := fun (w' : World) (hb : Below w.heap.size w w') => strEnd (h.carry hb) (by omega)
    have h0' := h0
    have HS := Lib.hid hs
    have hgt := h.there.2
    clear h hL hs
    generalize FM.size s.h = z at *
    generalize s.h.length = n at *
    have e1 : ((6 + z : Nat) : Int) - (n : Int) = ((6 + z - n : Nat) : Int) := by omega
    have i1 : decide ((n : Int) < 2) = false := by simp; omega
    go_enter Tryd.func29, Tryd.ntmps29
    go_wp2_with fail
    go_region_held3 (fun w' => w'.cell? ⟨g, 0, none⟩ = some (.slice A n c))
      (first | exact h0 | exact h1)
      ((first | (go_at_call 55; refine (HS.out w.drew (Below.refl _ _).drew).mono ?_; rintro e w1 ⟨rfl, B1⟩
                 have h1 := (B1.cell (p := ⟨g, 0, none⟩) hgt).trans h0')))
    all_goals
      go_wp2_with fail
      go_ret
      exact ⟨ret_int' (by first | omega | (rw [IntKind.wrap_i64]; omega)), (Below.refl _ _).drew.trans B1⟩
set_option maxHeartbeats 400000 in
theorem frmFault (at_ : Int) (l : List (ByteArray × Int)) (n : Int) (v : Value) (w : World) (h : IsErr w w.heap.size l n v) :
    Calls Tryd.prog 36 #[.int .i64 at_, v] w fun e w' => Below w.heap.size w w' ∧ ∃ b, e = .returned (.iface 78 (.pointer (some ⟨b, 0, none⟩))) ∧ IsErr w' w'.heap.size ((frameBytes, at_) :: l) n (.iface 78 (.pointer (some ⟨b, 0, none⟩))) := by
  obtain ⟨t, x, rfl⟩ := h.notNil
  have H := Lib.hid h
  clear h
  go_enter Tryd.func36, Tryd.ntmps36
  go_wp2_with fail
  go_ret
  refine ⟨bel_new _ _, w.heap.size, rfl, w.heap.size, .iface t x, rfl, by simp, by simp [frameBytes], by simp, by simp, ?_⟩
  exact (H.out.carry (bel_new _ _)).wider (by simp)
theorem frmNew (w : World) : Calls Tryd.prog 10 #[] w fun e w' => e = .returned (.pointer (some ⟨w.heap.size, 0, none⟩)) ∧ StrAt w' w.heap.size w.heap.size none ⟨[], 0, [], 0, []⟩ ∧ Below w.heap.size w w' := by
  go_enter Tryd.func10, Tryd.ntmps10
  go_wp2_with fail
  go_ret
  exact ⟨rfl, ⟨none, 0, .nilIface, rfl, Box.fresh w _ _ rfl, World.ownsRow_nil _ _ _ _, fun x hx => by (cases hx), Nat.le_refl _, by simp, fun _ => rfl, fun h => absurd rfl h⟩, bel_new _ _⟩
end Go.Proofs.YtjfjdicdokdekaaDoor

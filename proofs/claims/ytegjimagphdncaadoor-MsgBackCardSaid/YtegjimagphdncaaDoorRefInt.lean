/- Contracts of the reference's Int and Raw (straddleref4). -/
import Derived.Test.YtegjimagphdncaaDoorCodEnc
namespace Go.Proofs.YtegjimagphdncaaDoor
open Go.RowKit Go.Mem1 Go.CodMath

/-- A new row of the call's own. -/
def Made (w : World) (l : List Nat) (e : Ending) (w' : World) : Prop := ∃ A n c, e = .returned (.slice A n c) ∧ w'.ownsRow w.heap.size 5 1 (.slice A n c) n (l.map bv) ∧ Below w.heap.size w w'

theorem neg_or {z : Int} (h1 : -9223372036854775808 ≤ z) (hz : z < 0) : bits .or .u64 (-(z + 1) * 2) 1 = (zz z : Int) := by
  obtain ⟨m, hm⟩ := Int.eq_ofNat_of_zero_le (show 0 ≤ -(z + 1) by omega)
  have := u64_or_nat (m * 2) 1 (by omega) (by omega)
  have e : m * 2 ||| 1 = m * 2 + 1 := by
    have := Nat.two_pow_add_eq_or_of_lt (i := 1) (b := 1) (by omega) m
    rw [Nat.mul_comm] at this
    exact this.symm
  rw [e] at this
  have hz2 : zz z = m * 2 + 1 := by unfold zz; rw [if_pos hz]; omega
  rw [hm, hz2]
  exact this
theorem low_or {u : Nat} (h : u < 18446744073709551616) : bits .or .u64 (bits .and .u64 (u : Int) 127) 128 = ((u % 128 + 128 : Nat) : Int) := by
  have h1 := u64_and_nat u 127 h (by omega)
  rw [mask7] at h1
  have h2 := u64_or_nat (u % 128) 128 (by omega) (by omega)
  have e : u % 128 ||| 128 = u % 128 + 128 := by
    have h3 : 128 ||| u % 128 = 128 + u % 128 := (Nat.two_pow_add_eq_or_of_lt (i := 7) (b := u % 128) (by omega) 1).symm
    rw [Nat.or_comm, h3, Nat.add_comm]
  rw [e] at h2
  exact (congrArg (fun y => bits .or .u64 y 128) h1).trans h2

def Loop (w0 : World) (z : Int) (v3 v4 : Value) (wr : World) : Prop :=
  ∃ (u : Nat) (ys : List Nat) (A : Option Addr) (n c : Nat), u < 18446744073709551616 ∧ v3 = .int .u64 (u : Int) ∧ v4 = .slice A n c ∧ ien z = ys ++ vint u ∧ (∀ x ∈ ys, x < 256) ∧ wr.ownsRow w0.heap.size 5 1 (.slice A n c) n (ys.map bv) ∧ Below w0.heap.size w0 wr

set_option maxRecDepth 100000 in
set_option maxHeartbeats 1000000 in
theorem refInt_any (z : Int) (w : World) (h : -9223372036854775808 ≤ z ∧ z ≤ 9223372036854775807) :
    Calls Tryd.prog 31 #[.int .i64 z] w (Made w (ien z)) := by
  obtain ⟨i0, hi0, hz0, hz1, hz2⟩ := info_parts u8_info
  obtain ⟨h1, h2⟩ := h
  have hzb := Lib.hid (And.intro h1 h2)
  by_cases hz : z < 0
  · have hf := neg_or h1 hz
    have hf0 : ien z = [] ++ vint (zz z) := rfl
    have HF := Lib.hid hf0; clear hf0
    have hzz := zz_lt h1 h2
    generalize zz z = U at *
    go_enter Tryd.func31, Tryd.ntmps31
    go_wp2_with fail
    go_loopw [3, 4] (fun v3 v4 wr => Loop w z v3 v4 wr) (fun v3 _ _ => (intOf v3).toNat)
    case atStart => exact ⟨U, [], none, 0, 0, hzz, rfl, rfl, HF.out, fun x hx => by (cases hx), World.ownsRow_nil _ _ _ _, Below.refl _ _⟩
    case round =>
      obtain ⟨u, ys, A, n, c, hu, rfl, rfl, hien, hys, hown, hbel⟩ := hrel
      have hln : ys.length = n := by have := hown.1; simpa using this
      have hyl : ys.length ≤ 9 := by
        have h1 := congrArg List.length hien
        rw [List.length_append] at h1
        have h2 := ien_len hzb.out
        have h3 := vint_pos u
        omega
      have hsz := hbel.size
      have HI := Lib.hid hien
      have HY := Lib.hid hys
      have HL := Lib.hid hln
      have hn9 : n ≤ 9 := by omega
      clear hien hys hln hyl
      by_cases hub : 128 ≤ u
      · have hub2 : decide ((128 : Int) ≤ (u : Int)) = true := by simp; omega
        have hlo := low_or hu
        obtain ⟨X, hX⟩ : ∃ X, X = u % 128 + 128 := ⟨_, rfl⟩
        rw [← hX] at hlo
        have hXb : X < 256 := by omega
        have hXm : (X : Int) % 256 = (X : Int) := by omega
        have H3 := Lib.hid hX; clear hX
        go_wp2_with (at_builtin; go_loud (refine wpList_append rfl (.tmp 18) (.tmp 23) _ rfl w.heap.size 5 i0 _ 1 Tryd.underlying27 hi0 hz0 hz1 hz2 rfl (.slice A n c) n (ys.map bv) rfl (hown.alloc _) (some ⟨wr.heap.size, 0, none⟩) 1 1 (by intro h; cases h) _ rfl (Rd.made wr #[.int .u8 (X : Int)] 5 1 rfl) (by intro u hu; simp at hu; subst hu; rfl) (by simp only [maxLen]; omega) (by omega) (by simp; omega) ?_; intro v1 w2 hown2 hgr2 hat2; obtain ⟨A1, c1, rfl⟩ := own_slice hown2; have B2 : Below w.heap.size w w2 := (hbel.alloc hsz _).grown hgr2 (by simp; omega) (fun k hk => (hown.lt k hk).1); have HO := Lib.hid hown2; clear hown2 hgr2 hat2))
        go_roundw
        case rel => exact ⟨u / 128, ys ++ [X], A1, n + 1, c1, by omega, rfl, rfl, by rw [H3.out, List.append_assoc, List.singleton_append, ← vint_big hub]; exact HI.out, (by
          intro x hx
          rcases List.mem_append.1 hx with hx | hx
          · exact HY.out x hx
          · simp at hx; omega), by simpa [bv] using HO.out, B2⟩
        case measure => simp [intOf]; omega
      · have hub2 : decide ((128 : Int) ≤ (u : Int)) = false := by simp; omega
        have hub3 : (u : Int) % 256 = (u : Int) := by omega
        have hub4 : u < 128 := by omega
        clear hub
        go_wp2_with (at_builtin; go_loud (refine wpList_append rfl (.tmp 27) (.tmp 30) _ rfl w.heap.size 5 i0 _ 1 Tryd.underlying27 hi0 hz0 hz1 hz2 rfl (.slice A n c) n (ys.map bv) rfl (hown.alloc _) (some ⟨wr.heap.size, 0, none⟩) 1 1 (by intro h; cases h) _ rfl (Rd.made wr #[.int .u8 (u : Int)] 5 1 rfl) (by intro u hu; simp at hu; subst hu; rfl) (by simp only [maxLen]; omega) (by omega) (by simp; omega) ?_; intro v1 w2 hown2 hgr2 hat2; obtain ⟨A1, c1, rfl⟩ := own_slice hown2; have B2 : Below w.heap.size w w2 := (hbel.alloc hsz _).grown hgr2 (by simp; omega) (fun k hk => (hown.lt k hk).1); have HO := Lib.hid hown2; clear hown2 hgr2 hat2))
        go_ret
        refine ⟨A1, n + 1, c1, rfl, ?_, B2⟩
        rw [HI.out, vint_small hub4]
        simpa [bv] using HO.out
  · have hf := zz_pos (n := z) (by omega)
    have hf0 : ien z = [] ++ vint (zz z) := rfl
    have HF := Lib.hid hf0; clear hf0
    have hzz := zz_lt h1 h2
    generalize zz z = U at *
    go_enter Tryd.func31, Tryd.ntmps31
    go_wp2_with fail
    go_loopw [3, 4] (fun v3 v4 wr => Loop w z v3 v4 wr) (fun v3 _ _ => (intOf v3).toNat)
    case atStart => exact ⟨U, [], none, 0, 0, hzz, rfl, rfl, HF.out, fun x hx => by (cases hx), World.ownsRow_nil _ _ _ _, Below.refl _ _⟩
    case round =>
      obtain ⟨u, ys, A, n, c, hu, rfl, rfl, hien, hys, hown, hbel⟩ := hrel
      have hln : ys.length = n := by have := hown.1; simpa using this
      have hyl : ys.length ≤ 9 := by
        have h1 := congrArg List.length hien
        rw [List.length_append] at h1
        have h2 := ien_len hzb.out
        have h3 := vint_pos u
        omega
      have hsz := hbel.size
      have HI := Lib.hid hien
      have HY := Lib.hid hys
      have HL := Lib.hid hln
      have hn9 : n ≤ 9 := by omega
      clear hien hys hln hyl
      by_cases hub : 128 ≤ u
      · have hub2 : decide ((128 : Int) ≤ (u : Int)) = true := by simp; omega
        have hlo := low_or hu
        obtain ⟨X, hX⟩ : ∃ X, X = u % 128 + 128 := ⟨_, rfl⟩
        rw [← hX] at hlo
        have hXb : X < 256 := by omega
        have hXm : (X : Int) % 256 = (X : Int) := by omega
        have H3 := Lib.hid hX; clear hX
        go_wp2_with (at_builtin; go_loud (refine wpList_append rfl (.tmp 18) (.tmp 23) _ rfl w.heap.size 5 i0 _ 1 Tryd.underlying27 hi0 hz0 hz1 hz2 rfl (.slice A n c) n (ys.map bv) rfl (hown.alloc _) (some ⟨wr.heap.size, 0, none⟩) 1 1 (by intro h; cases h) _ rfl (Rd.made wr #[.int .u8 (X : Int)] 5 1 rfl) (by intro u hu; simp at hu; subst hu; rfl) (by simp only [maxLen]; omega) (by omega) (by simp; omega) ?_; intro v1 w2 hown2 hgr2 hat2; obtain ⟨A1, c1, rfl⟩ := own_slice hown2; have B2 : Below w.heap.size w w2 := (hbel.alloc hsz _).grown hgr2 (by simp; omega) (fun k hk => (hown.lt k hk).1); have HO := Lib.hid hown2; clear hown2 hgr2 hat2))
        go_roundw
        case rel => exact ⟨u / 128, ys ++ [X], A1, n + 1, c1, by omega, rfl, rfl, by rw [H3.out, List.append_assoc, List.singleton_append, ← vint_big hub]; exact HI.out, (by
          intro x hx
          rcases List.mem_append.1 hx with hx | hx
          · exact HY.out x hx
          · simp at hx; omega), by simpa [bv] using HO.out, B2⟩
        case measure => simp [intOf]; omega
      · have hub2 : decide ((128 : Int) ≤ (u : Int)) = false := by simp; omega
        have hub3 : (u : Int) % 256 = (u : Int) := by omega
        have hub4 : u < 128 := by omega
        clear hub
        go_wp2_with (at_builtin; go_loud (refine wpList_append rfl (.tmp 27) (.tmp 30) _ rfl w.heap.size 5 i0 _ 1 Tryd.underlying27 hi0 hz0 hz1 hz2 rfl (.slice A n c) n (ys.map bv) rfl (hown.alloc _) (some ⟨wr.heap.size, 0, none⟩) 1 1 (by intro h; cases h) _ rfl (Rd.made wr #[.int .u8 (u : Int)] 5 1 rfl) (by intro u hu; simp at hu; subst hu; rfl) (by simp only [maxLen]; omega) (by omega) (by simp; omega) ?_; intro v1 w2 hown2 hgr2 hat2; obtain ⟨A1, c1, rfl⟩ := own_slice hown2; have B2 : Below w.heap.size w w2 := (hbel.alloc hsz _).grown hgr2 (by simp; omega) (fun k hk => (hown.lt k hk).1); have HO := Lib.hid hown2; clear hown2 hgr2 hat2))
        go_ret
        refine ⟨A1, n + 1, c1, rfl, ?_, B2⟩
        rw [HI.out, vint_small hub4]
        simpa [bv] using HO.out

end Go.Proofs.YtegjimagphdncaaDoor

/- The contracts of an arena's calls that write: join, give, take. -/
import Derived.Test.YtmgfeofkbblmjaaFifOps
import Derived.Deep.RegionHeld3
set_option linter.unusedSimpArgs false
namespace Go.Proofs.Ytmgfeofkbblmjaa
open Go.RowKit Go.Mem1 Go.FifMath

theorem join1_n (s : Aren) (row : Nat) (y : Int) : join1 s row (-1) y = s.atRow row (setA y) := rfl
theorem join2_n (s : Aren) (row : Nat) (x : Int) : join2 s row x (-1) = s.atRow row (setZ x) := rfl
theorem join1_c (s : Aren) (row k : Nat) (y : Int) : join1 s row (k : Int) y = s.atCell k (setN y) := by unfold join1; rw [if_neg (by omega), toNat_cast]
theorem join2_c (s : Aren) (row k : Nat) (x : Int) : join2 s row x (k : Int) = s.atCell k (setP x) := by unfold join2; rw [if_neg (by omega), toNat_cast]
section
variable {w : World} {B g : Nat} {vR vC : Value} {s : Aren}
/-- What a call that writes leaves behind. -/
def Wrote (w : World) (B g : Nat) (vR vC : Value) (s : Aren) (w' : World) : Prop := ArenaAt w' B g vR vC s ∧ Chg (ArS g vR vC) w w'
def Done (w : World) (B g : Nat) (vR vC : Value) (s : Aren) (e : Ending) (w' : World) : Prop := e = .returned (.tuple #[]) ∧ Wrote w B g vR vC s w'
theorem Wrote.then {w' w2 : World} {s' : Aren} (h : Wrote w B g vR vC s w') (k : Wrote w' B g vR vC s' w2) : Wrote w B g vR vC s' w2 := ⟨k.1, h.2.trans k.2 (fun _ _ h => h) (fun _ _ h => h)⟩
set_option maxHeartbeats 2000000 in
theorem join_nn (h : ArenaAt w B g vR vC s) {row : Nat} {e : Tip} (he : s.rs[row]? = some e) :
    Calls Try.prog 18 #[.pointer (some ⟨g, 0, none⟩), .int .i64 row, .int .i64 (-1), .int .i64 (-1)] w (Done w B g vR vC (join s row (-1) (-1))) := by
  have c0 := h.c0
  obtain ⟨b, c, hv, hk, hlt, _, hbg, k0, k1, k2, hf⟩ := h.ends he
  have fin : ∀ w', w' = (w.setCell ⟨b, row * 3, none⟩ (.int .i64 (-1))).setCell ⟨b, row * 3 + 1, none⟩ (.int .i64 (-1)) → Wrote w B g vR vC (join s row (-1) (-1)) w' := by
    rintro w' rfl
    have h1 := h.storeR hv he (setA (-1)) 0 (.int .i64 (-1)) (by omega) rfl
    exact Wrote.then h1 (h1.1.storeR hv (mod_at he) (setZ (-1)) 1 (.int .i64 (-1)) (by omega) rfl)
  rw [hv] at c0
  have hm := h.mostR
  obtain ⟨n, hn⟩ : ∃ n, s.rs.length = n := ⟨_, rfl⟩
  rw [hn] at c0 hk hm
  have f0 := hf (row * 3)
  have f1 := hf (row * 3 + 1)
  have FIN := Lib.hid fin
  clear h hv hn he hf fin
  go_enter Try.func18, Try.ntmps18
  go_wp2_with fail
  go_end0
  exact ⟨rfl, FIN.out _ rfl⟩
set_option maxHeartbeats 2000000 in
theorem join_nc (h : ArenaAt w B g vR vC s) {row k : Nat} {e : Tip} (he : s.rs[row]? = some e) {l : Lnk} (hl : s.cs[k]? = some l) :
    Calls Try.prog 18 #[.pointer (some ⟨g, 0, none⟩), .int .i64 row, .int .i64 (-1), .int .i64 k] w (Done w B g vR vC (join s row (-1) k)) := by
  have c0 := h.c0
  have c1 := h.c1
  obtain ⟨b, c, hv, hk, hlt, _, hbg, k0, k1, k2, hf⟩ := h.ends he
  obtain ⟨b2, c2, hv2, hk2, hlt2, _, hbg2, j0, j1, j2, j3, hf2⟩ := h.link hl
  have hbb := h.rc hv hv2
  have fin : ∀ w', w' = (w.setCell ⟨b, row * 3, none⟩ (.int .i64 k)).setCell ⟨b2, k * 4 + 2, none⟩ (.int .i64 (-1)) → Wrote w B g vR vC (join s row (-1) k) w' := by
    rintro w' rfl
    unfold join
    rw [join2_c, join1_n]
    have h1 := h.storeR hv he (setA k) 0 (.int .i64 k) (by omega) rfl
    exact Wrote.then h1 (h1.1.storeC hv2 hl (setP (-1)) 2 (.int .i64 (-1)) (by omega) rfl)
  rw [hv] at c0
  rw [hv2] at c1
  have hm := h.mostR
  have hm2 := h.mostC
  obtain ⟨n, hn⟩ : ∃ n, s.rs.length = n := ⟨_, rfl⟩
  rw [hn] at c0 hk hm
  obtain ⟨n2, hn2⟩ : ∃ n, s.cs.length = n := ⟨_, rfl⟩
  rw [hn2] at c1 hk2 hm2
  have f0 := hf (row * 3)
  have f1 := hf2 (k * 4 + 2)
  have t : ((k : Int) == -1) = false := by simp
  have FIN := Lib.hid fin
  clear h hv hn he hf fin hv2 hn2 hl hf2 k1 k2 j0 j1 j3
  go_enter Try.func18, Try.ntmps18
  go_wp2_with fail
  go_end0
  exact ⟨rfl, FIN.out _ rfl⟩
set_option maxHeartbeats 2000000 in
theorem join_cn (h : ArenaAt w B g vR vC s) {row k : Nat} {e : Tip} (he : s.rs[row]? = some e) {l : Lnk} (hl : s.cs[k]? = some l) :
    Calls Try.prog 18 #[.pointer (some ⟨g, 0, none⟩), .int .i64 row, .int .i64 k, .int .i64 (-1)] w (Done w B g vR vC (join s row k (-1))) := by
  have c0 := h.c0
  have c1 := h.c1
  obtain ⟨b, c, hv, hk, hlt, _, hbg, k0, k1, k2, hf⟩ := h.ends he
  obtain ⟨b2, c2, hv2, hk2, hlt2, _, hbg2, j0, j1, j2, j3, hf2⟩ := h.link hl
  have hbb := h.rc hv hv2
  have fin : ∀ w', w' = (w.setCell ⟨b2, k * 4 + 3, none⟩ (.int .i64 (-1))).setCell ⟨b, row * 3 + 1, none⟩ (.int .i64 k) → Wrote w B g vR vC (join s row k (-1)) w' := by
    rintro w' rfl
    unfold join
    rw [join2_n, join1_c]
    have h1 := h.storeC hv2 hl (setN (-1)) 3 (.int .i64 (-1)) (by omega) rfl
    exact Wrote.then h1 (h1.1.storeR hv he (setZ k) 1 (.int .i64 k) (by omega) rfl)
  rw [hv] at c0
  rw [hv2] at c1
  have hm := h.mostR
  have hm2 := h.mostC
  obtain ⟨n, hn⟩ : ∃ n, s.rs.length = n := ⟨_, rfl⟩
  rw [hn] at c0 hk hm
  obtain ⟨n2, hn2⟩ : ∃ n, s.cs.length = n := ⟨_, rfl⟩
  rw [hn2] at c1 hk2 hm2
  have f0 := hf (row * 3 + 1)
  have f1 := hf2 (k * 4 + 3)
  have t : ((k : Int) == -1) = false := by simp
  have FIN := Lib.hid fin
  clear h hv hn he hf fin hv2 hn2 hl hf2 k0 k2 j0 j1 j2
  go_enter Try.func18, Try.ntmps18
  go_wp2_with fail
  go_end0
  exact ⟨rfl, FIN.out _ rfl⟩
set_option maxHeartbeats 2000000 in
theorem join_cc (h : ArenaAt w B g vR vC s) {row k i : Nat} {l m : Lnk} (hl : s.cs[k]? = some l) (hi : s.cs[i]? = some m) :
    Calls Try.prog 18 #[.pointer (some ⟨g, 0, none⟩), .int .i64 row, .int .i64 k, .int .i64 i] w (Done w B g vR vC (join s row k i)) := by
  have c1 := h.c1
  obtain ⟨b2, c2, hv2, hk2, hlt2, _, hbg2, j0, j1, j2, j3, hf2⟩ := h.link hl
  obtain ⟨b, c, hv, hk, hlt, _, hbg, k0, k1, k2, k3, hf⟩ := h.link hi
  obtain rfl : b = b2 := by rw [hv] at hv2; injection hv2 with hv2; injection hv2 with hv2; injection hv2
  obtain ⟨m1, hm1⟩ : ∃ m1, (s.cs.modify k (setN i))[i]? = some m1 := by
    by_cases hki : i = k
    · subst hki; exact ⟨_, mod_at hi⟩
    · exact ⟨m, (mod_off hki).trans hi⟩
  have fin : ∀ w', w' = (w.setCell ⟨b, k * 4 + 3, none⟩ (.int .i64 i)).setCell ⟨b, i * 4 + 2, none⟩ (.int .i64 k) → Wrote w B g vR vC (join s row k i) w' := by
    rintro w' rfl
    unfold join
    rw [join2_c, join1_c]
    have h1 := h.storeC hv2 hl (setN i) 3 (.int .i64 i) (by omega) rfl
    exact Wrote.then h1 (h1.1.storeC hv2 hm1 (setP k) 2 (.int .i64 k) (by omega) rfl)
  rw [hv2] at c1
  have hm2 := h.mostC
  obtain ⟨n2, hn2⟩ : ∃ n, s.cs.length = n := ⟨_, rfl⟩
  rw [hn2] at c1 hk2 hm2 hk
  have f0 := hf (i * 4 + 2)
  have f1 := hf (k * 4 + 3)
  have t : ((k : Int) == -1) = false := by simp
  have t2 : ((i : Int) == -1) = false := by simp
  have a1 : i * 4 + 2 ≠ k * 4 + 3 := by omega
  have FIN := Lib.hid fin
  clear h hv hn2 hi hf fin hv2 hl hf2 j0 j1 j2 k0 k1 k3 hm1
  go_enter Try.func18, Try.ntmps18
  go_wp2_with fail
  go_end0
  exact ⟨rfl, FIN.out _ rfl⟩
/-- A number of a cell, or of none. -/
def NumOf (s : Aren) (x : Int) : Prop := x = -1 ∨ ∃ k : Nat, x = k ∧ k < s.cs.length
theorem join_any (h : ArenaAt w B g vR vC s) {row : Nat} {e : Tip} (he : s.rs[row]? = some e) {x y : Int} (hx : NumOf s x) (hy : NumOf s y) :
    Calls Try.prog 18 #[.pointer (some ⟨g, 0, none⟩), .int .i64 row, .int .i64 x, .int .i64 y] w (Done w B g vR vC (join s row x y)) := by
  rcases hx with rfl | ⟨k, rfl, hk⟩
  · rcases hy with rfl | ⟨i, rfl, hi⟩
    · exact join_nn h he
    · exact join_nc h he (List.getElem?_eq_getElem hi)
  · rcases hy with rfl | ⟨i, rfl, hi⟩
    · exact join_cn h he (List.getElem?_eq_getElem hk)
    · exact join_cc h (List.getElem?_eq_getElem hk) (List.getElem?_eq_getElem hi)
end
end Go.Proofs.Ytmgfeofkbblmjaa

/- The landed desk's contracts: take, fault, silent. -/
import Derived.Test.YtpkkhmbcbcaelaaDoorSesFn
set_option linter.unusedSimpArgs false
namespace Go.Proofs.YtpkkhmbcbcaelaaDoor
open Go.RowKit Go.Mem1 Go.SesMath
theorem upd_upd (D : Sk) (s : Int) (a b : Se) : updS (updS D s a) s b = updS D s b := by
  funext j
  unfold updS
  split <;> rfl
theorem upd_at (D : Sk) (s : Int) (a : Se) : updS D s a s = a := by unfold updS; rw [if_pos rfl]
set_option maxRecDepth 100000 in
set_option maxHeartbeats 1000000 in
theorem sfault_any (s : Int) (x : Nat) (w : World) : Calls Tryd.prog 19 #[.int .i64 s, .iface 25 (.int .i64 (x : Int))] w (SdBad w s x) := by
  go_enter Tryd.func19, Tryd.ntmps19
  go_wp2_with fail
  go_ret
  exact ⟨_, rfl, Nat.le_refl _, Box.fresh _ _ _ rfl, bel_new _ _⟩
section
variable {w w' : World} {B g : Nat} {T : Int} {D : Sk} {O : Nat → Prop} {n : Int}
/-- What a message that is in leaves of a session. -/
def tookS (x : Se) (k now : Int) : Se := ⟨if k = 3 then false else if k = 1 then true else x.on, x.nx + 1, x.out, if k = 3 then x.last else now⟩
def TookAt (w : World) (B g : Nat) (T : Int) (O : Nat → Prop) (D' : Sk) (e : Ending) (w' : World) : Prop := e = .returned (.tuple #[]) ∧ SdAt w' B g T D' O ∧ Chg O w w'
set_option maxRecDepth 100000 in
set_option maxHeartbeats 2000000 in
theorem take_any (h : SdAt w B g T D O) {k : Nat} (hk : k < 64) {y : Se} (hy : D ((k : Int) + 1) = y) (m1 : 1 ≤ y.nx) (m2 : y.nx ≤ 2000) (K now : Int) :
    Calls Tryd.prog 21 #[.pointer (some ⟨g, 1 + k * 4, none⟩), .int .i64 K, .int .i64 now] w (TookAt w B g T O (updS D ((k : Int) + 1) (tookS y K now))) := by
  have ew : IntKind.i64.wrap (y.nx - 1 + 1) = y.nx := by rw [IntKind.wrap_i64]; omega
  have c1 := h.cell hk (i := 2) (u := .int .i64 (y.nx - 1)) (by rw [hy]; rfl)
  have f1 := h.unmarked (1 + k * 4 + 2)
  have h1 := h.wrote hk 2 (by decide) (.int .i64 y.nx) (y := ⟨y.on, y.nx + 1, y.out, y.last⟩) (by rw [hy]; unfold seC; simp)
  have t1 := h.turned (1 + k * 4 + 2) (.int .i64 y.nx)
  have h1at := upd_at D ((k : Int) + 1) ⟨y.on, y.nx + 1, y.out, y.last⟩
  obtain ⟨W1, hW1⟩ : ∃ W1, w.setCell ⟨g, 1 + k * 4 + 2, none⟩ (.int .i64 y.nx) = W1 := ⟨_, rfl⟩
  rw [hW1] at h1 t1
  by_cases k3 : K = 3
  · have c2 := h1.cell0 hk
    rw [h1at] at c2
    have f2 := h1.unmarked (1 + k * 4)
    have h2 := h1.wrote hk 0 (by decide) (.bool false) (y := ⟨false, y.nx + 1, y.out, y.last⟩) (by rw [h1at]; rfl)
    have t2 := h1.turned (1 + k * 4) (.bool false)
    rw [upd_upd] at h2
    have hR : tookS y K now = ⟨false, y.nx + 1, y.out, y.last⟩ := by unfold tookS; rw [if_pos k3, if_pos k3]
    rw [hR]
    have H2 := Lib.hid h2
    have T2 := Lib.hid (Chg.trans (U := O) t1 t2 (fun _ _ e => e) (fun _ _ e => e))
    have e1 : (K == 3) = true := by simpa using k3
    have e2 : (3 == K) = true := by simpa using k3.symm
    subst hW1
    clear h h1 h2 t1 t2 k3 hR h1at hy
    go_enter Tryd.func21, Tryd.ntmps21
    go_wp2_with fail
    exact bodyPost_end (v := .tuple #[]) (by simp [results, Tryd.results21, go_sem]) rfl ⟨rfl, H2.out, T2.out⟩
  · have e1 : (K == 3) = false := by simpa using k3
    by_cases k1 : K = 1
    · have e3 : (K == 1) = true := by simpa using k1
      have c4 := h.cell hk (i := 1) (u := .int .i64 y.last) (by rw [hy]; rfl)
      have f4 := h.unmarked (1 + k * 4 + 1)
      have c2 := h1.cell0 hk
      rw [h1at] at c2
      have f2 := h1.unmarked (1 + k * 4)
      have h2 := h1.wrote hk 0 (by decide) (.bool true) (y := ⟨true, y.nx + 1, y.out, y.last⟩) (by rw [h1at]; rfl)
      have t2 := h1.turned (1 + k * 4) (.bool true)
      have h2at := upd_at D ((k : Int) + 1) ⟨true, y.nx + 1, y.out, y.last⟩
      rw [upd_upd] at h2
      have c3 := h2.cell hk (i := 1) (u := .int .i64 y.last) (by rw [h2at]; rfl)
      have f3 := h2.unmarked (1 + k * 4 + 1)
      have h3 := h2.wrote hk 1 (by decide) (.int .i64 now) (y := ⟨true, y.nx + 1, y.out, now⟩) (by rw [h2at]; rfl)
      have t3 := h2.turned (1 + k * 4 + 1) (.int .i64 now)
      rw [upd_upd] at h3
      have hR : tookS y K now = ⟨true, y.nx + 1, y.out, now⟩ := by unfold tookS; rw [if_neg k3, if_pos k1, if_neg k3]
      rw [hR]
      have H3 := Lib.hid h3
      have T3 := Lib.hid (Chg.trans (U := O) (Chg.trans (U := O) t1 t2 (fun _ _ e => e) (fun _ _ e => e)) t3 (fun _ _ e => e) (fun _ _ e => e))
      subst hW1
      clear h h1 h2 h3 t1 t2 t3 k3 k1 hR h1at h2at hy
      go_enter Tryd.func21, Tryd.ntmps21
      go_wp2_with fail
      first | exact bodyPost_end (v := .tuple #[]) (by simp [results, Tryd.results21, go_sem]) rfl ⟨rfl, H3.out, T3.out⟩ | exact bodyPost_ret (v := .tuple #[]) (by simp [results, Tryd.results21, go_sem]) rfl ⟨rfl, H3.out, T3.out⟩
    · have e3 : (K == 1) = false := by simpa using k1
      have c3 := h1.cell hk (i := 1) (u := .int .i64 y.last) (by rw [h1at]; rfl)
      have f3 := h1.unmarked (1 + k * 4 + 1)
      have h3 := h1.wrote hk 1 (by decide) (.int .i64 now) (y := ⟨y.on, y.nx + 1, y.out, now⟩) (by rw [h1at]; rfl)
      have t3 := h1.turned (1 + k * 4 + 1) (.int .i64 now)
      rw [upd_upd] at h3
      have hR : tookS y K now = ⟨y.on, y.nx + 1, y.out, now⟩ := by unfold tookS; rw [if_neg k3, if_neg k1, if_neg k3]
      rw [hR]
      have H3 := Lib.hid h3
      have T3 := Lib.hid (Chg.trans (U := O) t1 t3 (fun _ _ e => e) (fun _ _ e => e))
      subst hW1
      clear h h1 h3 t1 t3 k3 k1 hR h1at hy
      go_enter Tryd.func21, Tryd.ntmps21
      go_wp2_with fail
      first | exact bodyPost_end (v := .tuple #[]) (by simp [results, Tryd.results21, go_sem]) rfl ⟨rfl, H3.out, T3.out⟩ | exact bodyPost_ret (v := .tuple #[]) (by simp [results, Tryd.results21, go_sem]) rfl ⟨rfl, H3.out, T3.out⟩
end
end Go.Proofs.YtpkkhmbcbcaelaaDoor

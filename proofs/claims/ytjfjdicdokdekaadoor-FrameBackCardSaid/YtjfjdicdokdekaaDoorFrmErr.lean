/- The stream's error: anew tells a chain of Faults in new memory; Err; die. -/
import Derived.Test.YtjfjdicdokdekaaDoorFrmSmall
set_option linter.unusedSimpArgs false
namespace Go.Proofs.YtjfjdicdokdekaaDoor
open Go.RowKit Go.Mem1

/-- A chain told anew. -/
def Anew (w : World) (l : List (ByteArray × Int)) (n : Int) (e : Ending) (w' : World) : Prop := Below w.heap.size w w' ∧ ∃ v', e = .returned v' ∧ IsErr w' w'.heap.size l n v'
set_option maxRecDepth 100000 in
set_option maxHeartbeats 1000000 in
theorem anew_end (n : Int) (v : Value) (w : World) (hg : ErrType w) (h : IsErr w w.heap.size [] n v) :
    Calls Tryd.prog 35 #[v] w (Anew w [] n) := by
  obtain rfl := show v = .iface 77 (.int .i64 n) from h
  have HG := Lib.hid hg
  clear hg h
  go_enter Tryd.func35, Tryd.ntmps35
  go_wp2_with (go_at_call 34; refine Hid.out ?_)
  refine Lib.hid ?_
  refine (errorsAs_bare n ⟨w.heap.size, 0, none⟩ (.pointer none) _ (((bel_new w (.cells #[.pointer none] 78)).cell (p := ⟨0, 0, none⟩) HG.out.lt).trans HG.out) (by simp)).mono ?_
  rintro e w1 ⟨rfl, B1⟩
  go_wp2_with fail
  go_ret
  exact ⟨bel_trans (bel_new _ _) B1, _, rfl, rfl⟩
set_option maxRecDepth 100000 in
set_option maxHeartbeats 1000000 in
theorem anew_nil (w : World) :
    Calls Tryd.prog 35 #[.nilIface] w fun e w' => e = .returned .nilIface ∧ Below w.heap.size w w' := by
  go_enter Tryd.func35, Tryd.ntmps35
  go_wp2_with (go_at_call 34; refine Hid.out ?_)
  refine Lib.hid ?_
  refine (errorsAsNil _ _).mono ?_
  rintro e w1 ⟨rfl, rfl⟩
  go_wp2_with fail
  go_ret
  exact ⟨rfl, bel_new _ _⟩
set_option maxRecDepth 100000 in
set_option maxHeartbeats 1000000 in
theorem anew_more (p : ByteArray) (k : Int) (l : List (ByteArray × Int)) (n : Int) (b : Nat) (w : World) (hg : ErrType w) (h : IsErr w w.heap.size ((p, k) :: l) n (.iface 78 (.pointer (some ⟨b, 0, none⟩))))
    (ih : ∀ (v : Value) (w1 : World), ErrType w1 → IsErr w1 w1.heap.size l n v → Calls Tryd.prog 35 #[v] w1 (Anew w1 l n)) :
    Calls Tryd.prog 35 #[.iface 78 (.pointer (some ⟨b, 0, none⟩))] w (Anew w ((p, k) :: l) n) := by
  obtain ⟨b', u, e1, hlt, c0, c1, c2, hr⟩ := h
  injection e1 with _ e1; injection e1 with e1; injection e1 with e1; injection e1 with e1
  subst e1
  have HG := Lib.hid hg
  have HR := Lib.hid hr
  have IH := Lib.hid ih
  clear hg hr ih
  go_enter Tryd.func35, Tryd.ntmps35
  go_wp2_with (go_at_call 34; refine Hid.out ?_)
  refine Lib.hid ?_
  refine (errorsAs_hit ⟨b, 0, none⟩ w.heap.size (.pointer none) _ w.heap.size (Nat.le_refl _) (((bel_new w (.cells #[.pointer none] 78)).cell (p := ⟨0, 0, none⟩) HG.out.lt).trans HG.out) (by simp) (by simp)).mono ?_
  rintro e w1 ⟨rfl, hv1, B1⟩
  have B01 : Below w.heap.size w w1 := (bel_new w _).trans B1
  have d0 := (B01.cell (p := ⟨b, 0, none⟩) hlt).trans c0
  have d1 := (B01.cell (p := ⟨b, 1, none⟩) hlt).trans c1
  have d2 := (B01.cell (p := ⟨b, 2, none⟩) hlt).trans c2
  clear B1 c0 c1 c2
  go_wp2_with fail
  have hgt := HG.out.lt
  have hb2 : b < w1.heap.size := Nat.lt_of_lt_of_le hlt B01.size
  have hw2 : w.heap.size < w1.heap.size := World.block_lt_of_cell? w1 _ hv1
  have hx := fun (w' : World) (hb : Below w1.heap.size w1 w') => IH.out u w' (((B01.trans (hb.mono B01.size)).cell (p := ⟨0, 0, none⟩) hgt).trans HG.out) ((HR.out.carry (B01.trans (hb.mono B01.size))).wider (Nat.le_trans B01.size hb.size))
  have HX := Lib.hid hx
  have keepS := fun (w' : World) (hb : Below w1.heap.size w1 w') => (⟨(hb.cell (p := ⟨w.heap.size, 0, none⟩) hw2).trans hv1, (hb.cell (p := ⟨b, 0, none⟩) hb2).trans d0, (hb.cell (p := ⟨b, 1, none⟩) hb2).trans d1, (hb.cell (p := ⟨b, 2, none⟩) hb2).trans d2⟩ : w'.cell? ⟨w.heap.size, 0, none⟩ = some (.pointer (some ⟨b, 0, none⟩)) ∧ w'.cell? ⟨b, 0, none⟩ = some (.string p) ∧ w'.cell? ⟨b, 1, none⟩ = some (.int .i64 k) ∧ w'.cell? ⟨b, 2, none⟩ = some u)
  have KS := Lib.hid keepS
  clear hx keepS
  go_region_held3 (fun w' => w'.cell? ⟨w.heap.size, 0, none⟩ = some (.pointer (some ⟨b, 0, none⟩)) ∧ w'.cell? ⟨b, 0, none⟩ = some (.string p) ∧ w'.cell? ⟨b, 1, none⟩ = some (.int .i64 k) ∧ w'.cell? ⟨b, 2, none⟩ = some u)
    (first | exact ⟨hv1, d0, d1, d2⟩ | exact KS.out _ B12 | exact KS.out _ (bel_alloc B12 _))
    ((first | (go_at_call 35; refine (HX.out w1.drew (Below.refl _ _).drew).mono ?_; rintro e w2 ⟨B2, v', rfl, hE2⟩
               have B12 := (Below.refl w1.heap.size w1).drew.trans B2
               obtain ⟨t', x', rfl⟩ := hE2.notNil
               have HE2 := Lib.hid hE2
               clear hE2)))
  all_goals
    have B02 : Below w.heap.size w w2 := B01.trans (B12.mono B01.size)
    have hE3 := (HE2.out.carry (bel_new w2 (.cells #[.string p, .int .i64 k, .iface t' x'] 82))).wider (show w2.heap.size ≤ (w2.alloc (.cells #[.string p, .int .i64 k, .iface t' x'] 82)).heap.size by simp)
    have HE3 := Lib.hid hE3
    clear hE3
    go_wp2_with fail
    go_ret
    refine ⟨bel_alloc B02 _, _, rfl, w2.heap.size, .iface t' x', rfl, by simp, by simp, by simp, by simp, HE3.out⟩
theorem anew_any : ∀ (l : List (ByteArray × Int)) (n : Int) (v : Value) (w : World), ErrType w → IsErr w w.heap.size l n v → Calls Tryd.prog 35 #[v] w (Anew w l n)
  | [], n, v, w, hg, h => anew_end n v w hg h
  | (p, k) :: l, n, v, w, hg, h => by
    obtain ⟨b, u, rfl, _⟩ := show ∃ b u, v = .iface 78 (.pointer (some ⟨b, 0, none⟩)) ∧ True from (by obtain ⟨b, u, e, _⟩ := h; exact ⟨b, u, e, trivial⟩)
    exact anew_more p k l n b w hg h (fun v w1 hg1 h1 => anew_any l n v w1 hg1 h1)
/-- What Err tells of a stream. -/
def ErrOf (w' : World) (s : FM.FS) (v : Value) : Prop := (s.e = 0 → v = .nilIface) ∧ (s.e ≠ 0 → ∃ p k r b, s.p = (p, k) :: r ∧ v = .iface 78 (.pointer (some ⟨b, 0, none⟩)) ∧ IsErr w' w'.heap.size s.p (s.e : Int) v)
theorem ErrOf.carry {w w' : World} {s : FM.FS} {v : Value} (h : ErrOf w s v) (hb : Below w.heap.size w w') : ErrOf w' s v :=
  ⟨h.1, fun he => by
    obtain ⟨p, k, r, b, e1, e2, e3⟩ := h.2 he
    exact ⟨p, k, r, b, e1, e2, (e3.carry hb).wider hb.size⟩⟩
theorem StrAt.parts {w : World} {B g : Nat} {R : Option Nat} {s : FM.FS} (h : StrAt w B g R s) (he : s.e ≠ 0) : ∃ p k r, s.p = (p, k) :: r := by
  obtain ⟨A, c, v, hr, hb, ho, hx, hB, hl, h0, h1⟩ := h
  obtain ⟨b, e, hE⟩ := h1 he
  rw [e] at hE
  match hp : s.p with
  | [] =>
    rw [hp] at hE
    have : Value.iface 78 (.pointer (some ⟨b, 0, none⟩)) = .iface 77 (.int .i64 (s.e : Int)) := hE
    injection this with h1 _
    exact absurd h1 (by decide)
  | (p, k) :: r => exact ⟨p, k, r, rfl⟩
set_option maxHeartbeats 400000 in
theorem strErr {w : World} {B g : Nat} {R : Option Nat} {s : FM.FS} (hg : ErrType w) (h : StrAt w B g R s) :
    Calls Tryd.prog 16 #[.pointer (some ⟨g, 0, none⟩)] w fun e w' => Below w.heap.size w w' ∧ ∃ v, e = .returned v ∧ ErrOf w' s v := by
  have hpp := fun he => h.parts he
  obtain ⟨A, c, v, hr, hb, ho, hx, hB, hl, h0, h1⟩ := h
  have c2 := (hb.reads 2).trans (show _ = some v from rfl)
  by_cases he : s.e = 0
  · obtain rfl := h0 he
    have HN := Lib.hid (anew_nil w)
    have HE := Lib.hid he
    clear hr hb ho hx hB hl h0 h1 hg hpp he
    go_enter Tryd.func16, Tryd.ntmps16
    go_wp2_with fail
    refine HN.out.mono ?_
    rintro e w1 ⟨rfl, B1⟩
    go_wp2_with fail
    go_ret
    exact ⟨B1, _, rfl, fun _ => rfl, fun h => absurd HE.out h⟩
  · obtain ⟨b, rfl, hE⟩ := h1 he
    obtain ⟨p, k, r, hp⟩ := hpp he
    have hA := anew_any s.p s.e _ w hg hE
    have HA := Lib.hid hA
    have HE := Lib.hid he
    have HP := Lib.hid hp
    clear hr hb ho hx hB hl h0 h1 hg hpp he hA hE hp
    go_enter Tryd.func16, Tryd.ntmps16
    go_wp2_with fail
    refine HA.out.mono ?_
    rintro e w1 ⟨B1, v', rfl, hE'⟩
    obtain ⟨b', u', rfl, _⟩ : ∃ b' u', v' = .iface 78 (.pointer (some ⟨b', 0, none⟩)) ∧ u' = 0 := by
      rw [HP.out] at hE'
      obtain ⟨b', u', e', _⟩ := hE'
      exact ⟨b', 0, e', rfl⟩
    have HE' := Lib.hid hE'
    clear hE'
    go_wp2_with fail
    go_ret
    exact ⟨B1, _, rfl, fun h => absurd h HE.out, fun _ => ⟨p, k, r, b', HP.out, rfl, HE'.out⟩⟩
end Go.Proofs.YtjfjdicdokdekaaDoor

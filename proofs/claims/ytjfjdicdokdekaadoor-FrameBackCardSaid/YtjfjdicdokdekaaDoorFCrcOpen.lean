/- Contract of the landed crc's Open. -/
import Derived.Test.YtjfjdicdokdekaaDoorFCrcFns
import Derived.Deep.RegionHeld3
namespace Go.Proofs.YtjfjdicdokdekaaDoor
open Go.RowKit Go.Mem1

def Opened (w : World) (n : Nat) (l : List Nat) (e : Ending) (w' : World) : Prop := Below w.heap.size w w' ∧
    ((sealed l ∧ ∃ A1 c1, e = .returned (.tuple #[.slice A1 (n - 4) c1, .nilIface]) ∧ (A1 = none → c1 = 0) ∧ w'.ownsRow w.heap.size 5 1 (.slice A1 (n - 4) c1) (n - 4) ((l.take (n - 4)).map bv)) ∨
     (¬ sealed l ∧ ∃ v, e = .returned (.tuple #[.slice none 0 0, v]) ∧ IsErr w' w'.heap.size [(sumBytes, (n : Int))] (if n < 4 then 3 else 14) v))

set_option maxRecDepth 100000 in
set_option maxHeartbeats 1000000 in
theorem open_short (A : Option Addr) (n c : Nat) (l : List Nat) (w : World) (hn : n < 4) (h : Byt w w.heap.size A n l) :
    Calls Tryd.prog 58 #[.slice A n c] w (Opened w n l) := by
  have hs : ¬ sealed l := fun hs => by have := hs.1; have := h.len; omega
  have HS := Lib.hid hs
  clear hs h
  have hd : decide ((n : Int) - 4 < 0) = true := by simp; omega
  have hd2 : decide ((n : Int) < 4) = true := by simp; omega
  go_enter Tryd.func58, Tryd.ntmps58
  go_wp2
  go_ret2
  refine ⟨bel_new _ _, .inr ⟨HS.out, _, rfl, ?_⟩⟩
  rw [if_pos hn]
  exact ⟨w.heap.size, _, rfl, by simp, by simp [sumBytes], by simp, by simp, rfl⟩

theorem sub4 (m : Nat) : ((m : Int) + 4 - 4) = (m : Int) := by omega

set_option maxRecDepth 100000 in
set_option maxHeartbeats 1000000 in
theorem open_long (B : Bool) (m0 m1 m2 m3 x0 x1 x2 x3 : Nat) (b o m c : Nat) (l : List Nat) (w : World) (hT : Halves w) (hn : m + 4 ≤ 1000000) (hmc : m + 4 ≤ c) (h : Byt w w.heap.size (some ⟨b, o, none⟩) (m + 4) l)
    (hm : le4 (sumOf (l.take m)) = [m0, m1, m2, m3]) (hx : l.drop m = [x0, x1, x2, x3]) (hB : decide ([m0, m1, m2, m3] = [x0, x1, x2, x3]) = B) :
    Calls Tryd.prog 58 #[.slice (some ⟨b, o, none⟩) (m + 4) c] w (Opened w (m + 4) l) := by
  have hmb : ∀ x ∈ [m0, m1, m2, m3], x < 256 := by rw [← hm]; simp only [le4, List.mem_cons, List.not_mem_nil, or_false]; omega
  have hxb : ∀ x ∈ [x0, x1, x2, x3], x < 256 := by rw [← hx]; exact fun x hx => h.bnd x (List.mem_of_mem_drop hx)
  have hlen := h.len
  have eq := eq4 m0 m1 m2 m3 x0 x1 x2 x3 hmb hxb
  rw [hB] at eq
  have hbody : Byt w w.heap.size (some ⟨b, o, none⟩) m (l.take m) := by
    refine ⟨⟨by simp; omega, fun _ => ?_⟩, fun x hx => h.bnd x (List.mem_of_mem_take hx)⟩
    obtain ⟨b', o', e, hlt, hc⟩ := h.rd.cells (by omega)
    exact ⟨b', o', e, hlt, fun k u hu => hc k u (by
      rw [List.map_take, List.getElem?_take] at hu
      split at hu
      · exact hu
      · cases hu)⟩
  have hcell : ∀ (j x : Nat), l[j]? = some x → b < w.heap.size ∧ w.cell? ⟨b, o + j, none⟩ = some (.int .u8 (x : Int)) := by
    obtain ⟨b', o', e, hlt, hc⟩ := h.rd.cells (by omega)
    injection e with e; injection e with e1 e2; subst e1; subst e2
    exact fun j x hj => ⟨hlt, hc j _ (by rw [List.getElem?_map, hj]; rfl)⟩
  have hd : ∀ j : Nat, (l.drop m)[j]? = l[m + j]? := fun j => by rw [List.getElem?_drop]
  rw [hx] at hd
  have k0 := (hcell m x0 (hd 0).symm).2
  have k1 := (hcell (m + 1) x1 (hd 1).symm).2
  have k2 := (hcell (m + 2) x2 (hd 2).symm).2
  have k3 := (hcell (m + 3) x3 (hd 3).symm).2
  have hbl := (hcell m x0 (hd 0).symm).1
  rw [← Nat.add_assoc] at k1 k2 k3
  clear hd hcell
  have hse : B = true ↔ sealed l := by
    rw [← hB, decide_eq_true_eq, ← hm, ← hx]
    unfold sealed
    rw [hlen, Nat.add_sub_cancel]
    exact ⟨fun h => ⟨by omega, h.symm⟩, fun h => h.2.symm⟩
  have hsa := sub4 m
  have hne : ¬ c = m := by omega
  have q1 : (0 : Int) ≤ (m : Int) := by omega
  have q2 : (m : Int) ≤ (m : Int) + 4 := by omega
  have q3 : (m : Int) + 4 ≤ (c : Int) := by omega
  have q4 : (m : Int) ≤ (c : Int) := by omega
  have HM := Lib.hid hm; clear hm
  have HX := Lib.hid hx; clear hx
  have HB := Lib.hid hB; clear hB
  have HSE := Lib.hid hse; clear hse
  have HL := Lib.hid hlen; clear hlen
  have H := Lib.hid h; clear h
  have HBo := Lib.hid hbody; clear hbody
  have HT := Lib.hid hT; clear hT
  go_enter Tryd.func58, Tryd.ntmps58
  go_wp2
  have aa : ∀ w : World, (Instr.arrayAt 124 (.slice (some ⟨b, o + m, none⟩) 4 (c - m))).run Tryd.prog w = .ok (.pointer (some ⟨b, o + m, none⟩)) w := fun _ => rfl
  go_region_held3 (fun w' => w'.cell? ⟨b, o + m, none⟩ = some (.int .u8 (x0 : Int)) ∧ w'.cell? ⟨b, o + m + 1, none⟩ = some (.int .u8 (x1 : Int)) ∧ w'.cell? ⟨b, o + m + 2, none⟩ = some (.int .u8 (x2 : Int)) ∧ w'.cell? ⟨b, o + m + 3, none⟩ = some (.int .u8 (x3 : Int)))
    (first | exact ⟨k0, k1, k2, k3⟩ | exact ⟨j0, j1, j2, j3⟩)
    ((first | (go_at_call 68; refine (mark_any m0 m1 m2 m3 (some ⟨b, o, none⟩) m c (l.take m) w.drew HM.out HT.out (by omega) ⟨HBo.out.rd.drew, HBo.out.bnd⟩).mono ?_; rintro e w1 ⟨rfl, hb1⟩
               have j0 := (hb1.cell (p := ⟨b, o + m, none⟩) hbl).trans k0
               have j1 := (hb1.cell (p := ⟨b, o + m + 1, none⟩) hbl).trans k1
               have j2 := (hb1.cell (p := ⟨b, o + m + 2, none⟩) hbl).trans k2
               have j3 := (hb1.cell (p := ⟨b, o + m + 3, none⟩) hbl).trans k3)))
  all_goals
    have hb : Below w.heap.size w w1 := bel_trans ((Below.refl w.heap.size w).drew) hb1
    have hbo1 : Byt w1 w1.heap.size (some ⟨b, o, none⟩) m (l.take m) := (HBo.out.carry hb).wider hb.size
    clear hb1 j0 j1 j2 j3 k0 k1 k2 k3
    have HBB := Lib.hid hbo1; clear hbo1
    cases B with
    | true =>
      have hs := HSE.out.1 rfl
      have HS := Lib.hid hs; clear hs
      go_wp2_with fail
      refine (clone_any (some ⟨b, o, none⟩) m c (l.take m) w1 (by omega) (by intro h; cases h) HBB.out).mono ?_
      rintro e w2 ⟨hb2, A1, c1, rfl, _, hn1, hby⟩
      have HN1 := Lib.hid hn1; clear hn1
      have HBY := Lib.hid (own_wider hby hb.size); clear hby
      go_wp2
      go_ret2
      refine ⟨bel_trans hb hb2, .inl ⟨HS.out, A1, c1, rfl, HN1.out, HBY.out⟩⟩
    | false =>
      have hs : ¬ sealed l := fun h => by have := HSE.out.2 h; cases this
      have HS := Lib.hid hs; clear hs
      go_wp2
      go_ret2
      refine ⟨bel_trans hb (bel_new _ _), .inr ⟨HS.out, _, rfl, ?_⟩⟩
      rw [if_neg (by omega)]
      exact ⟨w1.heap.size, _, rfl, by simp, by simp [sumBytes], by simp, by simp, rfl⟩

theorem open_any (A : Option Addr) (n c : Nat) (l : List Nat) (w : World) (hT : Halves w) (hn : n ≤ 1000000) (hnc : n ≤ c) (h : Byt w w.heap.size A n l) :
    Calls Tryd.prog 58 #[.slice A n c] w (Opened w n l) := by
  by_cases h4 : n < 4
  · exact open_short A n c l w h4 h
  · obtain ⟨m, rfl⟩ : ∃ m, n = m + 4 := ⟨n - 4, by omega⟩
    obtain ⟨b, o, rfl, _, _⟩ := h.rd.cells (by omega)
    have hl : (l.drop m).length = 4 := by have := h.len; rw [List.length_drop]; omega
    match hd : l.drop m, hl with
    | [x0, x1, x2, x3], _ => exact open_long _ _ _ _ _ x0 x1 x2 x3 b o m c l w hT hn hnc h rfl hd rfl
theorem sealed_made (l : List Nat) : sealed (l ++ le4 (sumOf l)) := by
  have h4 : (le4 (sumOf l)).length = 4 := rfl
  refine ⟨by rw [List.length_append, h4]; omega, ?_⟩
  rw [List.length_append, h4, Nat.add_sub_cancel, List.drop_left' rfl, List.take_left' rfl]
end Go.Proofs.YtjfjdicdokdekaaDoor

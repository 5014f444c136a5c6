/- The landed book: the closure of Insert, sort.Search over it, Insert. -/
import Derived.Test.YtekppjigckjgiaaCbkCut
import Derived.Test.YtekppjigckjgiaaCbkSIn3
import Derived.StillTailTactics
set_option linter.unusedSimpArgs false
namespace Go.Proofs.Ytekppjigckjgiaa
open Go.RowKit Go.Mem1 Go.CbkMath

set_option maxRecDepth 100000 in
set_option maxHeartbeats 2000000 in
/-- The closure: whether the order is ahead of the i-th one. -/
theorem aheadI {w : World} {bo bh : Nat} {p : Addr} {o x : CO} {b n c : Nat} {i : Nat} (hi : i < n) (hs : o.si = 1 ∨ o.si = 2)
    (xo : Box w bo 31 (co1 o).toArray) (c2 : w.cell? ⟨bh, 0, none⟩ = some (.pointer (some p))) (c3 : w.cell? p = some (.slice (some ⟨b, 0, none⟩) n c))
    (k0 : w.cell? ⟨b, i * 5, none⟩ = some (.int .i64 x.id)) (k1 : w.cell? ⟨b, i * 5 + 1, none⟩ = some (.int .i64 x.ow)) (k2 : w.cell? ⟨b, i * 5 + 2, none⟩ = some (.int .i64 x.si)) (k3 : w.cell? ⟨b, i * 5 + 3, none⟩ = some (.int .i64 x.ne)) (k4 : w.cell? ⟨b, i * 5 + 4, none⟩ = some (.int .i64 x.un)) :
    Calls Try.prog 31 #[.int .i64 i, .pointer (some ⟨bo, 0, none⟩), .pointer (some ⟨bh, 0, none⟩)] w fun e w' => e = .returned (.bool (aheadC o x)) ∧ Below w.heap.size w w' := by
  have i1 : (i : Int) < (n : Int) := by omega
  have i2 : (0 : Int) ≤ (i : Int) := by omega
  have o0 : w.cell? ⟨bo, 0, none⟩ = some (.int .i64 o.id) := xo.reads 0
  have o1 : w.cell? ⟨bo, 1, none⟩ = some (.int .i64 o.ow) := xo.reads 1
  have o2 : w.cell? ⟨bo, 2, none⟩ = some (.int .i64 o.si) := xo.reads 2
  have o3 : w.cell? ⟨bo, 3, none⟩ = some (.int .i64 o.ne) := xo.reads 3
  have o4 : w.cell? ⟨bo, 4, none⟩ = some (.int .i64 o.un) := xo.reads 4
  have HA := Lib.hid (fun w' => bahead_any (b := x) hs w')
  clear xo hs
  unfold coV at HA
  obtain ⟨R, hR⟩ : ∃ R, aheadC o x = R := ⟨_, rfl⟩
  rw [hR] at HA ⊢
  clear hR
  go_enter Try.func31, Try.ntmps31
  go_wp2_with fail
  go_still_tail 7, (by kernel_rfl)
  change wpList _ _ _ _ _ w.drew
  obtain ⟨w2, hw2⟩ : ∃ w2, w.drew = w2 := ⟨_, rfl⟩
  have hb := Lib.hid (show Below w.heap.size w w2 by rw [← hw2]; exact (Below.refl _ _).drew)
  rw [hw2]
  clear hw2
  go_wp2_with (go_at_call 21; refine (HA.out _).mono ?_; rintro e w3 ⟨rfl, hb3⟩; replace hb3 := Lib.hid hb3)
  go_ret
  exact ⟨rfl, bel_trans hb.out hb3.out⟩
/-- A loop's state in Search: below lo all is false, from hi on all is true. -/
def SeaJ (n : Nat) (p : Nat → Bool) (lo hi : Nat) : Prop := lo ≤ hi ∧ hi ≤ n ∧ (∀ t, t < lo → p t = false) ∧ ∀ t, hi ≤ t → t < n → p t = true
set_option maxRecDepth 100000 in
set_option maxHeartbeats 2000000 in
/-- sort.Search over the closure. -/
theorem search_any {cb : Array Value} {n : Nat} {p : Nat → Bool} {w : World} (hn : n ≤ 256)
    (hf : ∀ w', Below w.heap.size w w' → ∀ i, i < n → Calls Try.prog 31 (#[.int .i64 i] ++ cb) w' fun e w'' => e = .returned (.bool (p i)) ∧ Below w'.heap.size w' w'')
    (hm : ∀ a b, a ≤ b → b < n → p a = true → p b = true) :
    Calls Try.prog 30 #[.int .i64 n, .func (.func 31) #[] cb] w fun e w' => ∃ r : Nat, e = .returned (.int .i64 r) ∧ SeaJ n p r r ∧ Below w.heap.size w w' := by
  have HF := Lib.hid hf
  have HM := Lib.hid hm
  clear hf hm
  go_enter Try.func30, Try.ntmps30
  go_wp2_with fail
  go_loopw [5, 6] (fun v5 v6 wr => ∃ lo hi : Nat, v5 = .int .i64 lo ∧ v6 = .int .i64 hi ∧ Hid (SeaJ n p lo hi ∧ Below w.heap.size w wr)) (fun v5 v6 _ => (intOf v6).toNat - (intOf v5).toNat)
  case atStart => exact ⟨0, n, rfl, rfl, Lib.hid ⟨⟨Nat.zero_le _, Nat.le_refl _, fun t ht => absurd ht (Nat.not_lt_zero _), fun t h1 h2 => by omega⟩, Below.refl _ _⟩⟩
  case round =>
    obtain ⟨lo, hi, rfl, rfl, hJ⟩ := hrel
    obtain ⟨⟨h1, h2, h3, h4⟩, hb⟩ := hJ.out
    by_cases hlt : lo < hi
    · have hc := HF.out wr hb ((lo + hi) / 2) (by omega)
      rw [show (((lo + hi) / 2 : Nat) : Int) = ((lo : Int) + (hi : Int)) / 2 by omega] at hc
      have d1 : decide ((lo : Int) < (hi : Int)) = true := by simp; omega
      cases hp : p ((lo + hi) / 2) <;> rw [hp] at hc
      · have hN : Hid (SeaJ n p ((lo + hi) / 2 + 1) hi) := Lib.hid ⟨by omega, h2, fun t ht => (by
          cases h : p t with
          | false => rfl
          | true => have := HM.out t ((lo + hi) / 2) (by omega) (by omega) h; rw [hp] at this; cases this), h4⟩
        replace hb := Lib.hid hb
        replace hc := Lib.hid hc
        clear hp h3 h4 hJ
        go_wp2_with (go_at_call 31; refine hc.out.mono ?_; rintro e w2 ⟨rfl, hb2⟩; replace hb2 := Lib.hid hb2)
        go_roundw
        case rel => exact ⟨(lo + hi) / 2 + 1, hi, by rw [show ((lo : Int) + (hi : Int)) / 2 + 1 = (((lo + hi) / 2 + 1 : Nat) : Int) by omega], rfl, Lib.hid ⟨hN.out, bel_trans hb.out hb2.out⟩⟩
        case measure => simp [intOf]; omega
      · have hN : Hid (SeaJ n p lo ((lo + hi) / 2)) := Lib.hid ⟨by omega, by omega, h3, fun t h5 h6 => HM.out ((lo + hi) / 2) t h5 h6 hp⟩
        replace hb := Lib.hid hb
        replace hc := Lib.hid hc
        clear hp h3 h4 hJ
        go_wp2_with (go_at_call 31; refine hc.out.mono ?_; rintro e w2 ⟨rfl, hb2⟩; replace hb2 := Lib.hid hb2)
        go_roundw
        case rel => exact ⟨lo, (lo + hi) / 2, rfl, by rw [show ((lo : Int) + (hi : Int)) / 2 = (((lo + hi) / 2 : Nat) : Int) by omega], Lib.hid ⟨hN.out, bel_trans hb.out hb2.out⟩⟩
        case measure => simp [intOf]; omega
    · obtain rfl : lo = hi := by omega
      have d1 : decide ((lo : Int) < (lo : Int)) = false := by simp
      replace hb := Lib.hid hb
      clear h3 h4
      go_wp2_with fail
      go_ret
      exact ⟨lo, rfl, hJ.out.1, hb.out⟩
/-- Search's answer is the place at which an order goes into a row. -/
theorem sea_cut {o : CO} {L : List CO} {r : Nat} (h : SeaJ L.length (fun i => aheadC o (L.getD i default)) r r) : cutC o L = r := by
  obtain ⟨_, h1, h2, h3⟩ := h
  refine cut_at h1 (fun i t hi ht => ?_) (fun t ht => ?_)
  · have := h2 i hi
    simp only [List.getD_eq_getElem?_getD, ht, Option.getD_some] at this
    exact this
  · have := h3 r (Nat.le_refl _) (at_lt ht)
    simp only [List.getD_eq_getElem?_getD, ht, Option.getD_some] at this
    exact this
/-- sort.Search over a row. -/
theorem bsearch_any {w : World} {bo bh B : Nat} {p : Addr} {v : Value} {o : CO} {L : List CO} (hs : o.si = 1 ∨ o.si = 2) (xo : Box w bo 31 (co1 o).toArray) {tH : TypeId} (xh : Box w bh tH #[.pointer (some p)])
    (hp : w.cell? p = some v) (hr : w.ownsRow B 31 5 v L.length (L.flatMap co1)) (hm : L.length ≤ 256) (hL : Sorted o.si L) :
    Calls Try.prog 30 #[.int .i64 L.length, .func (.func 31) #[] #[.pointer (some ⟨bo, 0, none⟩), .pointer (some ⟨bh, 0, none⟩)]] w fun e w' => e = .returned (.int .i64 (cutC o L)) ∧ Below w.heap.size w w' := by
  refine (search_any (p := fun i => aheadC o (L.getD i default)) hm (fun w' hb i hi => ?_) (fun a b hab hb hp => ?_)).mono fun e w' ⟨r, h1, h2, h3⟩ => ⟨by rw [h1, sea_cut h2], h3⟩
  · obtain ⟨x, hx⟩ : ∃ x, L[i]? = some x := ⟨L[i], by simp [hi]⟩
    have hg : L.getD i default = x := by simp [List.getD_eq_getElem?_getD, hx]
    obtain ⟨b, c, e, h1, h2, h3, h4, k0, k1, k2, k3, k4, _⟩ := co_cells (own_keep hr hb) hx
    have hcp : w'.cell? p = some v := (hb.cell (World.block_lt_of_cell? _ _ hp)).trans hp
    rw [e] at hcp
    rw [hg]
    exact aheadI h1 hs (xo.kept_below hb xo.there) ((xh.kept_below hb xh.there).reads 0) hcp k0 k1 k2 k3 k4
  · have ha : a < L.length := by omega
    have e1 : L[a]? = some (L.getD a default) := by simp [List.getD_eq_getElem?_getD, ha]
    have e2 : L[b]? = some (L.getD b default) := by simp [List.getD_eq_getElem?_getD, hb]
    exact hL.mono rfl hab e1 e2 hp
end Go.Proofs.Ytekppjigckjgiaa

/- past: how many of a row's times are past: its closure, sort.Search over it. -/
import Derived.Test.YtekeciciajbnnaaKilMem
import Derived.BigQuiet
set_option linter.unusedSimpArgs false
namespace Go.Proofs.Ytekeciciajbnnaa
open Go.RowKit Go.Mem1 Go.MapRow Go.KilMath

theorem bel_drewN (w : World) (q : Nat) : Below w.heap.size w (w.drewN q) := ⟨rfl, rfl, rfl, Nat.le_refl _, fun _ _ => rfl⟩
set_option maxRecDepth 100000 in
set_option maxHeartbeats 2000000 in
/-- The closure: whether the i-th time is in the window. -/
theorem inwin_any {w : World} {bn br bk g blk n c : Nat} {now win t : Int} {i : Nat} (hi : i < n)
    (c1 : w.cell? ⟨bn, 0, none⟩ = some (.int .i64 now)) (c2 : w.cell? ⟨br, 0, none⟩ = some (.slice (some ⟨blk, 0, none⟩) n c)) (c4 : w.cell? ⟨bk, 0, none⟩ = some (.pointer (some ⟨g, 0, none⟩))) (c5 : w.cell? ⟨g, 1, none⟩ = some (.int .i64 win)) (c6 : w.cell? ⟨blk, i, none⟩ = some (.int .i64 t))
    (ht0 : 0 ≤ t) (ht : t ≤ now) (hnow : now ≤ 1099511627776) (hw : 1 ≤ win) (hw2 : win ≤ 1000000) :
    Calls Try.prog 17 #[.int .i64 i, .pointer (some ⟨bn, 0, none⟩), .pointer (some ⟨br, 0, none⟩), .pointer (some ⟨bk, 0, none⟩)] w fun e w' => e = .returned (.bool (decide (now - t < win))) ∧ Below w.heap.size w w' := by
  have i1 : (i : Int) < (n : Int) := by omega
  have i2 : (0 : Int) ≤ (i : Int) := by omega
  go_enter Try.func17, Try.ntmps17
  go_wp2_with fail
  go_quiet (fail)
  go_wp2_with fail
  go_ret
  exact ⟨rfl, bel_drewN w _⟩
/-- A loop's state in Search: below lo all is false, from hi on all is true. -/
def SeaJ (n : Nat) (p : Nat → Bool) (lo hi : Nat) : Prop := lo ≤ hi ∧ hi ≤ n ∧ (∀ t, t < lo → p t = false) ∧ ∀ t, hi ≤ t → t < n → p t = true
set_option maxRecDepth 100000 in
set_option maxHeartbeats 2000000 in
/-- sort.Search over the closure. -/
theorem search_any {cb : Array Value} {n : Nat} {p : Nat → Bool} {w : World} (hn : n ≤ 1000)
    (hf : ∀ w', Below w.heap.size w w' → ∀ i, i < n → Calls Try.prog 17 (#[.int .i64 i] ++ cb) w' fun e w'' => e = .returned (.bool (p i)) ∧ Below w'.heap.size w' w'')
    (hm : ∀ a b, a ≤ b → b < n → p a = true → p b = true) :
    Calls Try.prog 16 #[.int .i64 n, .func (.func 17) #[] cb] w fun e w' => ∃ r : Nat, e = .returned (.int .i64 r) ∧ SeaJ n p r r ∧ Below w.heap.size w w' := by
  have HF := Lib.hid hf
  have HM := Lib.hid hm
  clear hf hm
  go_enter Try.func16, Try.ntmps16
  go_wp2_with fail
  go_loopw [5, 6] (fun v5 v6 wr => ∃ lo hi : Nat, v5 = .int .i64 lo ∧ v6 = .int .i64 hi ∧ Hid (SeaJ n p lo hi ∧ Below w.heap.size w wr)) (fun v5 v6 _ => (intOf v6).toNat - (intOf v5).toNat)
  case atStart => exact ⟨0, n, rfl, rfl, Lib.hid ⟨⟨Nat.zero_le _, Nat.le_refl _, fun t ht => absurd ht (Nat.not_lt_zero _), fun t h1 h2 => by omega⟩, Below.refl _ _⟩⟩
  case round =>
    obtain ⟨lo, hi, rfl, rfl, hJ⟩ := hrel
    obtain ⟨⟨h1, h2, h3, h4⟩, hb⟩ := hJ.out
    by_cases hlt : lo < hi
    · have hc := HF.out wr hb ((lo + hi) / 2) (by omega)
      rw [show (((lo + hi) / 2 : Nat) : Int) = ((lo : Int) + (hi : Int)) / 2 by omega] at hc
      have d1 : decide ((lo : Int) < (hi : Int)) = true := by simp; omega
      cases hp : p ((lo + hi) / 2) <;> rw [hp] at hc
      · have hN : Hid (SeaJ n p ((lo + hi) / 2 + 1) hi) := Lib.hid ⟨by omega, h2, fun t ht => (by
          cases h : p t with
          | false => rfl
          | true => have := HM.out t ((lo + hi) / 2) (by omega) (by omega) h; rw [hp] at this; cases this), h4⟩
        replace hb := Lib.hid hb
        replace hc := Lib.hid hc
        clear hp h3 h4 hJ
        go_wp2_with (go_at_call 17; refine hc.out.mono ?_; rintro e w2 ⟨rfl, hb2⟩; replace hb2 := Lib.hid hb2)
        go_roundw
        case rel => exact ⟨(lo + hi) / 2 + 1, hi, by rw [show ((lo : Int) + (hi : Int)) / 2 + 1 = (((lo + hi) / 2 + 1 : Nat) : Int) by omega], rfl, Lib.hid ⟨hN.out, bel_trans hb.out hb2.out⟩⟩
        case measure => simp [intOf]; omega
      · have hN : Hid (SeaJ n p lo ((lo + hi) / 2)) := Lib.hid ⟨by omega, by omega, h3, fun t h5 h6 => HM.out ((lo + hi) / 2) t h5 h6 hp⟩
        replace hb := Lib.hid hb
        replace hc := Lib.hid hc
        clear hp h3 h4 hJ
        go_wp2_with (go_at_call 17; refine hc.out.mono ?_; rintro e w2 ⟨rfl, hb2⟩; replace hb2 := Lib.hid hb2)
        go_roundw
        case rel => exact ⟨lo, (lo + hi) / 2, rfl, by rw [show ((lo : Int) + (hi : Int)) / 2 = (((lo + hi) / 2 : Nat) : Int) by omega], Lib.hid ⟨hN.out, bel_trans hb.out hb2.out⟩⟩
        case measure => simp [intOf]; omega
    · obtain rfl : lo = hi := by omega
      have d1 : decide ((lo : Int) < (lo : Int)) = false := by simp
      replace hb := Lib.hid hb
      clear h3 h4
      go_wp2_with fail
      go_ret
      exact ⟨lo, rfl, hJ.out.1, hb.out⟩
/-- Search's answer is the number of times that are past. -/
theorem sea_past {ts : List Int} {now win : Int} {r : Nat} (h : SeaJ ts.length (fun i => decide (now - ts.getD i 0 < win)) r r) : pastN ts now win = r := by
  obtain ⟨_, h1, h2, h3⟩ := h
  refine pastN_at h1 (fun i t hi ht => ?_) (fun i t hi ht => ?_)
  · have := h2 i hi
    simp only [List.getD_eq_getElem?_getD, ht, Option.getD_some] at this
    unfold out
    rw [this]; rfl
  · have := h3 i hi (List.getElem?_eq_some_iff.1 ht).1
    simp only [List.getD_eq_getElem?_getD, ht, Option.getD_some] at this
    unfold out
    rw [this]; rfl
set_option maxRecDepth 100000 in
set_option maxHeartbeats 2000000 in
theorem past_any {w : World} {B g : Nat} {f win : Int} {m1 m2 : Option Nat} {L : RL} {O : OL} {T : Int → List Int} {D : Int → Prop} (h : SwAt w B g f win m1 m2 L O T D) {v : Value} {ts : List Int} {last now : Int} (ht : Times w B v ts) (hg : Tms ts now) (hnow : now ≤ 1099511627776) :
    Calls Try.prog 14 #[.pointer (some ⟨g, 0, none⟩), .agg #[v, .int .i64 last], .int .i64 now] w fun e w' => e = .returned (.int .i64 (pastN ts now win)) ∧ Below w.heap.size w w' := by
  obtain ⟨W0, hW0⟩ : ∃ W0, W0 = ((w.alloc (.cells #[.pointer (some ⟨g, 0, none⟩)] 23)).alloc (.cells #[v, .int .i64 last] 40)).alloc (.cells #[.int .i64 now] 2) := ⟨_, rfl⟩
  have B0 : Below w.heap.size w W0 := by rw [hW0]; exact bel_alloc (bel_alloc (bel_new _ _) _) _
  have xk : Box W0 w.heap.size 23 #[.pointer (some ⟨g, 0, none⟩)] := by rw [hW0]; exact ((Box.fresh w _ _ rfl).kept_below (bel_new _ _) (by simp)).kept_below (bel_new _ _) (by simp; omega)
  have xr : Box W0 (w.heap.size + 1) 40 #[v, .int .i64 last] := by rw [hW0]; exact (Box.fresh _ _ _ (by simp)).kept_below (bel_new _ _) (by simp)
  have xn : Box W0 (w.heap.size + 2) 2 #[.int .i64 now] := by rw [hW0]; exact Box.fresh _ _ _ (by simp)
  obtain ⟨n, hn⟩ : ∃ n, ts.length = n := ⟨_, rfl⟩
  have hv : ∃ A c, v = .slice A n c := by
    rcases own_form ht with ⟨rfl, h0⟩ | ⟨b, c, rfl, _⟩
    · exact ⟨none, 0, by rw [← hn, h0]⟩
    · exact ⟨_, _, by rw [hn]⟩
  obtain ⟨A, c, hv⟩ := hv
  have hS : Calls Try.prog 16 #[.int .i64 n, .func (.func 17) #[] #[.pointer (some ⟨w.heap.size + 2, 0, none⟩), .pointer (some ⟨w.heap.size + 1, 0, none⟩), .pointer (some ⟨w.heap.size, 0, none⟩)]] W0 fun e w' => e = .returned (.int .i64 (pastN ts now win)) ∧ Below W0.heap.size W0 w' := by
    rw [← hn]
    refine (search_any (p := fun i => decide (now - ts.getD i 0 < win)) hg.len (fun w' hb i hi => ?_) (fun a b hab hb hp => ?_)).mono fun e w' ⟨r, h1, h2, h3⟩ => ⟨by rw [h1, sea_past h2], h3⟩
    · obtain ⟨t, hti⟩ : ∃ t, ts[i]? = some t := ⟨ts[i], by simp [hi]⟩
      have hgt : ts.getD i 0 = t := by simp [List.getD_eq_getElem?_getD, hti]
      rcases own_form ht with ⟨_, h0⟩ | ⟨b, c', hvb, _⟩
      · omega
      · have hcell : w.cell? ⟨b, i, none⟩ = some (.int .i64 t) := by
          have hrow := ht
          unfold Times at hrow
          rw [hvb] at hrow
          exact own_cell hrow (by rw [List.getElem?_map, hti]; rfl)
        have BW : Below w.heap.size w w' := bel_trans B0 hb
        have hcw : w'.cell? ⟨b, i, none⟩ = some (.int .i64 t) := (BW.cell (p := ⟨b, i, none⟩) (World.block_lt_of_cell? _ _ hcell)).trans hcell
        have yk := xk.kept_below hb xk.there
        have yr := xr.kept_below hb xr.there
        have yn := xn.kept_below hb xn.there
        rw [hvb] at yr
        have := inwin_any (n := ts.length) (blk := b) (c := c') (i := i) hi ((yn.reads 0).trans rfl) ((yr.reads 0).trans rfl) ((yk.reads 0).trans rfl) (((h.carry BW).box.reads 1).trans rfl) hcw (hg.low t (List.mem_of_getElem? hti)) (hg.high t (List.mem_of_getElem? hti)) hnow h.fits.2.2.1 h.fits.2.2.2
        rw [hgt]
        exact this
    · have ha : a < ts.length := by omega
      have e1 : ts[a]? = some (ts.getD a 0) := by simp [List.getD_eq_getElem?_getD, ha]
      have e2 : ts[b]? = some (ts.getD b 0) := by simp [List.getD_eq_getElem?_getD, hb]
      have := hg.mono (win := win) hab e1 e2 (by simpa using hp)
      simpa using this
  subst hv
  have c0 : W0.cell? ⟨w.heap.size + 1, 0, none⟩ = some (.slice A n c) := (xr.reads 0).trans rfl
  generalize pastN ts now win = r at hS ⊢
  replace hS := Lib.hid hS
  replace B0 := Lib.hid B0
  clear h ht hg xk xr xn hn hnow
  subst hW0
  go_enter Try.func14, Try.ntmps14
  go_wp2_with (go_at_call 16; refine hS.out.mono ?_; rintro e w2 ⟨rfl, hb2⟩; replace hb2 := Lib.hid hb2)
  go_ret
  exact ⟨rfl, bel_trans B0.out hb2.out⟩
end Go.Proofs.Ytekeciciajbnnaa

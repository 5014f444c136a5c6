/- Fill. -/
import Derived.Test.YtekeciciajbnnaaKilFilM
import Derived.Deep.DeepCutAuto
import Derived.StillTailTactics
set_option linter.unusedSimpArgs false
namespace Go.Proofs.Ytekeciciajbnnaa
open Go.RowKit Go.Mem1 Go.MapRow Go.KilMath

section
variable {w : World} {B g : Nat} {f win : Int} {m1 m2 : Option Nat} {L : RL} {O : OL} {T : Int → List Int}
set_option maxHeartbeats 1000000 in
theorem fill_no {D : Int → Prop} (h : SwAt w B g f win m1 m2 L O T D) {k : Int} (hk : OkI k) (ho : (fget O k).isSome = true) (now : Int) :
    Calls Try.prog 7 #[.pointer (some ⟨g, 0, none⟩), .int .i64 k, .int .i64 now] w fun e w' => e = .returned (.bool false) ∧ Below w.heap.size w w' := by
  have HO := koff_at h hk
  rw [ho] at HO
  replace HO := Lib.hid HO
  clear h hk ho
  go_enter Try.func7, Try.ntmps7
  go_wp2_with (go_at_call 8; refine HO.out.mono ?_; rintro e w1 ⟨rfl, hb⟩; replace hb := Lib.hid hb)
  go_ret
  exact ⟨rfl, hb.out⟩
end
theorem FilJ.look {w w' : World} {B g : Nat} {f win : Int} {m1 m2 : Option Nat} {L : RL} {O : OL} {T : Int → List Int} {k : Int} {rb : Nat} {vb v : Value} {lb : Int} {ts : List Int} (h : FilJ w B g f win m1 m2 L O T k rb vb lb v ts w') :
    w'.cell? ⟨rb, 0, none⟩ = some vb ∧ w'.cell? ⟨rb, 1, none⟩ = some (.int .i64 lb) ∧ (∀ o, (w'.alloc o).cell? ⟨rb, 0, none⟩ = some vb) ∧ ∀ o, (w'.alloc o).cell? ⟨rb, 1, none⟩ = some (.int .i64 lb) :=
  ⟨(h.box.reads 0).trans rfl, (h.box.reads 1).trans rfl, fun o => ((h.box.kept_below (bel_new w' o) h.box.there).reads 0).trans rfl, fun o => ((h.box.kept_below (bel_new w' o) h.box.there).reads 1).trans rfl⟩
/-- Behind the row's turn. -/
def FilK (w : World) (B g : Nat) (f win : Int) (m1 m2 : Option Nat) (L : RL) (O : OL) (T : Int → List Int) (k : Int) (rb : Nat) (l : Int) (ts : List Int) (w' : World) : Prop :=
  ∃ A n c, n = ts.length ∧ FilJ w B g f win m1 m2 L O T k rb (.slice A n c) l (.slice A n c) ts w'
/-- keep, in that state. -/
theorem fil_keep {w w' : World} {B g : Nat} {f win : Int} {m1 m2 : Option Nat} {L : RL} {O : OL} {T : Int → List Int} {k : Int} {rb : Nat} {A : Option Addr} {n c : Nat} {l t : Int} {ts : List Int} (h : FilJ w B g f win m1 m2 L O T k rb (.slice A n c) l (.slice A n c) ts w') (hk : OkI k) (hg : Tms ts t) (h0 : 0 ≤ t) (h1 : t ≤ 1099511627776) :
    Calls Try.prog 15 #[.pointer (some ⟨g, 0, none⟩), .int .i64 k, .agg #[.slice A n c, .int .i64 t]] (w'.setCell ⟨rb, 1, none⟩ (.int .i64 t)) fun e w2 => e = .returned (.tuple #[]) ∧ (∃ m1' v, SwAt w2 B g f win m1' m2 (fput L k (v, t)) O (upd T k ts) (fun _ => True) ∧ Kp B w w2) ∧
      w2.cell? ⟨rb, 0, none⟩ = some (.slice A n c) ∧ w2.cell? ⟨g, 0, none⟩ = some (.int .i64 f) := by
  have J := h.wrote 1 (.int .i64 t) (vb' := .slice A n c) (lb' := t) rfl
  refine (keep_any J.sw hk J.times hg h0 h1 J.free).mono ?_
  rintro e w2 ⟨rfl, m1', h2, h3⟩
  have hx := h3.boxes rb _ _ J.box (by decide) (by decide)
  exact ⟨rfl, ⟨m1', _, h2, J.kp.trans h3⟩, (hx.reads 0).trans rfl, (h2.box.reads 0).trans rfl⟩
/-- A literal's block. -/
def Lit1 (w : World) (b : Nat) (t : Int) : Prop := Box w b 2 #[.int .i64 t]
theorem Lit1.rd {w : World} {b : Nat} {t : Int} (h : Lit1 w b t) : Rd w (b + 1) (some ⟨b, 0, none⟩) 1 [.int .i64 t] := by
  refine ⟨rfl, fun _ => ⟨b, 0, rfl, Nat.lt_succ_self b, fun k u hu => ?_⟩⟩
  rw [Nat.zero_add, (show Box w b _ _ from h).reads k]
  simpa using hu
theorem Lit1.below {w w' : World} {b : Nat} {t : Int} (h : Lit1 w b t) (hb : Below w.heap.size w w') : Lit1 w' b t := Box.kept_below h hb (Box.there h)
theorem Lit1.fresh (w : World) (t : Int) {b : Nat} (hb : b = w.heap.size) : Lit1 (w.alloc (.cells #[.int .i64 t] 2)) b t := Box.fresh _ _ _ hb
theorem one_time (l : List Int) : ∀ u ∈ l.map idV, u.oneCell' = true := fun u hu => by
  obtain ⟨x, _, rfl⟩ := List.mem_map.1 hu
  rfl
/-- What Fill leaves, where the maker stays on. -/
def Filled (w : World) (B g : Nat) (f win : Int) (m2 : Option Nat) (L : RL) (O : OL) (T : Int → List Int) (k now : Int) (w' : World) : Prop :=
  ∃ m1 v, SwAt w' B g f win m1 m2 (fput L k (v, now)) O (upd T k (fillT (T k) now win)) (fun _ => True) ∧ Kp B w w'
/-- .. where it goes off. -/
def FilledOff (w : World) (B g : Nat) (f win : Int) (L : RL) (O : OL) (T : Int → List Int) (k now : Int) (w' : World) : Prop :=
  ∃ m1 m2 v L', SwAt w' B g f win m1 m2 L' (fput O k ()) (upd T k []) (fun _ => True) ∧ SameLast (fput L k (v, now)) L' ∧ Kp B w w'
def FillPost (w : World) (B g : Nat) (f win : Int) (m2 : Option Nat) (L : RL) (O : OL) (T : Int → List Int) (k t : Int) (e : Ending) (w' : World) : Prop :=
  (((fillT (T k) t win).length : Int) < f ∧ e = .returned (.bool false) ∧ Filled w B g f win m2 L O T k t w') ∨
  (f ≤ ((fillT (T k) t win).length : Int) ∧ e = .returned (.bool true) ∧ FilledOff w B g f win L O T k t w')
/-- Trip, behind keep. -/
theorem fil_trip {w w2 : World} {B g : Nat} {f win : Int} {m2 : Option Nat} {L : RL} {O : OL} {T : Int → List Int} {k t : Int} {ts : List Int} (hk : OkI k) (ho : fget O k = none) (h : ∃ m1' v, SwAt w2 B g f win m1' m2 (fput L k (v, t)) O (upd T k ts) (fun _ => True) ∧ Kp B w w2) :
    ∀ w', Below w2.heap.size w2 w' → Calls Try.prog 11 #[.pointer (some ⟨g, 0, none⟩), .int .i64 k] w' fun e w3 => e = .returned (.bool true) ∧ FilledOff w B g f win L O T k t w3 := by
  obtain ⟨m1', v, h1, h2⟩ := h
  intro w' hb
  refine (trip_on (h1.carry hb) hk ho).mono ?_
  rintro e w3 ⟨rfl, m1, m3, L', h3, h4, h5⟩
  rw [upd_upd] at h3
  exact ⟨rfl, m1, m3, v, L', h3, h4, (h2.trans (kp_below (Nat.le_of_lt h1.base) hb)).trans h5⟩
theorem FilledOff.carry {w w1 w2 : World} {B g : Nat} {f win : Int} {L : RL} {O : OL} {T : Int → List Int} {k t : Int} (h : FilledOff w B g f win L O T k t w1) (hb : Below w1.heap.size w1 w2) : FilledOff w B g f win L O T k t w2 := by
  obtain ⟨m1, m2, v, L', h1, h2, h3⟩ := h
  exact ⟨m1, m2, v, L', h1.carry hb, h2, h3.trans (kp_below (Nat.le_of_lt h1.base) hb)⟩
set_option maxRecDepth 100000 in
set_option maxHeartbeats 4000000 in
theorem fill_on {w : World} {B g : Nat} {f win : Int} {m1 m2 : Option Nat} {L : RL} {O : OL} {T : Int → List Int} (h : SwAt w B g f win m1 m2 L O T (fun _ => True)) {k : Int} (hk : OkI k) (ho : fget O k = none) {now t : Int} (h0 : 0 ≤ now) (h1 : now ≤ 1099511627776) (htt : lastOr ((fget L k).map (·.2)) now = t) (hlen : (T k).length < 1000) :
    Calls Try.prog 7 #[.pointer (some ⟨g, 0, none⟩), .int .i64 k, .int .i64 now] w (FillPost w B g f win m2 L O T k t) := by
  have HO := koff_at h hk
  rw [ho] at HO
  dsimp only [Option.isSome] at HO
  replace HO := Lib.hid HO
  obtain ⟨A, n, c, l, hr, hn, hrow⟩ := h.row_of k h0 h1
  have HA : Hid (∀ w1, Below w.heap.size w w1 → Calls Try.prog 12 #[.pointer (some ⟨g, 0, none⟩), .int .i64 k, .int .i64 now] w1 fun e w2 => e = .returned (.tuple #[.agg #[.slice A n c, .int .i64 l], .int .i64 t]) ∧ Below w.heap.size w w2) := Lib.hid fun w1 hb => by
    have := at_any (h.carry hb) hk trivial now
    rw [hr, htt] at this
    exact this.mono fun e w2 ⟨a, b⟩ => ⟨a, bel_trans hb b⟩
  have HS : Hid (∀ w2, Below w.heap.size w w2 → FilJ w B g f win m1 m2 L O T k w2.heap.size (.slice A n c) l (.slice A n c) (T k) (w2.alloc (.cells #[.slice A n c, .int .i64 l] 40))) := Lib.hid fun w2 hb => fil_start h ⟨hn, hrow⟩ hb
  rw [htt] at hrow
  have hg := hrow.2.1
  have ht1 := hrow.2.2.2.1
  have ht0 := hrow.2.2.1
  have hfil := Lib.hid (hg.fill (win := win) ht0 hlen)
  replace ht0 := Lib.hid ht0
  replace hn := Lib.hid hn
  replace hg := Lib.hid hg
  replace ht1 := Lib.hid ht1
  replace hlen := Lib.hid hlen
  replace hk := Lib.hid hk
  replace ho := Lib.hid ho
  clear h h0 h1 htt hr hrow
  go_enter Try.func7, Try.ntmps7
  go_wp2_with (first
    | (go_at_call 8; refine HO.out.mono ?_; rintro e w1 ⟨rfl, hb1⟩; replace hb1 := Lib.hid hb1)
    | (go_at_call 12; refine (HA.out w1 hb1.out).mono ?_; rintro e w2 ⟨rfl, hb2⟩; have J0 := HS.out w2 hb2; replace J0 := Lib.hid J0; clear hb1 hb2))
  generalize hW : w2.alloc (.cells #[.slice A n c, .int .i64 l] 40) = W at J0 ⊢
  generalize hrb : w2.heap.size = rb at J0 ⊢
  clear hW hrb HO HA HS
  go_cut [7] (fun s7 wx => s7 = .pointer (some ⟨rb, 0, none⟩) ∧ Hid (FilK w B g f win m1 m2 L O T k rb l (fillT (T k) t win) wx))
  case first =>
    obtain ⟨i0, hi0, hz0, hz1, hz2⟩ := info_parts time_info
    have HI0 := Lib.hid hi0
    have HI1 := Lib.hid hz0
    have HI2 := Lib.hid hz1
    have HI3 := Lib.hid hz2
    clear hi0 hz0 hz1 hz2
    obtain ⟨p, hp⟩ : ∃ p, pastN (T k) t win = p := ⟨_, rfl⟩
    have hfl : fillT (T k) t win = (T k).drop p ++ [t] := by rw [← hp]; rfl
    have hpn : p ≤ (T k).length := by rw [← hp]; exact pastN_le _ _ _
    have JD : Hid (FilJ w B g f win m1 m2 L O T k rb (.slice A n c) l (.slice A n c) (T k) W.drew) := Lib.hid (J0.out.carry (Below.refl _ _).drew)
    have JL : Hid (∀ o, FilJ w B g f win m1 m2 L O T k rb (.slice A n c) l (.slice A n c) (T k) (W.alloc o).drew) := Lib.hid fun o => J0.out.carry (bel_new W o).drew
    have JM : Hid (∀ o, FilJ w B g f win m1 m2 L O T k rb (.slice A n c) l (.slice A n c) (T k) (W.drew.alloc o)) := Lib.hid fun o => JD.out.carry (bel_new W.drew o)
    have PA : Hid (∀ w', FilJ w B g f win m1 m2 L O T k rb (.slice A n c) l (.slice A n c) (T k) w' → Calls Try.prog 14 #[.pointer (some ⟨g, 0, none⟩), .agg #[.slice A n c, .int .i64 l], .int .i64 t] w' fun e w2 => e = .returned (.int .i64 p) ∧ FilJ w B g f win m1 m2 L O T k rb (.slice A n c) l (.slice A n c) (T k) w2 ∧ Below w'.heap.size w' w2) := Lib.hid fun w' h => by
      have := h.past hg.out ht1.out l
      rw [hp] at this
      exact this
    have HV : Hid (∀ b, W.heap.size ≤ b → (Value.slice A n c).ownBlock ≠ some b) := Lib.hid fun b hb e => by
      have := (World.ownsRow.lt J0.out.times b e).2
      omega
    have DA : Hid (∀ w', FilJ w B g f win m1 m2 L O T k rb (.slice A n c) l (.slice A n c) (T k) w' → Calls Try.prog 13 #[.slice A n c, .int .i64 0, .int .i64 p] w' fun e w2 => ∃ A' n' c', e = .returned (.slice A' n' c') ∧ FilJ w B g f win m1 m2 L O T k rb (.slice A n c) l (.slice A' n' c') ((T k).drop p) w2 ∧ n' = ((T k).drop p).length ∧ ∀ b, W.heap.size ≤ b → Lit1 w' b t → Lit1 w2 b t) := Lib.hid fun w' h => by
      refine (h.delete hpn).mono ?_
      rintro e w2 ⟨A', n', c', rfl, h1, h2, h3⟩
      exact ⟨A', n', c', rfl, h2, by rw [h1]; simp, fun b hb hl => Box.kept hl h3 (HV.out b hb)⟩
    have hl2 : Hid (((T k).drop p).length < 1000) := Lib.hid (by have := hlen.out; simp; omega)
    obtain ⟨x0, x1, x2, x3⟩ := J0.out.look
    have hfl2 : ∀ x, FilK w B g f win m1 m2 L O T k rb l ((T k).drop p ++ [t]) x → FilK w B g f win m1 m2 L O T k rb l (fillT (T k) t win) x := fun x h => by rw [hfl]; exact h
    clear hfl hp
    generalize (T k).drop p = tsd at DA hl2 hfl2
    replace hfl2 := Lib.hid hfl2
    go_region_law (first
      | (go_simp; go_at_call 14; (first | (with_reducible refine (PA.out _ JD.out).mono ?_) | ((first | (with_reducible refine (PA.out _ (JL.out _)).mono ?_) | (with_reducible refine (PA.out _ (JM.out _)).mono ?_)); have hLit := Lib.hid (show Lit1 (W.alloc (.cells #[.int .i64 t] 2)).drew W.heap.size t from Lit1.fresh W t rfl))); rintro e wp ⟨rfl, Jp, hbp⟩; obtain ⟨y0, y1, y2, y3⟩ := Jp.look; (try (have hLp := Lib.hid (hLit.out.below hbp); clear hLit)); replace hbp := Lib.hid (show W.heap.size ≤ wp.heap.size from by have := hbp.size; simp at this; omega); replace Jp := Lib.hid Jp; clear x0 x1 x2 x3)
      | (go_simp; go_at_call 13; (first
          | (with_reducible refine (DA.out _ Jp.out).mono ?_; rintro e w3 ⟨A3, n3, c3, rfl, J3, hn3, hl3⟩; (try (have hL3 := Lib.hid (hl3 _ (Nat.le_refl _) hLp.out))))
          | (with_reducible refine (DA.out _ (Jp.out.carry (bel_new _ _))).mono ?_; rintro e w3 ⟨A3, n3, c3, rfl, J3, hn3, hl3⟩; have hL3 := Lib.hid (hl3 _ hbp.out (Lit1.fresh wp t rfl))));
         clear hl3; obtain ⟨z0, _, z2, _⟩ := J3.look; replace J3 := Lib.hid J3; replace hn3 := Lib.hid hn3; clear y0 y1 y2 y3 Jp hbp)
      | ((first
          | (refine step_append rfl (.tmp 24) (.tmp 26) _ rfl B 2 i0 _ 8 Try.underlying38 HI0.out HI1.out HI2.out HI3.out rfl (.slice A3 n3 c3) tsd.length (tsd.map idV) rfl J3.out.times (some ⟨_, 0, none⟩) 1 1 (fun e => by cases e) [.int .i64 t] rfl hL3.out.rd (fun u hu => by simp at hu; subst hu; rfl) (by have := hl2.out; simp only [maxLen]; omega) (by have := hl2.out; omega) (Nat.le_of_lt J3.out.sw.base) ?_; intro v7 w7 hown7 hgr7 hv7; have J7 := J3.out.append hown7 hgr7 hv7)
          | (refine step_append rfl (.tmp 24) (.tmp 26) _ rfl B 2 i0 _ 8 Try.underlying38 HI0.out HI1.out HI2.out HI3.out rfl (.slice A3 n3 c3) tsd.length (tsd.map idV) rfl (J3.out.carry (bel_new _ _)).times (some ⟨_, 0, none⟩) 1 1 (fun e => by cases e) [.int .i64 t] rfl (Lit1.fresh _ t rfl).rd (fun u hu => by simp at hu; subst hu; rfl) (by have := hl2.out; simp only [maxLen]; omega) (by have := hl2.out; omega) (Nat.le_of_lt (J3.out.carry (bel_new _ _)).sw.base) ?_; intro v7 w7 hown7 hgr7 hv7; have J7 := (J3.out.carry (bel_new _ _)).append hown7 hgr7 hv7));
         obtain ⟨A7, c7, rfl⟩ := own_slice hown7; obtain ⟨q0, _, _, _⟩ := J7.look; have qf := J7.box.unmarked 0; replace J7 := Lib.hid J7; clear hown7 hgr7 hv7 z0 z2))
    all_goals (go_wp2_with fail)
    all_goals (go_meet; exact ⟨rfl, Lib.hid (hfl2.out _ ⟨A7, _, c7, by simp, J7.out.wrote 0 _ rfl⟩)⟩)
  case rest =>
    obtain ⟨rfl, hcut⟩ := hcut
    obtain ⟨A7, n7, c7, hn7, J7⟩ := hcut.out
    have HK := Lib.hid (fil_keep J7 hk.out hfil.out ht0.out ht1.out)
    obtain ⟨x0, x1, _, _⟩ := J7.look
    have xf := J7.box.unmarked 1
    by_cases hlt : ((fillT (T k) t win).length : Int) < f
    · have hcmp : decide (f ≤ (n7 : Int)) = false := by rw [hn7]; simp; omega
      replace hlt := Lib.hid hlt
      clear hcut J7 hn7
      go_wp2_with (go_at_call 15; refine HK.out.mono ?_; rintro e w10 ⟨rfl, hk10, z0, z1⟩; replace hk10 := Lib.hid hk10)
      go_quiet (fail)
      go_wp2_with fail
      go_ret
      obtain ⟨m1', v, h2, h3⟩ := hk10.out
      exact .inl ⟨hlt.out, rfl, m1', v, h2.carry (bel_drewN _ _), h3.trans (kp_below (Nat.le_of_lt h2.base) (bel_drewN _ _))⟩
    · have hcmp : decide (f ≤ (n7 : Int)) = true := by rw [hn7]; simp; omega
      replace hlt := Lib.hid (show f ≤ ((fillT (T k) t win).length : Int) by omega)
      clear hcut J7 hn7
      go_wp2_with (go_at_call 15; refine HK.out.mono ?_; rintro e w10 ⟨rfl, hk10, z0, z1⟩; have HT := Lib.hid (fil_trip hk.out ho.out hk10); clear hk10)
      have HD : Hid (Below w10.heap.size w10 w10.drew) := Lib.hid (bel_drewN w10 1)
      go_region_law (go_simp; go_at_call 11; with_reducible refine (HT.out _ HD.out).mono ?_; rintro e w11 ⟨rfl, ht11⟩; replace ht11 := Lib.hid ht11)
      all_goals (go_wp2_with fail)
      all_goals (refine bodyPost_ret (v := .bool true) (by simp [results, Try.results7, go_sem]) rfl (.inr ⟨hlt.out, rfl, ht11.out⟩))
end Go.Proofs.Ytekeciciajbnnaa

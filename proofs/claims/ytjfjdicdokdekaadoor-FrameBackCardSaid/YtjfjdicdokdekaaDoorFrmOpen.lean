/- The stream's open: what is held is looked at. -/
import Derived.Test.YtjfjdicdokdekaaDoorFrmDie
import Derived.Test.YtjfjdicdokdekaaDoorFCrcOpen
set_option linter.unusedSimpArgs false
namespace Go.Proofs.YtjfjdicdokdekaaDoor
open Go.RowKit Go.Mem1

/-- A block of bytes. -/
def Bod (w : World) (b : Nat) : Prop := ∃ cur, w.heap[b]? = some (.cells cur 5 (0, 0))
/-- What open does. -/
def LookPost (w : World) (B g : Nat) (R : Option Nat) (s : FM.FS) (e : Ending) (w' : World) : Prop :=
  ∃ A1 n1 c1 whole R', e = .returned (.tuple #[.slice A1 n1 c1, .bool whole]) ∧ StrAt w' B g R' (FM.look s) ∧ (R' = none ∨ R' = R) ∧ Chg (· = g) w w' ∧
    ((whole = false ∧ (FM.look s).out = s.out) ∨
     (whole = true ∧ ∃ l, (FM.look s).out = s.out ++ [l] ∧ Byt w' w'.heap.size A1 n1 l ∧ (A1 = none → c1 = 0) ∧ (∀ b o, A1 = some ⟨b, o, none⟩ → 0 < n1 → w.heap.size ≤ b ∧ Bod w' b) ∧ (FM.look s).e = 0))
set_option maxHeartbeats 400000 in
theorem open_a {w : World} {B g : Nat} {R : Option Nat} {s : FM.FS} (h : StrAt w B g R s) (hl : s.h.length < 2) :
    Calls Tryd.prog 30 #[.pointer (some ⟨g, 0, none⟩)] w (LookPost w B g R s) := by
  have hk : FM.look s = s := by unfold FM.look; rw [if_pos hl]
  obtain ⟨A, c, h0⟩ := h.len0
  have i1 : decide ((s.h.length : Int) < 2) = true := by simp; omega
  have H := Lib.hid h
  have HK := Lib.hid hk
  clear h hk
  generalize hn : s.h.length = n at *
  have HN := Lib.hid hn
  clear hn
  go_enter Tryd.func30, Tryd.ntmps30
  go_wp2_with fail
  go_ret2
  refine ⟨none, 0, 0, false, R, rfl, by rw [HK.out]; exact H.out, .inr rfl, Chg.refl _ _, .inl ⟨rfl, by rw [HK.out]⟩⟩
set_option maxHeartbeats 400000 in
theorem open_b {w : World} {B g : Nat} {R : Option Nat} {s : FM.FS} (h : StrAt w B g R s) (hl : ¬ s.h.length < 2) (hz : 1024 < FM.size s.h) :
    Calls Tryd.prog 30 #[.pointer (some ⟨g, 0, none⟩)] w (LookPost w B g R s) := by
  have hk : FM.look s = FM.dead s [] 4 := by unfold FM.look; rw [if_neg hl, if_pos hz]; rfl
  obtain ⟨A, c, h0⟩ := h.len0
  have i1 : decide ((s.h.length : Int) < 2) = false := by simp; omega
  have i2 : decide ((1024 : Int) < (FM.size s.h : Int)) = true := by simp; omega
  have H := Lib.hid h
  have HK := Lib.hid hk
  have HS := Lib.hid (strSize h (by omega))
  clear h hk hl hz
  generalize FM.size s.h = z at *
  generalize s.h.length = n at *
  go_enter Tryd.func30, Tryd.ntmps30
  go_wp2_with (go_at_call 56; refine Hid.out ?_)
  refine Lib.hid ?_
  refine HS.out.mono ?_
  rintro e w1 ⟨rfl, B1⟩
  go_wp2_with (go_at_call 57; refine Hid.out ?_)
  refine Lib.hid ?_
  refine (strDie (H.out.carry B1) [] 4 _ rfl (by decide)).mono ?_
  rintro e w2 ⟨rfl, hS2, hC2⟩
  have HS2 := Lib.hid hS2
  have HC2 := Lib.hid hC2
  clear hS2 hC2
  go_wp2_with fail
  go_ret2
  refine ⟨none, 0, 0, false, none, rfl, by rw [HK.out]; exact HS2.out, .inl rfl, ((Chg.refl (· = g) w).below B1).then HC2.out (fun _ _ h => h), .inl ⟨rfl, by rw [HK.out]; rfl⟩⟩
set_option maxHeartbeats 400000 in
theorem open_c {w : World} {B g : Nat} {R : Option Nat} {s : FM.FS} (h : StrAt w B g R s) (hl : ¬ s.h.length < 2) (hz : ¬ 1024 < FM.size s.h) (hm : s.h.length < 6 + FM.size s.h) :
    Calls Tryd.prog 30 #[.pointer (some ⟨g, 0, none⟩)] w (LookPost w B g R s) := by
  have hk : FM.look s = s := by unfold FM.look; rw [if_neg hl, if_neg hz, if_pos hm]
  obtain ⟨A, c, h0⟩ := h.len0
  have i1 : decide ((s.h.length : Int) < 2) = false := by simp; omega
  have i2 : decide ((1024 : Int) < (FM.size s.h : Int)) = false := by simp; omega
  have i3 : decide ((s.h.length : Int) < ((6 + FM.size s.h : Nat) : Int)) = true := by simp; omega
  have i4 : (s.h.length : Int) < 6 + (FM.size s.h : Int) := by omega
  have H := Lib.hid h
  have HK := Lib.hid hk
  have HS := Lib.hid (strSize h (by omega))
  have HE := Lib.hid (fun w' (hb : Below w.heap.size w w') => strEnd (h.carry hb) (by omega))
  have hgt := h.there.2
  clear h hk hl hz hm
  generalize FM.size s.h = z at *
  generalize s.h.length = n at *
  go_enter Tryd.func30, Tryd.ntmps30
  go_wp2_with (go_at_call 56; refine Hid.out ?_)
  refine Lib.hid ?_
  refine HS.out.mono ?_
  rintro e w1 ⟨rfl, B1⟩
  have h1 := (B1.cell (p := ⟨g, 0, none⟩) hgt).trans h0
  go_wp2_with fail
  go_region_held3 (fun w' => w'.cell? ⟨g, 0, none⟩ = some (.slice A n c))
    (first | exact h1 | exact h2)
    ((first | (go_at_call 55; refine (HE.out w1.drew B1.drew).mono ?_; rintro e w2 ⟨rfl, B2⟩
               have h2 := (B2.cell (p := ⟨g, 0, none⟩) (Nat.lt_of_lt_of_le hgt B1.size)).trans h1)))
  all_goals
    have B02 : Below w.heap.size w w2 := bel_trans B1.drew B2
    clear h1 h2 B2 B1
    go_wp2_with fail
    go_ret2
    refine ⟨none, 0, 0, false, R, rfl, by rw [HK.out]; exact H.out.carry B02, .inr rfl, (Chg.refl (· = g) w).below B02, .inl ⟨rfl, by rw [HK.out]⟩⟩
theorem own_none {w : World} {base : Nat} {e : TypeId} {A : Option Addr} {n c : Nat} {xs : List Value} (h : w.ownsRow base e 1 (.slice A n c) n xs) : w.ownsRow base e 1 (.slice A 0 c) 0 [] := by
  refine ⟨by simp, ?_⟩
  rcases h.2 with ⟨hv, h0⟩ | ⟨g, cap, cur, hv, hb, hg, hn, hm, hs, hx⟩
  · injection hv with h1 h2 h3
    subst h1; subst h3
    exact .inl ⟨rfl, rfl⟩
  · injection hv with h1 h2 h3
    subst h1; subst h3
    exact .inr ⟨g, c, cur, rfl, hb, hg, Nat.zero_le _, hm, hs, by simp⟩
def set01 (w : World) (g : Nat) (v0 v1 : Value) : World := (w.setCell ⟨g, 0, none⟩ v0).setCell ⟨g, 1, none⟩ v1
theorem set01_def (w : World) (g : Nat) (v0 v1 : Value) : (w.setCell ⟨g, 0, none⟩ v0).setCell ⟨g, 1, none⟩ v1 = set01 w g v0 v1 := rfl
theorem set01_chg (w : World) (g : Nat) (v0 v1 : Value) : Chg (· = g) w (set01 w g v0 v1) :=
  ((Chg.refl (· = g) w).setCell (p := ⟨g, 0, none⟩) (fun _ => rfl) v0).setCell (p := ⟨g, 1, none⟩) (fun _ => rfl) v1
theorem set01_box {w : World} {g : Nat} {t : TypeId} {c0 c1 c2 : Value} (h : Box w g t #[c0, c1, c2]) (v0 v1 : Value) : Box (set01 w g v0 v1) g t #[v0, v1, c2] := by
  have := (h.wrote 0 v0).wrote 1 v1
  simpa [set01] using this
theorem set01_size (w : World) (g : Nat) (v0 v1 : Value) : (set01 w g v0 v1).heap.size = w.heap.size := by simp [set01, World.setCell]
theorem own_apart {w : World} {base base' : Nat} {e e' : TypeId} {v v' : Value} {sz sz' n n' : Nat} {xs xs' : List Value} (h : w.ownsRow base e sz v n xs) (h' : w.ownsRow base' e' sz' v' n' xs') (he : e ≠ e') : ∀ k, v.ownBlock = some k → v'.ownBlock ≠ some k := by
  intro k hk hk'
  rcases h.2 with ⟨rfl, _⟩ | ⟨g, _, cur, rfl, _, hg, _⟩
  · cases hk
  · rcases h'.2 with ⟨rfl, _⟩ | ⟨g', _, cur', rfl, _, hg', _⟩
    · cases hk'
    · injection hk with hk; injection hk' with hk'
      have : g = g' := hk.trans hk'.symm
      subst this
      rw [hg] at hg'
      injection hg' with hg'
      injection hg' with _ ht _
      exact he ht
theorem StrAt.row_ne {w : World} {B g : Nat} {R : Option Nat} {s : FM.FS} (h : StrAt w B g R s) : R ≠ some g := by
  obtain ⟨A, c, v, hr, hb, ho, _⟩ := h
  rw [hr]
  exact hb.off_row ho (by decide)
set_option maxHeartbeats 1000000 in
theorem open_d {w : World} {B g : Nat} {R : Option Nat} {s : FM.FS} (hT : Halves w) (h : StrAt w B g R s) (h0e : s.e = 0) (hl : ¬ s.h.length < 2) (hz : ¬ 1024 < FM.size s.h) (hm : s.h.length = 6 + FM.size s.h) (hk : s.k ≤ 1000000000) :
    Calls Tryd.prog 30 #[.pointer (some ⟨g, 0, none⟩)] w (LookPost w B g R s) := by
  have hlook : (sealed (s.h.drop 2) → FM.look s = ⟨[], s.k + 1, s.out ++ [(s.h.drop 2).take (s.h.length - 2 - 4)], 0, s.p⟩) ∧ (¬ sealed (s.h.drop 2) → FM.look s = FM.dead s [(sumBytes, ((s.h.length - 2 : Nat) : Int))] 14) := by
    unfold FM.look
    rw [if_neg hl, if_neg hz, if_neg (by omega), show s.h.length - 2 - 4 = FM.size s.h by omega]
    exact ⟨fun h => if_pos h, fun h => if_neg h⟩
  have hS := h
  have hkeep := fun w' (hb : Below w.heap.size w w') => h.carry hb
  obtain ⟨A, c, v, hr, hb, ho, hx, hB, hlen, hv0, _⟩ := h
  obtain rfl := hv0 h0e
  have hown := ho
  have hcap := own_cap ho
  obtain ⟨b, rfl⟩ : ∃ b, A = some ⟨b, 0, none⟩ := by
    rcases ho.2 with ⟨_, h0⟩ | ⟨gg, cap, cur, hv, _⟩
    · omega
    · injection hv with h1; exact ⟨gg, h1⟩
  have hby : Byt w w.heap.size (some ⟨b, 0 + 2, none⟩) (s.h.length - 2) (s.h.drop 2) := (Byt.ofOwn ho hx).cut (by omega)
  have h0 := (hb.reads 0).trans (show _ = some (Value.slice (some ⟨b, 0, none⟩) s.h.length c) from rfl)
  have i1 : decide ((s.h.length : Int) < 2) = false := by simp; omega
  have i2 : decide ((1024 : Int) < (FM.size s.h : Int)) = false := by simp; omega
  have i3 : ¬ (s.h.length : Int) < 6 + (FM.size s.h : Int) := by omega
  have j1 : (2 : Int) ≤ (s.h.length : Int) := by omega
  have j2 : (s.h.length : Int) ≤ (c : Int) := by omega
  have j3 : (2 : Int) ≤ (c : Int) := by omega
  have HS := Lib.hid (strSize hS (by omega))
  have HE := Lib.hid (fun w' (hb : Below w.heap.size w w') => strEnd (hkeep w' hb) (by omega))
  have hgt := hS.there.2
  have HO := Lib.hid (fun w' (hb : Below w.heap.size w w') => open_any (some ⟨b, 0 + 2, none⟩) (s.h.length - 2) (c - 2) (s.h.drop 2) w' (hT.below hb) (by omega) (by omega) ((hby.carry hb).wider hb.size))
  have HK := Lib.hid hlook
  have HR := Lib.hid hr
  have HB := Lib.hid hb
  have HOW := Lib.hid hown
  have H := Lib.hid hS
  have HKP := Lib.hid hkeep
  have hl4 : ¬ s.h.length - 2 < 4 := by omega
  have HL4 := Lib.hid hl4
  clear hS hkeep hown hby ho hx hlen hv0 hr hb hlook hl hz hm hl4 hT
  generalize hz : FM.size s.h = z at *
  generalize hn : s.h.length = n at *
  have HZ := Lib.hid hz
  have HN := Lib.hid hn
  clear hz hn
  go_enter Tryd.func30, Tryd.ntmps30
  go_wp2_with (go_at_call 56; refine Hid.out ?_)
  refine Lib.hid ?_
  refine HS.out.mono ?_
  rintro e w1 ⟨rfl, B1⟩
  have h1 := (B1.cell (p := ⟨g, 0, none⟩) hgt).trans h0
  go_wp2_with fail
  go_region_held3 (fun w' => w'.cell? ⟨g, 0, none⟩ = some (.slice (some ⟨b, 0, none⟩) n c))
    (first | exact h1 | exact h2)
    ((first | (go_at_call 55; refine (HE.out w1.drew B1.drew).mono ?_; rintro e w2 ⟨rfl, B2⟩
               have h2 := (B2.cell (p := ⟨g, 0, none⟩) (Nat.lt_of_lt_of_le hgt B1.size)).trans h1)))
  all_goals
    have B02 : Below w.heap.size w w2 := bel_trans B1.drew B2
    clear h1 B2 B1
    go_wp2_with (go_at_call 58; refine Hid.out ?_)
    refine Lib.hid ?_
    refine (HO.out w2 B02).mono ?_
    rintro e w3 ⟨B3, ⟨hsl, A1, c1, rfl, hc1, hown3⟩ | ⟨hns, v3, rfl, hE3⟩⟩
    · have B03 : Below w.heap.size w w3 := bel_trans B02 B3
      have hb3 := HB.out.kept_below B03 hgt
      have f0 := hb3.unmarked 0
      have f1 := hb3.unmarked 1
      have r0 := (hb3.reads 0).trans (show _ = some (Value.slice (some ⟨b, 0, none⟩) n c) from rfl)
      have r1 := (hb3.reads 1).trans (show _ = some (Value.int .i64 (s.k : Int)) from rfl)
      have HK2 := HK.out.1 hsl
      have HK3 := Lib.hid HK2
      have H3 := Lib.hid hown3
      have HB3 := Lib.hid hb3
      have HC1 := Lib.hid hc1
      clear HK2 hsl hown3 hb3 hc1 h2 HS HE HO HK
      go_wp2_with fail
      rw [set01_def]
      go_ret2
      have hgw : g < w2.heap.size := Nat.lt_of_lt_of_le hgt B02.size
      have hch : Chg (· = g) w (set01 w3 g (.slice (some ⟨b, 0, none⟩) 0 c) (.int .i64 ((s.k : Int) + 1))) := ((Chg.refl (· = g) w).below B03).then (set01_chg _ _ _ _) (fun _ _ h => h)
      have hne : some b ≠ some g := by
        have := H.out.row_ne
        rw [HR.out] at this
        exact this
      refine ⟨A1, _, c1, true, R, rfl, ?_, .inr rfl, hch, .inr ⟨rfl, (s.h.drop 2).take (n - 2 - 4), ?_, ?_, HC1.out, ?_, by rw [HK3.out]⟩⟩
      · rw [HK3.out]
        refine ⟨some ⟨b, 0, none⟩, c, .nilIface, HR.out, ?_, ?_, fun x hx => by (cases hx), hB, by simp, fun _ => rfl, fun h => absurd rfl h⟩
        · have := set01_box HB3.out (.slice (some ⟨b, 0, none⟩) 0 c) (.int .i64 ((s.k : Int) + 1))
          simpa using this
        · exact own_none (own_chg HOW.out hch (fun k hk e => hne (by rw [← e, ← hk]; rfl)))
      · rw [HK3.out]
      · have hbd : ∀ x ∈ (s.h.drop 2).take (n - 2 - 4), x < 256 := by
          obtain ⟨_, _, _, _, _, _, hx, _⟩ := H.out
          exact fun x hx' => hx x (List.mem_of_mem_drop (List.mem_of_mem_take hx'))
        refine (Byt.ofOwn H3.out hbd).kept (set01_chg _ _ _ _) (fun b' o e hn hb => ?_)
        have := (H3.out.lt b' (by rw [e]; rfl)).1
        omega
      · intro b' o e hn
        have := (H3.out.lt b' (by rw [e]; rfl)).1
        refine ⟨Nat.le_trans B02.size this, ?_⟩
        subst e
        rcases H3.out.2 with ⟨hv, _⟩ | ⟨gg, cap, cur, hv, _, hgg, _⟩
        · cases hv
        · injection hv with hv
          injection hv with hv
          injection hv with hv _
          subst hv
          have hlt := (H3.out.lt b' rfl).2
          exact ⟨cur, ((set01_chg w3 g _ _).block b' hlt (by omega)).trans hgg⟩
    · have B03 : Below w.heap.size w w3 := bel_trans B02 B3
      rw [if_neg HL4.out] at hE3
      have HK2 := HK.out.2 hns
      have HK3 := Lib.hid HK2
      obtain ⟨t', x', rfl⟩ := hE3.notNil
      have HE3 := Lib.hid hE3
      clear HK2 hns hE3 h2 HS HE HO HK
      go_wp2_with (go_at_call 57; refine Hid.out ?_)
      refine Lib.hid ?_
      refine (strDie (HKP.out w3 B03) _ 14 _ HE3.out (by decide)).mono ?_
      rintro e w4 ⟨rfl, hS4, hC4⟩
      have HS4 := Lib.hid hS4
      have HC4 := Lib.hid hC4
      clear hS4 hC4
      go_wp2_with fail
      go_ret2
      refine ⟨none, 0, 0, false, none, rfl, by rw [HK3.out]; exact HS4.out, .inl rfl, ((Chg.refl (· = g) w).below B03).then HC4.out (fun _ _ h => h), .inl ⟨rfl, by rw [HK3.out]; rfl⟩⟩
/-- open, whatever is held that was not whole a byte ago. -/
theorem strOpen {w : World} {B g : Nat} {R : Option Nat} {s : FM.FS} (hT : Halves w) (h : StrAt w B g R s) (h0e : s.e = 0) (hm : 2 < s.h.length → s.h.length ≤ 6 + FM.size s.h) (hk : s.k ≤ 1000000000) :
    Calls Tryd.prog 30 #[.pointer (some ⟨g, 0, none⟩)] w (LookPost w B g R s) := by
  by_cases hl : s.h.length < 2
  · exact open_a h hl
  · by_cases hz : 1024 < FM.size s.h
    · exact open_b h hl hz
    · by_cases hx : s.h.length < 6 + FM.size s.h
      · exact open_c h hl hz hx
      · exact open_d hT h h0e hl hz (by have := hm (by omega); omega) hk
end Go.Proofs.YtjfjdicdokdekaaDoor

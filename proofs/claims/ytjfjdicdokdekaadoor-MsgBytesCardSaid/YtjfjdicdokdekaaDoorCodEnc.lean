/- Contracts of the landed codec's Enc: Int, Raw, Bytes. -/
import Derived.Test.YtjfjdicdokdekaaDoorCodNum
namespace Go.Proofs.YtjfjdicdokdekaaDoor
open Go.RowKit Go.Mem1 Go.CodMath

/-- An Enc in block g that holds l; its row lies from B on (its block: R). -/
def EncAt (w : World) (B g : Nat) (R : Option Nat) (l : List Nat) : Prop :=
  ∃ A n c, R = (Value.slice A n c).ownBlock ∧ Box w g 127 #[.slice A n c] ∧ w.ownsRow B 5 1 (.slice A n c) n (l.map bv) ∧ (∀ x ∈ l, x < 256) ∧ B ≤ g
/-- Which blocks an Enc's call may turn. -/
def EncSet (g : Nat) (R : Option Nat) (k : Nat) : Prop := k = g ∨ some k = R
theorem EncAt.kept {w w' : World} {B g : Nat} {R : Option Nat} {l : List Nat} {S : Nat → Prop} (h : EncAt w B g R l) (hc : Chg S w w') (hg : ¬ S g) (hR : ∀ k, R = some k → ¬ S k) : EncAt w' B g R l := by
  obtain ⟨A, n, c, hr, hb, ho, hl, hB⟩ := h
  exact ⟨A, n, c, hr, hb.kept hc hg, own_chg ho hc (fun k hk => hR k (hr.trans hk)), hl, hB⟩
theorem EncAt.row {w : World} {B g : Nat} {R : Option Nat} {l : List Nat} (h : EncAt w B g R l) : ∀ k, R = some k → B ≤ k ∧ k < w.heap.size := by
  obtain ⟨A, n, c, hr, hb, ho, hl, hB⟩ := h
  exact fun k hk => ho.lt k (hr ▸ hk)
theorem EncAt.there {w : World} {B g : Nat} {R : Option Nat} {l : List Nat} (h : EncAt w B g R l) : B ≤ g ∧ g < w.heap.size := by
  obtain ⟨A, n, c, hr, hb, ho, hl, hB⟩ := h
  exact ⟨hB, hb.there⟩
theorem EncAt.bnd {w : World} {B g : Nat} {R : Option Nat} {l : List Nat} (h : EncAt w B g R l) : ∀ x ∈ l, x < 256 := by
  obtain ⟨A, n, c, hr, hb, ho, hl, hB⟩ := h
  exact hl

/-- The calls so far: from w0 to wr; what was l is now l'. -/
def EncGo (w0 : World) (B g : Nat) (R : Option Nat) (l' : List Nat) (wr : World) : Prop :=
  ∃ R', EncAt wr B g R' l' ∧ Chg (EncSet g R) w0 wr ∧ (R' = R ∨ ∃ k, R' = some k ∧ w0.heap.size ≤ k)
theorem EncGo.start {w : World} {B g : Nat} {R : Option Nat} {l : List Nat} (h : EncAt w B g R l) : EncGo w B g R l w := ⟨R, h, Chg.refl _ _, .inl rfl⟩

theorem types_ne : 5 ≠ 127 := by decide
/-- An append to the row, its value stored: the next state. -/
theorem EncGo.put {w0 wr : World} {B g : Nat} {R : Option Nat} {l : List Nat} (h : EncGo w0 B g R l wr) :
    ∃ A n c, l.length = n ∧ wr.cell? ⟨g, 0, none⟩ = some (.slice A n c) ∧ wr.frozen? ⟨g, 0, none⟩ = false ∧ wr.ownsRow B 5 1 (.slice A n c) n (l.map bv) ∧ g < wr.heap.size ∧
      ∀ (xs : List Nat) (W1 w2 : World) (v : Value) (m : Nat), (∀ x ∈ xs, x < 256) → Below wr.heap.size wr W1 → w2.ownsRow B 5 1 v m ((l ++ xs).map bv) → W1.grownBy w2 (Value.slice A n c).ownBlock →
        (v.ownBlock = (Value.slice A n c).ownBlock ∨ v.ownBlock = some W1.heap.size) →
        w2.cell? ⟨g, 0, none⟩ = some (.slice A n c) ∧ w2.frozen? ⟨g, 0, none⟩ = false ∧ EncGo w0 B g R (l ++ xs) (w2.setCell ⟨g, 0, none⟩ v) := by
  obtain ⟨R', ⟨A, n, c, hr, hb, ho, hl, hB⟩, hchg, hR'⟩ := h
  refine ⟨A, n, c, by have := ho.1; simpa using this, hb.reads 0, hb.unmarked 0, ho, hb.there, ?_⟩
  intro xs W1 w2 v m hxs hbel hown hgr hat
  have hb1 : Box W1 g 127 #[.slice A n c] := hb.kept_below hbel hb.there
  have ho1 : W1.ownsRow B 5 1 (.slice A n c) n (l.map bv) := own_chg ho (Chg.of_below hbel (fun _ => False)) (fun _ _ h => h)
  have hne := hb1.off_row ho1 types_ne
  have hb2 : Box w2 g 127 #[.slice A n c] := hb1.kept (Chg.of_grown hgr) (fun h => hne h.symm)
  have hne2 := hb2.off_row hown types_ne
  refine ⟨hb2.reads 0, hb2.unmarked 0, v.ownBlock, ?_, ?_, ?_⟩
  · obtain ⟨A', c', rfl⟩ := own_slice hown
    refine ⟨A', m, c', rfl, by simpa using hb2.wrote 0 (.slice A' m c'), own_set hown ⟨g, 0, none⟩ _ hne2, ?_, hB⟩
    intro x hx
    rcases List.mem_append.1 hx with hx | hx
    · exact hl x hx
    · exact hxs x hx
  · have k1 : Chg (EncSet g R) w0 w2 := (hchg.below hbel).grown hgr (fun i hi he => by
      rw [← hr] at he
      rcases hR' with h | ⟨k, h, hk⟩
      · exact .inr (he.trans h)
      · rw [h] at he; injection he with he; omega)
    exact k1.setCell (fun _ => .inl rfl) v
  · rcases hat with h | h
    · rw [h, ← hr]; exact hR'
    · exact .inr ⟨_, h, Nat.le_trans hchg.size hbel.size⟩
theorem EncGo.size {w0 wr : World} {B g : Nat} {R : Option Nat} {l : List Nat} (h : EncGo w0 B g R l wr) : w0.heap.size ≤ wr.heap.size := by
  obtain ⟨R', h1, h2, h3⟩ := h; exact h2.size
theorem EncGo.box {w0 wr : World} {B g : Nat} {R : Option Nat} {l : List Nat} (h : EncGo w0 B g R l wr) {ga : Nat} {t : TypeId} {cs : Array Value} (hb : Box w0 ga t cs) (hg : ga ≠ g) (hR : R ≠ some ga) : Box wr ga t cs := by
  obtain ⟨R', h1, h2, h3⟩ := h
  exact hb.kept h2 (fun h => h.elim hg (fun h => hR h.symm))

/-- What the law keeps of it: nothing below B has turned. -/
theorem EncGo.next {w0 wr : World} {B g : Nat} {R : Option Nat} {l l' : List Nat} (h : EncGo w0 B g R l' wr) (h0 : EncAt w0 B g R l) (hB : B ≤ w0.heap.size) : Below B w0 wr ∧ ∃ R', EncAt wr B g R' l' ∧ Chg (EncSet g R) w0 wr ∧ (R' = R ∨ ∃ k, R' = some k ∧ w0.heap.size ≤ k) := by
  obtain ⟨R', h1, h2, h3⟩ := h
  refine ⟨h2.small hB (fun i hi hs => ?_), R', h1, h2, h3⟩
  rcases hs with rfl | hs
  · have := h0.there; omega
  · have := (h0.row i hs.symm).1; omega
/-- A new Enc. -/
theorem EncAt.new (w : World) {g : Nat} (hg : g = w.heap.size) : EncAt (w.alloc (.cells #[.slice none 0 0] 127)) w.heap.size g none [] :=
  ⟨none, 0, 0, rfl, Box.fresh w _ _ hg, World.ownsRow_nil _ _ _ _, fun x hx => by (cases hx), by omega⟩
theorem EncAt.alloc {w : World} {B g : Nat} {R : Option Nat} {l : List Nat} (h : EncAt w B g R l) (o : Obj) : EncAt (w.alloc o) B g R l := h.kept (S := fun _ => False) ((Chg.refl _ _).alloc _) (fun h => h) (fun _ _ h => h)
theorem EncAt.below {w w' : World} {B g : Nat} {R : Option Nat} {l : List Nat} (h : EncAt w B g R l) (hb : Below w.heap.size w w') : EncAt w' B g R l := h.kept (S := fun _ => False) (Chg.of_below hb _) (fun h => h) (fun _ _ h => h)
/-- What lies below B the Enc's calls let be. -/
theorem EncAt.off {w : World} {B g : Nat} {R : Option Nat} {l : List Nat} (h : EncAt w B g R l) {b : Nat} (hb : b < B) : ¬ EncSet g R b := by
  rintro (rfl | hs)
  · have := h.there; omega
  · have := (h.row b hs.symm).1; omega

/-- A byte with its mark that another one follows. -/
theorem more_byte {u : Nat} : bits .or .u8 ((u : Int) % 256) 128 = ((u % 128 + 128 : Nat) : Int) := by
  have hw : (u : Int) % 256 = ((u % 256 : Nat) : Int) := by omega
  have := u8_or_nat (u % 256) 128 (by omega) (by omega)
  refine (congrArg (fun y => bits .or .u8 y 128) hw).trans (this.trans ?_)
  have : ∀ x : Fin 256, x.val ||| 128 = x.val % 128 + 128 := by decide +kernel
  rw [this ⟨u % 256, by omega⟩]
  show ((u % 256 % 128 + 128 : Nat) : Int) = _
  omega
theorem ien_len {z : Int} (h : -9223372036854775808 ≤ z ∧ z ≤ 9223372036854775807) : (ien z).length ≤ 10 := vint_len10 (zz_lt h.1 h.2)
theorem iens_len : ∀ (zs : List Int), (∀ z ∈ zs, -9223372036854775808 ≤ z ∧ z ≤ 9223372036854775807) → (zs.flatMap ien).length ≤ 10 * zs.length
  | [], _ => by simp
  | z :: r, h => by
    have h1 := ien_len (h z (List.mem_cons_self ..))
    have h2 := iens_len r (fun x hx => h x (List.mem_cons_of_mem _ hx))
    simp only [List.flatMap_cons, List.length_append, List.length_cons]
    omega

set_option maxRecDepth 100000 in
set_option maxHeartbeats 1000000 in
theorem encInt_any (g ga : Nat) (B : Nat) (R : Option Nat) (l : List Nat) (zs : List Int) (w : World) (h : EncAt w B g R l) (hB : B ≤ w.heap.size)
    (ha : Box w ga 2 (zs.map (Value.int .i64)).toArray) (hz : ∀ z ∈ zs, -9223372036854775808 ≤ z ∧ z ≤ 9223372036854775807) (hn : l.length + 10 * zs.length ≤ 1000000) :
    Calls Tryd.prog 69 #[.pointer (some ⟨g, 0, none⟩), .slice (some ⟨ga, 0, none⟩) zs.length zs.length] w fun e w' => e = .returned (.tuple #[]) ∧ EncGo w B g R (l ++ zs.flatMap ien) w' := by
  have hbox : ∀ (l' : List Nat) (wr : World), EncGo w B g R l' wr → Box wr ga 2 (zs.map (Value.int .i64)).toArray := by
    intro l' wr hh
    obtain ⟨A, n, c, hr, hb, ho, _⟩ := h
    exact hh.box ha (ha.apart hb (by decide)) (by rw [hr]; exact ha.off_row ho (by decide))
  have HX := Lib.hid hbox; clear hbox
  have hG := Lib.hid (EncGo.start h); clear h
  have HA := Lib.hid ha; clear ha
  have HZ := Lib.hid hz; clear hz
  go_enter Tryd.func69, Tryd.ntmps69
  have i0 := info_parts u8_info
  obtain ⟨i0, hi0, hz0, hz1, hz2⟩ := i0
  go_wp2_with fail
  go_loopw [9] (fun v9 wr => ∃ k : Nat, k ≤ zs.length ∧ v9 = .int .i64 k ∧ Hid (EncGo w B g R (l ++ (zs.take k).flatMap ien) wr)) (fun v9 _ => zs.length - (intOf v9).toNat)
  case atStart => exact ⟨0, by omega, rfl, by simpa using hG⟩
  case round =>
    obtain ⟨k, hk, rfl, hK⟩ := hrel
    by_cases hlt : k < zs.length
    · have hcell : wr.cell? ⟨ga, k, none⟩ = some (.int .i64 zs[k]) := by
        rw [(HX.out _ _ hK.out).reads k]
        simp [hlt]
      have hlk : zs[k]? = some zs[k] := List.getElem?_eq_getElem hlt
      have hzb := HZ.out zs[k] (List.getElem_mem _)
      have htk : l ++ (zs.take (k + 1)).flatMap ien = (l ++ (zs.take k).flatMap ien) ++ ien zs[k] := by
        rw [List.take_succ_eq_append_getElem hlt, List.flatMap_append, List.append_assoc]
        simp
      have hll : (l ++ (zs.take k).flatMap ien).length ≤ l.length + 10 * k := by
        have h1 := iens_len (zs.take k) (fun x hx => HZ.out x (List.mem_of_mem_take hx))
        have h2 : (zs.take k).length ≤ k := List.length_take_le _ _
        rw [List.length_append]; omega
      generalize zs[k] = z at *
      generalize l ++ (zs.take k).flatMap ien = l1 at *
      have HT := Lib.hid htk; clear htk
      have HL := Lib.hid hlk; clear hlk
      have hzz := zz_lt hzb.1 hzb.2
      go_wp2_with (go_at_call 85; refine (unsigned_any z _ hzb.1 hzb.2).mono ?_; rintro e w1 ⟨rfl, rfl⟩)
      go_loopw [6] (fun v6 w2 => ∃ (u : Nat) (ys : List Nat), u < 18446744073709551616 ∧ v6 = .int .u64 (u : Int) ∧ Hid (EncGo w B g R (l1 ++ ys) w2) ∧ Hid (ien z = ys ++ vint u)) (fun v6 _ => (intOf v6).toNat)
      case atStart => exact ⟨zz z, [], hzz, rfl, by simpa using hK, rfl⟩
      case round =>
        obtain ⟨u, ys, hu, rfl, hK2, hU⟩ := hrel
        obtain ⟨A, n, c, hln, hcl, hfr, hown, hgl, hput⟩ := hK2.out.put
        have hyl : ys.length ≤ 9 := by
          have h1 := congrArg List.length hU.out
          rw [List.length_append] at h1
          have h2 := vint_len10 hzz
          have h3 := vint_pos u
          unfold ien at h1
          omega
        have hn1 : n ≤ 1000000 := by rw [← hln, List.length_append]; omega
        have hwB := hK2.out.size
        have HP := Lib.hid hput; clear hput
        have HW := Lib.hid hln; clear hln
        by_cases hub : 128 ≤ u
        · obtain ⟨X, hX⟩ : ∃ X, X = u % 128 + 128 := ⟨_, rfl⟩
          have hmb := more_byte (u := u)
          rw [← hX] at hmb
          have hXb : X < 256 := by omega
          have H3 := Lib.hid hX; clear hX
          have hub2 : decide ((128 : Int) ≤ (u : Int)) = true := by simp; omega
          go_wp2_with (at_builtin; go_loud (refine wpList_append rfl (.tmp 21) (.tmp 25) _ rfl B 5 i0 _ 1 Tryd.underlying22 hi0 hz0 hz1 hz2 rfl (.slice A n c) n ((l1 ++ ys).map bv) rfl (hown.alloc _) (some ⟨wr.heap.size, 0, none⟩) 1 1 (by intro h; cases h) _ rfl (Rd.made wr #[.int .u8 (X : Int)] 5 1 rfl) (by intro u hu; simp at hu; subst hu; rfl) (by simp only [maxLen]; omega) (by omega) (by simp; omega) ?_; intro v1 w2 hown2 hgr2 hat2; obtain ⟨A1, c1, rfl⟩ := own_slice hown2; obtain ⟨hcl2, hfr2, hgo⟩ := HP.out [X] _ w2 (.slice A1 _ c1) _ (by intro x hx; simp at hx; omega) (bel_new wr _) (by simpa [bv] using hown2) hgr2 hat2; have HGO := Lib.hid hgo; clear hgo hown2 hgr2 hat2))
          go_roundw
          case rel => exact ⟨u / 128, ys ++ [X], by omega, by rfl, by rw [← List.append_assoc]; exact HGO, by rw [H3.out, List.append_assoc, List.singleton_append, ← vint_big hub]; exact hU⟩
          case measure => simp [intOf]; omega
        · have hub2 : decide ((128 : Int) ≤ (u : Int)) = false := by simp; omega
          have hub3 : (u : Int) % 256 = (u : Int) := by omega
          have hub4 : u < 128 := by omega
          clear hub
          go_wp2_with (at_builtin; go_loud (refine wpList_append rfl (.tmp 35) (.tmp 38) _ rfl B 5 i0 _ 1 Tryd.underlying22 hi0 hz0 hz1 hz2 rfl (.slice A n c) n ((l1 ++ ys).map bv) rfl (hown.alloc _) (some ⟨wr.heap.size, 0, none⟩) 1 1 (by intro h; cases h) _ rfl (Rd.made wr #[.int .u8 (u : Int)] 5 1 rfl) (by intro u hu; simp at hu; subst hu; rfl) (by simp only [maxLen]; omega) (by omega) (by simp; omega) ?_; intro v1 w2 hown2 hgr2 hat2; obtain ⟨A1, c1, rfl⟩ := own_slice hown2; obtain ⟨hcl2, hfr2, hgo⟩ := HP.out [u] _ w2 (.slice A1 _ c1) _ (by intro x hx; simp at hx; omega) (bel_new wr _) (by simpa [bv] using hown2) hgr2 hat2; have HGO := Lib.hid hgo; clear hgo hown2 hgr2 hat2))
          go_roundw
          case rel => exact ⟨k + 1, by omega, by go_num, by rw [HT.out, hU.out, vint_small hub4, ← List.append_assoc]; exact HGO⟩
          case measure => simp [intOf]; omega
    · obtain rfl : k = zs.length := by omega
      rw [List.take_length] at hK
      go_wp2_with fail
      go_end0
      exact ⟨rfl, hK.out⟩

set_option maxHeartbeats 1000000 in
theorem encBytes_any (g : Nat) (B : Nat) (R : Option Nat) (l : List Nat) (w : World) (h : EncAt w B g R l) (hn : l.length ≤ 1000000) :
    Calls Tryd.prog 70 #[.pointer (some ⟨g, 0, none⟩)] w (Cloned w l.length l) := by
  obtain ⟨A, n, c, hr, hb, ho, hbd, hBg⟩ := h
  have hl : l.length = n := by have := ho.1; simpa using this
  have hcell := hb.reads 0
  have hc0 : A = none → c = 0 := by
    rintro rfl
    rcases ho.2 with ⟨hv, _⟩ | ⟨_, _, _, hv, _⟩
    · injection hv
    · injection hv with hv; cases hv
  have hcl := clone_any A n c l w (by omega) hc0 (Byt.ofOwn ho hbd)
  rw [hl]
  have HC := Lib.hid hcl; clear hcl hc0
  have hcell2 : w.cell? ⟨g, 0, none⟩ = some (.slice A n c) := hcell
  clear hcell hl ho hb hr
  go_enter Tryd.func70, Tryd.ntmps70
  go_wp2_with fail
  refine HC.out.mono ?_
  rintro e w1 ⟨hb1, A1, c1, rfl, h1, h2, h3⟩
  have H3 := Lib.hid h3
  have H2 := Lib.hid h2
  clear h3 h2 HC
  go_wp2_with fail
  go_ret
  exact ⟨hb1, A1, c1, rfl, h1, H2.out, H3.out⟩
end Go.Proofs.YtjfjdicdokdekaaDoor

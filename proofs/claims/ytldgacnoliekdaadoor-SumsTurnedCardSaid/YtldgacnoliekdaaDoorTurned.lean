/- straddlelaw2.SumsTurned returns true, from the contracts of package crc's faces. -/
import Derived.Test.YtldgacnoliekdaaDoorCrcKnown
import Derived.Deep.RegionHeld3
namespace Go.Proofs.YtldgacnoliekdaaDoor
open Go.RowKit Go.Mem1

set_option maxRecDepth 100000 in
set_option maxHeartbeats 1000000 in
theorem turned_early (hSum : SumC) (hAdd : AddC) (hSeal : SealC) (hOpen : OpenC) (A : Option Addr) (n c : Nat) (at' : Int) (p : Nat) (w : World) (hg : ErrType w) (hT : Halves w)
    (h : n < 4 ∨ 300 < n ∨ at' < 0 ∨ p = 0) :
    Calls Tryd.prog 4 #[.slice A n c, .int .i64 at', .int .u32 (p : Int)] w fun e w' => e = .returned (.bool true) ∧ Below w.heap.size w w' := by
  have hk := known_ok hSum hAdd hSeal hOpen w hg hT
  have HK := Lib.hid hk; clear hk hg
  have HT := Lib.hid hT; clear hT
  by_cases h1 : n < 4
  · clear h
    go_enter Tryd.func4, Tryd.ntmps4
    go_wp2_with (go_at_call 5; refine HK.out.mono ?_; rintro e w1 ⟨rfl, hb1⟩)
    go_ret
    exact ⟨rfl, hb1⟩
  · by_cases h2 : 300 < n
    · clear h
      go_enter Tryd.func4, Tryd.ntmps4
      go_wp2_with (go_at_call 5; refine HK.out.mono ?_; rintro e w1 ⟨rfl, hb1⟩)
      go_ret
      exact ⟨rfl, hb1⟩
    · by_cases h3 : at' < 0
      · clear h
        go_enter Tryd.func4, Tryd.ntmps4
        go_wp2_with (go_at_call 5; refine HK.out.mono ?_; rintro e w1 ⟨rfl, hb1⟩)
        go_ret
        exact ⟨rfl, hb1⟩
      · obtain rfl : p = 0 := by omega
        clear h
        go_enter Tryd.func4, Tryd.ntmps4
        go_wp2_with (go_at_call 5; refine HK.out.mono ?_; rintro e w1 ⟨rfl, hb1⟩)
        go_ret
        exact ⟨rfl, hb1⟩

theorem bit_and {p j : Nat} (hp : p < 4294967296) : bits .and .u32 ((p : Int) / 2 ^ j) 1 = ((p / 2 ^ j % 2 : Nat) : Int) := by
  have := and_one (I := p / 2 ^ j) (Nat.lt_of_le_of_lt (Nat.div_le_self _ _) hp)
  rw [← this]
  congr 1
theorem bit_true {p j : Nat} (hp : p < 4294967296) (h : p / 2 ^ j % 2 = 1) : (bits .and .u32 ((p : Int) / 2 ^ j) 1 == 1) = true := by rw [bit_and hp, h]; rfl
theorem bit_false {p j : Nat} (hp : p < 4294967296) (h : ¬ p / 2 ^ j % 2 = 1) : (bits .and .u32 ((p : Int) / 2 ^ j) 1 == 1) = false := by
  rw [bit_and hp, show p / 2 ^ j % 2 = 0 by omega]; rfl
/-- The round's hold: the row c after j rounds. -/
def Round (w0 wr : World) (l : List Nat) (A : Option Addr) (n c k p j : Nat) : Prop :=
  ∃ cl : List Nat, CrcMath.Turned l cl k p j 4294967295 ∧ (∀ x ∈ cl, x < 256) ∧ wr.ownsRow w0.heap.size 5 1 (.slice A n c) n (cl.map bv) ∧ Below w0.heap.size w0 wr

theorem turn_val (X m : Nat) (hX : X < 256) (hm : m < 8) : Value.int .u8 (bits .xor .u8 (X : Int) (2 ^ m % 256)) = bv (X ^^^ 2 ^ m) := by
  have h2 : (2 : Nat) ^ m < 2 ^ 8 := Nat.pow_lt_pow_right (by omega) hm
  have := u8_xor_nat X (2 ^ m) hX h2
  unfold bv
  rw [← this]
  congr 2
  have e : ((2 ^ m : Nat) : Int) = (2 : Int) ^ m := by simp
  have h3 : ((2 ^ m : Nat) : Int) < 256 := by omega
  have h4 : (0 : Int) ≤ ((2 ^ m : Nat) : Int) := Int.natCast_nonneg _
  rw [e] at h3 h4
  omega
theorem own_below {w w' : World} {base : Nat} {e : TypeId} {v : Value} {n : Nat} {xs : List Value} (h : w.ownsRow base e 1 v n xs) (hb : Below w.heap.size w w') : w'.ownsRow base e 1 v n xs :=
  h.kept (row := none) ⟨hb.os, hb.tape, hb.output, hb.size, fun k hk _ => hb.block k hk⟩ (by rcases hv : v.ownBlock with _ | k <;> simp)
theorem own_cap {w : World} {base : Nat} {e : TypeId} {A : Option Addr} {n c : Nat} {xs : List Value} (h : w.ownsRow base e 1 (.slice A n c) n xs) : n ≤ c := by
  rcases h.2 with ⟨_, h0⟩ | ⟨g, cap, cur, hv, _, _, hc, _⟩
  · omega
  · injection hv with _ _ h3; omega
theorem tail4 {w : World} {B b o n : Nat} {l m : List Nat} (h : Byt w B (some ⟨b, o, none⟩) (n + 4) (l ++ m)) (hl : l.length = n) : Byt w B (some ⟨b, o + n, none⟩) 4 m := by
  have hlen := h.len
  rw [List.length_append, hl] at hlen
  obtain ⟨b', o', e, hlt, hc⟩ := h.rd.cells (by omega)
  injection e with e
  injection e with e1 e2
  subst e1; subst e2
  refine ⟨⟨by rw [List.length_map]; omega, fun _ => ⟨b, o + n, rfl, hlt, fun k u hu => ?_⟩⟩, fun x hx => h.bnd x (List.mem_append_right _ hx)⟩
  have := hc (n + k) u (by rw [List.map_append, List.getElem?_append_right (by rw [List.length_map]; omega), List.length_map, hl, Nat.add_sub_cancel_left]; exact hu)
  rw [← Nat.add_assoc] at this
  exact this
theorem le4_inj {a b : Nat} (ha : a < 4294967296) (hb : b < 4294967296) (h : le4 a = le4 b) : a = b := by
  simp only [le4, List.cons.injEq] at h
  omega
theorem bnd_app {l : List Nat} {s : Nat} (h : ∀ x ∈ l, x < 256) : ∀ x ∈ l ++ le4 s, x < 256 := by
  intro x hx
  rcases List.mem_append.1 hx with hx | hx
  · exact h x hx
  · simp only [le4, List.mem_cons, List.not_mem_nil, or_false] at hx
    omega
theorem sumOf_fold {l m : List Nat} (h : sumOf l = sumOf m) : CrcMath.fold 4294967295 l = CrcMath.fold 4294967295 m := by
  have := congrArg (fun x => x ^^^ 4294967295) h
  simpa [sumOf, Nat.xor_assoc] using this
theorem Round.no {w0 wr : World} {l : List Nat} {A : Option Addr} {n c k p j : Nat} (h : Round w0 wr l A n c k p j) (hb : p / 2 ^ j % 2 = 0) : Round w0 wr l A n c k p (j + 1) := by
  obtain ⟨cl, hT, hcl, hown, hbel⟩ := h
  exact ⟨cl, hT.skip hb, hcl, hown, hbel⟩
theorem Round.yes {w0 wr : World} {l : List Nat} {g n c k p j : Nat} (h : Round w0 wr l (some ⟨g, 0, none⟩) n c k p j) (hl : l.length = n) (hb : p / 2 ^ j % 2 = 1) (hk : k + 32 ≤ 8 * n) (hj : j < 32) :
    ∃ X : Nat, X < 256 ∧ wr.cell? ⟨g, (k + j) / 8, none⟩ = some (.int .u8 (X : Int)) ∧ wr.frozen? ⟨g, (k + j) / 8, none⟩ = false ∧
      Round w0 (wr.setCell ⟨g, (k + j) / 8, none⟩ (bv (X ^^^ 2 ^ ((k + j) % 8)))) l (some ⟨g, 0, none⟩) n c k p (j + 1) := by
  obtain ⟨cl, hT, hcl, hown, hbel⟩ := h
  have hcn : cl.length = n := by have := hT.1; omega
  have hm : (k + j) / 8 < cl.length := by omega
  obtain ⟨g', e1, hgb, hglt, hcell, hfro, hset⟩ := own_at hown (show (k + j) / 8 < n by omega)
  obtain rfl : g = g' := by injection e1 with e1; injection e1
  rw [List.getElem?_map, List.getElem?_eq_getElem hm] at hcell
  have hX : cl[(k + j) / 8] < 256 := hcl _ (List.getElem_mem _)
  refine ⟨cl[(k + j) / 8], hX, hcell, hfro, cl.set ((k + j) / 8) (cl[(k + j) / 8] ^^^ 2 ^ ((k + j) % 8)), hT.turn hb (by omega) hj hm, ?_, ?_, hbel.setCell hgb _⟩
  · intro x hx
    rcases List.mem_or_eq_of_mem_set hx with hx | rfl
    · exact hcl x hx
    · refine Nat.xor_lt_two_pow (n := 8) hX ?_
      exact Nat.pow_lt_pow_right (by omega) (by omega)
  · have := hset (bv (cl[(k + j) / 8] ^^^ 2 ^ ((k + j) % 8)))
    rw [List.map_set]
    exact this

set_option maxRecDepth 100000 in
set_option maxHeartbeats 1000000 in
theorem turned_main (hSum : SumC) (hAdd : AddC) (hSeal : SealC) (hOpen : OpenC) (A : Option Addr) (n c : Nat) (at' : Int) (p : Nat) (l : List Nat) (w : World) (hg : ErrType w) (hT : Halves w)
    (h4 : 4 ≤ n) (h300 : n ≤ 300) (h0 : 0 ≤ at') (hat : at' ≤ 9223372036854775807) (hp : 0 < p) (hp2 : p < 4294967296) (hb : Byt w w.heap.size A n l) :
    Calls Tryd.prog 4 #[.slice A n c, .int .i64 at', .int .u32 (p : Int)] w fun e w' => e = .returned (.bool true) ∧ Below w.heap.size w w' := by
  obtain ⟨i0, hi0, hz0, hz1, hz2⟩ := info_parts u8_info
  have hk := known_ok hSum hAdd hSeal hOpen w hg hT
  have HK := Lib.hid hk; clear hk hg
  have HT := Lib.hid hT; clear hT
  have hpz : ((p : Int) == 0) = false := by simp; omega
  go_enter Tryd.func4, Tryd.ntmps4
  go_wp2_with fail
  refine HK.out.mono ?_
  rintro e w1 ⟨rfl, B1⟩
  have hb1 : Byt w1 w1.heap.size A n l := (hb.carry B1).wider B1.size
  clear hb
  go_wp2_with (at_builtin; refine wpList_append rfl (.tmp 37) (.tmp 38) _ rfl w1.heap.size 5 i0 _ 1 Tryd.underlying23 hi0 hz0 hz1 hz2 rfl (.slice (some ⟨w1.heap.size, 0, none⟩) 0 0) 0 [] rfl (World.ownsRow_made w1 #[] 0 (Nat.le_refl _) (by simp [maxLen]) rfl) A n c (hb1.nil_cap (by omega)) (l.map bv) rfl (hb1.behind _).rd (oneCell_bv l) (by simp only [maxLen]; omega) (by omega) (by simp) ?_; intro v1 w2 hown hgr _hat; simp only [Nat.zero_add, List.nil_append] at hown)
  obtain ⟨g, cap, rfl, hg0, hg1⟩ := hown.form (by omega)
  have hkn : 0 ≤ at' % (8 * (n : Int) - 31) ∧ at' % (8 * (n : Int) - 31) < 8 * (n : Int) - 31 := ⟨Int.emod_nonneg _ (by omega), Int.emod_lt_of_pos _ (by omega)⟩
  obtain ⟨k, hk⟩ := Int.eq_ofNat_of_zero_le hkn.1
  rw [hk] at hkn
  have hk32 : k + 32 ≤ 8 * n := by omega
  rw [hk]
  clear hk hkn hat h0
  have B12 : Below w1.heap.size w1 w2 := (bel_new _ _).grown hgr (by simp) (by simp [Value.ownBlock])
  have R0 : Round w1 w2 l (some ⟨g, 0, none⟩) n cap k p 0 := ⟨l, CrcMath.Turned.start _ _ _ _, hb1.bnd, hown, B12⟩
  have hlen := hb1.len
  have HL := Lib.hid hlen; clear hlen
  have HB := Lib.hid hb1; clear hb1
  clear hown hgr _hat B12
  go_loopw [9] (fun v9 wr => ∃ j : Nat, j ≤ 32 ∧ v9 = .int .i64 j ∧ Round w1 wr l (some ⟨g, 0, none⟩) n cap k p j) (fun v9 _ => 32 - (intOf v9).toNat)
  case atStart => exact ⟨0, by omega, rfl, R0⟩
  case round =>
    obtain ⟨j, hj, rfl, hR⟩ := hrel
    by_cases hj32 : j < 32
    · by_cases hbit : p / 2 ^ j % 2 = 1
      · have ht := bit_true hp2 hbit
        obtain ⟨X, hX, hcell, hfro, hR'⟩ := hR.yes HL.out hbit hk32 hj32
        have H1 := Lib.hid hR'; clear hR' hR hbit
        go_wp2_with fail
        rw [turn_val X _ hX (by omega)]
        go_roundw
        case rel => exact ⟨j + 1, by omega, by go_num, H1.out⟩
        case measure => simp [intOf]; omega
      · have ht := bit_false hp2 hbit
        have R1 := Lib.hid (hR.no (by omega))
        clear hR hbit
        go_wp2_with fail
        go_roundw
        case rel => exact ⟨j + 1, by omega, by go_num, R1⟩
        case measure => simp [intOf]; omega
    · obtain rfl : j = 32 := by omega
      obtain ⟨cl, hT, hcl, hown, hbel⟩ := hR
      have hd := hT.differ hp hp2
      have hcn : cl.length = n := by have := hT.1; have := HL.out; omega
      have HD := Lib.hid hd; clear hd hT
      go_wp2_with fail
      refine (hSeal A n c l wr ((HT.out.below B1).below hbel) (by omega) (HB.out.nil_cap (by omega)) ((HB.out.carry hbel).wider hbel.size)).mono ?_
      rintro e w3 ⟨A3, c3, rfl, hc3, hb3, hbel3⟩
      have HT3 := Lib.hid (((HT.out.below B1).below hbel).below hbel3)
      obtain ⟨b3, o3, rfl, hb3lt, hcells3⟩ := hb3.rd.cells (by omega)
      have hne : ¬ c3 = n := by omega
      have hs0 : (0 : Int) ≤ (n : Int) := Int.natCast_nonneg _
      have hs1 : (n : Int) ≤ (n : Int) + 4 := by omega
      have hs2 : (n : Int) + 4 ≤ (c3 : Int) := by omega
      have hs3 : (n : Int) ≤ (c3 : Int) := by omega
      have hown3 : w3.ownsRow w1.heap.size 5 1 (.slice (some ⟨g, 0, none⟩) n cap) n (cl.map bv) := own_below hown hbel3
      have hbc : Byt w3 w3.heap.size (some ⟨g, 0, none⟩) n cl := ⟨Rd.ofOwn hown3, hcl⟩
      have hb4 : Byt w3 w3.heap.size (some ⟨b3, o3 + n, none⟩) 4 (le4 (sumOf l)) := tail4 hb3 HL.out
      have hns : ¬ sealed (cl ++ le4 (sumOf l)) := by
        intro hs
        have h2 := hs.2
        have h4 : (le4 (sumOf l)).length = 4 := rfl
        rw [List.length_append, h4, Nat.add_sub_cancel, List.drop_left' rfl, List.take_left' rfl] at h2
        have := le4_inj (sumOf_lt HB.out.bnd) (sumOf_lt hcl) h2
        exact HD.out (sumOf_fold this).symm
      have HN := Lib.hid hns; clear hns
      clear hcells3 hb3 hown
      go_wp2_with fail
      go_region_held3 (fun _ => True) (trivial) ((first
        | (refine step_append rfl (.tmp 79) (.tmp 80) _ rfl w3.heap.size 5 i0 _ 1 Tryd.underlying23 hi0 hz0 hz1 hz2 rfl (.slice (some ⟨w3.heap.size, 0, none⟩) 0 0) 0 [] rfl (World.ownsRow_made w3 #[] 0 (Nat.le_refl _) (by simp [maxLen]) rfl).drew (some ⟨g, 0, none⟩) n cap (by intro h; cases h) (cl.map bv) rfl (hbc.behind _).rd.drew (oneCell_bv cl) (by simp only [maxLen]; omega) (by omega) (by simp) ?_; intro v4 w4 hown4 hgr4 hat4; simp only [Nat.zero_add, List.nil_append] at hown4; have B34 : Below w3.heap.size w3 w4 := ((bel_new w3 _).drew).grown hgr4 (by simp) (by simp [Value.ownBlock]); clear hgr4 hat4)
        | (refine step_append rfl (.tmp 81) (.tmp 85) _ rfl w3.heap.size 5 i0 _ 1 Tryd.underlying23 hi0 hz0 hz1 hz2 rfl v4 n (cl.map bv) rfl hown4 (some ⟨b3, o3 + n, none⟩) 4 (c3 - n) (by intro h; cases h) ((le4 (sumOf l)).map bv) rfl (hb4.carry B34).rd (oneCell_bv _) (by simp only [maxLen]; omega) (by omega) B34.size ?_; intro v5 w5 hown5 hgr5 hat5; have B35 : Below w3.heap.size w3 w5 := B34.grown hgr5 B34.size (fun k hk => (hown4.lt k hk).1); clear hgr5 hat5; obtain ⟨g5, cap5, rfl, _, _⟩ := hown5.form (by omega); rw [← List.map_append] at hown5)
        | (go_at_call 8; refine (hOpen.bad (some ⟨g5, 0, none⟩) (n + 4) cap5 (cl ++ le4 (sumOf l)) w5 (HT3.out.below B35) (by omega) (own_cap hown5) (by intro h; cases h) ⟨Rd.ofOwn hown5, bnd_app hcl⟩ HN.out).mono ?_; rintro e w6 ⟨A6, c6, v6, rfl, hbel6, he6⟩)))
      have B36 : Below w3.heap.size w3 w6 := bel_trans B35 hbel6
      have hbc6 : Byt w6 w6.heap.size (some ⟨g, 0, none⟩) n cl := (hbc.carry B36).wider B36.size
      have B16 : Below w1.heap.size w1 w6 := bel_trans hbel (bel_trans hbel3 B36)
      have hb6 : Byt w6 w6.heap.size A n l := (HB.out.carry B16).wider B16.size
      obtain ⟨t6, x6, rfl⟩ := he6.notNil
      clear he6 hbel6 B35 B34 hown5 hown4 hbc hb4 hown3
      go_wp2_with fail
      have c7 := hSum _ 1 1 _ _ ((HT3.out.below B36).alloc _) (by omega) (Parts.one (c1 := cap) hbc6 (by omega) 23 w6.heap.size rfl)
      rw [show [cl].flatten = cl by simp] at c7
      refine c7.mono ?_
      rintro e w7 ⟨rfl, hbel7⟩
      have B67 : Below w6.heap.size w6 w7 := bel_trans (bel_new _ _) hbel7
      have hb7 : Byt w7 w7.heap.size A n l := (hb6.carry B67).wider B67.size
      clear c7 hbel7
      have hS1 : sumOf cl < 4294967296 := sumOf_lt hcl
      have hne12 : sumOf cl ≠ sumOf l := fun h => HD.out (sumOf_fold h)
      generalize sumOf cl = S1 at *
      go_wp2_with fail
      have c8 := hSum _ 1 1 _ _ (((HT3.out.below B36).below B67).alloc _) (by omega) (Parts.one (c1 := c) hb7 (by omega) 23 w7.heap.size rfl)
      rw [show [l].flatten = l by simp] at c8
      refine c8.mono ?_
      rintro e w8 ⟨rfl, hbel8⟩
      have B8 : Below w.heap.size w w8 := bel_trans B1 (bel_trans B16 (bel_trans B67 (bel_trans (bel_new _ _) hbel8)))
      clear c8 hbel8
      generalize sumOf l = S2 at *
      have hq : ((S1 : Int) != (S2 : Int)) = true := by simp; omega
      go_wp2
      go_ret
      exact ⟨rfl, B8⟩
end Go.Proofs.YtldgacnoliekdaaDoor

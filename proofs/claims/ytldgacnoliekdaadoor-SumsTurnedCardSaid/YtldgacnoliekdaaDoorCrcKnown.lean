/- The known sums of straddlelaw2 hold. -/
import Derived.Test.YtldgacnoliekdaaDoorCrcSaid
import Derived.Deep.DeepMust
import Derived.Lib.SlBytesConst
namespace Go.Proofs.YtldgacnoliekdaaDoor
open Go.RowKit Go.Mem1

/-- Of a block just made, whatever mark it bears. -/
theorem Byt.made (w : World) (cs : Array Value) (fr : Nat × Nat) (n : Nat) (l : List Nat) (hn : cs.size = n) (hl : cs.toList = l.map bv) (hb : ∀ x ∈ l, x < 256) :
    Byt (w.alloc (.cells cs 5 fr)) (w.alloc (.cells cs 5 fr)).heap.size (some ⟨w.heap.size, 0, none⟩) n l := by
  refine ⟨⟨by rw [← hl]; simpa using hn, fun _ => ⟨_, _, rfl, by simp, fun k u hu => ?_⟩⟩, hb⟩
  have : (w.alloc (.cells cs 5 fr)).cell? ⟨w.heap.size, 0 + k, none⟩ = cs[k]? := by
    rw [Nat.zero_add]
    exact cell_of_row _ _ _ cs _ fr (heap_alloc_new w _)
  rw [this]
  rw [← hl] at hu
  simpa using hu

theorem sealed_made (l : List Nat) : sealed (l ++ le4 (sumOf l)) := by
  have h4 : (le4 (sumOf l)).length = 4 := rfl
  refine ⟨by rw [List.length_append, h4]; omega, ?_⟩
  rw [List.length_append, h4, Nat.add_sub_cancel, List.drop_left' rfl, List.take_left' rfl]
theorem Byt.nil_cap {w : World} {B : Nat} {A : Option Addr} {n c : Nat} {l : List Nat} (h : Byt w B A n l) (hn : 0 < n) : A = none → c = 0 := by
  intro h0
  obtain ⟨b, off, e, _⟩ := h.rd.cells hn
  rw [e] at h0; cases h0
theorem not_sealed_short {l : List Nat} (h : l.length < 4) : ¬ sealed l := fun hs => by have := hs.1; omega

theorem Byt.at_new (w : World) (cs : Array Value) (fr : Nat × Nat) (g n : Nat) (l : List Nat) (hg : g = w.heap.size) (hn : cs.size = n) (hl : cs.toList = l.map bv) (hb : ∀ x ∈ l, x < 256) :
    Byt (w.alloc (.cells cs 5 fr)) (w.alloc (.cells cs 5 fr)).heap.size (some ⟨g, 0, none⟩) n l := by subst hg; exact Byt.made w cs fr n l hn hl hb
theorem Byt.behind {w : World} {A : Option Addr} {n : Nat} {l : List Nat} (h : Byt w w.heap.size A n l) (o : Obj) : Byt (w.alloc o) (w.alloc o).heap.size A n l :=
  (h.carry ((Below.refl _ _).alloc (Nat.le_refl _) o)).wider (by simp)
theorem Parts.at_new (w : World) (vs : Array Value) (e : TypeId) (ls : List (List Nat)) (g n : Nat) (hg : g = w.heap.size) (hn : vs.size = n) (hl : ls.length = n)
    (h : ∀ (i : Nat) (v : Value) (l : List Nat), vs[i]? = some v → ls[i]? = some l → ∃ (A1 : Option Addr) (n1 c1 : Nat), v = Value.slice A1 n1 c1 ∧ n1 ≤ 140737488355328 ∧ Byt w w.heap.size A1 n1 l) :
    Parts (w.alloc (.cells vs e)) (w.alloc (.cells vs e)).heap.size (some ⟨g, 0, none⟩) n ls := by
  subst hg
  refine ⟨vs.toList, (Rd.made w vs e n hn).wider (by simp), by simp; omega, fun i v l hv hl => ?_⟩
  obtain ⟨A1, n1, c1, rfl, hn1, hb⟩ := h i v l (by simpa using hv) hl
  exact ⟨A1, n1, c1, rfl, hn1, hb.behind _⟩

theorem Parts.one {w : World} {A1 : Option Addr} {n1 c1 : Nat} {l1 : List Nat} (h1 : Byt w w.heap.size A1 n1 l1) (hn1 : n1 ≤ 140737488355328) (e : TypeId) (g : Nat) (hg : g = w.heap.size) :
    Parts (w.alloc (.cells #[.slice A1 n1 c1] e)) (w.alloc (.cells #[.slice A1 n1 c1] e)).heap.size (some ⟨g, 0, none⟩) 1 [l1] :=
  Parts.at_new w _ e _ g 1 hg rfl rfl (by
    intro i v l hv hl
    match i, hv, hl with
    | 0, hv, hl => injection hv with hv; injection hl with hl; subst hv; subst hl; exact ⟨_, _, _, rfl, hn1, h1⟩
    | (k + 1), hv, _ => simp at hv)
theorem Parts.two {w : World} {A1 A2 : Option Addr} {n1 c1 n2 c2 : Nat} {l1 l2 : List Nat} (h1 : Byt w w.heap.size A1 n1 l1) (h2 : Byt w w.heap.size A2 n2 l2) (hn1 : n1 ≤ 140737488355328) (hn2 : n2 ≤ 140737488355328) (e : TypeId) (g : Nat) (hg : g = w.heap.size) :
    Parts (w.alloc (.cells #[.slice A1 n1 c1, .slice A2 n2 c2] e)) (w.alloc (.cells #[.slice A1 n1 c1, .slice A2 n2 c2] e)).heap.size (some ⟨g, 0, none⟩) 2 [l1, l2] :=
  Parts.at_new w _ e _ g 2 hg rfl rfl (by
    intro i v l hv hl
    match i, hv, hl with
    | 0, hv, hl => injection hv with hv; injection hl with hl; subst hv; subst hl; exact ⟨_, _, _, rfl, hn1, h1⟩
    | 1, hv, hl => injection hv with hv; injection hl with hl; subst hv; subst hl; exact ⟨_, _, _, rfl, hn2, h2⟩
    | (k + 2), hv, _ => simp at hv)

def strOf (l : List Nat) : ByteArray := (l.map (fun x : Nat => (x : Int))).foldl (fun r n => r.push (UInt8.ofNat n.toNat)) ByteArray.empty
/-- string of a row of bytes. -/
theorem conv_str {w : World} {B : Nat} {A : Option Addr} {n : Nat} {l : List Nat} (h : Byt w B A n l) (c : Nat) (hn : 0 < n) :
    (convert 23 9 (.slice A n c)).run Tryd.prog w = .ok (.string (strOf l)) w := by
  rw [run_convert_bytes_string w _ _ _ _ _ _ Tryd.underlying23 Tryd.underlying5 Tryd.underlying9]
  obtain ⟨b, off, rfl, _, hc⟩ := h.rd.cells hn
  refine run_bytesToString w _ _ _ (l.map (fun x : Nat => (x : Int))) ?_
  have := run_loadCells_list (P := Tryd.prog) w ⟨b, off, none⟩ (l.map bv) (fun j v hv => by
    have := hc j v hv
    rcases Nat.eq_zero_or_pos j with h0 | h0
    · subst h0; simpa [Addr.add] using this
    · simpa [Addr.add, show j ≠ 0 by omega] using this)
  rw [List.length_map, h.len] at this
  rw [this, List.map_map]
  rfl

/-- []byte of a constant: the row gets a mark behind its last cell. -/
theorem conv_const (w : World) (C : Array Value) (g n c : Nat) (hg : g = w.heap.size) :
    (convert 23 23 (.slice (some ⟨g, 0, none⟩) n c)).run Tryd.prog (w.alloc (.cells C 5)) = .ok (.slice (some ⟨g, 0, none⟩) n c) (w.alloc (.cells C 5 (C.size, C.size + 1))) := by
  subst hg
  exact Lib.run_convert_bytes_const (P := Tryd.prog) w 23 5 C n c Tryd.underlying23 Tryd.underlying5
set_option maxRecDepth 100000 in
set_option maxHeartbeats 1000000 in
theorem known_ok (hSum : SumC) (hAdd : AddC) (hSeal : SealC) (hOpen : OpenC) (w : World) (hg : ErrType w) (hT : Halves w) :
    Calls Tryd.prog 5 #[] w fun e w' => e = .returned (.bool true) ∧ Below w.heap.size w w' := by
  have hlt := hg.lt
  have HG := Lib.hid hg; clear hg
  have HT := Lib.hid hT; clear hT
  have kc := conv_const
  go_enter Tryd.func5, Tryd.ntmps5
  go_wp2_with fail
  refine (hSeal _ 1 _ [120] _ (HT.out.alloc _) (by omega) (by intro h; cases h) (Byt.made w _ _ 1 [120] rfl rfl (by decide))).mono ?_
  rintro e w1 ⟨A1, c1, rfl, hc1, hb1, hbel1⟩
  have B1 : Below w.heap.size w w1 := bel_trans (bel_new _ _) hbel1
  clear hbel1
  go_wp2_with fail
  refine (hOpen A1 5 c1 _ w1 (HT.out.below B1) (by omega) hc1 (hb1.nil_cap (by omega)) hb1).mono ?_
  rintro e w2 ⟨hbel2, ⟨_, A2, c2, rfl, hb2⟩ | ⟨hno, _⟩⟩
  rotate_left
  · exact absurd (sealed_made [120]) hno
  have hb2' : Byt w2 w2.heap.size A2 1 [120] := hb2
  have B2 : Below w.heap.size w w2 := bel_trans B1 hbel2
  clear hb1 hb2 hbel2 B1
  go_wp2_with fail
  refine (hOpen _ 3 _ [97, 98, 99] _ ((HT.out.below B2).alloc _) (by omega) (by omega) (by intro h; cases h) (Byt.made w2 _ _ 3 _ rfl rfl (by decide))).mono ?_
  rintro e w3 ⟨hbel3, ⟨hs, _⟩ | ⟨_, A3, c3, v3, rfl, he3⟩⟩
  · exact absurd hs (not_sealed_short (by decide))
  have B23 : Below w2.heap.size w2 w3 := bel_trans (bel_new _ _) hbel3
  have hb3 : Byt w3 w3.heap.size A2 1 [120] := (hb2'.carry B23).wider B23.size
  have B3 : Below w.heap.size w w3 := bel_trans B2 B23
  clear hb2' hbel3 B23 B2
  go_wp2_with fail
  have b4a : Byt _ _ (some ⟨w3.heap.size + 1, 0, none⟩) 4 [49, 50, 51, 52] := Byt.at_new (w3.alloc (.cells #[.pointer none] 42)) #[.int .u8 49, .int .u8 50, .int .u8 51, .int .u8 52] (4, 5) _ 4 _ (by simp) rfl rfl (by decide)
  have b4b : Byt _ _ (some ⟨w3.heap.size + 1 + 1, 0, none⟩) 5 [53, 54, 55, 56, 57] := Byt.at_new ((w3.alloc (.cells #[.pointer none] 42)).alloc (.cells #[.int .u8 49, .int .u8 50, .int .u8 51, .int .u8 52] 5 (4, 5))) #[.int .u8 53, .int .u8 54, .int .u8 55, .int .u8 56, .int .u8 57] (5, 6) _ 5 _ (by simp) rfl rfl (by decide)
  have p4 := Parts.two (c1 := 4) (c2 := 5) (b4a.behind _) b4b (by omega) (by omega) 23 (w3.heap.size + 1 + 1 + 1) (by simp)
  have c4 := hSum _ 2 2 _ _ (((((HT.out.below B3).alloc _).alloc _).alloc _).alloc _) (by omega) p4
  rw [show sumOf [[49, 50, 51, 52], [53, 54, 55, 56, 57]].flatten = 3421780262 by decide +kernel] at c4
  refine c4.mono ?_
  rintro e w4 ⟨rfl, hbel4⟩
  have B4v : Below (w3.alloc (.cells #[.pointer none] 42)).heap.size (w3.alloc (.cells #[.pointer none] 42)) w4 := bel_trans (bel_alloc (bel_alloc (bel_new _ _) _) _) hbel4
  have B34 : Below w3.heap.size w3 w4 := bel_trans (bel_new _ _) B4v
  have B04 : Below w.heap.size w w4 := bel_trans B3 B34
  have V4 : w4.cell? ⟨w3.heap.size, 0, none⟩ = some (.pointer none) ∧ w4.frozen? ⟨w3.heap.size, 0, none⟩ = false ∧ w3.heap.size < w4.heap.size :=
    ⟨by rw [B4v.cell (p := ⟨w3.heap.size, 0, none⟩) (by simp)]; simp, by rw [B4v.frozen (p := ⟨w3.heap.size, 0, none⟩) (by simp)]; simp, by have := B4v.size; simp at this; omega⟩
  clear c4 p4 b4a b4b hbel4 B4v
  have V4' := Lib.hid V4; clear V4
  go_wp2_with fail
  have b5a : Byt _ _ (some ⟨w4.heap.size, 0, none⟩) 4 [49, 50, 51, 52] := Byt.at_new w4 #[.int .u8 49, .int .u8 50, .int .u8 51, .int .u8 52] (4, 5) _ 4 _ rfl rfl rfl (by decide)
  have p5 := Parts.one (c1 := 4) b5a (by omega) 23 (w4.heap.size + 1) (by simp)
  have c5 := hSum _ 1 1 _ _ (((HT.out.below B04).alloc _).alloc _) (by omega) p5
  rw [show sumOf [[49, 50, 51, 52]].flatten = 2615402659 by decide +kernel] at c5
  refine c5.mono ?_
  rintro e w5 ⟨rfl, hbel5⟩
  have B45 : Below w4.heap.size w4 w5 := bel_trans (bel_alloc (bel_new _ _) _) hbel5
  have B05 : Below w.heap.size w w5 := bel_trans B04 B45
  clear c5 p5 b5a hbel5
  go_wp2_with fail
  have b6 : Byt _ _ (some ⟨w5.heap.size, 0, none⟩) 5 [53, 54, 55, 56, 57] := Byt.at_new w5 #[.int .u8 53, .int .u8 54, .int .u8 55, .int .u8 56, .int .u8 57] (5, 6) _ 5 _ rfl rfl rfl (by decide)
  have c6 := hAdd 2615402659 _ 5 5 _ _ ((HT.out.below B05).alloc _) (by omega) (by omega) b6
  rw [show addOf 2615402659 [53, 54, 55, 56, 57] = 3421780262 by decide +kernel] at c6
  refine c6.mono ?_
  rintro e w6 ⟨rfl, hbel6⟩
  have B56 : Below w5.heap.size w5 w6 := bel_trans (bel_new _ _) hbel6
  have B46 : Below w4.heap.size w4 w6 := bel_trans B45 B56
  have B36 : Below w3.heap.size w3 w6 := bel_trans B34 B46
  have hb6 : Byt w6 w6.heap.size A2 1 [120] := (hb3.carry B36).wider B36.size
  have he6 : IsErr w6 w3.heap.size [(sumBytes, 3)] 3 v3 := he3.carry B36
  have V6 : w6.cell? ⟨w3.heap.size, 0, none⟩ = some (.pointer none) ∧ w6.frozen? ⟨w3.heap.size, 0, none⟩ = false :=
    ⟨by rw [B46.cell (p := ⟨w3.heap.size, 0, none⟩) V4'.out.2.2]; exact V4'.out.1, by rw [B46.frozen (p := ⟨w3.heap.size, 0, none⟩) V4'.out.2.2]; exact V4'.out.2.1⟩
  have B6 : Below w.heap.size w w6 := bel_trans B3 B36
  clear c6 b6 hbel6 B56 B45 B34
  have V6' := Lib.hid V6; clear V6
  have ks := conv_str hb6 c2 (by omega)
  rw [show strOf [120] = ⟨#[120]⟩ from rfl] at ks
  have E6 := Lib.hid he6; clear he6
  go_wp2_with fail
  refine (errorsIs _ 3 3 v3 w6 _ E6.out).mono ?_
  rintro e w7 ⟨rfl, rfl⟩
  go_wp2_with fail
  obtain ⟨fb, fu, rfl, hfb, f0, f1, f2, _⟩ := E6.out
  refine (errorsAs_hit ⟨fb, 0, none⟩ w3.heap.size _ w6 w3.heap.size (Nat.le_refl _) ?_ V6'.out.1 V6'.out.2).mono ?_
  · exact (B6.cell (p := ⟨1, 0, none⟩) hlt).trans HG.out
  rintro e w7 ⟨rfl, hv7, hbel7⟩
  have g0 : w7.cell? ⟨fb, 0, none⟩ = some (.string ⟨#[115, 117, 109]⟩) := (hbel7.cell (p := ⟨fb, 0, none⟩) hfb).trans f0
  have g1 : w7.cell? ⟨fb, 1, none⟩ = some (.int .i64 3) := (hbel7.cell (p := ⟨fb, 1, none⟩) hfb).trans f1
  have B7 : Below w.heap.size w w7 := B6.trans (hbel7.mono B3.size)
  clear f0 f1 f2 hbel7
  go_wp2
  go_ret
  exact ⟨rfl, B7⟩
end Go.Proofs.YtldgacnoliekdaaDoor

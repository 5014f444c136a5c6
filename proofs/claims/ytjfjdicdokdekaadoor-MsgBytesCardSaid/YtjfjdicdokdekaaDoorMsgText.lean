/- The landed msg.Text, whatever the message. -/
import Derived.Test.YtjfjdicdokdekaaDoorMsgLine
import Derived.Test.YtjfjdicdokdekaaDoorMsgEnc
import Derived.Deep.RegionHeld3
set_option linter.unusedSimpArgs false
namespace Go.Proofs.YtjfjdicdokdekaaDoor
open Go.RowKit Go.Mem1 Go.CodMath

theorem bld_below {T e : TypeId} {B b : Nat} {bs : List Value} {w w' : World} (h : Lib.IsBuilder T e B b bs w) (hb : Below w.heap.size w w') : Lib.IsBuilder T e B b bs w' := by
  rcases h with ⟨h1, v, h2, h3, h4⟩ | ⟨h1, v, h2, h3, h4⟩
  · exact .inl ⟨h1, v, (hb.block b (Array.getElem?_eq_some_iff.1 h2).1).trans h2, own_chg h3 (Chg.of_below hb (fun _ => False)) (fun _ _ h => h), h4⟩
  · exact .inr ⟨h1, v, (hb.block b (Array.getElem?_eq_some_iff.1 h2).1).trans h2, own_chg h3 (Chg.of_below hb (fun _ => False)) (fun _ _ h => h), h4⟩
theorem i64_info : (Tryd.prog.info? 2).map (fun i => (i.zero, i.size, i.bytes)) = some (some (.int .i64 0), 1, 8) := by kernel_rfl
variable {tx : Int → ByteArray} {ok : Int → Prop} {Keep : World → Prop}
/-- A row in words; a message in words. -/
def rowTxt (tx : Int → ByteArray) (x : R5) : ByteArray := ⟨#[32, 91]⟩ ++ lineOf tx x.l ++ ⟨#[93]⟩
def textOf (tx : Int → ByteArray) (h : Hd) (rs : List R5) : ByteArray := rs.foldl (fun a x => a ++ rowTxt tx x) (lineOf tx h.l)
theorem textOf_step {tx : Int → ByteArray} {h : Hd} {rs : List R5} {k : Nat} {x : R5} (hx : rs[k]? = some x) : textOf tx h (rs.take (k + 1)) = textOf tx h (rs.take k) ++ rowTxt tx x := by
  obtain ⟨hk, rfl⟩ := List.getElem?_eq_some_iff.1 hx
  rw [List.take_succ_eq_append_getElem hk]
  unfold textOf
  rw [List.foldl_append]
  rfl
theorem rowTxt_size (N : NumT tx ok Keep) (x : R5) (hok : ∀ z ∈ x.l, ok z) : (rowTxt tx x).size ≤ 160 := by
  have h1 := lineOf_size N x.l hok
  have h2 : x.l.length = 5 := rfl
  have z1 : (⟨#[32, 91]⟩ : ByteArray).size = 2 := rfl
  have z2 : (⟨#[93]⟩ : ByteArray).size = 1 := rfl
  unfold rowTxt
  rw [ByteArray.size_append, ByteArray.size_append, z1, z2]
  omega
theorem textOf_size (N : NumT tx ok Keep) (h : Hd) (rs : List R5) (hok : ∀ z ∈ h.l, ok z) (hoks : ∀ x ∈ rs, ∀ z ∈ x.l, ok z) : ∀ k, k ≤ rs.length → (textOf tx h (rs.take k)).size ≤ 250 + 160 * k
  | 0, _ => by
    have h1 := lineOf_size N h.l hok
    have h2 : h.l.length = 8 := rfl
    have : textOf tx h (rs.take 0) = lineOf tx h.l := rfl
    rw [this]; omega
  | k + 1, hk => by
    have h1 := textOf_size N h rs hok hoks k (by omega)
    rw [textOf_step (List.getElem?_eq_getElem (show k < rs.length by omega)), ByteArray.size_append]
    have := rowTxt_size N (rs[k]'(by omega)) (hoks _ (List.getElem_mem _))
    omega
theorem cells_app (a b : ByteArray) : Lib.byteCells a.data.toList ++ Lib.strCells b = Lib.byteCells (a ++ b).data.toList := by
  rw [Lib.strCells_eq, ← Lib.byteCells_append]
  congr 1
theorem cells_len (a : ByteArray) : (Lib.byteCells a.data.toList).length = a.size := by
  unfold Lib.byteCells
  rw [List.length_map]
  rfl
def MTextLoop (tx : Int → ByteArray) (h : Hd) (rs : List R5) (w : World) (k : Nat) (wr : World) : Prop :=
  Below w.heap.size w wr ∧ w.heap.size + 1 ≤ wr.heap.size ∧ Lib.IsBuilder 133 5 (w.heap.size + 1) (w.heap.size + 1) (Lib.byteCells (textOf tx h (rs.take k)).data.toList) wr
set_option maxRecDepth 100000 in
set_option maxHeartbeats 2000000 in
theorem text_any (N : NumT tx ok Keep) (h : Hd) (rs : List R5) (A : Option Addr) (n c : Nat) (w : World) (hr : RowsAt w w.heap.size A n rs) (hK : Keep w) (hok : ∀ z ∈ h.l, ok z) (hoks : ∀ x ∈ rs, ∀ z ∈ x.l, ok z) (hn : n ≤ 1000) :
    Calls Tryd.prog 42 #[.agg #[.int .i64 h.k, .int .i64 h.s, .int .i64 h.a, .int .i64 h.b, .int .i64 h.c, .int .i64 h.d, .int .i64 h.e, .int .i64 h.f, .slice A n c]] w fun r w' => r = .returned (.string (textOf tx h rs)) ∧ Below w.heap.size w w' := by
  have HR := Lib.hid hr
  have HK := Lib.hid hK
  have HO := Lib.hid hok
  have HOS := Lib.hid hoks
  clear hr hK hok hoks
  obtain ⟨i0, hi0, hz0, hz1, hz2⟩ := info_parts i64_info
  go_enter Tryd.func42, Tryd.ntmps42
  go_wp2_with fail
  have hb0 : Box ((w.alloc (.cells #[.int .i64 h.k, .int .i64 h.s, .int .i64 h.a, .int .i64 h.b, .int .i64 h.c, .int .i64 h.d, .int .i64 h.e, .int .i64 h.f, .slice A n c] 58)).alloc (.cells #[.pointer none, .slice none 0 0] 133)) w.heap.size 58 #[.int .i64 h.k, .int .i64 h.s, .int .i64 h.a, .int .i64 h.b, .int .i64 h.c, .int .i64 h.d, .int .i64 h.e, .int .i64 h.f, .slice A n c] := (Box.fresh w _ _ rfl).kept_below (bel_new _ _) (by simp)
  have hbl : Lib.IsBuilder 133 5 (w.heap.size + 1) (w.heap.size + 1) [] ((w.alloc (.cells #[.int .i64 h.k, .int .i64 h.s, .int .i64 h.a, .int .i64 h.b, .int .i64 h.c, .int .i64 h.d, .int .i64 h.e, .int .i64 h.f, .slice A n c] 58)).alloc (.cells #[.pointer none, .slice none 0 0] 133)) := by
    have := Lib.fresh_isBuilder 133 5 (w.alloc (.cells #[.int .i64 h.k, .int .i64 h.s, .int .i64 h.a, .int .i64 h.b, .int .i64 h.c, .int .i64 h.d, .int .i64 h.e, .int .i64 h.f, .slice A n c] 58))
    simpa using this
  have B0 : Below w.heap.size w ((w.alloc (.cells #[.int .i64 h.k, .int .i64 h.s, .int .i64 h.a, .int .i64 h.b, .int .i64 h.c, .int .i64 h.d, .int .i64 h.e, .int .i64 h.f, .slice A n c] 58)).alloc (.cells #[.pointer none, .slice none 0 0] 133)) := bel_alloc (bel_new w _) _
  have z0 : w.heap.size + 1 < ((w.alloc (.cells #[.int .i64 h.k, .int .i64 h.s, .int .i64 h.a, .int .i64 h.b, .int .i64 h.c, .int .i64 h.d, .int .i64 h.e, .int .i64 h.f, .slice A n c] 58)).alloc (.cells #[.pointer none, .slice none 0 0] 133)).heap.size := by simp
  generalize ((w.alloc (.cells #[.int .i64 h.k, .int .i64 h.s, .int .i64 h.a, .int .i64 h.b, .int .i64 h.c, .int .i64 h.d, .int .i64 h.e, .int .i64 h.f, .slice A n c] 58)).alloc (.cells #[.pointer none, .slice none 0 0] 133)) = W0 at *
  have k0 : W0.cell? ⟨w.heap.size, 0, none⟩ = some (.int .i64 h.k) := by have := hb0.reads 0; simpa using this
  have k1 : W0.cell? ⟨w.heap.size, 1, none⟩ = some (.int .i64 h.s) := by have := hb0.reads 1; simpa using this
  have hb1 : Box (W0.alloc (.cells #[.int .i64 h.k, .int .i64 h.s] 2)) w.heap.size 58 #[.int .i64 h.k, .int .i64 h.s, .int .i64 h.a, .int .i64 h.b, .int .i64 h.c, .int .i64 h.d, .int .i64 h.e, .int .i64 h.f, .slice A n c] := hb0.kept_below (bel_new _ _) hb0.there
  have hsrc : Rd (W0.alloc (.cells #[.int .i64 h.k, .int .i64 h.s] 2)) (W0.alloc (.cells #[.int .i64 h.k, .int .i64 h.s] 2)).heap.size (some ⟨w.heap.size, 2, none⟩) 6 ([h.a, h.b, h.c, h.d, h.e, h.f].map (Value.int .i64)) := Rd.ofBox hb1 rfl (fun k u hk => by
      match k, hk with
      | 0, hk => exact hk
      | 1, hk => exact hk
      | 2, hk => exact hk
      | 3, hk => exact hk
      | 4, hk => exact hk
      | 5, hk => exact hk
      | k + 6, hk => simp at hk)
  have hownL : (W0.alloc (.cells #[.int .i64 h.k, .int .i64 h.s] 2)).ownsRow W0.heap.size 2 1 (.slice (some ⟨W0.heap.size, 0, none⟩) 2 2) 2 [.int .i64 h.k, .int .i64 h.s] := World.ownsRow_lit W0 #[.int .i64 h.k, .int .i64 h.s] 2 (Nat.le_refl _) (by simp [maxLen]) rfl
  have HB0 := Lib.hid hb0
  have HBL := Lib.hid hbl
  have HSRC := Lib.hid hsrc
  have HOWL := Lib.hid hownL
  have HI0 := Lib.hid hi0
  have HI1 := Lib.hid hz0
  have HI2 := Lib.hid hz1
  have HI3 := Lib.hid hz2
  clear hb0 hbl hb1 hsrc hownL hi0 hz0 hz1 hz2
  have a0 : ∀ o, (W0.alloc o).cell? ⟨w.heap.size, 0, none⟩ = some (.int .i64 h.k) := fun o => ((bel_new W0 o).cell (p := ⟨w.heap.size, 0, none⟩) (by show w.heap.size < W0.heap.size; omega)).trans k0
  have a1 : ∀ o, (W0.alloc o).cell? ⟨w.heap.size, 1, none⟩ = some (.int .i64 h.s) := fun o => ((bel_new W0 o).cell (p := ⟨w.heap.size, 1, none⟩) (by show w.heap.size < W0.heap.size; omega)).trans k1
  have HA0 := Lib.hid a0
  have HA1 := Lib.hid a1
  have lsz := lineOf_size N h.l HO.out
  have hl8 : h.l.length = 8 := rfl
  rw [hl8] at lsz
  clear a0 a1 hl8
  go_region_held3 (fun w' => w'.cell? ⟨w.heap.size, 0, none⟩ = some (.int .i64 h.k) ∧ w'.cell? ⟨w.heap.size, 1, none⟩ = some (.int .i64 h.s))
    (first | exact ⟨k0, k1⟩ | exact ⟨HA0.out _, HA1.out _⟩ | exact ⟨j0, j1⟩ | exact ⟨q0, q1⟩ | exact ⟨s0, s1⟩)
    ((first | (refine step_append rfl (.tmp 10) (.tmp 12) _ rfl W0.heap.size 2 i0 _ 8 Tryd.underlying99 HI0.out HI1.out HI2.out HI3.out rfl (.slice (some ⟨W0.heap.size, 0, none⟩) 2 2) 2 _ rfl HOWL.out.drew (some ⟨w.heap.size, 2, none⟩) 6 6 (by intro h; cases h) _ rfl HSRC.out.drew (by intro u hu; simp at hu; rcases hu with rfl | rfl | rfl | rfl | rfl | rfl <;> rfl) (by simp only [maxLen]; omega) (by omega) (by simp) ?_; intro v1 w1 hown1 hgr1 hat1; obtain ⟨A1, c1, rfl⟩ := own_slice hown1; have B01 : Below W0.heap.size W0 w1 := ((bel_new W0 _).drew).grown hgr1 (by simp) (by simp [Value.ownBlock]); have HRD := Lib.hid (show Rd w1 w1.heap.size A1 8 (h.l.map (Value.int .i64)) from Rd.ofOwn hown1); have j0 := (B01.cell (p := ⟨w.heap.size, 0, none⟩) (by show w.heap.size < W0.heap.size; omega)).trans k0; have j1 := (B01.cell (p := ⟨w.heap.size, 1, none⟩) (by show w.heap.size < W0.heap.size; omega)).trans k1; clear hown1 hgr1 hat1)
            | (go_at_call 73; refine (line_any N A1 8 c1 h.l w1 HRD.out (N.keep _ _ HK.out (bel_trans B0 B01)) HO.out (by omega)).mono ?_; rintro e w2 ⟨rfl, B12⟩; have B02 := bel_trans B01 B12; have q0 := (B02.cell (p := ⟨w.heap.size, 0, none⟩) (by show w.heap.size < W0.heap.size; omega)).trans k0; have q1 := (B02.cell (p := ⟨w.heap.size, 1, none⟩) (by show w.heap.size < W0.heap.size; omega)).trans k1)
            | (go_at_call 72; refine (Tryd.Builder_WriteString (w.heap.size + 1) (w.heap.size + 1) [] (lineOf tx h.l) w2 (bld_below HBL.out B02) (by simp; omega) (by have := B02.size; omega)).mono ?_; rintro e w3 ⟨rfl, hb3, B3⟩; have s0 := (B3.cell (p := ⟨w.heap.size, 0, none⟩) (by show w.heap.size < w.heap.size + 1; omega)).trans q0; have s1 := (B3.cell (p := ⟨w.heap.size, 1, none⟩) (by show w.heap.size < w.heap.size + 1; omega)).trans q1; have HB3 := Lib.hid hb3; clear hb3)))
  have hb3 := (HB0.out.kept_below B02 HB0.out.there).kept_below B3 (by omega)
  have s8 := hb3.reads 8
  simp at s8
  have Bw3 : Below w.heap.size w w3 := (bel_trans B0 (B02)).trans (B3.mono (by omega))
  have hz3 : w.heap.size + 1 ≤ w3.heap.size := by have := B02.size; have := B3.size; omega
  have h0 : MTextLoop tx h rs w 0 w3 := ⟨Bw3, hz3, .inr (by
    have : textOf tx h (rs.take 0) = lineOf tx h.l := rfl
    rw [this, ← Lib.strCells_eq]
    exact HB3.out)⟩
  have H0 := Lib.hid h0
  have hlen := HR.out.len
  have HLEN := Lib.hid hlen
  clear hb3 h0 s0 s1 q0 q1 j0 j1 k0 k1 B01 B12 B02 B3 B0 HB3 HBL HB0 HSRC HOWL HA0 HA1 HRD Bw3 hlen
  go_wp2_with fail
  go_loopw [19] (fun v19 wr => ∃ k : Nat, k ≤ n ∧ v19 = .int .i64 k ∧ Hid (MTextLoop tx h rs w k wr)) (fun v19 _ => n - (intOf v19).toNat)
  case atStart => exact ⟨0, by omega, rfl, H0⟩
  case round =>
    obtain ⟨k, hk, rfl, hL⟩ := hrel
    obtain ⟨Br, hzr, hbd⟩ := hL.out
    by_cases hlt : k < n
    · obtain ⟨b, off, x, rfl, hb, hx, _, x0, x1, x2, x3, x4⟩ := (HR.out.carry Br).at_ hlt
      have HX := Lib.hid hx
      have hxm : x ∈ rs := List.mem_of_getElem? hx
      have hok5 := HOS.out x hxm
      have HO5 := Lib.hid hok5
      have HBD := Lib.hid hbd
      have lz := lineOf_size N x.l hok5
      have hl5 : x.l.length = 5 := rfl
      rw [hl5] at lz
      have tz := textOf_size N h rs HO.out HOS.out k (by have := HLEN.out; omega)
      have rz := rowTxt_size N x hok5
      clear hx hxm hok5 hbd hl5
      go_wp2_with fail
      have B4 := bel_new wr (.cells #[.int .i64 x.p, .int .i64 x.q, .int .i64 x.r, .int .i64 x.s, .int .i64 x.t] 88)
      refine (line_any N (some ⟨wr.heap.size, 0, none⟩) 5 5 x.l _ (Rd.made' rfl rfl rfl) (N.keep _ _ HK.out (bel_trans Br B4)) HO5.out (by omega)).mono ?_
      rintro e w5 ⟨rfl, B5⟩
      have Br5 : Below w.heap.size w w5 := bel_trans (bel_trans Br B4) B5
      have hbd5 := bld_below (bld_below HBD.out B4) B5
      have z1 : (⟨#[32, 91]⟩ : ByteArray).size = 2 := rfl
      have z2 : (⟨#[93]⟩ : ByteArray).size = 1 := rfl
      have q1 : ¬ 9223372036854775807 < 2 + (lineOf tx x.l).size := by omega
      have q2 : ¬ 9223372036854775807 < 2 + (lineOf tx x.l).size + 1 := by omega
      have HBD5 := Lib.hid hbd5
      have hz5 : w.heap.size + 1 ≤ w5.heap.size := by have := B5.size; simp at this; omega
      clear hbd5 B4 B5 x0 x1 x2 x3 x4
      have hrow : (⟨#[32, 91]⟩ : ByteArray) ++ lineOf tx x.l ++ ⟨#[93]⟩ = rowTxt tx x := rfl
      have hlb : (Lib.byteCells (textOf tx h (rs.take k)).data.toList).length = (textOf tx h (rs.take k)).size := cells_len _
      have hwr := Tryd.Builder_WriteString (w.heap.size + 1) (w.heap.size + 1) _ (rowTxt tx x) w5 HBD5.out (by rw [hlb]; omega) hz5
      rw [cells_app, ← textOf_step HX.out, ← hrow] at hwr
      have HWR := Lib.hid hwr
      clear hrow hlb hwr
      go_wp2_with fail
      refine HWR.out.mono ?_
      rintro e w6 ⟨rfl, hb6, B6⟩
      have HF : Hid (MTextLoop tx h rs w (k + 1) w6) := Lib.hid ⟨Br5.trans (B6.mono (by omega)), Nat.le_trans hz5 B6.size, .inr hb6⟩
      clear hb6 B6
      go_wp2_with fail
      go_roundw
      case rel => exact ⟨k + 1, by omega, by go_num, HF⟩
      case measure => simp [intOf]; omega
    · obtain rfl : k = n := by omega
      have htk : rs.take k = rs := List.take_of_length_le (by have := HLEN.out; omega)
      rw [htk] at hbd
      have hst := Tryd.Builder_String_any (w.heap.size + 1) (w.heap.size + 1) _ wr hbd hzr
      have HST := Lib.hid hst
      clear hbd htk hst
      go_wp2_with fail
      refine HST.out.mono ?_
      rintro e w6 ⟨rfl, B6⟩
      go_wp2_with fail
      go_ret
      exact ⟨rfl, Br.trans (B6.mono (by omega))⟩
end Go.Proofs.YtjfjdicdokdekaaDoor

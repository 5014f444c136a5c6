/- The landed msg's line: numbers in words with blanks between. -/
import Derived.Test.YtjfjdicdokdekaaDoorMsgMem
import Derived.Test.YtjfjdicdokdekaaDoorShelf
import Derived.Test.YtjfjdicdokdekaaDoorTextAll
import Derived.OwnWalk
import Derived.Lib.AppendIntMem
set_option linter.unusedSimpArgs false
namespace Go.Proofs.YtjfjdicdokdekaaDoor
open Go.RowKit Go.Mem1 Go.CodMath

/-- What num.Text makes of those numbers that are ok, in the worlds that keep what it reads. -/
structure NumT (tx : Int → ByteArray) (ok : Int → Prop) (Keep : World → Prop) : Prop where
  text : ∀ (k : Int) (w : World), ok k → Keep w → Calls Tryd.prog 87 #[.int .i64 k] w fun r w' => r = .returned (.string (tx k)) ∧ Below w.heap.size w w'
  keep : ∀ (w w' : World), Keep w → Below w.heap.size w w' → Keep w'
  size : ∀ (k : Int), ok k → (tx k).size ≤ 30
def lineOf (tx : Int → ByteArray) (zs : List Int) : ByteArray := ⟨(Lib.join ((zs.map tx).map (·.data.toList)) [32]).toArray⟩
theorem lens_bd : ∀ (xs : List (List UInt8)), (∀ x ∈ xs, x.length ≤ 30) → Lib.lens xs ≤ 30 * xs.length
  | [], _ => by simp [Lib.lens]
  | x :: r, h => by
    have h1 := lens_bd r (fun y hy => h y (List.mem_cons_of_mem _ hy))
    have h2 := h x (List.mem_cons_self ..)
    have e : Lib.lens (x :: r) = x.length + Lib.lens r := by simp [Lib.lens]
    rw [e, List.length_cons]; omega
theorem join_bd : ∀ (xs : List (List UInt8)), (∀ x ∈ xs, x.length ≤ 30) → (Lib.join xs [32]).length ≤ 31 * xs.length
  | [], _ => by simp [Lib.join_nil]
  | x :: r, h => by
    have := lens_bd (x :: r) h
    rw [Lib.join_length]
    simp only [List.length_cons, List.length_nil] at this ⊢
    omega
theorem str_info : (Tryd.prog.info? 9).map (fun i => (i.zero, i.size, i.bytes)) = some (some (.string ⟨#[]⟩), 1, 16) := by kernel_rfl
variable {tx : Int → ByteArray} {ok : Int → Prop} {Keep : World → Prop}
theorem lineOf_size (N : NumT tx ok Keep) (zs : List Int) (hok : ∀ z ∈ zs, ok z) : (lineOf tx zs).size ≤ 31 * zs.length := by
  have := join_bd ((zs.map tx).map (·.data.toList)) (fun x hx => by
    obtain ⟨y, hy, rfl⟩ := List.mem_map.1 hx
    obtain ⟨z, hz, rfl⟩ := List.mem_map.1 hy
    exact N.size z (hok z hz))
  simpa [lineOf, ByteArray.size] using this
set_option maxRecDepth 100000 in
set_option maxHeartbeats 2000000 in
theorem line_any (N : NumT tx ok Keep) (A : Option Addr) (n c : Nat) (zs : List Int) (w : World) (h : Rd w w.heap.size A n (zs.map (Value.int .i64))) (hK : Keep w) (hok : ∀ z ∈ zs, ok z) (hn : n ≤ 100) :
    Calls Tryd.prog 73 #[.slice A n c] w fun r w' => r = .returned (.string (lineOf tx zs)) ∧ Below w.heap.size w w' := by
  have hl : zs.length = n := by have := h.len; simpa using this
  have H := Lib.hid h
  have HK := Lib.hid hK
  have HO := Lib.hid hok
  have HL := Lib.hid hl
  clear h hK hok hl
  obtain ⟨i0, hi0, hz0, hz1, hz2⟩ := info_parts str_info
  go_enter Tryd.func73, Tryd.ntmps73
  go_wp2_with ((refine wpList_make_full _ rfl (.tmp 7) (.tmp 7) _ rfl w.heap.size 9 i0 _ 1 Tryd.underlying146 hi0 hz0 hz1 .i64 .i64 (n : Int) (n : Int) n rfl rfl rfl rfl (by rw [hz2]; omega) (by unfold maxLen; omega) (Nat.le_refl _) ?_); intro w1 hown hgr; refine Hid.out ?_)
  refine Lib.hid ?_
  have B1 : Below w.heap.size w w1 := (Below.refl _ _).grown hgr (Nat.le_refl _) (by simp)
  generalize (madeCells (Value.cells (Value.string { data := #[] })) (n * 1)).toList = ys at hown
  have HW := Lib.hid hown
  clear hown hgr hi0 hz0 hz1 hz2
  have hzz := B1.size
  go_wp2_with fail
  go_loopw [11] (fun v11 wr => ∃ (k : Nat) (ys : List Value), k ≤ n ∧ v11 = .int .i64 k ∧ Below w.heap.size w wr ∧ w.heap.size < wr.heap.size ∧ Hid (wr.ownsRow w.heap.size 9 1 (.slice (some ⟨w.heap.size, 0, none⟩) n n) n ys) ∧ Hid (∀ j z, j < k → zs[j]? = some z → ys[j]? = some (.string (tx z)))) (fun v11 _ => n - (intOf v11).toNat)
  case atStart => exact ⟨0, ys, by omega, rfl, B1, by
    have := HW.out.lt w.heap.size rfl
    omega, HW, Lib.hid (fun j z hj => by omega)⟩
  case round =>
    obtain ⟨k, ys, hk, rfl, Br, hzr, hW, hY⟩ := hrel
    by_cases hlt : k < n
    · obtain ⟨b, off, u, rfl, hb, hu, hc⟩ := (H.out.carry Br).get hlt
      have hlk : k < zs.length := by have := HL.out; omega
      have hzk : zs[k]? = some zs[k] := List.getElem?_eq_getElem hlk
      rw [List.getElem?_map, hzk] at hu
      injection hu with hu
      subst hu
      have hzo := HO.out zs[k] (List.getElem_mem _)
      generalize zs[k] = z at *
      have HZK := Lib.hid hzk
      have hT := N.text z wr hzo (N.keep _ _ HK.out Br)
      have HT := Lib.hid hT
      clear hzk hT
      go_wp2_with fail
      refine HT.out.mono ?_
      rintro e w2 ⟨rfl, B2⟩
      have hW2 := own_chg hW.out (Chg.of_below B2 (fun _ => False)) (fun _ _ h => h)
      obtain ⟨g, hg, _, hgl, hcell, hfr, hset⟩ := own_at hW2 hlt
      injection hg with hg; injection hg with hg
      subst hg
      have hyl : k < ys.length := by have := hW2.1; omega
      rw [List.getElem?_eq_getElem hyl] at hcell
      have Br2 := bel_trans Br B2
      have hz2 : w.heap.size < w2.heap.size := Nat.lt_of_lt_of_le hzr B2.size
      have HS := Lib.hid (hset (.string (tx z)))
      have B3 : Below w.heap.size w (w2.setCell ⟨w.heap.size, k, none⟩ (.string (tx z))) := Br2.setCell (Nat.le_refl _) _
      have hz3 : w.heap.size < (w2.setCell ⟨w.heap.size, k, none⟩ (.string (tx z))).heap.size := by simpa [World.setCell] using hz2
      have HF := Lib.hid B3
      have HZ3 := Lib.hid hz3
      clear hset hW2 B2 Br2 B3 hz3
      go_wp2_with fail
      go_roundw
      case rel => exact ⟨k + 1, ys.set k (.string (tx z)), by omega, by go_num, HF.out, HZ3.out, HS, Lib.hid (fun j y hj hy => by
        rw [List.getElem?_set]
        by_cases hjk : k = j
        · subst hjk
          rw [HZK.out] at hy; injection hy with hy; subst hy
          simp [hyl]
        · rw [if_neg hjk]
          exact hY.out j y (by omega) hy)⟩
      case measure => simp [intOf]; omega
    · obtain rfl : k = n := by omega
      have hcells : ∀ (j : Nat) x, (zs.map tx)[j]? = some x → wr.cell? ⟨w.heap.size, 0 + j, none⟩ = some (.string x) := by
        intro j x hx
        rw [List.getElem?_map] at hx
        cases hz : zs[j]? with
        | none => rw [hz] at hx; cases hx
        | some z =>
          rw [hz] at hx; injection hx with hx; subst hx
          have hj : j < k := by have := (List.getElem?_eq_some_iff.1 hz).1; have := HL.out; omega
          obtain ⟨g, hg, _, _, hcell, _⟩ := own_at hW.out hj
          injection hg with hg; injection hg with hg; subst hg
          rw [Nat.zero_add, hcell]
          exact hY.out j z hj hz
      have hj := Tryd.strings_Join w.heap.size 0 k (zs.map tx) ⟨#[32]⟩ wr hcells hzr (by simp; have := HL.out; omega) (by simp; have := HL.out; omega) (by
        have h1 := lineOf_size N zs HO.out
        have h2 := HL.out
        exact Nat.le_trans h1 (by omega))
      rw [List.length_map, HL.out] at hj
      have hjj : Calls Tryd.prog 88 #[.slice (some ⟨w.heap.size, 0, none⟩) k k, .string ⟨#[32]⟩] wr fun e w' => e = .returned (.string (lineOf tx zs)) ∧ Below wr.heap.size wr w' := hj
      have HJ := Lib.hid hjj
      clear hcells hj hjj
      go_wp2_with fail
      refine HJ.out.mono ?_
      rintro e w3 ⟨rfl, B3⟩
      go_wp2_with fail
      go_ret
      exact ⟨rfl, bel_trans Br B3⟩
end Go.Proofs.YtjfjdicdokdekaaDoor

/- Feed whatever comes; Wrap; All. -/
import Derived.Test.YtjfjdicdokdekaaDoorFrmFeed
import Derived.Test.YtjfjdicdokdekaaDoorFCrcSeal
set_option linter.unusedSimpArgs false
namespace Go.Proofs.YtjfjdicdokdekaaDoor
open Go.RowKit Go.Mem1

theorem strFeed (A : Option Addr) (n c : Nat) (l : List Nat) {w : World} {B g : Nat} {R : Option Nat} {s : FM.FS} (hg : ErrType w) (hT : Halves w) (h : StrAt w B g R s) (hL : FM.Live s ∨ s.e ≠ 0) (hn2 : n ≤ 100000000) (hnc : n ≤ c) (hk : s.k ≤ 1000000) (hB0 : 1 < B ∧ 0 < B)
    (hb : Byt w w.heap.size A n l) (hoff : ∀ b o, A = some ⟨b, o, none⟩ → 0 < n → ¬ StrSet g R b) :
    Calls Tryd.prog 12 #[.pointer (some ⟨g, 0, none⟩), .slice A n c] w (FeedPost w B g R (FM.run { s with out := [] } l)) := by
  rcases Nat.eq_zero_or_pos n with h0 | h0
  · subst h0
    obtain rfl := hb.zero
    exact feed_none A 0 c hg h (.inl rfl)
  · rcases hL with hL | hL
    · obtain ⟨b, o, rfl, _⟩ := hb.rd.cells h0
      exact feed_main b o n c l hg hT h hL h0 hn2 hnc hk hB0 hb (hoff b o rfl h0)
    · have := FM.run_dead (s := { s with out := [] }) hL l
      rw [this]
      exact feed_none A n c hg h (.inr hL)
theorem own_made {w : World} {e : TypeId} {base n : Nat} (cur : Array Value) (hs : cur.size = n) (hb : base ≤ w.heap.size) (hm : n ≤ maxLen) : (w.alloc (.cells cur e)).ownsRow base e 1 (.slice (some ⟨w.heap.size, 0, none⟩) n n) n cur.toList :=
  ⟨by simpa using hs, .inr ⟨w.heap.size, n, cur, rfl, hb, heap_alloc_new w _, Nat.le_refl _, hm, by simpa using hs, by rw [Nat.mul_one, ← hs]; exact List.take_of_length_le (by simp)⟩⟩
/-- What Wrap tells. -/
def WrapPost (w : World) (l : List Nat) (e : Ending) (w' : World) : Prop :=
  Below w.heap.size w w' ∧ ((l.length ≤ 1024 ∧ ∃ A c, e = .returned (.tuple #[.slice A (l.length + 6) c, .nilIface]) ∧ l.length + 6 ≤ c ∧ Byt w' w'.heap.size A (l.length + 6) (FM.wrapL l)) ∨
    (1024 < l.length ∧ ∃ b, e = .returned (.tuple #[.slice none 0 0, .iface 78 (.pointer (some ⟨b, 0, none⟩))]) ∧ IsErr w' w'.heap.size [(frameBytes, 0)] 4 (.iface 78 (.pointer (some ⟨b, 0, none⟩)))))
set_option maxHeartbeats 400000 in
theorem wrap_long (A : Option Addr) (n c : Nat) (l : List Nat) (w : World) (hn : 1024 < n) (hl : l.length = n) :
    Calls Tryd.prog 20 #[.slice A n c] w (WrapPost w l) := by
  have HL := Lib.hid hl
  clear hl
  go_enter Tryd.func20, Tryd.ntmps20
  go_wp2_with fail
  refine (frmFault 0 [] 4 _ w rfl).mono ?_
  rintro e w1 ⟨B1, b, rfl, hE⟩
  have HE := Lib.hid hE
  clear hE
  go_wp2_with fail
  go_ret2
  exact ⟨B1, .inr ⟨by have := HL.out; omega, b, rfl, HE.out⟩⟩
set_option maxRecDepth 100000 in
set_option maxHeartbeats 1000000 in
theorem wrap_ok (A : Option Addr) (n c : Nat) (l : List Nat) (w : World) (hT : Halves w) (hn : n ≤ 1024) (hc0 : A = none → c = 0) (h : Byt w w.heap.size A n l) :
    Calls Tryd.prog 20 #[.slice A n c] w (WrapPost w l) := by
  obtain ⟨i0, hi0, hz0, hz1, hz2⟩ := info_parts u8_info
  have hl := h.len
  have HL := Lib.hid hl
  have H := Lib.hid h
  have HS := Lib.hid (fun w' (hb : Below w.heap.size w w') => seal_any A n c l w' (hT.below hb) (by omega) hc0 ((h.carry hb).wider hb.size))
  have hi : ¬ (1024 : Int) < (n : Int) := by omega
  clear hl h hT hc0
  go_enter Tryd.func20, Tryd.ntmps20
  go_wp2_with fail
  have hbn := bel_new w (.cells #[.int .u8 ((n : Int) % 256), .int .u8 ((n : Int) / 256)] 5)
  refine (HS.out _ hbn).mono ?_
  rintro e w1 ⟨A1, c1, rfl, hc1, hy1, B1⟩
  have hown := own_chg (own_made (w := w) (e := 5) (n := 2) #[.int .u8 ((n : Int) % 256), .int .u8 ((n : Int) / 256)] rfl (Nat.le_refl _) (by simp [maxLen])) (Chg.of_below B1 (fun _ => False)) (fun _ _ h => h)
  have hz : w.heap.size ≤ w1.heap.size := by have := B1.size; simp at this; omega
  have HY1 := Lib.hid hy1
  have HOW := Lib.hid hown
  have HB1 := Lib.hid (bel_trans hbn B1)
  have hB1' : Below w.heap.size (w.alloc (.cells #[.int .u8 ((n : Int) % 256), .int .u8 ((n : Int) / 256)] 5)) w1 := B1.mono (by simp)
  have HB1' := Lib.hid hB1'
  clear hy1 hown B1 hbn hB1'
  go_wp2_with (at_builtin; refine wpList_append rfl (.tmp 16) (.tmp 18) _ rfl w.heap.size 5 i0 _ 1 Tryd.underlying22 hi0 hz0 hz1 hz2 rfl (.slice (some ⟨w.heap.size, 0, none⟩) 2 2) 2 _ rfl HOW.out A1 (n + 4) c1 (HY1.out.nil_cap (by omega)) _ rfl HY1.out.rd (oneCell_bv _) (by simp only [maxLen]; omega) (by omega) hz ?_; intro v2 w2 hown2 hgr2 _; obtain ⟨A2, c2, rfl⟩ := own_slice hown2; have hb2 : Below w.heap.size w w2 := HB1.out.grown hgr2 hz (fun k hk => (HOW.out.lt k hk).1); have H2 := Lib.hid hown2; have HB2 := Lib.hid hb2; clear hown2 hgr2 hb2)
  go_ret2
  have hl := HL.out
  have ha : 2 + (n + 4) = l.length + 6 := by omega
  have hown2 := H2.out
  rw [ha] at hown2 ⊢
  have e1 : (FM.wrapL l).map bv = [Value.int .u8 ((n : Int) % 256), Value.int .u8 ((n : Int) / 256)] ++ (l ++ le4 (sumOf l)).map bv := by
    unfold FM.wrapL
    rw [List.map_append]
    congr 1
    simp only [List.map_cons, List.map_nil, bv, hl]
    rw [show n / 256 % 256 = n / 256 by omega]
    rfl
  have hby : Byt w2 w2.heap.size A2 (l.length + 6) (FM.wrapL l) := Byt.ofOwn (by rw [e1]; exact hown2) (FM.wrapL_bnd H.out.bnd)
  exact ⟨HB2.out, .inl ⟨by omega, A2, c2, rfl, own_cap hown2, hby⟩⟩
theorem wrap_any (A : Option Addr) (n c : Nat) (l : List Nat) (w : World) (hT : Halves w) (hc0 : A = none → c = 0) (h : Byt w w.heap.size A n l) :
    Calls Tryd.prog 20 #[.slice A n c] w (WrapPost w l) := by
  by_cases hn : n ≤ 1024
  · exact wrap_ok A n c l w hT hn hc0 h
  · exact wrap_long A n c l w (by omega) h.len
end Go.Proofs.YtjfjdicdokdekaaDoor

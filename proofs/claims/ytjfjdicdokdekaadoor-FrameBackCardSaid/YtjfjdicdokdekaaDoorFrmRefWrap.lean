/- The reference's Wrap. -/
import Derived.Test.YtjfjdicdokdekaaDoorFrmTell
set_option linter.unusedSimpArgs false
namespace Go.Proofs.YtjfjdicdokdekaaDoor
open Go.RowKit Go.Mem1

theorem PartsAt.off {w w' : World} {B g n : Nat} {t : TypeId} {cs : Array Value} {A : Option Addr} {l : List (ByteArray × Int)} (h : PartsAt w B A n l) (hb : Box w g t cs) (h0 : ∀ (i : Nat) (s : ByteArray), cs[i]? ≠ some (Value.string s)) (hc : Chg (· = g) w w') : PartsAt w' B A n l :=
  ⟨h.len, fun i x hx => by
    obtain ⟨b, off, e, hlt, h1, h2⟩ := h.at_ i x hx
    have hne : b ≠ g := by
      rintro rfl
      rw [hb.reads] at h1
      exact h0 _ _ h1
    exact ⟨b, off, e, hlt, hc.cell h1 hne, hc.cell h2 hne⟩⟩
theorem set01_box2 {w : World} {g : Nat} {t : TypeId} {c0 c1 : Value} (h : Box w g t #[c0, c1]) (v0 v1 : Value) : Box (set01 w g v0 v1) g t #[v0, v1] := by
  have := (h.wrote 0 v0).wrote 1 v1
  simpa [set01] using this
/-- What the reference's Wrap tells. -/
def RWrapPost (w : World) (l : List Nat) (e : Ending) (w' : World) : Prop :=
  Below w.heap.size w w' ∧ ((l.length ≤ 1024 ∧ ∃ A c, e = .returned (.tuple #[.slice A (l.length + 6) c, .agg #[.slice none 0 0, .int .i64 0]]) ∧ Byt w' w'.heap.size A (l.length + 6) (FM.wrapL l)) ∨
    (1024 < l.length ∧ ∃ A n c, e = .returned (.tuple #[.slice none 0 0, .agg #[.slice A n c, .int .i64 4]]) ∧ PartsAt w' w'.heap.size A n [(frameBytes, 0)]))
set_option maxRecDepth 100000 in
set_option maxHeartbeats 1000000 in
theorem rwrap_long (A : Option Addr) (n c : Nat) (l : List Nat) (w : World) (hn : 1024 < n) (hl : l.length = n) :
    Calls Tryd.prog 21 #[.slice A n c] w (RWrapPost w l) := by
  have HL := Lib.hid hl
  clear hl
  have i1 : (1024 : Int) < (n : Int) := by omega
  go_enter Tryd.func21, Tryd.ntmps21
  go_wp2_with (go_at_call 19; refine Hid.out ?_)
  refine Lib.hid ?_
  refine (fAt_any _ _ _ _).mono ?_
  rintro e w1 ⟨A1, n1, c1, rfl, hp, B1⟩
  have hr2 : Box w1 w.heap.size 29 #[.slice none 0 0, .int .i64 0] := (Box.fresh _ _ _ (by simp)).kept_below B1 (by simp)
  have B2' : Below w.heap.size w w1 := bel_trans (bel_new w _) B1
  have r0 := (hr2.reads 0).trans (show _ = some (Value.slice none 0 0) from rfl)
  have r1 := (hr2.reads 1).trans (show _ = some (Value.int .i64 0) from rfl)
  have f0 := hr2.unmarked 0
  have f1 := hr2.unmarked 1
  have HP := Lib.hid hp
  have HR := Lib.hid hr2
  clear hp hr2 B1
  go_wp2_with fail
  rw [set01_def]
  have hb9 := set01_box2 HR.out (.slice A1 n1 c1) (.int .i64 4)
  have fin : RWrapPost w l (.returned (.tuple #[.slice none 0 0, .agg #[.slice A1 n1 c1, .int .i64 4]])) (set01 w1 w.heap.size (.slice A1 n1 c1) (.int .i64 4)) := by
    refine ⟨Chg.toBelow B2' (set01_chg _ _ _ _) B2'.size (fun i hi e => by omega), .inr ⟨by have := HL.out; omega, A1, n1, c1, rfl, ?_⟩⟩
    rw [set01_size]
    exact HP.out.off HR.out (fun i s hi => by
      match i, hi with
      | 0, hi => simp at hi
      | 1, hi => simp at hi
      | k + 2, hi => simp at hi) (set01_chg _ _ _ _)
  generalize set01 w1 w.heap.size (.slice A1 n1 c1) (.int .i64 4) = W9 at *
  have q0 := (hb9.reads 0).trans (show _ = some (Value.slice A1 n1 c1) from rfl)
  have q1 := (hb9.reads 1).trans (show _ = some (Value.int .i64 4) from rfl)
  exact bodyPost_ret (v := .tuple #[.slice none 0 0, .agg #[.slice A1 n1 c1, .int .i64 4]]) (by simp [results, Tryd.results21, go_sem, q0, q1]) rfl fin
set_option maxRecDepth 100000 in
set_option maxHeartbeats 1000000 in
theorem rwrap_ok (A : Option Addr) (n c : Nat) (l : List Nat) (w : World) (hn : n ≤ 1024) (hc0 : A = none → c = 0) (h : Byt w w.heap.size A n l) :
    Calls Tryd.prog 21 #[.slice A n c] w (RWrapPost w l) := by
  obtain ⟨i0, hi0, hz0, hz1, hz2⟩ := info_parts u8_info
  have HL := Lib.hid h.len
  have H := Lib.hid h
  have HS := Lib.hid (fun w' (hb : Below w.heap.size w w') => refSeal_any A n c l w' (by omega) hc0 ((h.carry hb).wider hb.size))
  have hi : ¬ (1024 : Int) < (n : Int) := by omega
  clear h hc0
  go_enter Tryd.func21, Tryd.ntmps21
  go_wp2_with (go_at_call 31; refine Hid.out ?_)
  refine Lib.hid ?_
  have hb0 := bel_new w (.cells #[.slice none 0 0, .int .i64 0] 29)
  have hx0 : Box (w.alloc (.cells #[.slice none 0 0, .int .i64 0] 29)) w.heap.size 29 #[.slice none 0 0, .int .i64 0] := Box.fresh w _ _ rfl
  have hs0 : (w.alloc (.cells #[.slice none 0 0, .int .i64 0] 29)).heap.size = w.heap.size + 1 := by simp
  generalize (w.alloc (.cells #[.slice none 0 0, .int .i64 0] 29)) = w0 at *
  have hbn := bel_new w0 (.cells #[.int .u8 ((n : Int) % 256), .int .u8 ((n : Int) / 256)] 5)
  refine (HS.out _ (bel_trans hb0 hbn)).mono ?_
  rintro e w1 ⟨v1, rfl, hown1, B1⟩
  obtain ⟨A1, c1, rfl⟩ := own_slice hown1
  have hown := own_chg (own_made (w := w0) (e := 5) (n := 2) #[.int .u8 ((n : Int) % 256), .int .u8 ((n : Int) / 256)] rfl (Nat.le_refl _) (by simp [maxLen])) (Chg.of_below B1 (fun _ => False)) (fun _ _ h => h)
  have hz : w0.heap.size ≤ w1.heap.size := by have := B1.size; simp at this; omega
  have hrd := Rd.ofOwn hown1
  have HRD := Lib.hid hrd
  have hnc : A1 = none → c1 = 0 := by
    rintro rfl
    rcases hown1.2 with ⟨hv, _⟩ | ⟨_, _, _, hv, _⟩
    · injection hv
    · injection hv with hv; cases hv
  have HOW := Lib.hid hown
  have hB1' : Below w0.heap.size w0 w1 := bel_trans hbn B1
  have HB1 := Lib.hid hB1'
  have HX := Lib.hid (hx0.kept_below hB1' (by omega))
  have HB0 := Lib.hid hb0
  clear hown1 hown B1 hbn hrd hB1' hx0 hb0
  rw [hs0] at HOW HB1 hz
  go_wp2_with (at_builtin; refine wpList_append rfl (.tmp 15) (.tmp 17) _ rfl (w.heap.size + 1) 5 i0 _ 1 Tryd.underlying22 hi0 hz0 hz1 hz2 rfl (.slice (some ⟨w.heap.size + 1, 0, none⟩) 2 2) 2 _ rfl HOW.out A1 (n + 4) c1 hnc _ rfl HRD.out (oneCell_bv _) (by simp only [maxLen]; omega) (by omega) hz ?_; intro v2 w2 hown2 hgr2 _; obtain ⟨A2, c2, rfl⟩ := own_slice hown2; have hb2 : Below (w.heap.size + 1) w0 w2 := HB1.out.grown hgr2 hz (fun k hk => (HOW.out.lt k hk).1); have H2 := Lib.hid hown2; have HB2 := Lib.hid hb2; have hx2 := HX.out.kept (Chg.of_grown hgr2) (fun e => by have := (HOW.out.lt _ e.symm).1; omega); have HX2 := Lib.hid hx2; have r0 := (hx2.reads 0).trans (show _ = some (Value.slice none 0 0) from rfl); have r1 := (hx2.reads 1).trans (show _ = some (Value.int .i64 0) from rfl); have f0 := hx2.unmarked 0; have f1 := hx2.unmarked 1; clear hown2 hgr2 hb2 hx2)
  rw [set01_def]
  have hl := HL.out
  have ha : 2 + (n + 4) = l.length + 6 := by omega
  have hown2 := H2.out
  rw [ha] at hown2 ⊢
  have e1 : (FM.wrapL l).map bv = [Value.int .u8 ((n : Int) % 256), Value.int .u8 ((n : Int) / 256)] ++ (l ++ le4 (sumOf l)).map bv := by
    unfold FM.wrapL
    rw [List.map_append]
    congr 1
    simp only [List.map_cons, List.map_nil, bv, hl]
    rw [show n / 256 % 256 = n / 256 by omega]
    rfl
  have hby : Byt w2 w2.heap.size A2 (l.length + 6) (FM.wrapL l) := Byt.ofOwn (by rw [e1]; exact hown2) (FM.wrapL_bnd H.out.bnd)
  have hb9 := set01_box2 HX2.out (.slice none 0 0) (.int .i64 0)
  have hch := set01_chg w2 w.heap.size (.slice none 0 0) (.int .i64 0)
  have hsz := set01_size w2 w.heap.size (.slice none 0 0) (.int .i64 0)
  have hown3 := hown2
  generalize set01 w2 w.heap.size (.slice none 0 0) (.int .i64 0) = W9 at *
  have q0 := (hb9.reads 0).trans (show _ = some (Value.slice none 0 0) from rfl)
  have q1 := (hb9.reads 1).trans (show _ = some (Value.int .i64 0) from rfl)
  have B02 : Below w.heap.size w w2 := HB0.out.trans (HB2.out.mono (by omega))
  have fin : RWrapPost w l (.returned (.tuple #[.slice A2 (l.length + 6) c2, .agg #[.slice none 0 0, .int .i64 0]])) W9 := by
    refine ⟨Chg.toBelow B02 hch B02.size (fun i hi e => by omega), .inl ⟨by omega, A2, c2, rfl, ?_⟩⟩
    exact hby.kept hch (fun b o e hn hb => by
      have := (hown3.lt b (by rw [e]; rfl)).1
      omega)
  exact bodyPost_ret (v := .tuple #[.slice A2 (l.length + 6) c2, .agg #[.slice none 0 0, .int .i64 0]]) (by simp [results, Tryd.results21, go_sem, q0, q1]) rfl fin
theorem rwrap_any (A : Option Addr) (n c : Nat) (l : List Nat) (w : World) (hc0 : A = none → c = 0) (h : Byt w w.heap.size A n l) :
    Calls Tryd.prog 21 #[.slice A n c] w (RWrapPost w l) := by
  by_cases hn : n ≤ 1024
  · exact rwrap_ok A n c l w hn hc0 h
  · exact rwrap_long A n c l w (by omega) h.len
end Go.Proofs.YtjfjdicdokdekaaDoor

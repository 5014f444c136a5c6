/- An arena's calls in the words of what is taken and what is free. -/
import Derived.Test.YtmgfeofkbblmjaaFifNew
import Derived.Test.YtmgfeofkbblmjaaFifRem
import Derived.Test.YtmgfeofkbblmjaaFifRow
set_option linter.unusedSimpArgs false
namespace Go.Proofs.Ytmgfeofkbblmjaa
open Go.RowKit Go.Mem1 Go.FifMath

/-- An arena of R rows and C cells: M is what is taken, as it came (place, row, value), F what is free, the last one first. -/
def Ar (w : World) (B g R C : Nat) (M : List (Nat × Nat × Int)) (F : List Nat) : Prop := ∃ vR vC s, ArenaAt w B g vR vC s ∧ Inv R C M F s ∧ C ≤ 4096
section
variable {w w' : World} {B g R C : Nat} {M : List (Nat × Nat × Int)} {F : List Nat}
theorem Ar.carry (h : Ar w B g R C M F) (hb : Below w.heap.size w w') : Ar w' B g R C M F := by
  obtain ⟨vR, vC, s, h1, h2, h3⟩ := h
  exact ⟨vR, vC, s, h1.carry hb, h2, h3⟩
theorem Ar.base (h : Ar w B g R C M F) : B < w.heap.size := by
  obtain ⟨vR, vC, s, h1, _⟩ := h
  exact h1.base
/-- Kept where a row of another type grows or changes. -/
theorem Ar.other (h : Ar w B g R C M F) {base size n : Nat} {e : TypeId} {v : Value} {xs : List Value} (ho : w.ownsRow base e size v n xs)
    (h1 : e ≠ 52) (h2 : e ≠ 54) (h3 : e ≠ 56) (hc : Chg (fun k => some k = v.ownBlock) w w') : Ar w' B g R C M F := by
  obtain ⟨vR, vC, s, a, b, c⟩ := h
  exact ⟨vR, vC, s, ⟨a.box.kept hc (fun e => a.box.off_row ho h1 e.symm), a.low, own_chg a.rowR hc (fun _ hk e => own_apart a.rowR ho (Ne.symm h2) hk e.symm), own_chg a.rowC hc (fun _ hk e => own_apart a.rowC ho (Ne.symm h3) hk e.symm), a.mostR, a.mostC⟩, b, c⟩
def ArNew (R C : Nat) (w : World) (e : Ending) (w' : World) : Prop := ∃ g, e = .returned (.tuple #[.pointer (some ⟨g, 0, none⟩), .int .i64 0]) ∧ Ar w' w.heap.size g R C [] [] ∧ Below w.heap.size w w'
theorem ar_new (w : World) {R C : Nat} (hR : 1 ≤ R ∧ R ≤ 1024) (hC : 1 ≤ C ∧ C ≤ 4096) : Calls Try.prog 7 #[.int .i64 R, .int .i64 C] w (ArNew R C w) :=
  (new_ok w hR hC).mono fun _ _ ⟨g, vR, vC, h1, h2, h3⟩ => ⟨g, h1, ⟨vR, vC, _, h2, inv_fresh R C, hC.2⟩, h3⟩
theorem ar_kn {s : Aren} (hl : s.rs.length = R) (row : Int) : knB s row = (decide (0 ≤ row) && decide (row < (R : Int))) := by unfold knB; rw [hl]
theorem ar_push_bad (h : Ar w B g R C M F) {row : Int} (hr : row < 0 ∨ (R : Int) ≤ row) (v : Int) :
    Calls Try.prog 8 #[.pointer (some ⟨g, 0, none⟩), .int .i64 row, .int .i64 v] w fun e w' => e = .returned (.tuple #[.int .i64 0, .int .i64 1]) ∧ w = w' := by
  obtain ⟨vR, vC, s, h1, h2, _⟩ := h
  refine push_bad h1 ?_ v
  rw [ar_kn h2.lenR]
  rcases hr with hr | hr
  · rw [decide_eq_false (by omega)]; rfl
  · rw [decide_eq_false (p := row < (R : Int)) (by omega), Bool.and_false]
theorem ar_push_full (h : Ar w B g R C M F) {row : Int} (h0 : 0 ≤ row) (hr : row < (R : Int)) (hM : M.length = C) (v : Int) :
    Calls Try.prog 8 #[.pointer (some ⟨g, 0, none⟩), .int .i64 row, .int .i64 v] w fun e w' => e = .returned (.tuple #[.int .i64 0, .int .i64 8]) ∧ w = w' := by
  obtain ⟨vR, vC, s, h1, h2, _⟩ := h
  refine push_full h1 ?_ (by rw [h2.free]; omega) v
  rw [ar_kn h2.lenR, decide_eq_true h0, decide_eq_true hr]; rfl
/-- The cell that is taken next. -/
def nextC (M : List (Nat × Nat × Int)) (F : List Nat) : Nat := match F with
  | [] => M.length
  | c :: _ => c
def ArPush (w : World) (B g R C : Nat) (M : List (Nat × Nat × Int)) (F : List Nat) (row : Nat) (v : Int) (e : Ending) (w' : World) : Prop :=
  e = .returned (.tuple #[.int .i64 (nextC M F), .int .i64 0]) ∧ Ar w' B g R C (M ++ [(nextC M F, row, v)]) F.tail ∧ Keep B w w'
theorem inv_tip {s : Aren} (h : Inv R C M F s) {row : Nat} (hr : row < R) : s.rs[row]? = some ⟨hd (rowOf M row) (-1), lst (-1) (rowOf M row), (rowOf M row).length⟩ := (h.row row hr).1
theorem rowOf_len (M : List (Nat × Nat × Int)) (row : Nat) : (rowOf M row).length ≤ M.length := by
  have := (rowOf_places M row).length_le
  simpa using this
theorem inv_few {s : Aren} (h : Inv R C M F s) : M.length ≤ C := by
  have := h.count
  have := h.most
  omega
theorem inv_num_hd {s : Aren} (h : Inv R C M F s) (N : List (Nat × Nat × Int)) (row : Nat) (hN : ∀ x ∈ N, x ∈ M) : NumOf s (hd (rowOf N row) (-1)) := by
  rcases hd_low (rowOf N row) with e | ⟨x, hx, e⟩
  · exact .inl e
  · exact .inr ⟨x.1, e, (h.cover _).2 (List.mem_append_left _ (List.mem_map.2 ⟨_, hN _ (mem_rowOf.1 hx), rfl⟩))⟩
theorem inv_num_lst {s : Aren} (h : Inv R C M F s) (N : List (Nat × Nat × Int)) (row : Nat) (hN : ∀ x ∈ N, x ∈ M) : NumOf s (lst (-1) (rowOf N row)) := by
  rcases lst_low (rowOf N row) with e | ⟨x, hx, e⟩
  · exact .inl e
  · exact .inr ⟨x.1, e, (h.cover _).2 (List.mem_append_left _ (List.mem_map.2 ⟨_, hN _ (mem_rowOf.1 hx), rfl⟩))⟩
theorem ar_push (h : Ar w B g R C M F) {row : Nat} (hr : row < R) (hM : M.length < C) (v : Int) :
    Calls Try.prog 8 #[.pointer (some ⟨g, 0, none⟩), .int .i64 row, .int .i64 v] w (ArPush w B g R C M F row v) := by
  obtain ⟨vR, vC, s, h1, h2, h3⟩ := h
  have hfr := h2.free
  have hk := rowOf_len M row
  have he := inv_tip h2 hr
  have hz := inv_num_lst h2 M row (fun _ h => h)
  cases F with
  | nil =>
    have hc := h2.count
    have hI := push_new h2 hr hM v
    have hT := take_new h1 h2.fr (by simp at hc; omega) (by omega) (by omega)
    have hlen : s.cs.length = M.length := by simp at hc; omega
    have := push_at h1 hT he rfl (by rcases hz with e | ⟨k, e1, e2⟩; exact .inl e; exact .inr ⟨k, e1, by simp [takeNew]; omega⟩) (by simp [takeNew]) (by omega) (by show (0 : Int) ≤ ((rowOf M row).length : Nat); omega) (by show (((rowOf M row).length : Nat) : Int) ≤ 5000; omega) v
    refine this.mono fun e w' ⟨e1, vC', e2, e3⟩ => ?_
    rw [hlen] at e1 e2 hI
    exact ⟨e1, ⟨vR, vC', _, e2, hI, h3⟩, e3⟩
  | cons c F =>
    obtain ⟨ht, _, n, hn, hI⟩ := push_old h2 hr v
    have hT := take_old h1 ht hn (by omega) (by omega)
    have := push_at h1 hT he rfl hz ((h2.cover c).2 (by simp)) (by omega) (by show (0 : Int) ≤ ((rowOf M row).length : Nat); omega) (by show (((rowOf M row).length : Nat) : Int) ≤ 5000; omega) v
    refine this.mono fun e w' ⟨e1, vC', e2, e3⟩ => ?_
    exact ⟨e1, ⟨vR, vC', _, e2, hI, h3⟩, e3⟩
/-- What is no cell that is taken. -/
theorem ar_free_cell {s : Aren} (h : Inv R C M F s) {c : Int} (hc : ∀ x ∈ M, (x.1 : Int) ≠ c) : tkB s c = false := by
  by_cases h0 : c < 0
  · exact tkB_low h0
  · obtain ⟨k, rfl⟩ : ∃ k : Nat, c = k := ⟨c.toNat, by omega⟩
    rcases Nat.lt_or_ge k s.cs.length with hk | hk
    · obtain ⟨l, hl, hr⟩ := h.untaken hk (fun hx => by
        obtain ⟨x, hx, e⟩ := List.mem_map.1 hx
        exact hc x hx (by rw [e]))
      rw [tkB_at hl, hr]; rfl
    · exact tkB_high (by omega)
theorem ar_remove_bad (h : Ar w B g R C M F) {c : Int} (hc : ∀ x ∈ M, (x.1 : Int) ≠ c) :
    Calls Try.prog 9 #[.pointer (some ⟨g, 0, none⟩), .int .i64 c] w fun e w' => e = .returned (.bool false) ∧ w = w' := by
  obtain ⟨vR, vC, s, h1, h2, _⟩ := h
  exact remove_bad h1 (ar_free_cell h2 hc)
def ArRemove (w : World) (B g R C : Nat) (M : List (Nat × Nat × Int)) (F : List Nat) (e : Ending) (w' : World) : Prop := e = .returned (.bool true) ∧ Ar w' B g R C M F ∧ Keep B w w'
theorem ar_remove {M1 M2 : List (Nat × Nat × Int)} {c row : Nat} {v : Int} (h : Ar w B g R C (M1 ++ (c, row, v) :: M2) F) :
    Calls Try.prog 9 #[.pointer (some ⟨g, 0, none⟩), .int .i64 c] w (ArRemove w B g R C (M1 ++ M2) (c :: F)) := by
  obtain ⟨vR, vC, s, h1, h2, h3⟩ := h
  have hfew := inv_few h2
  have hfr := h2.free
  have hp := inv_num_lst h2 M1 (F := F) (hN := fun x hx => List.mem_append_left _ hx)
  have hn := inv_num_hd h2 M2 (F := F) (hN := fun x hx => List.mem_append_right _ (List.mem_cons_of_mem _ hx))
  obtain ⟨hr, l, hl, _, e1, e2, e3, hI⟩ := out_inv h2
  have he := inv_tip h2 hr
  have hk := rowOf_len (M1 ++ (c, row, v) :: M2) row
  have hk0 : 0 < (rowOf (M1 ++ (c, row, v) :: M2) row).length := List.length_pos_of_mem (mem_rowOf (y := (c, v)) |>.2 (by simp))
  have := remove_at h1 hl e1 he (by rw [e2]; exact hp row) (by rw [e3]; exact hn row) (by show (0 : Int) < ((rowOf (M1 ++ (c, row, v) :: M2) row).length : Nat); omega) (by show (((rowOf (M1 ++ (c, row, v) :: M2) row).length : Nat) : Int) ≤ 5000; omega) (by omega) (by omega)
  exact this.mono fun e w' ⟨a1, a2, a3⟩ => ⟨a1, ⟨vR, vC, _, a2, hI, h3⟩, a3⟩
theorem ar_front (h : Ar w B g R C M F) {row : Nat} (hr : row < R) : Calls Try.prog 11 #[.pointer (some ⟨g, 0, none⟩), .int .i64 row] w fun e w' => e = .returned (.tuple #[.int .i64 (cur (rowOf M row) 0), .bool (decide (0 < (rowOf M row).length))]) ∧ w = w' := by
  obtain ⟨vR, vC, s, h1, h2, _⟩ := h
  have := front_any h1 (inv_tip h2 hr)
  dsimp only at this
  have e := fnd_cur (rowOf M row) 0
  rw [List.drop_zero] at e
  rw [e] at this
  exact this
theorem ar_next (h : Ar w B g R C M F) {row k : Nat} (hr : row < R) {x : Nat × Int} (hx : (rowOf M row)[k]? = some x) : Calls Try.prog 13 #[.pointer (some ⟨g, 0, none⟩), .int .i64 x.1] w fun e w' => e = .returned (.tuple #[.int .i64 (cur (rowOf M row) (k + 1)), .bool (decide (k + 1 < (rowOf M row).length))]) ∧ w = w' := by
  obtain ⟨vR, vC, s, h1, h2, _⟩ := h
  obtain ⟨p, hp⟩ := seg_place (h2.row row hr).2 hx
  have := next_any h1 hp (show (row : Int) ≠ -1 by omega)
  dsimp only at this
  rw [fnd_cur] at this
  exact this
theorem ar_value (h : Ar w B g R C M F) {x : Nat × Nat × Int} (hx : x ∈ M) : Calls Try.prog 12 #[.pointer (some ⟨g, 0, none⟩), .int .i64 x.1] w fun e w' => e = .returned (.tuple #[.int .i64 x.2.2, .bool true]) ∧ w = w' := by
  obtain ⟨vR, vC, s, h1, h2, _⟩ := h
  obtain ⟨p, n, hl⟩ := h2.taken hx
  exact value_any h1 hl (by show ((x.2.1 : Nat) : Int) ≠ -1; omega)
theorem ar_len (h : Ar w B g R C M F) {row : Nat} (hr : row < R) : Calls Try.prog 14 #[.pointer (some ⟨g, 0, none⟩), .int .i64 row] w fun e w' => e = .returned (.int .i64 ((rowOf M row).length : Nat)) ∧ w = w' := by
  obtain ⟨vR, vC, s, h1, h2, _⟩ := h
  exact len_any h1 (inv_tip h2 hr)
theorem ar_len_bad (h : Ar w B g R C M F) {row : Int} (hr : (R : Int) ≤ row) : Calls Try.prog 14 #[.pointer (some ⟨g, 0, none⟩), .int .i64 row] w fun e w' => e = .returned (.int .i64 0) ∧ w = w' := by
  obtain ⟨vR, vC, s, h1, h2, _⟩ := h
  refine len_bad h1 ?_
  rw [ar_kn h2.lenR, decide_eq_false (p := row < (R : Int)) (by omega), Bool.and_false]
theorem ar_free (h : Ar w B g R C M F) : Calls Try.prog 15 #[.pointer (some ⟨g, 0, none⟩)] w fun e w' => e = .returned (.int .i64 ((C : Int) - (M.length : Int))) ∧ w = w' := by
  obtain ⟨vR, vC, s, h1, h2, _⟩ := h
  have := free_any h1
  rw [h2.free] at this
  exact this
theorem ar_row (h : Ar w B g R C M F) {row : Nat} (hr : row < R) : Calls Try.prog 10 #[.pointer (some ⟨g, 0, none⟩), .int .i64 row] w (RowAns (rowOf M row) w) := by
  obtain ⟨vR, vC, s, h1, h2, h3⟩ := h
  exact row_any h1 (h2.row row hr) (by have := rowOf_len M row; have := inv_few h2; omega)
end
end Go.Proofs.Ytmgfeofkbblmjaa

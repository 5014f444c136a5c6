/- at: the Step that a price lies in. -/
import Derived.Test.YtkcgklaoefbglaaGreatDoorGrdBack
import Derived.Test.YtkcgklaoefbglaaGreatDoorGrdCheck
set_option linter.unusedSimpArgs false
namespace Go.Proofs.YtkcgklaoefbglaaGreatDoor
open Go.RowKit Go.Shelf Go.Mem1 Go.GridMath

attribute [local go_sem] Oper.semAt_some
def atV : Option Stp → Value
  | none => .tuple #[.agg #[.int .i64 0, .int .i64 0], .bool false]
  | some s => .tuple #[.agg #[.int .i64 s.1, .int .i64 s.2], .bool true]

theorem backTo_snd (l : List Stp) {k : Nat} (hk : k ≤ l.length) : (backTo l k).map (·.2) = l.reverse.take k := by
  apply List.ext_getElem
  · simp [backTo, hk]
  · intro i h1 h2
    have h3 : i < k := by simpa [backTo] using h1
    simp [backTo, show l.length - 1 - i < l.length by omega]
theorem lastAt_skip : ∀ (ini r : List Stp) (p : Int), (∀ x ∈ ini, p < x.1) → lastAt (ini ++ r) p = lastAt r p
  | [], _, _, _ => rfl
  | s :: ini, r, p, h => by
    rw [List.cons_append, lastAt, if_neg (by have := h s (by simp); omega)]
    exact lastAt_skip ini r p (fun x hx => h x (List.mem_cons_of_mem _ hx))
theorem lastAt_all {l : List Stp} {p : Int} (h : ∀ x ∈ backTo l l.length, p < x.2.1) : lastAt l.reverse p = none := by
  have e := backTo_snd l (Nat.le_refl _)
  rw [List.take_of_length_le (by simp)] at e
  rw [← e]
  have := lastAt_skip ((backTo l l.length).map (·.2)) [] p (fun x hx => by
    obtain ⟨y, hy, rfl⟩ := List.mem_map.1 hx
    exact h y hy)
  rw [List.append_nil] at this
  rw [this]; rfl
theorem lastAt_hit {l : List Stp} {p : Int} {k : Nat} (hk : k < l.length) {ini : List (Nat × Stp)} {last : Nat × Stp} (e : backTo l (k + 1) = ini ++ [last]) (h : ∀ x ∈ ini, p < x.2.1) (hl : last.2.1 ≤ p) : lastAt l.reverse p = some last.2 := by
  have e2 := backTo_snd l (show k + 1 ≤ l.length by omega)
  rw [e, List.map_append] at e2
  have e3 : l.reverse = (ini.map (·.2) ++ [last].map (·.2)) ++ l.reverse.drop (k + 1) := by rw [e2, List.take_append_drop]
  rw [e3, List.append_assoc, lastAt_skip _ _ _ (fun x hx => by
    obtain ⟨y, hy, rfl⟩ := List.mem_map.1 hx
    exact h y hy)]
  show lastAt (last.2 :: _) p = _
  rw [lastAt, if_pos hl]
set_option maxRecDepth 100000 in
set_option maxHeartbeats 2000000 in
theorem at_above (A : Option Addr) (n c : Nat) (p : Int) (w : World) (hp : 1000000 < p) :
    CallsIn Fence.wide 6 Tryz.prog 72 #[.slice A n c, .int .i64 p] w fun e w' => e = .returned (atV none) ∧ Below w.heap.size w w' := by
  have hp' : decide ((1000000 : Int) < p) = true := by simpa using hp
  refine callsIn_of_wp_marks Tryz.func72 rfl trivial ?_ rfl
  simp only [Tryz.ntmps72, List.size_toArray, List.length_cons, List.length_nil, Nat.reduceAdd, Nat.reduceSub, Array.replicate_succ, Array.replicate_zero, List.push_toArray, List.append_toArray, List.nil_append, List.cons_append]
  gi_wp2
  refine ⟨trivial, ?_⟩
  gi_wp2
  refine ⟨atV none, ?_, rfl, bel_alloc (bel_alloc (bel_new _ _) _) _⟩
  simp [results, Tryz.results72, go_sem, atV]
theorem box_own {β : Type} (B : Nat) (t : TypeId) (f : β → Array Value) : Own (fun s W => Box W B t (f s)) := fun s X Y row hs hg hrow =>
  (hg.block B hs.there (fun e' => by obtain ⟨o, ho, hc⟩ := hrow B e'.symm; rw [show X.heap[B]? = _ from hs] at ho; cases ho; cases hc)).trans hs
theorem box_set_other {W : World} {g b i : Nat} {t : TypeId} {cs : Array Value} (h : Box W g t cs) (hne : g ≠ b) (u : Value) : Box (W.setCell ⟨b, i, none⟩ u) g t cs := (Below.heap_setCell W ⟨b, i, none⟩ u g hne).trans h
theorem box_put {W : World} {g D : Nat} {t : TypeId} {cs : Array Value} (h : Box W g t cs) (hne : D ≠ g) (o : Obj) : Box (W.putObj D o) g t cs := (World.putObj_heap_other (Ne.symm hne)).trans h
theorem box_ne {W : World} {g D : Nat} {t : TypeId} {cs : Array Value} (h : Box W g t cs) (hK : W.heap[D]? = some (.deferred (some []))) : D ≠ g := fun e => by
  subst e; rw [show W.heap[D]? = _ from h] at hK; cases hK
/-- How at ends, behind its loop. -/
theorem at_end {W : World} {D : Nat} {R : Ending → World → Prop} {tmps : Array Value} {q r : Nat} {x y : Int} {d : Bool} (t4 : tmps[4]? = some (.pointer (some ⟨q, 0, none⟩))) (t5 : tmps[5]? = some (.pointer (some ⟨r, 0, none⟩)))
    (hK : W.heap[D]? = some (.deferred (some []))) (hq : Box W q 43 #[.int .i64 x, .int .i64 y]) (hr : Box W r 4 #[.bool d])
    (hR : R (.returned (.tuple #[.agg #[.int .i64 x, .int .i64 y], .bool d])) (W.putObj D (.deferred none))) :
    bodyPostM Fence.wide 6 Tryz.prog Tryz.f72 R .ret { tmps := tmps, defers := [{ target := Target.collected D, args := #[] }] } W := by
  refine ⟨by simp, .inl ⟨_, _, rfl, run_takeDeferred hK, ?_⟩⟩
  have c0 := ((box_put hq (box_ne hq hK) (.deferred none)).reads 0).trans rfl
  have c1 := ((box_put hq (box_ne hq hK) (.deferred none)).reads 1).trans rfl
  have c2 := ((box_put hr (box_ne hr hK) (.deferred none)).reads 0).trans rfl
  refine ⟨_, ?_, hR⟩
  simp [results, Tryz.results72, go_sem, t4, t5, c0, c1, c2]
set_option maxRecDepth 100000 in
set_option maxHeartbeats 2000000 in
theorem at_in (A : Option Addr) (n c : Nat) (l : List Stp) (p : Int) (w : World) (h : TabAt w w.heap.size A n l) (hn : n ≤ 1000000) (ho : chk l = none) (hp : p ≤ 1000000) :
    CallsIn Fence.wide 6 Tryz.prog 72 #[.slice A n c, .int .i64 p] w fun e w' => e = .returned (atV (lastAt l.reverse p)) ∧ Below w.heap.size w w' := by
  have hp' : decide ((1000000 : Int) < p) = false := by simpa using hp
  refine callsIn_of_wp_marks Tryz.func72 rfl trivial ?_ rfl
  simp only [Tryz.ntmps72, List.size_toArray, List.length_cons, List.length_nil, Nat.reduceAdd, Nat.reduceSub, Array.replicate_succ, Array.replicate_zero, List.push_toArray, List.append_toArray, List.nil_append, List.cons_append]
  have H := Lib.hid h
  have HO := Lib.hid ho
  have HN := Lib.hid hn
  clear h ho hn
  gi_wp2
  refine ⟨trivial, ?_⟩
  obtain ⟨w3, hw3⟩ : ∃ w3, ((w.alloc (.cells #[.int .i64 p] 2)).alloc (.cells #[.int .i64 0, .int .i64 0] 43)).alloc (.cells #[.bool false] 4) = w3 := ⟨_, rfl⟩
  have s3 : w3.heap.size = w.heap.size + 3 := by rw [← hw3]; simp
  have b3 : Below w.heap.size w w3 := by rw [← hw3]; exact bel_alloc (bel_alloc (bel_new _ _) _) _
  have p3 : Box w3 w.heap.size 2 #[.int .i64 p] := by
    rw [← hw3]; exact ((Box.fresh w _ _ rfl).kept_below (Below.alloc (Below.refl _ _) (Nat.le_refl _) _) (by simp)).kept_below (Below.alloc (Below.refl _ _) (Nat.le_refl _) _) (by simp; omega)
  have q3 : Box w3 (w.heap.size + 1) 43 #[.int .i64 0, .int .i64 0] := by
    rw [← hw3]; exact ((Box.fresh _ _ _ (by simp))).kept_below (Below.alloc (Below.refl _ _) (Nat.le_refl _) _) (by simp)
  have r3 : Box w3 (w.heap.size + 1 + 1) 4 #[.bool false] := by
    rw [← hw3]; exact Box.fresh _ _ _ (by simp)
  rw [hw3]
  clear hw3
  have T3 := (H.out.carry b3).wider b3.size
  refine (callsIn_wide.2 (check_any A n c l w3 T3 HN.out)).mono ?_
  rintro e w4 ⟨hb4, h4⟩
  rw [HO.out] at h4
  obtain rfl := h4
  have s4 := hb4.size
  have p4 := p3.kept_below hb4 p3.there
  have q4 := q3.kept_below hb4 q3.there
  have r4 := r3.kept_below hb4 r3.there
  have b4 : Below w.heap.size w w4 := bel_trans b3 hb4
  have T4 : TabAt w4 w.heap.size A n l := H.out.carry b4
  clear T3 p3 q3 r3 b3 hb4
  have P4 := Lib.hid p4
  have Q4 := Lib.hid q4
  have R4 := Lib.hid r4
  have B4 := Lib.hid b4
  have TT := Lib.hid T4
  clear p4 q4 r4 b4 T4
  gi_wp2_with (refine ⟨trivial, ?_⟩; gi_at_call 74; refine (back_in Fence.wide 5 trivial rfl _ _ _ _).mono ?_; rintro e w' ⟨rfl, rfl⟩)
  have hl := (TT.out).len
  have n4 : Box (w4.alloc (.cells #[.slice A n c] 25)) w4.heap.size 25 #[.slice A n c] := Box.fresh _ _ _ rfl
  have k4 : Below w4.heap.size w4 (w4.alloc (.cells #[.slice A n c] 25)) := bel_new _ _
  have z4 : (w4.alloc (.cells #[.slice A n c] 25)).heap.size = w4.heap.size + 1 := by simp
  obtain ⟨w5, hw5⟩ : ∃ w5, w4.alloc (.cells #[.slice A n c] 25) = w5 := ⟨_, rfl⟩
  rw [hw5] at n4 k4 z4 ⊢
  clear hw5
  have P5 := P4.out.kept_below k4 P4.out.there
  have Q5 := Q4.out.kept_below k4 Q4.out.there
  have R5 := R4.out.kept_below k4 R4.out.there
  have B5 : Below w.heap.size w w5 := bel_trans B4.out k4
  have T5 : TabAt w5 (w4.heap.size + 1) A n l := (TT.out.carry (k4.mono (by omega))).wider (by omega)
  have TN := TabAt.len T5
  have hn5 := HN.out
  refine wpIn_rangeFunc_ownH rfl (by omega) (gf := 77) (lb := #[.pointer (some ⟨w4.heap.size, 0, none⟩)]) rfl trivial (enters_of Tryz.func77 (by kernel_rfl) rfl)
    (back_stops Fence.wide 5 trivial rfl (by omega) w4.heap.size (w4.heap.size + 1) A n c l hn5 w5 (by omega) (by omega) (n4.reads 0) T5) belowK_t (belowK_b (by omega)) (Below.refl _ _) (fun _ => rfl)
    (fun pre W => ((((∀ x ∈ pre, p < x.2.1) ∧ Box W w.heap.size 2 #[.int .i64 p]) ∧ Box W (w.heap.size + 1) 43 #[.int .i64 0, .int .i64 0]) ∧ Box W (w.heap.size + 1 + 1) 4 #[.bool false]) ∧ (Below w.heap.size w W ∧ w5.heap.size ≤ W.heap.size))
    (fun cd pre W => (cd = .ret ∧ ∃ ini last, pre = ini ++ [last] ∧ (∀ x ∈ ini, p < x.2.1) ∧ last.2.1 ≤ p ∧ Box W (w.heap.size + 1) 43 #[.int .i64 last.2.1, .int .i64 last.2.2] ∧ Box W (w.heap.size + 1 + 1) 4 #[.bool true]) ∧ Below w.heap.size w W)
    (OwnFrom.and (OwnFrom.and (OwnFrom.and (OwnFrom.and (ownFrom_pure _ _) (Own.from (box_own _ _ _) _)) (Own.from (box_own _ _ _) _)) (Own.from (box_own _ _ _) _)) (OwnFrom.and (ownFrom_below (Nat.le_refl _) (by omega)) (fun _ _ _ _ hs hg _ => Nat.le_trans hs hg.size)))
    (fun cd => OwnFrom.and (Own.from (fun s X Y row hs hg hr => by
      obtain ⟨e0, ini, last, e1, e2, e3, e4, e5⟩ := hs
      exact ⟨e0, ini, last, e1, e2, e3, box_own (w.heap.size + 1) 43 (fun (_ : Unit) => #[.int .i64 last.2.1, .int .i64 last.2.2]) () X Y row e4 hg hr, box_own (w.heap.size + 1 + 1) 4 (fun (_ : Unit) => #[.bool true]) () X Y row e5 hg hr⟩) _) (ownFrom_below (Nat.le_refl _) (by omega)))
    ⟨⟨⟨⟨by simp, P5⟩, Q5⟩, R5⟩, B5, Nat.le_refl _⟩
    (fun x a' W => ∃ Bx, w4.heap.size < Bx ∧ Box W Bx 43 #[.int .i64 x.2.1, .int .i64 x.2.2] ∧ a' = { tmps := #[.slice A n c, .int .i64 p, undef, .pointer (some ⟨w.heap.size, 0, none⟩), .pointer (some ⟨w.heap.size + 1, 0, none⟩), .pointer (some ⟨w.heap.size + 1 + 1, 0, none⟩), undef, .pointer (some ⟨Bx, 0, none⟩), .int .i64 p, .bool false, .bool false, .slice A n c, .nilIface, .bool false, .bool false, undef, .slice A n c, .func (.func 77) #[] #[.pointer (some ⟨w4.heap.size, 0, none⟩)], .int .i64 (x.1 : Int), .agg #[.int .i64 x.2.1, .int .i64 x.2.2], undef, undef, undef, undef, undef, undef], defers := [] })
    (fun x a' _ X Y row hs hg hr => by obtain ⟨Bx, h1, h2, h3⟩ := hs; exact ⟨Bx, h1, box_own Bx 43 (fun (_ : Unit) => #[.int .i64 x.2.1, .int .i64 x.2.2]) () X Y row h2 hg (fun r e => (hr r e).2), h3⟩)
    ?assign ?body ?done ?stop
  case assign =>
    rintro i pre x W K ⟨⟨⟨⟨hp1, P1⟩, Q1⟩, R1⟩, B1, hsz⟩ hK
    dsimp only [encB]
    gi_wp2
    have hA : Below (w4.heap.size + 1) W (W.alloc (.cells #[.int .i64 x.2.1, .int .i64 x.2.2] 43)) := (Below.refl _ W).alloc (by omega) _
    exact hK _ _ ((KeepsOthers.alloc _ _).from _) hA ⟨⟨⟨⟨hp1, P1.kept_below hA (by omega)⟩, Q1.kept_below hA (by omega)⟩, R1.kept_below hA (by omega)⟩, B1.alloc B1.size _, by simp; omega⟩ ⟨W.heap.size, by omega, Box.fresh _ _ _ rfl, rfl⟩
  case body =>
    rintro i pre x a' W hi ⟨r, hr⟩ ⟨⟨⟨⟨hp1, P1⟩, Q1⟩, R1⟩, B1, hsz⟩ ⟨Bx, hBx, bX, rfl⟩ hlt
    have x0 := (bX.reads 0).trans rfl
    have x1 := (bX.reads 1).trans rfl
    have pc := (P1.reads 0).trans rfl
    have q0 := (Q1.reads 0).trans rfl
    have q1 := (Q1.reads 1).trans rfl
    have r0 := (R1.reads 0).trans rfl
    have qf0 := Q1.unmarked 0
    have qf1 := Q1.unmarked 1
    have rf0 := R1.unmarked 0
    by_cases hx : x.2.1 ≤ p
    · have hx' : decide (x.2.1 ≤ p) = true := by simpa using hx
      gi_wp2
      have hk : KeepsOthers W (((W.setCell ⟨w.heap.size + 1, 0, none⟩ (.int .i64 x.2.1)).setCell ⟨w.heap.size + 1, 1, none⟩ (.int .i64 x.2.2)).setCell ⟨w.heap.size + 1 + 1, 0, none⟩ (.bool true)) := ((KeepsOthers.setCell _ _ _).trans (KeepsOthers.setCell _ _ _)).trans (KeepsOthers.setCell _ _ _)
      exact ⟨hk.from _, ⟨rfl, pre, x, rfl, hp1, hx, box_set_other ((Q1.wrote 0 _).wrote 1 _) (by omega) _, (box_set_other (box_set_other R1 (by omega) _) (by omega) _).wrote 0 _⟩,
        ((B1.setCell (p := ⟨w.heap.size + 1, 0, none⟩) (by simp) _).setCell (p := ⟨w.heap.size + 1, 1, none⟩) (by simp) _).setCell (p := ⟨w.heap.size + 1 + 1, 0, none⟩) (by simp; omega) _⟩
    · have hx' : decide (x.2.1 ≤ p) = false := by simpa using hx
      have hnew : ∀ y ∈ pre ++ [x], p < y.2.1 := fun y hy => (List.mem_append.1 hy).elim (hp1 y) (fun e => by obtain rfl := List.mem_singleton.1 e; omega)
      have HNW := Lib.hid hnew
      clear hnew
      gi_wp2
      exact ⟨KeepsFrom.refl _ _, Below.refl _ _, ⟨⟨⟨by first | exact HNW.out | simpa using HNW.out, P1⟩, Q1⟩, R1⟩, B1, by omega⟩
  case done =>
    rintro D zs W hD rfl ⟨⟨⟨⟨hp1, P1⟩, Q1⟩, R1⟩, B1, hsz⟩ hK
    have q0 := (Q1.reads 0).trans rfl
    have q1 := (Q1.reads 1).trans rfl
    have r0 := (R1.reads 0).trans rfl
    have qf0 := Q1.unmarked 0
    have qf1 := Q1.unmarked 1
    have rf0 := R1.unmarked 0
    gi_wp2
    have hk : KeepsOthers W (((W.setCell ⟨w.heap.size + 1, 0, none⟩ (.int .i64 0)).setCell ⟨w.heap.size + 1, 1, none⟩ (.int .i64 0)).setCell ⟨w.heap.size + 1 + 1, 0, none⟩ (.bool false)) := ((KeepsOthers.setCell _ _ _).trans (KeepsOthers.setCell _ _ _)).trans (KeepsOthers.setCell _ _ _)
    have hK' := hk.same D _ hK rfl
    refine at_end rfl rfl hK' (box_set_other ((Q1.wrote 0 _).wrote 1 _) (by omega) _) ((box_set_other (box_set_other R1 (by omega) _) (by omega) _).wrote 0 _) ⟨?_, ?_⟩
    · rw [← hl] at hp1
      rw [lastAt_all hp1]; rfl
    · exact (((B1.setCell (p := ⟨w.heap.size + 1, 0, none⟩) (by simp) _).setCell (p := ⟨w.heap.size + 1, 1, none⟩) (by simp) _).setCell (p := ⟨w.heap.size + 1 + 1, 0, none⟩) (by simp; omega) _).trans (belowK_b (w := w) (Nat.le_refl _) _ D _ _ (by omega) hK' rfl rfl)
  case stop =>
    rintro D cd pre W hD ⟨k, hk, rfl⟩ ⟨⟨rfl, ini, last, e1, e2, e3, Q1, R1⟩, B1⟩ hK
    gi_wp2
    refine at_end rfl rfl hK Q1 R1 ⟨?_, B1.trans (belowK_b (w := w) (Nat.le_refl _) W D _ _ (by omega) hK rfl rfl)⟩
    rw [lastAt_hit (by rw [hl]; exact hk) e1 e2 e3]; rfl
/-- at, of a table that may be. -/
theorem at_any (A : Option Addr) (n c : Nat) (l : List Stp) (p : Int) (w : World) (h : TabAt w w.heap.size A n l) (ho : chk l = none) :
    Calls Tryz.prog 72 #[.slice A n c, .int .i64 p] w fun e w' => e = .returned (atV (atI l p)) ∧ Below w.heap.size w w' := by
  have hn : n ≤ 1000000 := by have := (of_chk ho).2.1; have := h.len; omega
  unfold atI
  by_cases hp : 1000000 < p
  · rw [if_pos hp]; exact callsIn_wide.1 (at_above A n c p w hp)
  · rw [if_neg hp]; exact callsIn_wide.1 (at_in A n c l p w h hn ho (by omega))
end Go.Proofs.YtkcgklaoefbglaaGreatDoor

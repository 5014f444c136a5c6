/- Whose, Len; Of, where nothing is. -/
import Derived.Test.YtkcgklaoefbglaaGreatDoorQuoSet
set_option linter.unusedSimpArgs false
namespace Go.Proofs.YtkcgklaoefbglaaGreatDoor
open Go.RowKit Go.Mem1 Go.MapRow Go.QuoMath

set_option maxRecDepth 100000 in
set_option maxHeartbeats 1000000 in
theorem whose_any {w : World} {B g : Nat} {m : Option (Nat × Nat)} {Q : QL} {S : SL} (h : DeskAt w B g m Q S) {id : Int} (hi : OkI id) :
    Calls Tryz.prog 13 #[.pointer (some ⟨g, 0, none⟩), .int .i64 id] w fun e w' => e = .returned (.tuple #[slV ((fget S id).getD (0, 0)), .bool (fget S id).isSome]) ∧ Below w.heap.size w w' := by
  obtain ⟨⟨s1, s2⟩, hs⟩ : ∃ s, (fget S id).getD (0, 0) = s := ⟨_, rfl⟩
  obtain ⟨b, hb⟩ : ∃ b, (fget S id).isSome = b := ⟨_, rfl⟩
  rw [hs, hb]
  obtain ⟨v, hv⟩ : ∃ v, m.map (·.2) = v := ⟨_, rfl⟩
  have LK : ∀ o, (Instr.lookup 71 (.map v) (.int .i64 id) true).run Tryz.prog (w.alloc o) = .ok (.tuple #[.agg #[.int .i64 s1, .int .i64 s2], .bool b]) (w.alloc o) := fun o => by
    have lk := (h.carry (bel_new w o)).lookS hi
    rw [hs, hb, hv] at lk
    exact lk
  have c1 : ∀ o, (w.alloc o).cell? ⟨g, 1, none⟩ = some (.map v) := fun o => ((h.carry (bel_new w o)).box.reads 1).trans (by simp [hv])
  clear h hs hb hv
  go_enter Tryz.func13, Tryz.ntmps13
  go_wp2_with (at_lookup; refine wpList_lookup_run rfl _ _ _ _ rfl (.map v) (.int .i64 id) _ rfl rfl (LK _) ?_)
  refine bodyPost_ret (v := .tuple #[.agg #[.int .i64 s1, .int .i64 s2], .bool b]) (by simp [results, Tryz.results13, go_sem]) rfl ⟨rfl, ?_⟩
  first | exact bel_alloc (bel_new _ _) _
set_option maxHeartbeats 1000000 in
theorem qlen_any {w : World} {B g : Nat} {m : Option (Nat × Nat)} {Q : QL} {S : SL} (h : DeskAt w B g m Q S) :
    Calls Tryz.prog 15 #[.pointer (some ⟨g, 0, none⟩)] w fun e w' => e = .returned (.int .i64 Q.length) ∧ w = w' := by
  obtain ⟨v, hv⟩ : ∃ v, m.map (·.1) = v := ⟨_, rfl⟩
  have LN := h.lenQ
  rw [hv] at LN
  have c0 : w.cell? ⟨g, 0, none⟩ = some (.map v) := (h.box.reads 0).trans (by simp [hv])
  obtain ⟨n, hn⟩ : ∃ n : Int, (Q.length : Int) = n := ⟨_, rfl⟩
  rw [hn] at LN ⊢
  clear h hv hn
  go_enter Tryz.func15, Tryz.ntmps15
  go_wp2_with (at_len; refine wpList_len_run rfl _ _ rfl (.map v) n rfl LN ?_)
  go_ret
  exact ⟨rfl, rfl⟩
set_option maxRecDepth 100000 in
set_option maxHeartbeats 2000000 in
theorem bitsLen64_zero (w : World) : Calls Tryz.prog 58 #[.int .u64 0] w fun e w' => e = .returned (.int .i64 0) ∧ w = w' := by
  go_enter Tryz.func58, Tryz.ntmps58
  go_wp2_with fail
  go_ret
  exact ⟨congrArg Ending.returned (congrArg (Value.int .i64) (by decide +kernel)), rfl⟩
set_option maxHeartbeats 1000000 in
theorem bitsLen_zero (w : World) : Calls Tryz.prog 41 #[.int .u64 0] w fun e w' => e = .returned (.int .i64 0) ∧ w = w' := by
  have HL := Lib.hid bitsLen64_zero
  go_enter Tryz.func41, Tryz.ntmps41
  go_wp2_with (go_at_call 58; refine (HL.out _).mono ?_; rintro e w' ⟨rfl, rfl⟩)
  go_ret
  exact ⟨rfl, rfl⟩
set_option maxHeartbeats 1000000 in
theorem insSort_none (cf : Value) (w : World) : Calls Tryz.prog 49 #[.slice none 0 0, .int .i64 0, .int .i64 0, cf] w fun e w' => e = .returned (.tuple #[]) ∧ w = w' := by
  go_enter Tryz.func49, Tryz.ntmps49
  go_wp2_with fail
  go_loopw [8] (fun v8 wr => v8 = .int .i64 1 ∧ wr = w) (fun _ _ => 0)
  case atStart => exact ⟨rfl, rfl⟩
  case round =>
    obtain ⟨rfl, rfl⟩ := hrel
    go_wp2_with fail
    go_end0
    exact ⟨rfl, rfl⟩
set_option maxHeartbeats 2000000 in
theorem pdq_none (cf : Value) (w : World) : Calls Tryz.prog 40 #[.slice none 0 0, .int .i64 0, .int .i64 0, .int .i64 0, cf] w fun e w' => e = .returned (.tuple #[]) ∧ w = w' := by
  have HI := Lib.hid (insSort_none cf)
  go_enter Tryz.func40, Tryz.ntmps40
  go_wp2_with fail
  go_loopw [1, 2] (fun v1 v2 wr => v1 = .int .i64 0 ∧ v2 = .int .i64 0 ∧ wr = w) (fun _ _ _ => 0)
  case atStart => exact ⟨rfl, rfl, rfl⟩
  case round =>
    obtain ⟨rfl, rfl, rfl⟩ := hrel
    go_wp2_with (go_at_call 49; refine (HI.out _).mono ?_; rintro e w' ⟨rfl, rfl⟩)
    refine bodyPost_ret (v := .tuple #[]) (by simp [results, Tryz.results40, go_sem]) rfl ⟨rfl, rfl⟩
set_option maxHeartbeats 2000000 in
theorem sort_none (cf : Value) (w : World) : Calls Tryz.prog 27 #[.slice none 0 0, cf] w fun e w' => e = .returned (.tuple #[]) ∧ w = w' := by
  have HI := Lib.hid (pdq_none cf)
  have HB := Lib.hid bitsLen_zero
  go_enter Tryz.func27, Tryz.ntmps27
  go_wp2_with (first
    | (go_at_call 41; refine (HB.out _).mono ?_; rintro e w' ⟨rfl, rfl⟩)
    | (go_at_call 40; refine (HI.out _).mono ?_; rintro e w' ⟨rfl, rfl⟩))
  go_end0
  exact ⟨rfl, rfl⟩
/-- A map without entries, ranged over. -/
theorem range_map {w : World} {b : Nat} {L : QL} (h : MapIs Tryz.prog 47 slV prV w b L) : ∃ c, (Instr.range 70 (.map (some b))).run Tryz.prog w = .ok (.pointer (some ⟨w.heap.size, 0, none⟩)) (w.alloc (.mapIter (some b) c #[] c)) := by
  obtain ⟨es, c, hb, hes⟩ := h.block
  refine ⟨c, ?_⟩
  simp [Instr.range, run_underlying Tryz.underlying70, MapKept.run_getObj_map hb, newObj, Result.andThen, Sem.run]
theorem next_none {w : World} {b r c : Nat} (h : MapIs Tryz.prog 47 slV prV w b ([] : QL)) (hr : w.heap[r]? = some (.mapIter (some b) c #[] c)) (ty : TypeId) :
    (Instr.next (.pointer (some ⟨r, 0, none⟩)) false ty).run Tryz.prog w = .ok (.tuple #[.bool false]) w := by
  obtain ⟨es, c', hb, hes⟩ := h.block
  have h0 : es = #[] := by
    unfold ents at hes
    simp at hes
    exact hes
  subst h0
  simp [Instr.next, getObj, Sem.run, hr, hb, Result.andThen, choose, Question.forced]
set_option maxRecDepth 100000 in
set_option maxHeartbeats 1000000 in
theorem of_none {w : World} {B g : Nat} {p : Nat × Nat} {S : SL} (h : DeskAt w B g (some p) [] S) (mk : Int) :
    Calls Tryz.prog 16 #[.pointer (some ⟨g, 0, none⟩), .int .i64 mk] w fun e w' => e = .returned (.slice none 0 0) ∧ Below w.heap.size w w' := by
  obtain ⟨b1, b2⟩ := p
  obtain ⟨c, hr⟩ := range_map (h.maps (b1, b2) rfl).2.1
  have hn := fun ty => next_none (r := w.heap.size) (((h.carry (bel_new w (.mapIter (some b1) c #[] c))).maps (b1, b2) rfl).2.1) (heap_alloc_new w _) ty
  have c0 : w.cell? ⟨g, 0, none⟩ = some (.map (some b1)) := (h.box.reads 0).trans rfl
  have HI := Lib.hid sort_none
  clear h
  go_enter Tryz.func16, Tryz.ntmps16
  go_wp2_with fail
  obtain ⟨w1, hw1⟩ : ∃ w1, w.alloc (.mapIter (some b1) c #[] c) = w1 := ⟨_, rfl⟩
  have B1 : Hid (Below w.heap.size w w1) := by rw [← hw1]; exact bel_new _ _
  rw [hw1] at hn ⊢
  clear hw1 hr c0
  go_loopw [5] (fun v5 wr => v5 = .slice none 0 0 ∧ wr = w1) (fun _ _ => 0)
  case atStart => exact ⟨rfl, rfl⟩
  case round =>
    obtain ⟨rfl, rfl⟩ := hrel
    go_wp2_with (go_at_call 27; refine (HI.out _ _).mono ?_; rintro e w' ⟨rfl, rfl⟩)
    go_ret
    exact ⟨rfl, B1.out⟩
theorem range_nil (w : World) : (Instr.range 70 (.map none)).run Tryz.prog w = .ok (.pointer (some ⟨w.heap.size, 0, none⟩)) (w.alloc (.mapIter none 0 #[] 0)) := by
  simp [Instr.range, run_underlying Tryz.underlying70, newObj, Result.andThen, Sem.run]
theorem next_nil {w : World} {r : Nat} (hr : w.heap[r]? = some (.mapIter none 0 #[] 0)) (ty : TypeId) : (Instr.next (.pointer (some ⟨r, 0, none⟩)) false ty).run Tryz.prog w = .ok (.tuple #[.bool false]) w := by
  simp [Instr.next, getObj, Sem.run, hr, Result.andThen]
set_option maxRecDepth 100000 in
set_option maxHeartbeats 1000000 in
theorem of_nil {w : World} {B g : Nat} {Q : QL} {S : SL} (h : DeskAt w B g none Q S) (mk : Int) :
    Calls Tryz.prog 16 #[.pointer (some ⟨g, 0, none⟩), .int .i64 mk] w fun e w' => e = .returned (.slice none 0 0) ∧ Below w.heap.size w w' := by
  have hr := range_nil w
  have hn := fun ty => next_nil (w := w.alloc (.mapIter none 0 #[] 0)) (r := w.heap.size) (heap_alloc_new w _) ty
  have c0 : w.cell? ⟨g, 0, none⟩ = some (.map none) := (h.box.reads 0).trans rfl
  have HI := Lib.hid sort_none
  clear h
  go_enter Tryz.func16, Tryz.ntmps16
  go_wp2_with fail
  obtain ⟨w1, hw1⟩ : ∃ w1, w.alloc (.mapIter none 0 #[] 0) = w1 := ⟨_, rfl⟩
  have B1 : Hid (Below w.heap.size w w1) := by rw [← hw1]; exact bel_new _ _
  rw [hw1] at hn ⊢
  clear hw1 hr c0
  go_loopw [5] (fun v5 wr => v5 = .slice none 0 0 ∧ wr = w1) (fun _ _ => 0)
  case atStart => exact ⟨rfl, rfl⟩
  case round =>
    obtain ⟨rfl, rfl⟩ := hrel
    go_wp2_with (go_at_call 27; refine (HI.out _ _).mono ?_; rintro e w' ⟨rfl, rfl⟩)
    go_ret
    exact ⟨rfl, B1.out⟩
end Go.Proofs.YtkcgklaoefbglaaGreatDoor

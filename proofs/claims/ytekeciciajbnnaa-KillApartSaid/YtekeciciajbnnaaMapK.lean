/- Maps whose entries are known one by one, for any seat: rows of (key, element) pairs; looked up, stored, deleted, counted; ranged over where there are none. No names of a seat. -/
import Derived.Maps.Keyed
import Derived.Carry
import Derived.WalkKit
import Derived.OwnWalk
import Derived.Maps.OwnSet
import Derived.RegionTactic
import Derived.Deep.RegionLaw
set_option linter.unusedSimpArgs false
set_option linter.unusedSectionVars false
namespace Go.MapRow
open Go.Maps (Keyed)
open Go.MapKept (heap_set)

section
variable {α β : Type} [DecidableEq α]
/-- The element at a key. -/
def fget (L : List (α × β)) (a : α) : Option β := (L.find? (fun p => decide (p.1 = a))).map (·.2)
/-- A key's element set. -/
def fput (L : List (α × β)) (a : α) (b : β) : List (α × β) := if L.any (fun p => decide (p.1 = a)) then L.map (fun p => if p.1 = a then (a, b) else p) else L ++ [(a, b)]
/-- A key struck. -/
def fdel (L : List (α × β)) (a : α) : List (α × β) := L.filter (fun p => !decide (p.1 = a))
/-- No key twice. -/
def Apart (L : List (α × β)) : Prop := L.Pairwise (fun p q => p.1 ≠ q.1)

theorem fget_none {L : List (α × β)} {a : α} (h : ∀ p ∈ L, p.1 ≠ a) : fget L a = none := by
  unfold fget
  rw [List.find?_eq_none.2 (fun p hp => by simpa using h p hp)]
  rfl
theorem fget_at {L : List (α × β)} (hA : Apart L) {j : Nat} {a : α} {b : β} (h : L[j]? = some (a, b)) : fget L a = some b := by
  induction L generalizing j with
  | nil => simp at h
  | cons p l ih =>
    obtain ⟨h1, h2⟩ := List.pairwise_cons.1 hA
    cases j with
    | zero =>
      simp at h
      subst h
      simp [fget]
    | succ j =>
      have hm : (a, b) ∈ l := List.mem_of_getElem? (by simpa using h)
      have := ih h2 (j := j) (by simpa using h)
      unfold fget at this ⊢
      rw [List.find?_cons_of_neg (by simpa using h1 _ hm)]
      exact this
theorem any_none {L : List (α × β)} {a : α} (h : ∀ p ∈ L, p.1 ≠ a) : L.any (fun p => decide (p.1 = a)) = false := by
  rw [List.any_eq_false]
  intro p hp
  simpa using h p hp
theorem any_at {L : List (α × β)} {j : Nat} {a : α} {b : β} (h : L[j]? = some (a, b)) : L.any (fun p => decide (p.1 = a)) = true :=
  List.any_eq_true.2 ⟨(a, b), List.mem_of_getElem? h, by simp⟩
theorem apart_at {L : List (α × β)} (hA : Apart L) {i j : Nat} {p q : α × β} (hi : L[i]? = some p) (hj : L[j]? = some q) (he : p.1 = q.1) : i = j := by
  induction L generalizing i j with
  | nil => simp at hi
  | cons x l ih =>
    obtain ⟨h1, h2⟩ := List.pairwise_cons.1 hA
    cases i with
    | zero =>
      cases j with
      | zero => rfl
      | succ j =>
        simp at hi hj
        subst hi
        exact absurd he (h1 _ (List.mem_of_getElem? hj))
    | succ i =>
      cases j with
      | zero =>
        simp at hi hj
        subst hj
        exact absurd he.symm (h1 _ (List.mem_of_getElem? hi))
      | succ j =>
        have := ih (i := i) (j := j) h2 (by simpa using hi) (by simpa using hj)
        omega
theorem fput_keys {L : List (α × β)} {a : α} {b : β} : ∀ p ∈ fput L a b, p = (a, b) ∨ (p ∈ L ∧ p.1 ≠ a) := by
  intro p hp
  unfold fput at hp
  split at hp
  · obtain ⟨q, hq, rfl⟩ := List.mem_map.1 hp
    by_cases h : q.1 = a
    · rw [if_pos h]; exact .inl rfl
    · rw [if_neg h]; exact .inr ⟨hq, h⟩
  · rename_i h
    rcases List.mem_append.1 hp with hp | hp
    · refine .inr ⟨hp, fun e => h (List.any_eq_true.2 ⟨p, hp, by simpa using e⟩)⟩
    · exact .inl (by simpa using hp)
theorem apart_put {L : List (α × β)} (hA : Apart L) (a : α) (b : β) : Apart (fput L a b) := by
  unfold fput
  split
  · unfold Apart
    rw [List.pairwise_map]
    refine hA.imp (fun {p q} h => ?_)
    by_cases h1 : p.1 = a
    · by_cases h2 : q.1 = a
      · exact absurd (h1.trans h2.symm) h
      · rw [if_pos h1, if_neg h2]; exact fun e => h2 e.symm
    · by_cases h2 : q.1 = a
      · rw [if_neg h1, if_pos h2]; exact h1
      · rw [if_neg h1, if_neg h2]; exact h
  · rename_i h
    refine List.pairwise_append.2 ⟨hA, by simp, fun p hp q hq e => h (List.any_eq_true.2 ⟨p, hp, ?_⟩)⟩
    simp at hq
    subst hq
    simpa using e
theorem apart_del {L : List (α × β)} (hA : Apart L) (a : α) : Apart (fdel L a) := hA.filter _
theorem fdel_none {L : List (α × β)} {a : α} (h : ∀ p ∈ L, p.1 ≠ a) : fdel L a = L := List.filter_eq_self.2 (fun p hp => by simpa using h p hp)
theorem fdel_at {L : List (α × β)} (hA : Apart L) {j : Nat} {a : α} {b : β} (h : L[j]? = some (a, b)) : fdel L a = L.eraseIdx j := by
  induction L generalizing j with
  | nil => simp at h
  | cons p l ih =>
    obtain ⟨h1, h2⟩ := List.pairwise_cons.1 hA
    cases j with
    | zero =>
      simp at h
      subst h
      unfold fdel
      rw [List.filter_cons_of_neg (by simp)]
      simpa [fdel] using fdel_none (L := l) (a := a) (fun q hq e => h1 q hq e.symm)
    | succ j =>
      have hm : (a, b) ∈ l := List.mem_of_getElem? (by simpa using h)
      have := ih h2 (j := j) (by simpa using h)
      unfold fdel at this ⊢
      rw [List.filter_cons_of_pos (by simpa using h1 _ hm), this]
      simp
theorem fput_at {L : List (α × β)} (hA : Apart L) {j : Nat} {a : α} {b0 : β} (h : L[j]? = some (a, b0)) (b : β) : fput L a b = L.set j (a, b) := by
  unfold fput
  rw [if_pos (any_at h)]
  apply List.ext_getElem?
  intro i
  rw [List.getElem?_map, List.getElem?_set]
  by_cases hij : j = i
  · subst hij
    have hl : j < L.length := (List.getElem?_eq_some_iff.1 h).1
    rw [if_pos rfl, if_pos hl, h]
    simp
  · rw [if_neg hij]
    cases hi : L[i]? with
    | none => rfl
    | some p =>
      have : p.1 ≠ a := fun e => hij (apart_at hA h hi e.symm)
      simp [this]
end

/-- A map's entries as pairs. -/
def ents (es : Array MapEntry) : List (Value × Value) := es.toList.map fun e => (e.key, e.val)

/-- Block b holds the map whose entries are L, read by ek and ev. -/
structure MapIs {α β : Type} (P : Program) (k : TypeId) (ek : α → Value) (ev : β → Value) (w : World) (b : Nat) (L : List (α × β)) : Prop where
  block : ∃ es clock, w.heap[b]? = some (.map es clock) ∧ ents es = L.map (fun p => (ek p.1, ev p.2))
  keys : ∀ p ∈ L, ∃ l, keyOf P k (ek p.1) = some l
  apart : Apart L

section
variable {α β : Type} [DecidableEq α] {P : Program} {k : TypeId} {ek : α → Value} {ev : β → Value} {w w' : World} {b : Nat} {L : List (α × β)}

theorem MapIs.lt (h : MapIs P k ek ev w b L) : b < w.heap.size := by
  obtain ⟨es, clock, hb, _⟩ := h.block
  exact (Array.getElem?_eq_some_iff.1 hb).1
theorem MapIs.of_block (h : MapIs P k ek ev w b L) (hb : w'.heap[b]? = w.heap[b]?) : MapIs P k ek ev w' b L := by
  obtain ⟨es, clock, h1, h2⟩ := h.block
  exact ⟨⟨es, clock, hb.trans h1, h2⟩, h.keys, h.apart⟩
theorem MapIs.made (w : World) (P : Program) (k : TypeId) (ek : α → Value) (ev : β → Value) {g : Nat} (hg : g = w.heap.size) : MapIs P k ek ev (w.alloc (.map #[] 0)) g ([] : List (α × β)) := by
  subst hg
  exact ⟨⟨#[], 0, (MapKept.heap_alloc w _).1, rfl⟩, by simp, List.Pairwise.nil⟩

theorem find_cases (K : Keyed P k) (hinj : ∀ a a', ek a = ek a' → a = a') (w : World) {es : Array MapEntry} (hes : ents es = L.map (fun p => (ek p.1, ev p.2))) (hk : ∀ p ∈ L, ∃ l, keyOf P k (ek p.1) = some l) {a : α} {la : Lit} (ha : keyOf P k (ek a) = some la) :
    ((Instr.findKey k (ek a) es.toList).run P w = .ok none w ∧ ∀ p ∈ L, p.1 ≠ a) ∨ ∃ j b, (Instr.findKey k (ek a) es.toList).run P w = .ok (some (j, ev b)) w ∧ L[j]? = some (a, b) := by
  have hpair : ∀ (j : Nat) (e : MapEntry), es.toList[j]? = some e → ∃ p, L[j]? = some p ∧ e.key = ek p.1 ∧ e.val = ev p.2 := by
    intro j e he
    have h1 : (ents es)[j]? = some (e.key, e.val) := by unfold ents; rw [List.getElem?_map, he]; rfl
    rw [hes, List.getElem?_map] at h1
    cases hl : L[j]? with
    | none => rw [hl] at h1; cases h1
    | some p =>
      rw [hl] at h1
      simp at h1
      exact ⟨p, rfl, h1.1.symm, h1.2.symm⟩
  have hkeys : ∀ e ∈ es.toList, ∃ l, keyOf P k e.key = some l := by
    intro e he
    obtain ⟨j, hj⟩ := List.getElem?_of_mem he
    obtain ⟨p, hp, h1, _⟩ := hpair j e hj
    rw [h1]
    exact hk p (List.mem_of_getElem? hp)
  rcases K.find w ha es.toList hkeys with ⟨h1, h2⟩ | ⟨j, e0, h1, h2, h3⟩
  · refine .inl ⟨h1, fun p hp e => ?_⟩
    obtain ⟨j, hj⟩ := List.getElem?_of_mem hp
    have h4 : (ents es)[j]? = some (ek p.1, ev p.2) := by rw [hes, List.getElem?_map, hj]; rfl
    unfold ents at h4
    rw [List.getElem?_map] at h4
    cases he : es.toList[j]? with
    | none => rw [he] at h4; cases h4
    | some e1 =>
      rw [he] at h4
      simp at h4
      exact h2 e1 (List.mem_of_getElem? he) (by rw [h4.1, e])
  · obtain ⟨p, hp, h4, h5⟩ := hpair j e0 h2
    have : p.1 = a := hinj _ _ (h4.symm.trans h3)
    refine .inr ⟨j, p.2, by rw [← h5]; exact h1, ?_⟩
    rw [hp, ← this]

/-- 'v, ok := m[k]' and 'm[k]'. -/
theorem MapIs.look (h : MapIs P k ek ev w b L) (K : Keyed P k) (hinj : ∀ a a', ek a = ek a' → a = a') {t e : TypeId} (ht : P.underlying t = some (.map k e)) {z : Value} (hz : (zeroValue e).run P w = .ok z w) {a : α} (ha : ∃ l, keyOf P k (ek a) = some l) (c : Bool) :
    (Instr.lookup t (.map (some b)) (ek a) c).run P w = .ok (if c then .tuple #[((fget L a).map ev).getD z, .bool (fget L a).isSome] else ((fget L a).map ev).getD z) w := by
  obtain ⟨la, ha⟩ := ha
  obtain ⟨es, clock, hb, hes⟩ := h.block
  rcases find_cases K hinj w hes h.keys ha with ⟨h1, h2⟩ | ⟨j, x, h1, h2⟩
  · rw [fget_none h2]
    simp [Instr.lookup, run_underlying ht, MapKept.run_getObj_map hb, K.check w _ ha, h1, hz, Result.andThen]
  · rw [fget_at h.apart h2]
    simp [Instr.lookup, run_underlying ht, MapKept.run_getObj_map hb, K.check w _ ha, h1, Result.andThen]
/-- .. of a nil map. -/
theorem look_nil (K : Keyed P k) {t e : TypeId} (ht : P.underlying t = some (.map k e)) {z : Value} (hz : (zeroValue e).run P w = .ok z w) {x : Value} (ha : ∃ l, keyOf P k x = some l) (c : Bool) :
    (Instr.lookup t (.map none) x c).run P w = .ok (if c then .tuple #[z, .bool false] else z) w :=
  ha.elim fun _ h => Maps.look_nil c K ht hz h

/-- w' is w but for block b, which holds a map there and here. -/
def Turned (w w' : World) (b : Nat) : Prop := ∃ es clock es' clock', w.heap[b]? = some (.map es clock) ∧ w' = { w with heap := w.heap.setIfInBounds b (.map es' clock') }

/-- 'm[k] = v'. -/
theorem MapIs.store (h : MapIs P k ek ev w b L) (K : Keyed P k) (hinj : ∀ a a', ek a = ek a' → a = a') {t e : TypeId} (ht : P.underlying t = some (.map k e)) {a : α} (ha : ∃ l, keyOf P k (ek a) = some l) (x : β) :
    ∃ w', (Instr.mapUpdate t (.map (some b)) (ek a) (ev x)).run P w = .ok () w' ∧ MapIs P k ek ev w' b (fput L a x) ∧ Turned w w' b := by
  have hak := ha
  obtain ⟨la, ha⟩ := ha
  obtain ⟨es, clock, hb, hes⟩ := h.block
  have hkeys : ∀ p ∈ fput L a x, ∃ l, keyOf P k (ek p.1) = some l := by
    intro p hp
    rcases fput_keys p hp with rfl | ⟨hp, _⟩
    · exact hak
    · exact h.keys p hp
  rcases find_cases K hinj w hes h.keys ha with ⟨h1, h2⟩ | ⟨j, y, h1, h2⟩
  · refine ⟨{ w with heap := w.heap.setIfInBounds b (.map (es.push ⟨ek a, ev x, clock⟩) (clock + 1)) }, ?_, ⟨⟨es.push ⟨ek a, ev x, clock⟩, clock + 1, (heap_set hb).1, ?_⟩, hkeys, apart_put h.apart a x⟩, ⟨es, clock, _, _, hb, rfl⟩⟩
    · simp [Instr.mapUpdate, run_underlying ht, MapKept.run_getObj_map hb, K.check w false ha, h1, MapKept.run_setObj_map _ hb, Result.andThen]
    · unfold fput
      rw [any_none h2]
      unfold ents at hes ⊢
      simp [hes]
  · have hjl : j < es.toList.length := by
      have h3 := (List.getElem?_eq_some_iff.1 h2).1
      have h4 := congrArg List.length hes
      unfold ents at h4
      simp at h4
      simp; omega
    have hjs : j < es.size := by simpa using hjl
    obtain ⟨e0, he0⟩ : ∃ e0, es[j]? = some e0 := ⟨es[j], by simp [hjs]⟩
    have hkey0 : e0.key = ek a := by
      have h4 : (ents es)[j]? = some (ek a, ev y) := by rw [hes, List.getElem?_map, h2]; rfl
      unfold ents at h4
      rw [List.getElem?_map, Array.getElem?_toList, he0] at h4
      simp at h4
      exact h4.1
    refine ⟨{ w with heap := w.heap.setIfInBounds b (.map (es.modify j fun e => { e with key := ek a, val := ev x }) clock) }, ?_, ⟨⟨es.modify j fun e => { e with key := ek a, val := ev x }, clock, (heap_set hb).1, ?_⟩, hkeys, apart_put h.apart a x⟩, ⟨es, clock, _, _, hb, rfl⟩⟩
    · simp [Instr.mapUpdate, run_underlying ht, MapKept.run_getObj_map hb, K.check w false ha, h1, he0, hkey0, K.stays w ha, MapKept.run_setObj_map _ hb, Result.andThen]
    · rw [fput_at h.apart h2, List.map_set, ← hes]
      unfold ents
      apply List.ext_getElem?
      intro i
      rw [List.getElem?_map, Array.getElem?_toList, Array.getElem?_modify, List.getElem?_set, List.length_map]
      by_cases hij : j = i
      · subst hij
        rw [if_pos rfl, if_pos rfl, if_pos hjl, he0]
        rfl
      · rw [if_neg hij, if_neg hij, List.getElem?_map, Array.getElem?_toList]

/-- 'delete(m, k)'. -/
theorem MapIs.drop (h : MapIs P k ek ev w b L) (K : Keyed P k) (hinj : ∀ a a', ek a = ek a' → a = a') {t e : TypeId} (ht : P.underlying t = some (.map k e)) {a : α} (ha : ∃ l, keyOf P k (ek a) = some l) :
    ∃ w', (∀ ty, (Builtin.delete_ #[t, k] ty #[.map (some b), ek a]).run P w = .ok (.tuple #[]) w') ∧ MapIs P k ek ev w' b (fdel L a) ∧ Turned w w' b := by
  obtain ⟨la, ha⟩ := ha
  obtain ⟨es, clock, hb, hes⟩ := h.block
  have hkeys : ∀ p ∈ fdel L a, ∃ l, keyOf P k (ek p.1) = some l := fun p hp => h.keys p (List.mem_filter.1 hp).1
  rcases find_cases K hinj w hes h.keys ha with ⟨h1, h2⟩ | ⟨j, y, h1, h2⟩
  · refine ⟨{ w with heap := w.heap.setIfInBounds b (.map es clock) }, ?_, ⟨⟨es, clock, (heap_set hb).1, ?_⟩, hkeys, apart_del h.apart a⟩, ⟨es, clock, _, _, hb, rfl⟩⟩
    · intro ty; simp [Builtin.delete_, run_underlying ht, MapKept.run_getObj_map hb, K.check w _ ha, h1, MapKept.run_setObj_map _ hb, Result.andThen]
    · rw [fdel_none h2]; exact hes
  · have hjl : j < es.toList.length := by
      have h3 := (List.getElem?_eq_some_iff.1 h2).1
      have h4 := congrArg List.length hes
      unfold ents at h4
      simp at h4
      simp; omega
    have hjs : j < es.size := by simpa using hjl
    have hsub : (es.eraseIdxIfInBounds j).toList = es.toList.eraseIdx j := by simp [Array.eraseIdxIfInBounds, hjs]
    refine ⟨{ w with heap := w.heap.setIfInBounds b (.map (es.eraseIdxIfInBounds j) clock) }, ?_, ⟨⟨es.eraseIdxIfInBounds j, clock, (heap_set hb).1, ?_⟩, hkeys, apart_del h.apart a⟩, ⟨es, clock, _, _, hb, rfl⟩⟩
    · intro ty; simp [Builtin.delete_, run_underlying ht, MapKept.run_getObj_map hb, K.check w _ ha, h1, MapKept.run_setObj_map _ hb, Result.andThen]
    · rw [fdel_at h.apart h2]
      unfold ents at hes ⊢
      rw [hsub, ChangeMaps.map_eraseIdx, hes, ← ChangeMaps.map_eraseIdx]
/-- 'len(m)'. -/
theorem MapIs.len (h : MapIs P k ek ev w b L) {t e : TypeId} (ht : P.underlying t = some (.map k e)) (ty : TypeId) : (Builtin.len_ #[t] ty #[.map (some b)]).run P w = .ok (.int .i64 L.length) w := by
  obtain ⟨es, clock, hb, hes⟩ := h.block
  have h1 : L.length = es.size := by
    have := congrArg List.length hes
    unfold ents at this
    simp at this
    exact this.symm
  rw [h1]
  simp [Builtin.len_, run_underlying ht, MapKept.run_getObj_map hb, goInt, Result.andThen]
theorem len_nil {t e : TypeId} (ht : P.underlying t = some (.map k e)) (ty : TypeId) : (Builtin.len_ #[t] ty #[.map none]).run P w = .ok (.int .i64 0) w := Maps.len_nil ht ty
end
/-! ### at an operation: by the run alone -/
section
variable {P : Program} {w : World} {ops : Array Oper} {rest : List Oper} {o : Oper} {a : Act} {Q : Exit → Act → World → Prop}
theorem wpList_len_run (hg : o.guard = none) (m : Operand) (t : TypeId) (hop : o.op = Op.call { callee := Callee.builtin Builtin.len, args := #[m], argTypes := #[t] }) (v : Value) (n : Int) (hm : a.eval m = v)
    (hrun : ∀ ty, (Builtin.len_ #[t] ty #[v]).run P w = .ok (.int .i64 n) w) (hK : wpList P ops Q rest (a.put o.dst (.int .i64 n)) w) : wpList P ops Q (o :: rest) a w := by
  refine wpList_plain hg fun K' hK' => ?_
  unfold Oper.wp
  simp [execOp, hop, resolve, invoke, builtin, hm, hrun, Result.andThen]
  exact hK' _ _ hK
theorem wpList_lookup_run (hg : o.guard = none) (m x : Operand) (t : TypeId) (c : Bool) (hop : o.op = Op.lookup t m x c) (vm vx r : Value) (hm : a.eval m = vm) (hx : a.eval x = vx)
    (hrun : (Instr.lookup t vm vx c).run P w = .ok r w) (hK : wpList P ops Q rest (a.put o.dst r) w) : wpList P ops Q (o :: rest) a w := by
  refine wpList_plain hg fun K' hK' => ?_
  unfold Oper.wp
  simp [execOp, hop, hm, hx, hrun, Result.andThen]
  exact hK' _ _ hK
theorem wpList_update_run (hg : o.guard = none) (m x v : Operand) (t : TypeId) (hop : o.op = Op.mapUpdate t m x v) (vm vx vv : Value) (hm : a.eval m = vm) (hx : a.eval x = vx) (hv : a.eval v = vv) {w' : World}
    (hrun : (Instr.mapUpdate t vm vx vv).run P w = .ok () w') (hK : wpList P ops Q rest (a.put o.dst undef) w') : wpList P ops Q (o :: rest) a w := by
  refine wpList_plain hg fun K' hK' => ?_
  unfold Oper.wp
  simp [execOp, hop, hm, hx, hv, hrun, Result.andThen]
  exact hK' _ _ hK
theorem wpList_delete_run (hg : o.guard = none) (m x : Operand) (t k : TypeId) (hop : o.op = Op.call { callee := Callee.builtin Builtin.delete, args := #[m, x], argTypes := #[t, k] }) (vm vx : Value) (hm : a.eval m = vm) (hx : a.eval x = vx) {w' : World}
    (hrun : ∀ ty, (Builtin.delete_ #[t, k] ty #[vm, vx]).run P w = .ok (.tuple #[]) w') (hK : wpList P ops Q rest (a.put o.dst (.tuple #[])) w') : wpList P ops Q (o :: rest) a w := by
  refine wpList_plain hg fun K' hK' => ?_
  unfold Oper.wp
  simp [execOp, hop, resolve, invoke, builtin, hm, hx, hrun, Result.andThen]
  exact hK' _ _ hK
variable {K : Act → World → Prop} {E : Prop}
theorem step_lookup (hgd : o.guard = none) (m x : Operand) (t : TypeId) (c : Bool) (hop : o.op = Op.lookup t m x c) (vm vx r : Value) (hm : a.eval m = vm) (hx : a.eval x = vx)
    (hrun : (Instr.lookup t vm vx c).run P w = .ok r w) (h : K (a.put o.dst r) w) : if Region.wanted o (yielded ops a.tmps) = true then Oper.wp P o a w K Q else E := by
  rw [if_pos (by simp [Region.wanted, hgd])]
  unfold Oper.wp
  simp [execOp, hop, hm, hx, hrun, Result.andThen]
  exact h
theorem step_update (hgd : o.guard = none) (m x v : Operand) (t : TypeId) (hop : o.op = Op.mapUpdate t m x v) (vm vx vv : Value) (hm : a.eval m = vm) (hx : a.eval x = vx) (hv : a.eval v = vv) {w' : World}
    (hrun : (Instr.mapUpdate t vm vx vv).run P w = .ok () w') (h : K (a.put o.dst undef) w') : if Region.wanted o (yielded ops a.tmps) = true then Oper.wp P o a w K Q else E := by
  rw [if_pos (by simp [Region.wanted, hgd])]
  unfold Oper.wp
  simp [execOp, hop, hm, hx, hv, hrun, Result.andThen]
  exact h
theorem step_delete (hgd : o.guard = none) (m x : Operand) (t k : TypeId) (hop : o.op = Op.call { callee := Callee.builtin Builtin.delete, args := #[m, x], argTypes := #[t, k] }) (vm vx : Value) (hm : a.eval m = vm) (hx : a.eval x = vx) {w' : World}
    (hrun : ∀ ty, (Builtin.delete_ #[t, k] ty #[vm, vx]).run P w = .ok (.tuple #[]) w') (h : K (a.put o.dst (.tuple #[])) w') : if Region.wanted o (yielded ops a.tmps) = true then Oper.wp P o a w K Q else E := by
  rw [if_pos (by simp [Region.wanted, hgd])]
  unfold Oper.wp
  simp [execOp, hop, resolve, invoke, builtin, hm, hx, hrun, Result.andThen]
  exact h
end
end Go.MapRow

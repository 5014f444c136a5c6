/- An append whose source is a slice value that reads as a row of elements of several cells, nil or not; at an operation of a plain region and at a step of a region that draws its order. No names of a seat but the imports. -/
import Derived.Test.YtekppjigckjgiaaKit
import Derived.Deep.RegionLaw
set_option linter.unusedSimpArgs false
namespace Go.Mem1
open Go.RowKit

/-- The slice '.slice A n c' reads as n elements of m cells, which lie below block B. -/
structure RdS (w : World) (B : Nat) (A : Option Addr) (n m : Nat) (xs : List Value) : Prop where
  len : xs.length = n * m
  cells : 0 < n → ∃ b off, A = some ⟨b, off, none⟩ ∧ b < B ∧ ∀ k u, xs[k]? = some u → w.cell? ⟨b, off + k, none⟩ = some u
section
variable {P : Program} {w w' : World} {B B' n m : Nat} {A : Option Addr} {xs : List Value}
theorem RdS.carry (h : RdS w B A n m xs) (hb : Below B w w') : RdS w' B A n m xs :=
  ⟨h.len, fun hn => by
    obtain ⟨b, off, e, hlt, hc⟩ := h.cells hn
    exact ⟨b, off, e, hlt, fun k u hu => (hb.cell (p := ⟨b, off + k, none⟩) hlt).trans (hc k u hu)⟩⟩
theorem RdS.wider (h : RdS w B A n m xs) (hB : B ≤ B') : RdS w B' A n m xs :=
  ⟨h.len, fun hn => by
    obtain ⟨b, off, e, hlt, hc⟩ := h.cells hn
    exact ⟨b, off, e, by omega, hc⟩⟩
theorem RdS.ofOwn {base c : Nat} {e : TypeId} (h : w.ownsRow base e m (.slice A n c) n xs) : RdS w w.heap.size A n m xs := by
  refine ⟨h.1, fun hn => ?_⟩
  rcases own_form h with ⟨_, h0⟩ | ⟨g, c', e1, _, hlt, _⟩
  · omega
  · injection e1 with e1 _ _
    subst e1
    refine ⟨g, 0, rfl, hlt, fun k u hu => ?_⟩
    have hc := own_cell (c := c) h hu
    rw [Nat.zero_add]
    exact hc
/-- Its first k elements. -/
theorem RdS.head (h : RdS w B A n m xs) {k : Nat} (hk : k ≤ n) : RdS w B A k m (xs.take (k * m)) := by
  refine ⟨by rw [List.length_take, h.len]; exact Nat.min_eq_left (Nat.mul_le_mul_right m hk), fun h0 => ?_⟩
  obtain ⟨b, off, e, hlt, hc⟩ := h.cells (by omega)
  refine ⟨b, off, e, hlt, fun j u hu => hc j u ?_⟩
  rw [List.getElem?_take] at hu
  split at hu
  · exact hu
  · cases hu
/-- Those behind the first k. -/
theorem RdS.tail {b off k : Nat} (h : RdS w B (some ⟨b, off, none⟩) n m xs) (hk : k ≤ n) : RdS w B (some ⟨b, off + k * m, none⟩) (n - k) m (xs.drop (k * m)) := by
  refine ⟨by rw [List.length_drop, h.len, ← Nat.sub_mul], fun h0 => ?_⟩
  obtain ⟨b', off', e, hlt, hc⟩ := h.cells (by omega)
  injection e with e
  injection e with e1 e2
  subst e1; subst e2
  refine ⟨b, off + k * m, rfl, hlt, fun j u hu => ?_⟩
  rw [List.getElem?_drop] at hu
  rw [Nat.add_assoc]
  exact hc _ u hu
theorem RdS.nothing (w : World) (B : Nat) (A : Option Addr) (m : Nat) : RdS w B A 0 m [] := ⟨by simp, fun h => absurd h (Nat.lt_irrefl 0)⟩
/-- Of a block that was just made, in any world that keeps it. -/
theorem RdS.cells' {b : Nat} (h : RdS w B (some ⟨b, 0, none⟩) n m xs) (hn : 0 < n) : ∀ j u, xs[j]? = some u → w.cell? ((⟨b, 0, none⟩ : Addr).add j) = some u := by
  obtain ⟨b', off, e, _, hc⟩ := h.cells hn
  injection e with e
  injection e with e1 e2
  subst e1; subst e2
  intro j u hu
  have := hc j u hu
  rw [Nat.zero_add] at this
  rcases Nat.eq_zero_or_pos j with h0 | h0
  · subst h0; simpa [Addr.add] using this
  · simpa [Addr.add, show j ≠ 0 by omega] using this
theorem run_appendS (base : Nat) (t ty e : TypeId) (i : TypeInfo) (z : Value) (size bytes : Nat) (ht : P.underlying t = some (.slice e)) (hi : P.info? e = some i) (hz : i.zero = some z)
    (hsize : i.size = size) (hby : i.bytes = bytes) (hzs : z.cells.size = size) (hsz : 0 < size) (v : Value) (n : Nat) (xs : List Value) (hown : w.ownsRow base e size v n xs)
    (A : Option Addr) (m c : Nat) (hc0 : A = none → c = 0) (news : List Value) (hr : RdS w B A m size news) (h1 : ∀ u ∈ news, u.oneCell' = true) (h63 : n + m ≤ maxLen) (hbb : (n + m) * bytes ≤ 140737488355328) (hbase : base ≤ w.heap.size) :
    ∃ v' w', (Builtin.append_ #[t, t] ty #[v, .slice A m c]).run P w = .ok v' w' ∧ w'.ownsRow base e size v' (n + m) (xs ++ news) ∧ w.grownBy w' v.ownBlock ∧ (v'.ownBlock = v.ownBlock ∨ v'.ownBlock = some w.heap.size) := by
  cases A with
  | none =>
    have hm : m = 0 := by
      rcases Nat.eq_zero_or_pos m with h0 | h0
      · exact h0
      · obtain ⟨b, off, h, _⟩ := hr.cells h0; cases h
    subst hm
    obtain rfl := hc0 rfl
    have hn : news = [] := List.eq_nil_of_length_eq_zero (by rw [hr.len]; simp)
    subst hn
    exact ⟨v, w, run_append_owned_none (P := P) (w := w) base t ty e i size ht hi v n xs hown, by simpa using hown, World.grownBy.refl w _, .inl rfl⟩
  | some ad =>
    have hcells : ∀ j u, news[j]? = some u → w.cell? (ad.add j) = some u := by
      intro j u hu
      have hj : j < news.length := by
        rcases Nat.lt_or_ge j news.length with h | h
        · exact h
        · rw [List.getElem?_eq_none h] at hu; cases hu
      have hm : 0 < m := by
        rcases Nat.eq_zero_or_pos m with h0 | h0
        · subst h0; rw [hr.len] at hj; simp at hj
        · exact h0
      obtain ⟨b, off, h, _, hc⟩ := hr.cells hm
      injection h with h
      subst h
      have := hc j u hu
      rcases Nat.eq_zero_or_pos j with h0 | h0
      · subst h0; simpa [Addr.add] using this
      · simpa [Addr.add, show j ≠ 0 by omega] using this
    obtain ⟨v', w', hrun, h2, h3, _, h5⟩ := run_append_own_at (P := P) w base t ty e i z size bytes ht hi hz hsize hby hzs hsz v n xs hown ad m c news hr.len hcells h1 h63 hbb hbase
    exact ⟨v', w', hrun, h2, h3, h5⟩
/-- At an operation of a plain region. -/
theorem wpList_appendS {ops : Array Oper} {rest : List Oper} {o : Oper} {a : Act} {Q : Exit → Act → World → Prop} (hgd : o.guard = none) (s x : Operand) (t : TypeId)
    (ho : o.op = .call { callee := .builtin .append, args := #[s, x], argTypes := #[t, t] })
    (base : Nat) (e : TypeId) (i : TypeInfo) (z : Value) (size bytes : Nat) (ht : P.underlying t = some (.slice e)) (hi : P.info? e = some i) (hz : i.zero = some z)
    (hsize : i.size = size) (hby : i.bytes = bytes) (hzs : z.cells.size = size) (hsz : 0 < size) (v : Value) (n : Nat) (xs : List Value) (hs : a.eval s = v) (hown : w.ownsRow base e size v n xs)
    (A : Option Addr) (m c : Nat) (hc0 : A = none → c = 0) (news : List Value) (hx : a.eval x = .slice A m c) (hr : RdS w B A m size news) (h1 : ∀ u ∈ news, u.oneCell' = true) (h63 : n + m ≤ maxLen) (hbb : (n + m) * bytes ≤ 140737488355328) (hbase : base ≤ w.heap.size)
    (h : ∀ v' w', w'.ownsRow base e size v' (n + m) (xs ++ news) → w.grownBy w' v.ownBlock → (v'.ownBlock = v.ownBlock ∨ v'.ownBlock = some w.heap.size) → wpList P ops Q rest (a.put o.dst v') w') :
    wpList P ops Q (o :: rest) a w := by
  refine wpList_plain hgd fun K hK => ?_
  obtain ⟨v', w', hrun, h2, h3, h4⟩ := run_appendS (P := P) (w := w) base t o.type e i z size bytes ht hi hz hsize hby hzs hsz v n xs hown A m c hc0 news hr h1 h63 hbb hbase
  unfold Oper.wp execOp
  simp only [ho, resolve, invoke, builtin, Sem.run_bind, Sem.run_pure, Result.andThen_ok, List.map_toArray, List.map_cons, List.map_nil, hs, hx, hrun]
  exact hK _ _ (h v' w' h2 h3 h4)
/-- At a step of a region that draws its order. -/
theorem step_appendS {ops : Array Oper} {o : Oper} {a : Act} {K : Act → World → Prop} {Q : Exit → Act → World → Prop} {E : Prop} (hgd : o.guard = none) (s x : Operand) (t : TypeId)
    (ho : o.op = .call { callee := .builtin .append, args := #[s, x], argTypes := #[t, t] })
    (base : Nat) (e : TypeId) (i : TypeInfo) (z : Value) (size bytes : Nat) (ht : P.underlying t = some (.slice e)) (hi : P.info? e = some i) (hz : i.zero = some z)
    (hsize : i.size = size) (hby : i.bytes = bytes) (hzs : z.cells.size = size) (hsz : 0 < size) (v : Value) (n : Nat) (xs : List Value) (hs : a.eval s = v) (hown : w.ownsRow base e size v n xs)
    (A : Option Addr) (m c : Nat) (hc0 : A = none → c = 0) (news : List Value) (hx : a.eval x = .slice A m c) (hr : RdS w B A m size news) (h1 : ∀ u ∈ news, u.oneCell' = true) (h63 : n + m ≤ maxLen) (hbb : (n + m) * bytes ≤ 140737488355328) (hbase : base ≤ w.heap.size)
    (h : ∀ v' w', w'.ownsRow base e size v' (n + m) (xs ++ news) → w.grownBy w' v.ownBlock → (v'.ownBlock = v.ownBlock ∨ v'.ownBlock = some w.heap.size) → K (a.put o.dst v') w') :
    if Region.wanted o (yielded ops a.tmps) = true then Oper.wp P o a w K Q else E := by
  rw [if_pos (by simp [Region.wanted, hgd])]
  obtain ⟨v', w', hrun, h2, h3, h4⟩ := run_appendS (P := P) (w := w) base t o.type e i z size bytes ht hi hz hsize hby hzs hsz v n xs hown A m c hc0 news hr h1 h63 hbb hbase
  unfold Oper.wp execOp
  simp only [ho, resolve, invoke, builtin, Sem.run_bind, Sem.run_pure, Result.andThen_ok, List.map_toArray, List.map_cons, List.map_nil, hs, hx, hrun]
  exact h v' w' h2 h3 h4
/-- An empty row that was just made. -/
theorem own_empty (W : World) (e : TypeId) (base size : Nat) (h : base ≤ W.heap.size) : (W.alloc (.cells #[] e)).ownsRow base e size (.slice (some ⟨W.heap.size, 0, none⟩) 0 0) 0 [] := by
  have := World.ownsRow_made (e := e) (base := W.heap.size) (size := size) W #[] 0 (Nat.le_refl _) (by simp [maxLen]) (by simp)
  exact own_wider this h
theorem own_empty_at (W : World) (e : TypeId) (base size g : Nat) (hg : g = W.heap.size) (h : base ≤ W.heap.size) : (W.alloc (.cells #[] e)).ownsRow base e size (.slice (some ⟨g, 0, none⟩) 0 0) 0 [] := hg ▸ own_empty W e base size h
theorem cells_drew {W : World} {g : Nat} {l : List Value} (h : ∀ j u, l[j]? = some u → W.cell? ((⟨g, 0, none⟩ : Addr).add j) = some u) : ∀ j u, l[j]? = some u → W.drew.cell? ((⟨g, 0, none⟩ : Addr).add j) = some u := fun j u hu => by
  have := h j u hu
  simpa using this
/-- What lies in a block just made, behind one more. -/
theorem cells_new2 (w : World) (l : List Value) (t : TypeId) (o : Obj) : ∀ j u, l[j]? = some u → ((w.alloc (.cells l.toArray t)).alloc o).cell? ((⟨w.heap.size, 0, none⟩ : Addr).add j) = some u := by
  intro j u hu
  have h1 := cells_new w l t rfl j u hu
  exact ((bel_new (w.alloc (.cells l.toArray t)) o).cell (p := (⟨w.heap.size, 0, none⟩ : Addr).add j) (by rcases Nat.eq_zero_or_pos j with h0 | h0 <;> simp [Addr.add, h0] <;> split <;> simp)).trans h1
/-- Kept where another block grows. -/
theorem cells_grown {W W' : World} {g0 g : Nat} {l : List Value} (h : ∀ j u, l[j]? = some u → W.cell? ((⟨g, 0, none⟩ : Addr).add j) = some u) (hg : W.grownBy W' (some g0)) (hne : g ≠ g0) : ∀ j u, l[j]? = some u → W'.cell? ((⟨g, 0, none⟩ : Addr).add j) = some u := by
  intro j u hu
  refine (Chg.of_grown hg).cell (h j u hu) ?_
  intro e
  injection e with e
  rcases Nat.eq_zero_or_pos j with h0 | h0
  · subst h0; exact hne (by simpa [Addr.add] using e)
  · exact hne (by simpa [Addr.add, show j ≠ 0 by omega] using e)
end
end Go.Mem1

/- Rows in one arena, in plain mathematics: cells linked by numbers, what each call makes of them, and the rows that they stand for. -/
set_option linter.unusedSimpArgs false
namespace Go.FifMath
/-- A cell: its value, its row, the cells ahead of it and behind it. -/
structure Lnk where
  v : Int
  r : Int
  p : Int
  n : Int
/-- A row's ends, and how many it has. -/
structure Tip where
  a : Int
  z : Int
  k : Int
/-- An arena. -/
structure Aren where
  rs : List Tip
  cs : List Lnk
  top : Int
  free : Int
theorem end_ext {e f : Tip} (h1 : e.a = f.a) (h2 : e.z = f.z) (h3 : e.k = f.k) : e = f := by
  cases e; cases f; simp_all
def setN (n : Int) (l : Lnk) : Lnk := ⟨l.v, l.r, l.p, n⟩
def setP (p : Int) (l : Lnk) : Lnk := ⟨l.v, l.r, p, l.n⟩
def setA (a : Int) (e : Tip) : Tip := ⟨a, e.z, e.k⟩
def setZ (z : Int) (e : Tip) : Tip := ⟨e.a, z, e.k⟩
def addK (d : Int) (e : Tip) : Tip := ⟨e.a, e.z, e.k + d⟩
def Aren.atRow (s : Aren) (row : Nat) (f : Tip → Tip) : Aren := ⟨s.rs.modify row f, s.cs, s.top, s.free⟩
def Aren.atCell (s : Aren) (c : Nat) (f : Lnk → Lnk) : Aren := ⟨s.rs, s.cs.modify c f, s.top, s.free⟩
def join1 (s : Aren) (row : Nat) (x y : Int) : Aren := if x = -1 then s.atRow row (setA y) else s.atCell x.toNat (setN y)
def join2 (s : Aren) (row : Nat) (x y : Int) : Aren := if y = -1 then s.atRow row (setZ x) else s.atCell y.toNat (setP x)
def join (s : Aren) (row : Nat) (x y : Int) : Aren := join2 (join1 s row x y) row x y
def takeNew (s : Aren) : Aren := ⟨s.rs, s.cs ++ [⟨0, 0, 0, 0⟩], s.top, s.free - 1⟩
def takeOld (s : Aren) (n : Int) : Aren := ⟨s.rs, s.cs, n, s.free - 1⟩
def zOf (s : Aren) (row : Nat) : Int := match s.rs[row]? with | none => -1 | some e => e.z
/-- A cell that was taken is put at a row's end. -/
def put (s : Aren) (c row : Nat) (v : Int) : Aren :=
  (join (join (s.atCell c fun _ => ⟨v, row, 0, 0⟩) row (zOf s row) c) row c (-1)).atRow row (addK 1)
def give (s : Aren) (c : Nat) : Aren := ⟨s.rs, s.cs.modify c (fun _ => ⟨0, -1, 0, s.top⟩), c, s.free + 1⟩
/-- A cell is taken out of its row. -/
def out (s : Aren) (c row : Nat) (l : Lnk) : Aren := give ((join s row l.p l.n).atRow row (addK (-1))) c

theorem toNat_cast (n : Nat) : ((n : Int)).toNat = n := by simp
theorem mod_at {α : Type} {l : List α} {k : Nat} {f : α → α} {x : α} (h : l[k]? = some x) : (l.modify k f)[k]? = some (f x) := by
  rw [List.getElem?_modify, h]; simp
theorem mod_off {α : Type} {l : List α} {k j : Nat} {f : α → α} (h : j ≠ k) : (l.modify k f)[j]? = l[j]? := by
  rw [List.getElem?_modify]; simp [Ne.symm h]
theorem mod_set {α : Type} {l : List α} {k : Nat} {f : α → α} {x : α} (h : l[k]? = some x) : l.modify k f = l.set k (f x) := by
  apply List.ext_getElem?
  intro j
  rw [List.getElem?_set]
  by_cases hj : k = j
  · subst hj
    rw [if_pos rfl, mod_at h]
    have hk : k < l.length := by
      rcases Nat.lt_or_ge k l.length with h' | h'
      · exact h'
      · rw [List.getElem?_eq_none h'] at h; cases h
    rw [if_pos hk]
  · rw [if_neg hj, mod_off (Ne.symm hj)]

/-- The first of a row, or what stands behind it; the last, or what stands ahead of it. -/
def hd (L : List (Nat × Int)) (n : Int) : Int := match L with
  | [] => n
  | x :: _ => x.1
def lst (p : Int) : List (Nat × Int) → Int
  | [] => p
  | x :: L => lst x.1 L
theorem hd_append (A B : List (Nat × Int)) (n : Int) : hd (A ++ B) n = hd A (hd B n) := by cases A <;> rfl
theorem lst_append (A B : List (Nat × Int)) (p : Int) : lst p (A ++ B) = lst (lst p A) B := by
  induction A generalizing p with
  | nil => rfl
  | cons x A ih => exact ih x.1
theorem lst_snoc (A : List (Nat × Int)) (x : Nat × Int) (p : Int) : lst p (A ++ [x]) = x.1 := by rw [lst_append]; rfl
theorem hd_low (L : List (Nat × Int)) : hd L (-1) = -1 ∨ ∃ x ∈ L, hd L (-1) = (x.1 : Int) := by
  cases L with
  | nil => exact .inl rfl
  | cons x L => exact .inr ⟨x, List.mem_cons_self .., rfl⟩
theorem lst_low (L : List (Nat × Int)) : lst (-1) L = -1 ∨ ∃ x ∈ L, lst (-1) L = (x.1 : Int) := by
  rcases List.eq_nil_or_concat L with rfl | ⟨A, x, rfl⟩
  · exact .inl rfl
  · exact .inr ⟨x, by simp, by rw [List.concat_eq_append, lst_snoc]⟩
/-- The cells of a piece of a row, linked: p stands ahead of it, n behind it. -/
def Seg (cs : List Lnk) (r : Int) : Int → List (Nat × Int) → Int → Prop
  | _, [], _ => True
  | p, x :: L, n => cs[x.1]? = some ⟨x.2, r, p, hd L n⟩ ∧ Seg cs r x.1 L n
theorem seg_append {cs : List Lnk} {r : Int} {A B : List (Nat × Int)} {p n : Int} : Seg cs r p (A ++ B) n ↔ Seg cs r p A (hd B n) ∧ Seg cs r (lst p A) B n := by
  induction A generalizing p with
  | nil => simp [Seg, lst]
  | cons x A ih => simp only [List.cons_append, Seg, lst, hd_append, ih, and_assoc]
theorem seg_frame {cs cs' : List Lnk} {r : Int} {L : List (Nat × Int)} {p n : Int} (h : Seg cs r p L n) (hf : ∀ x ∈ L, cs'[x.1]? = cs[x.1]?) : Seg cs' r p L n := by
  induction L generalizing p with
  | nil => trivial
  | cons x L ih =>
    obtain ⟨h1, h2⟩ := h
    exact ⟨by rw [hf x (List.mem_cons_self ..)]; exact h1, ih h2 (fun y hy => hf y (List.mem_cons_of_mem _ hy))⟩
theorem seg_setN {cs : List Lnk} {r : Int} {A : List (Nat × Int)} {x : Nat × Int} {p n : Int} (m : Int) (h : Seg cs r p (A ++ [x]) n) (hd : ((A ++ [x]).map (·.1)).Nodup) : Seg (cs.modify x.1 (setN m)) r p (A ++ [x]) m := by
  obtain ⟨h1, h2, _⟩ := seg_append.1 h
  rw [List.map_append, List.nodup_append] at hd
  refine seg_append.2 ⟨seg_frame h1 (fun y hy => mod_off ?_), ?_, trivial⟩
  · exact hd.2.2 y.1 (List.mem_map.2 ⟨y, hy, rfl⟩) x.1 (by simp)
  · rw [mod_at h2]; rfl
theorem seg_setP {cs : List Lnk} {r : Int} {B : List (Nat × Int)} {x : Nat × Int} {p n : Int} (q : Int) (h : Seg cs r p (x :: B) n) (hd : ((x :: B).map (·.1)).Nodup) : Seg (cs.modify x.1 (setP q)) r q (x :: B) n := by
  obtain ⟨h1, h2⟩ := h
  rw [List.map_cons, List.nodup_cons] at hd
  refine ⟨by rw [mod_at h1]; rfl, seg_frame h2 (fun y hy => mod_off ?_)⟩
  rintro e
  exact hd.1 (List.mem_map.2 ⟨y, hy, e⟩)
theorem seg_at {cs : List Lnk} {r : Int} {L : List (Nat × Int)} {p n : Int} (h : Seg cs r p L n) {x : Nat × Int} (hx : x ∈ L) : ∃ a b, cs[x.1]? = some ⟨x.2, r, a, b⟩ := by
  induction L generalizing p with
  | nil => cases hx
  | cons y L ih =>
    obtain ⟨h1, h2⟩ := h
    rcases List.mem_cons.1 hx with rfl | hx
    · exact ⟨_, _, h1⟩
    · exact ih h2 hx

/-- What is the same but for one row and for some cells. -/
structure Same (s s' : Aren) (r : Nat) (X : Nat → Prop) : Prop where
  top : s'.top = s.top
  free : s'.free = s.free
  lenR : s'.rs.length = s.rs.length
  lenC : s'.cs.length = s.cs.length
  rows : ∀ j, j ≠ r → s'.rs[j]? = s.rs[j]?
  cells : ∀ c, ¬ X c → s'.cs[c]? = s.cs[c]?
theorem Same.trans {a b c : Aren} {r : Nat} {X Y Z : Nat → Prop} (h : Same a b r X) (k : Same b c r Y) (hX : ∀ i, X i → Z i) (hY : ∀ i, Y i → Z i) : Same a c r Z :=
  ⟨k.top.trans h.top, k.free.trans h.free, k.lenR.trans h.lenR, k.lenC.trans h.lenC, fun j hj => (k.rows j hj).trans (h.rows j hj), fun c hc => (k.cells c (fun h => hc (hY c h))).trans (h.cells c (fun h => hc (hX c h)))⟩
theorem same_row (s : Aren) (r : Nat) (f : Tip → Tip) (X : Nat → Prop) : Same s (s.atRow r f) r X := ⟨rfl, rfl, by simp [Aren.atRow], rfl, fun j hj => mod_off hj, fun _ _ => rfl⟩
theorem same_cell (s : Aren) (r c : Nat) (f : Lnk → Lnk) : Same s (s.atCell c f) r (· = c) := ⟨rfl, rfl, rfl, by simp [Aren.atCell], fun _ _ => rfl, fun j hj => mod_off hj⟩
theorem Same.mono {a b : Aren} {r : Nat} {X Z : Nat → Prop} (h : Same a b r X) (hX : ∀ i, X i → Z i) : Same a b r Z := ⟨h.top, h.free, h.lenR, h.lenC, h.rows, fun c hc => h.cells c (fun k => hc (hX c k))⟩
/-- The first half of a join: the last of A is led on to y. -/
theorem join1_ok {s : Aren} {r : Nat} {A : List (Nat × Int)} {e : Tip} {n : Int} (y : Int) (he : s.rs[r]? = some e) (ha : A ≠ [] → e.a = hd A 0) (h : Seg s.cs r (-1) A n) (hd' : (A.map (·.1)).Nodup) :
    (join1 s r (lst (-1) A) y).rs[r]? = some ⟨hd A y, e.z, e.k⟩ ∧ Seg (join1 s r (lst (-1) A) y).cs r (-1) A y ∧ Same s (join1 s r (lst (-1) A) y) r (· ∈ A.map (·.1)) := by
  rcases List.eq_nil_or_concat A with rfl | ⟨A', x, rfl⟩
  · unfold join1
    rw [show lst (-1) ([] : List (Nat × Int)) = -1 from rfl, if_pos rfl]
    exact ⟨mod_at he, trivial, same_row ..⟩
  · rw [List.concat_eq_append] at *
    rw [lst_snoc]
    unfold join1
    rw [if_neg (by omega), toNat_cast]
    refine ⟨?_, seg_setN y h hd', (same_cell s r x.1 _).mono (by rintro i rfl; simp)⟩
    show s.rs[r]? = _
    have h1 := ha (by simp)
    have h2 : hd (A' ++ [x]) y = hd (A' ++ [x]) 0 := by cases A' <;> rfl
    rw [he, h2, ← h1]
/-- The second half: the first of B is led back to x. -/
theorem join2_ok {s : Aren} {r : Nat} {B : List (Nat × Int)} {e : Tip} {p n : Int} (x : Int) (he : s.rs[r]? = some e) (h : Seg s.cs r p B n) (hd' : (B.map (·.1)).Nodup) :
    (join2 s r x (hd B (-1))).rs[r]? = some ⟨e.a, if B = [] then x else e.z, e.k⟩ ∧ Seg (join2 s r x (hd B (-1))).cs r x B n ∧ Same s (join2 s r x (hd B (-1))) r (· ∈ B.map (·.1)) := by
  cases B with
  | nil =>
    unfold join2
    rw [show hd ([] : List (Nat × Int)) (-1) = -1 from rfl, if_pos rfl]
    exact ⟨by rw [if_pos rfl]; exact mod_at he, trivial, same_row ..⟩
  | cons z B =>
    unfold join2
    rw [show hd (z :: B) (-1) = (z.1 : Int) from rfl, if_neg (by omega), toNat_cast]
    exact ⟨by rw [if_neg (by simp)]; exact he, seg_setP x h hd', (same_cell s r z.1 _).mono (by rintro i rfl; simp)⟩

/-- A row as it should be. -/
def RowOk (rs : List Tip) (cs : List Lnk) (r : Nat) (L : List (Nat × Int)) : Prop := rs[r]? = some ⟨hd L (-1), lst (-1) L, L.length⟩ ∧ Seg cs r (-1) L (-1)
/-- The cells that are free, the last one first. -/
def FSeg (cs : List Lnk) : Int → List Nat → Prop
  | t, [] => t = -1
  | t, c :: F => t = c ∧ ∃ n, cs[c]? = some ⟨0, -1, 0, n⟩ ∧ FSeg cs n F
theorem fseg_frame {cs cs' : List Lnk} {t : Int} {F : List Nat} (h : FSeg cs t F) (hf : ∀ c ∈ F, cs'[c]? = cs[c]?) : FSeg cs' t F := by
  induction F generalizing t with
  | nil => exact h
  | cons c F ih =>
    obtain ⟨h1, n, h2, h3⟩ := h
    exact ⟨h1, n, by rw [hf c (List.mem_cons_self ..)]; exact h2, ih h3 (fun d hd => hf d (List.mem_cons_of_mem _ hd))⟩
theorem fseg_at {cs : List Lnk} {t : Int} {F : List Nat} (h : FSeg cs t F) {c : Nat} (hc : c ∈ F) : ∃ n, cs[c]? = some ⟨0, -1, 0, n⟩ := by
  induction F generalizing t with
  | nil => cases hc
  | cons d F ih =>
    obtain ⟨h1, n, h2, h3⟩ := h
    rcases List.mem_cons.1 hc with rfl | hc
    · exact ⟨n, h2⟩
    · exact ih h3 hc
/-- The cells of a row among those that are taken: each with its place, its row, its value, as they came. -/
def rowOf (M : List (Nat × Nat × Int)) (r : Nat) : List (Nat × Int) := (M.filter fun x => x.2.1 == r).map fun x => (x.1, x.2.2)
theorem rowOf_append (M N : List (Nat × Nat × Int)) (r : Nat) : rowOf (M ++ N) r = rowOf M r ++ rowOf N r := by simp [rowOf]
theorem rowOf_one (c r j : Nat) (v : Int) : rowOf [(c, r, v)] j = if r = j then [(c, v)] else [] := by
  by_cases h : r = j
  · subst h; simp [rowOf]
  · simp [rowOf, h]
theorem mem_rowOf {M : List (Nat × Nat × Int)} {r : Nat} {y : Nat × Int} : y ∈ rowOf M r ↔ (y.1, r, y.2) ∈ M := by
  unfold rowOf
  simp only [List.mem_map, List.mem_filter, beq_iff_eq]
  constructor
  · rintro ⟨⟨a, b, c⟩, ⟨h, rfl⟩, rfl⟩; exact h
  · intro h; exact ⟨(y.1, r, y.2), ⟨h, rfl⟩, rfl⟩
theorem rowOf_places (M : List (Nat × Nat × Int)) (r : Nat) : ((rowOf M r).map (·.1)).Sublist (M.map (·.1)) := by
  unfold rowOf
  rw [List.map_map]
  exact (List.filter_sublist (l := M)).map _
/-- What an arena stands for: the cells that are taken, as they came, and those that are free, the last one first. -/
structure Inv (rows cells : Nat) (M : List (Nat × Nat × Int)) (F : List Nat) (s : Aren) : Prop where
  lenR : s.rs.length = rows
  row : ∀ r, r < rows → RowOk s.rs s.cs r (rowOf M r)
  fr : FSeg s.cs s.top F
  nodup : (M.map (·.1) ++ F).Nodup
  cover : ∀ c, c < s.cs.length ↔ c ∈ M.map (·.1) ++ F
  count : M.length + F.length = s.cs.length
  inrow : ∀ x ∈ M, x.2.1 < rows
  most : s.cs.length ≤ cells
  free : s.free = (cells : Int) - M.length
def fresh (rows cells : Nat) : Aren := ⟨List.replicate rows ⟨-1, -1, 0⟩, [], -1, cells⟩
theorem inv_fresh (rows cells : Nat) : Inv rows cells [] [] (fresh rows cells) :=
  ⟨by simp [fresh], fun r hr => ⟨by simp [fresh, hr, rowOf, hd, lst], trivial⟩, rfl, by simp, fun c => by simp [fresh], rfl, (fun x hx => by cases hx), Nat.zero_le _, by simp [fresh]⟩
/-- A cell that is taken and in no row yet is put at a row's end. -/
theorem put_inv {rows cells : Nat} {M : List (Nat × Nat × Int)} {F : List Nat} {s : Aren} {c row : Nat} (v : Int) (hrow : row < rows) (lenR : s.rs.length = rows) (hr : ∀ r, r < rows → RowOk s.rs s.cs r (rowOf M r)) (fr : FSeg s.cs s.top F)
    (nodup : (M.map (·.1) ++ F).Nodup) (hc : c ∉ M.map (·.1) ++ F) (cover : ∀ x, x < s.cs.length ↔ x = c ∨ x ∈ M.map (·.1) ++ F) (count : M.length + F.length + 1 = s.cs.length) (inrow : ∀ x ∈ M, x.2.1 < rows)
    (most : s.cs.length ≤ cells) (free : s.free = (cells : Int) - M.length - 1) : Inv rows cells (M ++ [(c, row, v)]) F (put s c row v) := by
  have hcl : c < s.cs.length := (cover c).2 (.inl rfl)
  obtain ⟨h1, h2⟩ := hr row hrow
  have hcM : c ∉ M.map (·.1) := fun h => hc (List.mem_append_left _ h)
  have hcF : c ∉ F := fun h => hc (List.mem_append_right _ h)
  have hcL : c ∉ (rowOf M row).map (·.1) := fun h => hcM ((rowOf_places M row).subset h)
  have hnL : ((rowOf M row).map (·.1)).Nodup := (List.nodup_append.1 nodup).1.sublist (rowOf_places M row)
  have e0 : (s.atCell c fun _ => ⟨v, row, 0, 0⟩).cs[c]? = some ⟨v, row, 0, 0⟩ := mod_at (List.getElem?_eq_getElem hcl)
  have m0 : Same s (s.atCell c fun _ => ⟨v, row, 0, 0⟩) row (· = c) := same_cell ..
  have hz : zOf s row = lst (-1) (rowOf M row) := by unfold zOf; rw [h1]
  unfold put
  rw [hz]
  generalize hs1 : (s.atCell c fun _ => (⟨v, row, 0, 0⟩ : Lnk)) = s1 at *
  have h3 : s1.rs[row]? = some ⟨hd (rowOf M row) (-1), lst (-1) (rowOf M row), (rowOf M row).length⟩ := by rw [← hs1]; exact h1
  have h4 : Seg s1.cs row (-1) (rowOf M row) (-1) := seg_frame h2 (fun y hy => m0.cells _ (by rintro rfl; exact hcL (List.mem_map.2 ⟨y, hy, rfl⟩)))
  -- the first join
  obtain ⟨a1, a2, a3⟩ := join1_ok (c : Int) h3 (fun hne => by
    show hd (rowOf M row) (-1) = _
    revert hne
    cases rowOf M row with
    | nil => intro h; exact absurd rfl h
    | cons x L => intro _; rfl) h4 hnL
  obtain ⟨b1, b2, b3⟩ := join2_ok (s := join1 s1 row (lst (-1) (rowOf M row)) c) (B := [(c, v)]) (p := 0) (n := 0) (lst (-1) (rowOf M row)) a1 ⟨by rw [a3.cells c hcL]; exact e0, trivial⟩ (by simp)
  rw [show hd [(c, v)] (-1) = (c : Int) from rfl, if_neg (by simp)] at *
  have j1 : join2 (join1 s1 row (lst (-1) (rowOf M row)) c) row (lst (-1) (rowOf M row)) c = join s1 row (lst (-1) (rowOf M row)) c := rfl
  rw [j1] at b1 b2 b3
  have a2' : Seg (join s1 row (lst (-1) (rowOf M row)) c).cs row (-1) (rowOf M row) c := seg_frame a2 (fun y hy => b3.cells _ (by
    simp only [List.map_cons, List.map_nil, List.mem_singleton]
    rintro e
    exact hcL (List.mem_map.2 ⟨y, hy, e⟩)))
  have ab : Seg (join s1 row (lst (-1) (rowOf M row)) c).cs row (-1) (rowOf M row ++ [(c, v)]) 0 := seg_append.2 ⟨a2', b2⟩
  generalize hs2 : join s1 row (lst (-1) (rowOf M row)) c = s2 at *
  have hnL2 : ((rowOf M row ++ [(c, v)]).map (·.1)).Nodup := by
    rw [List.map_append, List.nodup_append]
    exact ⟨hnL, by simp, fun a ha b hb => by
      simp only [List.map_cons, List.map_nil, List.mem_singleton] at hb
      rw [hb]; rintro rfl; exact hcL ha⟩
  obtain ⟨c1, c2, c3⟩ := join1_ok (-1) b1 (fun _ => by rw [hd_append]; rfl) ab hnL2
  rw [lst_snoc] at c1 c2 c3
  obtain ⟨d1, d2, d3⟩ := join2_ok (s := join1 s2 row c (-1)) (B := []) (p := 0) (n := 0) (c : Int) c1 trivial (by simp)
  rw [show hd [] (-1) = -1 from rfl, if_pos rfl] at *
  have j2 : join2 (join1 s2 row c (-1)) row c (-1) = join s2 row c (-1) := rfl
  rw [j2] at d1 d2 d3
  have c2' : Seg (join s2 row c (-1)).cs row (-1) (rowOf M row ++ [(c, v)]) (-1) := seg_frame c2 (fun y hy => d3.cells _ (by simp))
  generalize hs3 : join s2 row c (-1) = s3 at *
  -- all of it
  have mm : Same s s3 row (fun i => i = c ∨ i ∈ (rowOf M row).map (·.1)) := by
    refine (((m0.trans a3 (Z := fun i => i = c ∨ i ∈ (rowOf M row).map (·.1)) (fun i h => .inl h) (fun i h => .inr h)).trans b3 (fun _ h => h) (fun i h => .inl (by simpa using h))).trans c3 (fun _ h => h) (fun i h => ?_)).trans d3 (fun _ h => h) (fun i h => absurd h (by simp))
    rw [List.map_append, List.mem_append] at h
    rcases h with h | h
    · exact .inr h
    · exact .inl (by simpa using h)
  have mf : Same s (s3.atRow row (addK 1)) row (fun i => i = c ∨ i ∈ (rowOf M row).map (·.1)) := mm.trans (same_row s3 row _ (fun _ => False)) (fun _ h => h) (fun _ h => h.elim)
  refine ⟨mf.lenR.trans lenR, fun r hrr => ?_, ?_, ?_, fun x => ?_, ?_, ?_, by rw [mf.lenC]; exact most, ?_⟩
  · rw [rowOf_append, rowOf_one]
    by_cases hjr : row = r
    · subst hjr
      rw [if_pos rfl]
      refine ⟨?_, c2'⟩
      show (s3.rs.modify row (addK 1))[row]? = _
      rw [mod_at d1, lst_snoc]
      simp [addK]
    · rw [if_neg hjr, List.append_nil]
      obtain ⟨g1, g2⟩ := hr r hrr
      refine ⟨by rw [mf.rows r (Ne.symm hjr)]; exact g1, seg_frame g2 (fun y hy => mf.cells _ ?_)⟩
      have hyM := mem_rowOf.1 hy
      rintro (h | h)
      · exact hcM (List.mem_map.2 ⟨_, hyM, h⟩)
      · obtain ⟨z, hz1, hz2⟩ := List.mem_map.1 h
        have hzM := mem_rowOf.1 hz1
        -- two of one place
        have := List.pairwise_map.1 (List.nodup_append.1 nodup).1
        obtain ⟨i, hi, ei⟩ := List.mem_iff_getElem.1 hyM
        obtain ⟨k, hk, ek⟩ := List.mem_iff_getElem.1 hzM
        have hp := List.pairwise_iff_getElem.1 this
        rcases Nat.lt_trichotomy i k with hik | hik | hik
        · have := hp i k hi hk hik; rw [ei, ek] at this; exact this hz2.symm
        · subst hik; rw [ei] at ek; injection ek with _ ek; injection ek with ek _; exact hjr ek.symm
        · have := hp k i hk hi hik; rw [ei, ek] at this; exact this hz2
  · rw [mf.top]
    refine fseg_frame fr (fun x hx => mf.cells _ ?_)
    rintro (h | h)
    · exact hcF (h ▸ hx)
    · exact (List.nodup_append.1 nodup).2.2 _ ((rowOf_places M row).subset h) _ hx rfl
  · rw [List.map_append, List.append_assoc]
    have := (List.nodup_append.1 nodup)
    rw [List.nodup_append]
    refine ⟨this.1, ?_, fun a ha b hb => ?_⟩
    · simp only [List.map_cons, List.map_nil, List.singleton_append, List.nodup_cons]
      exact ⟨hcF, this.2.1⟩
    · simp only [List.map_cons, List.map_nil, List.singleton_append, List.mem_cons] at hb
      rcases hb with rfl | hb
      · rintro rfl; exact hcM ha
      · exact this.2.2 a ha b hb
  · rw [mf.lenC, cover]
    simp only [List.map_append, List.map_cons, List.map_nil, List.mem_append, List.mem_singleton]
    constructor
    · rintro (h | h | h)
      · exact .inl (.inr h)
      · exact .inl (.inl h)
      · exact .inr h
    · rintro ((h | h) | h)
      · exact .inr (.inl h)
      · exact .inl h
      · exact .inr (.inr h)
  · rw [mf.lenC, ← count]; simp; omega
  · intro x hx
    rcases List.mem_append.1 hx with h | h
    · exact inrow x h
    · rw [List.mem_singleton.1 h]; exact hrow
  · rw [mf.free, free]; simp; omega
theorem push_new {rows cells : Nat} {M : List (Nat × Nat × Int)} {s : Aren} (h : Inv rows cells M [] s) {row : Nat} (hrow : row < rows) (hm : M.length < cells) (v : Int) :
    Inv rows cells (M ++ [(s.cs.length, row, v)]) [] (put (takeNew s) s.cs.length row v) := by
  have hc := h.count
  have hold : ∀ c, c < s.cs.length → (takeNew s).cs[c]? = s.cs[c]? := fun c hc => List.getElem?_append_left hc
  refine put_inv v hrow h.lenR (fun r hr => ?_) ?_ h.nodup ?_ (fun x => ?_) ?_ h.inrow ?_ ?_
  · obtain ⟨g1, g2⟩ := h.row r hr
    exact ⟨g1, seg_frame g2 (fun y hy => hold _ ((h.cover _).2 (List.mem_append_left _ (List.mem_map.2 ⟨_, mem_rowOf.1 hy, rfl⟩))))⟩
  · exact fseg_frame h.fr (fun c hc => by cases hc)
  · intro hx
    have := (h.cover _).2 hx
    omega
  · have h1 := h.cover x
    simp only [takeNew, List.length_append, List.length_cons, List.length_nil]
    constructor
    · intro hx
      by_cases e : x = s.cs.length
      · exact .inl e
      · exact .inr (h1.1 (by omega))
    · rintro (rfl | hx)
      · omega
      · have := h1.2 hx; omega
  · simp [takeNew]; simpa using hc
  · simp [takeNew]; simp at hc; omega
  · simp [takeNew, h.free]
theorem push_old {rows cells : Nat} {M : List (Nat × Nat × Int)} {c : Nat} {F : List Nat} {s : Aren} (h : Inv rows cells M (c :: F) s) {row : Nat} (hrow : row < rows) (v : Int) :
    s.top = (c : Int) ∧ M.length < cells ∧ ∃ n, s.cs[c]? = some ⟨0, -1, 0, n⟩ ∧ Inv rows cells (M ++ [(c, row, v)]) F (put (takeOld s n) c row v) := by
  obtain ⟨ht, n, hn, hf⟩ := h.fr
  have hc := h.count
  have hm := h.most
  rw [List.length_cons] at hc
  have hnd := List.nodup_append.1 h.nodup
  refine ⟨ht, by omega, n, hn, put_inv v hrow h.lenR h.row hf ?_ ?_ (fun x => ?_) (by show _ = s.cs.length; omega) h.inrow h.most (by simp [takeOld, h.free])⟩
  · exact List.nodup_append.2 ⟨hnd.1, (List.nodup_cons.1 hnd.2.1).2, fun a ha b hb => hnd.2.2 a ha b (List.mem_cons_of_mem _ hb)⟩
  · intro hx
    rcases List.mem_append.1 hx with hx | hx
    · exact hnd.2.2 c hx c (List.mem_cons_self ..) rfl
    · exact (List.nodup_cons.1 hnd.2.1).1 hx
  · show x < s.cs.length ↔ _
    rw [h.cover x]
    simp only [List.mem_append, List.mem_cons]
    constructor
    · rintro (h | h | h)
      · exact .inr (.inl h)
      · exact .inl h
      · exact .inr (.inr h)
    · rintro (h | h | h)
      · exact .inr (.inl h)
      · exact .inl h
      · exact .inr (.inr h)
/-- A cell is taken out. -/
theorem out_inv {rows cells : Nat} {M1 M2 : List (Nat × Nat × Int)} {c row : Nat} {v : Int} {F : List Nat} {s : Aren} (h : Inv rows cells (M1 ++ (c, row, v) :: M2) F s) :
    row < rows ∧ ∃ l, s.cs[c]? = some l ∧ l.v = v ∧ l.r = row ∧ l.p = lst (-1) (rowOf M1 row) ∧ l.n = hd (rowOf M2 row) (-1) ∧ Inv rows cells (M1 ++ M2) (c :: F) (out s c row l) := by
  have hrow : row < rows := h.inrow (c, row, v) (by simp)
  refine ⟨hrow, ?_⟩
  have hnd := List.nodup_append.1 h.nodup
  have hL : rowOf (M1 ++ (c, row, v) :: M2) row = rowOf M1 row ++ (c, v) :: rowOf M2 row := by
    rw [rowOf_append, ← List.singleton_append, rowOf_append, rowOf_one, if_pos rfl]; rfl
  obtain ⟨h1, h2⟩ := h.row row hrow
  have hnL : ((rowOf M1 row ++ (c, v) :: rowOf M2 row).map (·.1)).Nodup := by
    rw [← hL]; exact hnd.1.sublist (rowOf_places _ row)
  rw [hL] at h1 h2
  rw [List.map_append, List.map_cons, List.nodup_append, List.nodup_cons] at hnL
  obtain ⟨n1, ⟨n2, n3⟩, n4⟩ := hnL
  obtain ⟨g1, g2, g3⟩ := seg_append.1 h2
  have hcA : c ∉ (rowOf M1 row).map (·.1) := fun hx => n4 c hx c (List.mem_cons_self ..) rfl
  refine ⟨_, g2, rfl, rfl, rfl, rfl, ?_⟩
  unfold out
  dsimp only
  obtain ⟨a1, a2, a3⟩ := join1_ok (s := s) (hd (rowOf M2 row) (-1)) h1 (fun hne => by
    show hd (rowOf M1 row ++ _) (-1) = _
    revert hne
    cases rowOf M1 row with
    | nil => intro h; exact absurd rfl h
    | cons x L => intro _; rfl) g1 n1
  obtain ⟨b1, b2, b3⟩ := join2_ok (s := join1 s row (lst (-1) (rowOf M1 row)) (hd (rowOf M2 row) (-1))) (B := rowOf M2 row) (p := c) (n := -1) (lst (-1) (rowOf M1 row)) a1 (seg_frame g3 (fun y hy => a3.cells _ (fun hx => n4 _ hx _ (List.mem_cons_of_mem _ (List.mem_map.2 ⟨y, hy, rfl⟩)) rfl))) n3
  have j1 : join2 (join1 s row (lst (-1) (rowOf M1 row)) (hd (rowOf M2 row) (-1))) row (lst (-1) (rowOf M1 row)) (hd (rowOf M2 row) (-1)) = join s row (lst (-1) (rowOf M1 row)) (hd (rowOf M2 row) (-1)) := rfl
  rw [j1] at b1 b2 b3
  have a2' : Seg (join s row (lst (-1) (rowOf M1 row)) (hd (rowOf M2 row) (-1))).cs row (-1) (rowOf M1 row) (hd (rowOf M2 row) (-1)) := seg_frame a2 (fun y hy => b3.cells _ (fun hx => n4 _ (List.mem_map.2 ⟨y, hy, rfl⟩) _ (List.mem_cons_of_mem _ hx) rfl))
  have ab : Seg (join s row (lst (-1) (rowOf M1 row)) (hd (rowOf M2 row) (-1))).cs row (-1) (rowOf M1 row ++ rowOf M2 row) (-1) := seg_append.2 ⟨a2', b2⟩
  have mm : Same s (join s row (lst (-1) (rowOf M1 row)) (hd (rowOf M2 row) (-1))) row (fun i => i ∈ (rowOf M1 row).map (·.1) ∨ i ∈ (rowOf M2 row).map (·.1)) := a3.trans b3 (fun _ h => .inl h) (fun _ h => .inr h)
  generalize hs2 : join s row (lst (-1) (rowOf M1 row)) (hd (rowOf M2 row) (-1)) = s2 at *
  have mk : Same s (s2.atRow row (addK (-1))) row (fun i => i ∈ (rowOf M1 row).map (·.1) ∨ i ∈ (rowOf M2 row).map (·.1)) := mm.trans (same_row s2 row _ (fun _ => False)) (fun _ h => h) (fun _ h => h.elim)
  have k1 : (s2.atRow row (addK (-1))).rs[row]? = some ⟨hd (rowOf M1 row ++ rowOf M2 row) (-1), lst (-1) (rowOf M1 row ++ rowOf M2 row), ((rowOf M1 row ++ rowOf M2 row).length : Nat)⟩ := by
    show (s2.rs.modify row (addK (-1)))[row]? = _
    rw [mod_at b1]
    refine congrArg some (end_ext ?_ ?_ ?_)
    · show hd (rowOf M1 row) (hd (rowOf M2 row) (-1)) = _
      rw [hd_append]
    · show (if rowOf M2 row = [] then lst (-1) (rowOf M1 row) else lst (-1) (rowOf M1 row ++ (c, v) :: rowOf M2 row)) = _
      rw [lst_append, lst_append]
      cases hB : rowOf M2 row with
      | nil => rw [if_pos rfl]; rfl
      | cons x L => rw [if_neg (by simp)]; rfl
    · show (((rowOf M1 row ++ (c, v) :: rowOf M2 row).length : Nat) : Int) + -1 = _
      simp; omega
  have k2 : Seg (s2.atRow row (addK (-1))).cs row (-1) (rowOf M1 row ++ rowOf M2 row) (-1) := ab
  generalize hs3 : s2.atRow row (addK (-1)) = s3 at *
  have hcl : c < s3.cs.length := by rw [mk.lenC]; exact (h.cover c).2 (by simp)
  have hgo : ∀ x, x ≠ c → (give s3 c).cs[x]? = s3.cs[x]? := fun x hx => mod_off hx
  have hgc : (give s3 c).cs[c]? = some ⟨0, -1, 0, s3.top⟩ := mod_at (List.getElem?_eq_getElem hcl)
  rw [List.map_append, List.map_cons] at hnd
  obtain ⟨⟨p1, p2, p3⟩, q1, q2⟩ := And.intro (List.nodup_append.1 hnd.1) hnd.2
  rw [List.nodup_cons] at p2
  have hc1 : c ∉ M1.map (·.1) := fun hx => p3 c hx c (List.mem_cons_self ..) rfl
  have hcF : c ∉ F := fun hx => q2 c (by simp) c hx rfl
  refine ⟨?_, fun r hr => ?_, ?_, ?_, fun x => ?_, ?_, ?_, ?_, ?_⟩
  · show s3.rs.length = _
    rw [mk.lenR]; exact h.lenR
  · rw [rowOf_append]
    by_cases hjr : row = r
    · subst hjr
      exact ⟨k1, seg_frame k2 (fun y hy => hgo _ (by
        rintro rfl
        rcases List.mem_append.1 hy with hy | hy
        · exact hcA (List.mem_map.2 ⟨y, hy, rfl⟩)
        · exact n2 (List.mem_map.2 ⟨y, hy, rfl⟩)))⟩
    · have hr2 := h.row r hr
      rw [rowOf_append, ← List.singleton_append, rowOf_append, rowOf_one, if_neg hjr, List.nil_append, ← rowOf_append] at hr2
      rw [← rowOf_append]
      obtain ⟨f1, f2⟩ := hr2
      refine ⟨by show s3.rs[r]? = _; rw [mk.rows r (Ne.symm hjr)]; exact f1, seg_frame f2 (fun y hy => ?_)⟩
      have hyM := mem_rowOf.1 hy
      have hyc : y.1 ≠ c := by
        intro e
        rcases List.mem_append.1 hyM with hy' | hy'
        · exact hc1 (List.mem_map.2 ⟨_, hy', e⟩)
        · exact p2.1 (List.mem_map.2 ⟨_, hy', e⟩)
      rw [hgo _ hyc]
      refine mk.cells _ ?_
      have one : ∀ (a : Nat × Nat × Int), a ∈ M1 ++ M2 → a.2.1 = row → a.1 ≠ y.1 := by
        intro a ha har hay
        have hpw : (M1 ++ M2).Pairwise fun x y => x.1 ≠ y.1 := by
          have : ((M1 ++ M2).map (·.1)).Nodup := by
            rw [List.map_append]
            exact List.nodup_append.2 ⟨p1, p2.2, fun a ha b hb => p3 a ha b (List.mem_cons_of_mem _ hb)⟩
          exact List.pairwise_map.1 this
        obtain ⟨i, hi, ei⟩ := List.mem_iff_getElem.1 hyM
        obtain ⟨k, hk, ek⟩ := List.mem_iff_getElem.1 ha
        have hp := List.pairwise_iff_getElem.1 hpw
        rcases Nat.lt_trichotomy i k with hik | hik | hik
        · have := hp i k hi hk hik; rw [ei, ek] at this; exact this hay.symm
        · subst hik; rw [ei] at ek; rw [← ek] at har; exact hjr har.symm
        · have := hp k i hk hi hik; rw [ei, ek] at this; exact this hay
      rintro (hx | hx)
      · obtain ⟨z, hz1, hz2⟩ := List.mem_map.1 hx
        exact one (z.1, row, z.2) (List.mem_append_left _ (mem_rowOf.1 hz1)) rfl hz2
      · obtain ⟨z, hz1, hz2⟩ := List.mem_map.1 hx
        exact one (z.1, row, z.2) (List.mem_append_right _ (mem_rowOf.1 hz1)) rfl hz2
  · refine ⟨rfl, s3.top, hgc, ?_⟩
    rw [mk.top]
    refine fseg_frame h.fr (fun x hx => ?_)
    rw [hgo x (by rintro rfl; exact hcF hx)]
    refine mk.cells _ ?_
    rintro (hy | hy)
    · obtain ⟨z, hz1, hz2⟩ := List.mem_map.1 ((rowOf_places M1 row).subset hy)
      exact q2 x (List.mem_append_left _ (List.mem_map.2 ⟨z, hz1, hz2⟩)) x hx rfl
    · obtain ⟨z, hz1, hz2⟩ := List.mem_map.1 ((rowOf_places M2 row).subset hy)
      exact q2 x (List.mem_append_right _ (List.mem_cons_of_mem _ (List.mem_map.2 ⟨z, hz1, hz2⟩))) x hx rfl
  · rw [List.map_append, List.nodup_append]
    refine ⟨List.nodup_append.2 ⟨p1, p2.2, fun a ha b hb => p3 a ha b (List.mem_cons_of_mem _ hb)⟩, List.nodup_cons.2 ⟨hcF, q1⟩, fun a ha b hb => ?_⟩
    rcases List.mem_cons.1 hb with rfl | hb
    · rintro rfl
      rcases List.mem_append.1 ha with ha | ha
      · exact hc1 ha
      · exact p2.1 ha
    · refine q2 a ?_ b hb
      rcases List.mem_append.1 ha with ha | ha
      · exact List.mem_append_left _ ha
      · exact List.mem_append_right _ (List.mem_cons_of_mem _ ha)
  · show x < (s3.cs.modify c _).length ↔ _
    rw [List.length_modify, mk.lenC, h.cover x]
    simp only [List.map_append, List.map_cons, List.mem_append, List.mem_cons]
    constructor
    · rintro ((h | h | h) | h)
      · exact .inl (.inl h)
      · exact .inr (.inl h)
      · exact .inl (.inr h)
      · exact .inr (.inr h)
    · rintro ((h | h) | h | h)
      · exact .inl (.inl h)
      · exact .inl (.inr (.inr h))
      · exact .inl (.inr (.inl h))
      · exact .inr h
  · show _ = (s3.cs.modify c _).length
    rw [List.length_modify, mk.lenC, ← h.count]
    simp; omega
  · intro x hx
    refine h.inrow x ?_
    rcases List.mem_append.1 hx with hx | hx
    · exact List.mem_append_left _ hx
    · exact List.mem_append_right _ (List.mem_cons_of_mem _ hx)
  · show (s3.cs.modify c _).length ≤ _
    rw [List.length_modify, mk.lenC]; exact h.most
  · show s3.free + 1 = _
    rw [mk.free, h.free]; simp; omega
/-- What is taken, and what is not. -/
theorem Inv.taken {rows cells : Nat} {M : List (Nat × Nat × Int)} {F : List Nat} {s : Aren} (h : Inv rows cells M F s) {x : Nat × Nat × Int} (hx : x ∈ M) : ∃ p n, s.cs[x.1]? = some ⟨x.2.2, x.2.1, p, n⟩ := by
  obtain ⟨_, h2⟩ := h.row x.2.1 (h.inrow x hx)
  exact seg_at h2 (x := (x.1, x.2.2)) (mem_rowOf.2 hx)
theorem Inv.untaken {rows cells : Nat} {M : List (Nat × Nat × Int)} {F : List Nat} {s : Aren} (h : Inv rows cells M F s) {c : Nat} (hc : c < s.cs.length) (hx : c ∉ M.map (·.1)) : ∃ l, s.cs[c]? = some l ∧ l.r = -1 := by
  rcases List.mem_append.1 ((h.cover c).1 hc) with h' | h'
  · exact absurd h' hx
  · obtain ⟨n, hn⟩ := fseg_at h.fr h'
    exact ⟨_, hn, rfl⟩
end Go.FifMath

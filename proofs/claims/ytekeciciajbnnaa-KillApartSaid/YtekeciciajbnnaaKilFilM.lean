/- Fill: what is known while a maker's row is turned. -/
import Derived.Test.YtekeciciajbnnaaKilCnt
set_option linter.unusedSimpArgs false
namespace Go.Proofs.Ytekeciciajbnnaa
open Go.RowKit Go.Mem1 Go.MapRow Go.KilMath

/-- Fill's state: all but maker k's row in order; Fill's own copy of the row in a box; its times known. -/
structure FilJ (w : World) (B g : Nat) (f win : Int) (m1 m2 : Option Nat) (L : RL) (O : OL) (T : Int → List Int) (k : Int) (rb : Nat) (vb : Value) (lb : Int) (v : Value) (ts : List Int) (w' : World) : Prop where
  sw : SwAt w' B g f win m1 m2 L O T (fun j => j ≠ k)
  box : Box w' rb 40 #[vb, .int .i64 lb]
  times : Times w' B v ts
  free : Free1 L k v
  kp : Kp B w w'
  high : w.heap.size ≤ rb
  base : B ≤ w.heap.size
section
variable {w w' w'' : World} {B g : Nat} {f win : Int} {m1 m2 : Option Nat} {L : RL} {O : OL} {T : Int → List Int} {k : Int} {rb : Nat} {vb v : Value} {lb : Int} {ts : List Int}
theorem FilJ.carry (h : FilJ w B g f win m1 m2 L O T k rb vb lb v ts w') (hb : Below w'.heap.size w' w'') : FilJ w B g f win m1 m2 L O T k rb vb lb v ts w'' :=
  ⟨h.sw.carry hb, h.box.kept_below hb h.box.there, own_keep h.times hb, h.free, h.kp.trans (kp_below (Nat.le_of_lt h.sw.base) hb), h.high, h.base⟩
/-- Of the row's own block alone something has turned. -/
theorem FilJ.turned (h : FilJ w B g f win m1 m2 L O T k rb vb lb v ts w') (hc : Chg (fun j => v.ownBlock = some j) w' w'') {v' : Value} {ts' : List Int} (ht : Times w'' B v' ts') (hv : v'.ownBlock = v.ownBlock ∨ v'.ownBlock = some w'.heap.size) : FilJ w B g f win m1 m2 L O T k rb vb lb v' ts' w'' := by
  refine ⟨h.sw.kept hc ?_, h.box.kept hc (h.box.off_row h.times (by decide)), ht, ?_, h.kp.trans (kp_times (Nat.le_of_lt h.sw.base) h.times hc), h.high, h.base⟩
  · intro j hj e
    have ho := h.sw.off_times h.times e
    rcases hj with rfl | hj | hj | ⟨k', v2, l2, hd, hk, hj⟩
    · exact ho.1 rfl
    · exact ho.2.1 hj
    · exact ho.2.2 hj
    · exact h.free k' v2 l2 j hd hk hj e
  · intro k' v2 l2 j hne hk hj e
    rcases hv with hv | hv
    · rw [hv] at e
      exact h.free k' v2 l2 j hne hk hj e
    · rw [hv] at e
      injection e with e
      have := (World.ownsRow.lt (h.sw.own k' v2 l2 hne hk).1 j hj).2
      omega
/-- Fill's own box written. -/
theorem FilJ.wrote (h : FilJ w B g f win m1 m2 L O T k rb vb lb v ts w') (i : Nat) (u : Value) {vb' : Value} {lb' : Int} (he : (#[vb, .int .i64 lb] : Array Value).setIfInBounds i u = #[vb', .int .i64 lb']) : FilJ w B g f win m1 m2 L O T k rb vb' lb' v ts (w'.setCell ⟨rb, i, none⟩ u) := by
  have hc : Chg (fun j => j = rb) w' (w'.setCell ⟨rb, i, none⟩ u) := Chg.setCell (S := fun j => j = rb) (Chg.refl _ _) (p := ⟨rb, i, none⟩) (fun _ => rfl) _
  have hx := h.box.wrote i u
  rw [he] at hx
  refine ⟨h.sw.kept hc (fun j hj e => h.sw.off h.box (by decide) (by decide) (e ▸ hj)), hx, times_chg h.times hc (fun j hj e => h.box.off_row h.times (by decide) (e ▸ hj)), h.free, ⟨?_, fun b t cs hb h1 h2 => ?_⟩, h.high, h.base⟩
  · have h1 := h.high
    have h2 := h.base
    exact Chg.toBelow h.kp.below hc (Nat.le_of_lt h.sw.base) (fun i hi e => by omega)
  · have h3 := h.kp.boxes b t cs hb h1 h2
    have h4 := hb.there
    have h5 := h.high
    exact h3.kept hc (by omega)
/-- The start. -/
theorem fil_start (h : SwAt w B g f win m1 m2 L O T (fun _ => True)) {A : Option Addr} {n c : Nat} {now l : Int} (hr : RowOf w B L k (T k) A n c now) {w2 : World} (hb : Below w.heap.size w w2) :
    FilJ w B g f win m1 m2 L O T k w2.heap.size (.slice A n c) l (.slice A n c) (T k) (w2.alloc (.cells #[.slice A n c, .int .i64 l] 40)) := by
  have hb' := bel_alloc hb (.cells #[.slice A n c, .int .i64 l] 40)
  exact ⟨(h.carry hb').fewer (fun _ _ => trivial), Box.fresh _ _ _ rfl, own_keep hr.2.1 hb', hr.2.2.2.2.2, kp_below (Nat.le_of_lt h.base) hb', hb.size, Nat.le_of_lt h.base⟩
/-- past, in that state. -/
theorem FilJ.past {now : Int} (h : FilJ w B g f win m1 m2 L O T k rb vb lb v ts w') (hg : Tms ts now) (h1 : now ≤ 1099511627776) (l : Int) :
    Calls Try.prog 14 #[.pointer (some ⟨g, 0, none⟩), .agg #[v, .int .i64 l], .int .i64 now] w' fun e w2 => e = .returned (.int .i64 (pastN ts now win)) ∧ FilJ w B g f win m1 m2 L O T k rb vb lb v ts w2 ∧ Below w'.heap.size w' w2 :=
  (past_any h.sw h.times hg h1).mono fun _ _ ⟨h2, h3⟩ => ⟨h2, h.carry h3, h3⟩
theorem FilJ.delete (h : FilJ w B g f win m1 m2 L O T k rb vb lb v ts w') {p : Nat} (hp : p ≤ ts.length) :
    Calls Try.prog 13 #[v, .int .i64 0, .int .i64 p] w' fun e w2 => ∃ A n c, e = .returned (.slice A n c) ∧ n = ts.length - p ∧ FilJ w B g f win m1 m2 L O T k rb vb lb (.slice A n c) (ts.drop p) w2 ∧ Chg (fun j => v.ownBlock = some j) w' w2 := by
  refine (delete_any h.times hp).mono ?_
  rintro e w2 ⟨v', rfl, h1, h2, h3⟩
  obtain ⟨A, c, e⟩ := own_slice (show w2.ownsRow B 2 1 v' (ts.drop p).length _ from h1)
  subst e
  exact ⟨A, _, c, rfl, by simp, h.turned h3 h1 (.inl h2), h3⟩
/-- The append, in that state. -/
theorem FilJ.append (h : FilJ w B g f win m1 m2 L O T k rb vb lb v ts w') {now : Int} {v7 : Value} {w7 : World} (ho : w7.ownsRow B 2 1 v7 (ts.length + 1) (ts.map idV ++ [.int .i64 now])) (hg : w'.grownBy w7 v.ownBlock) (hv : v7.ownBlock = v.ownBlock ∨ v7.ownBlock = some w'.heap.size) :
    FilJ w B g f win m1 m2 L O T k rb vb lb v7 (ts ++ [now]) w7 := by
  refine h.turned ((Chg.of_grown hg).mono (fun j _ e => e.symm)) ?_ hv
  unfold Times
  rw [List.length_append, List.map_append]
  exact ho
end
end Go.Proofs.Ytekeciciajbnnaa

/- A desk of sessions at some time of a law: what each call answers and leaves; blocks that are kept apart. -/
import Derived.Test.YtpkkhmbcbcaelaaDoorSesBook
set_option linter.unusedSimpArgs false
namespace Go.Proofs.YtpkkhmbcbcaelaaDoor
open Go.RowKit Go.Mem1 Go.SesMath

/-- The desk at some time of a law: of what was ahead of the law nothing has turned; the blocks K are not the desk's. -/
def SdJ (w0 : World) (B g : Nat) (T : Int) (D : Sk) (K : Nat → Prop) (w : World) : Prop := ∃ O, SdAt w B g T D O ∧ w0.heap.size ≤ B ∧ Below w0.heap.size w0 w ∧ ∀ j, K j → j < w.heap.size ∧ ¬ O j
section
variable {w0 w w' : World} {B g : Nat} {T : Int} {D : Sk} {K : Nat → Prop} {n : Int}
theorem SdJ.carry (h : SdJ w0 B g T D K w) (hb : Below w.heap.size w w') : SdJ w0 B g T D K w' := by
  obtain ⟨O, h1, h0, h2, h3⟩ := h
  exact ⟨O, h1.carry hb, h0, h2.trans (hb.mono h2.size), fun j hj => ⟨Nat.lt_of_lt_of_le (h3 j hj).1 hb.size, (h3 j hj).2⟩⟩
theorem SdJ.below (h : SdJ w0 B g T D K w) : Below w0.heap.size w0 w := by
  obtain ⟨O, h1, h0, h2, h3⟩ := h
  exact h2
/-- A block that is new is kept apart. -/
theorem SdJ.add (h : SdJ w0 B g T D K w) (hb : Below w.heap.size w w') {b : Nat} (h1 : w.heap.size ≤ b) (h2 : b < w'.heap.size) : SdJ w0 B g T D (fun j => K j ∨ j = b) w' := by
  obtain ⟨O, a, a0, a1, a2⟩ := h
  refine ⟨O, a.carry hb, a0, a1.trans (hb.mono a1.size), fun j hj => ?_⟩
  rcases hj with hj | rfl
  · exact ⟨Nat.lt_of_lt_of_le (a2 j hj).1 hb.size, (a2 j hj).2⟩
  · exact ⟨h2, fun e => by have := (a.own j e).2; omega⟩
theorem SdJ.less (h : SdJ w0 B g T D K w) {K' : Nat → Prop} (hK : ∀ j, K' j → K j) : SdJ w0 B g T D K' w := by
  obtain ⟨O, a, a0, a1, a2⟩ := h
  exact ⟨O, a, a0, a1, fun j hj => a2 j (hK j hj)⟩
/-- One's own block that is kept apart may be written. -/
theorem SdJ.wrote (h : SdJ w0 B g T D K w) {b : Nat} (hb : K b) (h0 : w0.heap.size ≤ b) (i : Nat) (u : Value) : SdJ w0 B g T D K (w.setCell ⟨b, i, none⟩ u) := by
  obtain ⟨O, a, a0, a1, a2⟩ := h
  have hc : Chg (fun j => j = b) w (w.setCell ⟨b, i, none⟩ u) := Chg.setCell (S := fun j => j = b) (Chg.refl _ _) (p := ⟨b, i, none⟩) (fun _ => rfl) _
  refine ⟨O, a.kept hc (fun j hj e => (a2 b hb).2 (e ▸ hj)), a0, Chg.toBelow a1 hc a1.size (fun i hi e => by omega), fun j hj => ⟨Nat.lt_of_lt_of_le (a2 j hj).1 hc.size, (a2 j hj).2⟩⟩
theorem SdJ.did {O : Nat → Prop} {D' : Sk} (h : SdAt w B g T D O) (h0 : w0.heap.size ≤ B) (hb : Below w0.heap.size w0 w) (hK : ∀ j, K j → j < w.heap.size ∧ ¬ O j) {O' : Nat → Prop} (h2 : SdAt w' B g T D' O') (hc : Chg O w w') (hO : ∀ j, O' j → O j ∨ w.heap.size ≤ j) : SdJ w0 B g T D' K w' ∧ Chg (fun j => ¬ K j) w w' :=
  ⟨⟨O', h2, h0, Chg.toBelow hb hc hb.size (fun i hi e => by have := (h.own i e).1; omega), fun j hj => ⟨Nat.lt_of_lt_of_le (hK j hj).1 hc.size, fun e => by
    rcases hO j e with h | h
    · exact (hK j hj).2 h
    · have := (hK j hj).1; omega⟩⟩, hc.mono (fun j _ hj hk => (hK j hk).2 hj)⟩
theorem sj_new {T : Int} (h0 : 1 ≤ T) (h1 : T ≤ 1000000) {w0 w : World} (hb : Below w0.heap.size w0 w) : Calls Tryd.prog 8 #[.int .i64 T] w fun e w' => ∃ B g, e = .returned (.tuple #[.pointer (some ⟨g, 0, none⟩), .int .i64 0]) ∧ SdJ w0 B g T newS (fun _ => False) w' :=
  (sd_new h0 h1 w).mono fun _ _ ⟨g, O, a, b, c⟩ => ⟨w.heap.size, g, a, O, b, hb.size, hb.trans (c.mono hb.size), fun _ h => h.elim⟩
theorem sj_in (h : SdJ w0 B g T D K w) (hm : Mild n D) (hn : n ≤ 1000) (s k q now : Int) (h0 : 0 ≤ now) (h1 : now ≤ 1099511627776) (he : inE D s k q = 0) :
    Calls Tryd.prog 9 #[.pointer (some ⟨g, 0, none⟩), .int .i64 s, bareV k q, .int .i64 now] w fun e w' => e = .returned .nilIface ∧ SdJ w0 B g T (inD D s k now) K w' ∧ Chg (fun j => ¬ K j) w w' := by
  obtain ⟨O, a, b, b2, b3⟩ := h
  exact (sd_in a hm hn s k q now h0 h1 he).mono fun _ _ ⟨c, O', d, f, k⟩ => ⟨c, SdJ.did a b b2 b3 d f k⟩
theorem sj_bad (h : SdJ w0 B g T D K w) (hm : Mild n D) (hn : n ≤ 1000) (s k q now : Int) {x : Nat} (he : inE D s k q = x) (hx : x ≠ 0) :
    Calls Tryd.prog 9 #[.pointer (some ⟨g, 0, none⟩), .int .i64 s, bareV k q, .int .i64 now] w fun e w' => ∃ b, e = .returned (errV b) ∧ w.heap.size ≤ b ∧ SdErr w' s x b ∧ SdJ w0 B g T D (fun j => K j ∨ j = b) w' ∧ Below w.heap.size w w' := by
  have h' := h
  obtain ⟨O, a, _⟩ := h
  exact (sd_in_bad a hm hn s k q now he hx).mono fun _ _ ⟨b, c, d, f, k⟩ => ⟨b, c, d, f, h'.add k d f.there, k⟩
theorem sj_out (h : SdJ w0 B g T D K w) (hm : Mild n D) (hn : n ≤ 1000) {s : Int} (hs : isS s = true) {x : Int} (hx : (D s).out + 1 = x) :
    Calls Tryd.prog 12 #[.pointer (some ⟨g, 0, none⟩), .int .i64 s] w fun e w' => e = .returned (.int .i64 x) ∧ SdJ w0 B g T (outD D s) K w' ∧ Chg (fun j => ¬ K j) w w' := by
  obtain ⟨O, a, b, b2, b3⟩ := h
  subst hx
  exact (sd_out a hm hn hs).mono fun _ _ ⟨c, O', d, f, k⟩ => ⟨c, SdJ.did a b b2 b3 d f k⟩
theorem sj_on (h : SdJ w0 B g T D K w) (hm : Mild n D) (hn : n ≤ 1000) (s : Int) {x : Bool} (hx : onD D s = x) : Calls Tryd.prog 15 #[.pointer (some ⟨g, 0, none⟩), .int .i64 s] w fun e w' => e = .returned (.bool x) ∧ SdJ w0 B g T D K w' ∧ Below w.heap.size w w' := by
  have h' := h
  obtain ⟨O, a, _⟩ := h
  subst hx
  exact (sd_on a hm hn s).mono fun _ _ ⟨c, k⟩ => ⟨c, h'.carry k, k⟩
theorem sj_next (h : SdJ w0 B g T D K w) (hm : Mild n D) (hn : n ≤ 1000) (s : Int) {x : Int} (hx : nextD D s = x) : Calls Tryd.prog 16 #[.pointer (some ⟨g, 0, none⟩), .int .i64 s] w fun e w' => e = .returned (.int .i64 x) ∧ SdJ w0 B g T D K w' ∧ Below w.heap.size w w' := by
  have h' := h
  obtain ⟨O, a, _⟩ := h
  subst hx
  exact (sd_next a hm hn s).mono fun _ _ ⟨c, k⟩ => ⟨c, h'.carry k, k⟩
/-- A list of one session, of none. -/
theorem row_one {s : Int} {v : Value} (h : SdRow w [s] v w') : ∃ a c, v = .slice (some ⟨a, 0, none⟩) 1 c ∧ w'.cell? ⟨a, 0, none⟩ = some (.int .i64 s) ∧ a < w'.heap.size := by
  rcases own_form h with ⟨_, h1⟩ | ⟨a, c, rfl, _, h1, _⟩
  · cases h1
  · exact ⟨a, c, rfl, own_cell h rfl, h1⟩
theorem row_none {v : Value} (h : SdRow w [] v w') : ∃ A c, v = .slice A 0 c := own_slice h
theorem sj_late (h : SdJ w0 B g T D K w) (hm : Mild n D) (hn : n ≤ 1000) (now : Int) (h0 : 0 ≤ now) (h1 : now ≤ 1099511627776) {L : List Int} (hL : lateL D T now = L) :
    Calls Tryd.prog 14 #[.pointer (some ⟨g, 0, none⟩), .int .i64 now] w fun e w' => ∃ v, e = .returned v ∧ SdRow w L v w' ∧ SdJ w0 B g T (lateD D T now) K w' ∧ Chg (fun j => ¬ K j) w w' := by
  obtain ⟨O, a, b, b2, b3⟩ := h
  subst hL
  exact (sd_late a hm hn now h0 h1).mono fun _ _ ⟨v, c, r, O', d, f, k⟩ => ⟨v, c, r, SdJ.did a b b2 b3 d f k⟩
theorem sj_live (h : SdJ w0 B g T D K w) (hm : Mild n D) (hn : n ≤ 1000) {L : List Int} (hL : liveL D = L) :
    Calls Tryd.prog 17 #[.pointer (some ⟨g, 0, none⟩)] w fun e w' => ∃ v, e = .returned v ∧ SdRow w L v w' ∧ SdJ w0 B g T D K w' ∧ Below w.heap.size w w' := by
  have h' := h
  obtain ⟨O, a, _⟩ := h
  subst hL
  exact (sd_live a hm hn).mono fun _ _ ⟨v, c, r, k⟩ => ⟨v, c, r, h'.carry k, k⟩
end
end Go.Proofs.YtpkkhmbcbcaelaaDoor

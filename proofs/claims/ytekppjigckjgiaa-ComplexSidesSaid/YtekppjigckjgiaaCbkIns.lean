/- The reference's Insert. -/
import Derived.Test.YtekppjigckjgiaaCbkGet
import Derived.Test.YtekppjigckjgiaaAppS
import Derived.Deep.RegionLaw
import Derived.Deep.RegionHeld3
import Derived.BigQuiet
set_option linter.unusedSimpArgs false
namespace Go.Proofs.Ytekppjigckjgiaa
open Go.RowKit Go.Mem1 Go.CbkMath

/-- An order that lies in a block of its own. -/
def OrdAt (w : World) (b : Nat) (t : TypeId) (o : CO) : Prop := Box w b t #[.int .i64 o.id, .int .i64 o.ow, .int .i64 o.si, .int .i64 o.ne, .int .i64 o.un]
theorem OrdAt.cells {w : World} {b : Nat} {t : TypeId} {o : CO} (h : OrdAt w b t o) : w.cell? ⟨b, 0, Option.none⟩ = some (.int .i64 o.id) ∧ w.cell? ⟨b, 1, Option.none⟩ = some (.int .i64 o.ow) ∧ w.cell? ⟨b, 2, Option.none⟩ = some (.int .i64 o.si) ∧ w.cell? ⟨b, 3, Option.none⟩ = some (.int .i64 o.ne) ∧ w.cell? ⟨b, 4, Option.none⟩ = some (.int .i64 o.un) :=
  ⟨h.reads 0, h.reads 1, h.reads 2, h.reads 3, h.reads 4⟩
theorem OrdAt.ups {w : World} {b : Nat} {t : TypeId} {o : CO} (h : OrdAt w b t o) : (∀ x, (w.alloc x).cell? ⟨b, 0, Option.none⟩ = some (.int .i64 o.id)) ∧ (∀ x, (w.alloc x).cell? ⟨b, 1, Option.none⟩ = some (.int .i64 o.ow)) ∧ (∀ x, (w.alloc x).cell? ⟨b, 2, Option.none⟩ = some (.int .i64 o.si)) ∧ (∀ x, (w.alloc x).cell? ⟨b, 3, Option.none⟩ = some (.int .i64 o.ne)) ∧ ∀ x, (w.alloc x).cell? ⟨b, 4, Option.none⟩ = some (.int .i64 o.un) :=
  have h' : ∀ x, Box (w.alloc x) b t _ := fun x => Box.kept_below h (bel_new w x) (Box.there h)
  ⟨fun x => (h' x).reads 0, fun x => (h' x).reads 1, fun x => (h' x).reads 2, fun x => (h' x).reads 3, fun x => (h' x).reads 4⟩
theorem OrdAt.carry {w w' : World} {b : Nat} {t : TypeId} {o : CO} (h : OrdAt w b t o) (hb : Below w.heap.size w w') : OrdAt w' b t o := Box.kept_below h hb (Box.there h)
/-- The place that Get tells. -/
def placeG (D : Dk) (id : Int) : Int := match get2 D id with
  | Option.none => -1
  | some (k, _) => k
def orderG (D : Dk) (id : Int) : CO := match get2 D id with
  | Option.none => zeroC
  | some (_, o) => o
theorem getV_eq (D : Dk) (id : Int) : getV D id = .tuple #[coV (orderG D id), .int .i64 (placeG D id)] := by
  unfold getV orderG placeG
  cases get2 D id <;> rfl
theorem place_neg (D : Dk) (id : Int) : (0 ≤ placeG D id) ↔ (get2 D id).isSome = true := by
  unfold placeG
  cases get2 D id <;> simp
theorem bel_drewN (w : World) (q : Nat) : Below w.heap.size w (w.drewN q) := ⟨rfl, rfl, rfl, Nat.le_refl _, fun _ _ => rfl⟩
/-- What Insert makes. -/
def RIns (w : World) (B g : Nat) (D : Dk) (o : CO) (e : Ending) (w' : World) : Prop := e = .returned (.int .i64 (insE D o)) ∧ (∃ u1 u2, RefAt w' B g u1 u2 (insD D o)) ∧ Chg (fun j => j = g) w w'
section
variable {w : World} {B g : Nat} {v1 v2 : Value} {D : Dk}
set_option maxRecDepth 100000 in
set_option maxHeartbeats 2000000 in
theorem rins_bad (h : RefAt w B g v1 v2 D) (hm : D.1.length + D.2.length ≤ 256) {o : CO} (hE : insE D o ≠ 0) :
    Calls Try.prog 10 #[.pointer (some ⟨g, 0, none⟩), coV o] w (RIns w B g D o) := by
  have HD : Hid (∀ w', Below w.heap.size w w' → (∃ u1 u2, RefAt w' B g u1 u2 (insD D o)) ∧ Chg (fun j => j = g) w w') := Lib.hid fun w' hb => ⟨⟨v1, v2, by unfold insD; rw [if_neg hE]; exact h.carry hb⟩, Chg.of_below hb _⟩
  have HG := Lib.hid (fun w' (hb : Below w.heap.size w w') => rget_any (h.carry hb) hm o.id)
  have HL := Lib.hid (fun w' (hb : Below w.heap.size w w') => (h.carry hb))
  rw [getV_eq] at HG
  have HR := Lib.hid (rright_any o)
  unfold RIns
  have hE2 : insE D o = if ¬ okC o then 1 else if (get2 D o.id).isSome then 6 else if 256 ≤ D.1.length + D.2.length then 8 else 0 := rfl
  obtain ⟨oi, oo, os, on, ou⟩ := o
  obtain ⟨N, hN⟩ : ∃ N, orderG D oi = N := ⟨_, rfl⟩
  obtain ⟨P, hP⟩ : ∃ P, placeG D oi = P := ⟨_, rfl⟩
  have hPn := place_neg D oi
  dsimp only at HG hE2
  rw [hN, hP] at HG
  rw [hP] at hPn
  have HB0 := Lib.hid h.b
  obtain ⟨ni, no, ns, nn, nu⟩ := N
  unfold coV at HG
  by_cases hok : okC ⟨oi, oo, os, on, ou⟩
  · have HR2 : Hid (decide (okC ⟨oi, oo, os, on, ou⟩) = true) := Lib.hid (by simpa using hok)
    rw [if_neg (by simpa using hok)] at hE2
    by_cases hs : (get2 D oi).isSome = true
    · rw [if_pos hs] at hE2
      rw [hE2]
      have p0 := hPn.2 hs
      clear h hE hN hP hPn hok hs hE2 hm
      unfold coV
      go_enter Try.func10, Try.ntmps10
      go_wp2_with ((first
        | (go_at_call 20; refine (HG.out _ (bel_new _ _)).mono ?_; rintro e w1 ⟨rfl, hb1⟩; have hO := OrdAt.carry (o := ⟨oi, oo, os, on, ou⟩) (Box.fresh w _ _ rfl) hb1; obtain ⟨q0, q1, q2, q3, q4⟩ := hO.ups; have hne : w.heap.size ≠ w1.heap.size := Nat.ne_of_lt (Box.there hO); have hle := Nat.le_of_lt (Box.there hO); replace hO := Lib.hid hO; replace hb1 := Lib.hid (bel_trans (bel_new _ _) hb1))
        | (go_at_call 33; refine (HR.out _).mono ?_; rintro e w2 ⟨rfl, hb2⟩; rw [HR2.out]; replace hb2 := Lib.hid (bel_trans (bel_alloc hb1.out _) hb2))))
      go_ret
      exact ⟨rfl, HD.out _ hb2.out⟩
    · rw [if_neg hs] at hE2
      have p0 : ¬ 0 ≤ P := fun e => hs (hPn.1 e)
      have hfull : 256 ≤ D.1.length + D.2.length := by
        rcases Nat.lt_or_ge (D.1.length + D.2.length) 256 with h' | h'
        · rw [if_neg (by omega)] at hE2
          exact absurd hE2 hE
        · exact h'
      rw [if_pos hfull] at hE2
      rw [hE2]
      obtain ⟨A1, p1, e1⟩ := own_slice h.b
      obtain ⟨A2, p2, e2⟩ := own_slice h.s
      subst e1; subst e2
      obtain ⟨n1, hn1⟩ : ∃ n, D.1.length = n := ⟨_, rfl⟩
      obtain ⟨n2, hn2⟩ : ∃ n, D.2.length = n := ⟨_, rfl⟩
      have HC : Hid (∀ w', Below w.heap.size w w' → w'.cell? ⟨g, 0, Option.none⟩ = some (.slice A1 n1 p1) ∧ w'.cell? ⟨g, 1, Option.none⟩ = some (.slice A2 n2 p2)) := Lib.hid fun w' hb => by rw [← hn1, ← hn2]; exact ⟨(h.carry hb).c0, (h.carry hb).c1⟩
      rw [hn1, hn2] at hfull hm
      have dF : decide ((256 : Int) ≤ (n1 : Int) + (n2 : Int)) = true := by simp; omega
      clear h hE hN hP hn1 hn2 HL HB0 hPn hok hs hE2
      unfold coV
      go_enter Try.func10, Try.ntmps10
      go_wp2_with ((first
        | (go_at_call 20; refine (HG.out _ (bel_new _ _)).mono ?_; rintro e w1 ⟨rfl, hb1⟩; have hO := OrdAt.carry (o := ⟨oi, oo, os, on, ou⟩) (Box.fresh w _ _ rfl) hb1; obtain ⟨q0, q1, q2, q3, q4⟩ := hO.ups; have hne : w.heap.size ≠ w1.heap.size := Nat.ne_of_lt (Box.there hO); have hle := Nat.le_of_lt (Box.there hO); replace hO := Lib.hid hO; replace hb1 := Lib.hid (bel_trans (bel_new _ _) hb1))
        | (go_at_call 33; refine (HR.out _).mono ?_; rintro e w2 ⟨rfl, hb2⟩; rw [HR2.out]; replace hb2 := Lib.hid (bel_trans (bel_alloc hb1.out _) hb2); obtain ⟨c0, c1⟩ := HC.out _ hb2.out)))
      go_quiet (fail)
      go_wp2_with fail
      go_ret
      exact ⟨rfl, HD.out _ (bel_trans hb2.out (bel_drewN _ _))⟩
  · have HR2 : Hid (decide (okC ⟨oi, oo, os, on, ou⟩) = false) := Lib.hid (by simpa using hok)
    rw [if_pos hok] at hE2
    rw [hE2]
    have hs : True := trivial
    clear h hE hN hP hPn hok hs hE2 hm
    unfold coV
    go_enter Try.func10, Try.ntmps10
    go_wp2_with ((first
      | (go_at_call 20; refine (HG.out _ (bel_new _ _)).mono ?_; rintro e w1 ⟨rfl, hb1⟩; have hO := OrdAt.carry (o := ⟨oi, oo, os, on, ou⟩) (Box.fresh w _ _ rfl) hb1; obtain ⟨q0, q1, q2, q3, q4⟩ := hO.ups; have hne : w.heap.size ≠ w1.heap.size := Nat.ne_of_lt (Box.there hO); have hle := Nat.le_of_lt (Box.there hO); replace hO := Lib.hid hO; replace hb1 := Lib.hid (bel_trans (bel_new _ _) hb1))
      | (go_at_call 33; refine (HR.out _).mono ?_; rintro e w2 ⟨rfl, hb2⟩; rw [HR2.out]; replace hb2 := Lib.hid (bel_trans (bel_alloc hb1.out _) hb2))))
    go_ret
    exact ⟨rfl, HD.out _ hb2.out⟩
end
end Go.Proofs.Ytekppjigckjgiaa

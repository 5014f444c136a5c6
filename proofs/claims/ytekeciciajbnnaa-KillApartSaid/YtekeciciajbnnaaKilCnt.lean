/- A maker's row at a time; Count. -/
import Derived.Test.YtekeciciajbnnaaKilTrip
import Derived.IntWalk
set_option linter.unusedSimpArgs false
namespace Go.Proofs.Ytekeciciajbnnaa
open Go.RowKit Go.Mem1 Go.MapRow Go.KilMath

/-- A maker's row as 'at' tells it, at a time: its slice, its last time; what is known of them. -/
def RowOf (w : World) (B : Nat) (L : RL) (k : Int) (ts : List Int) (A : Option Addr) (n c : Nat) (now : Int) : Prop :=
  n = ts.length ∧ Times w B (.slice A n c) ts ∧ Tms ts now ∧ 0 ≤ now ∧ now ≤ 1099511627776 ∧ Free1 L k (.slice A n c)
section
variable {w : World} {B g : Nat} {f win : Int} {m1 m2 : Option Nat} {L : RL} {O : OL} {T : Int → List Int}
theorem SwAt.row_of (h : SwAt w B g f win m1 m2 L O T (fun _ => True)) (k : Int) {now : Int} (h0 : 0 ≤ now) (h1 : now ≤ 1099511627776) :
    ∃ A n c l, (fget L k).getD (.slice none 0 0, 0) = (.slice A n c, l) ∧ RowOf w B L k (T k) A n c (lastOr ((fget L k).map (·.2)) now) := by
  cases hf : fget L k with
  | none =>
    have hT := h.bare k hf
    rw [hT]
    exact ⟨none, 0, 0, 0, rfl, rfl, World.ownsRow_nil _ _ _ _, Tms.nil _, h0, h1, free1_nil L k⟩
  | some r =>
    obtain ⟨v, l⟩ := r
    obtain ⟨a1, a2, a3, a4⟩ := h.own k v l trivial hf
    obtain ⟨A, c, e⟩ := own_slice (show w.ownsRow B 2 1 v (T k).length _ from a1)
    subst e
    have hm : l ≤ max now l := Int.le_max_right _ _
    refine ⟨A, _, c, l, rfl, rfl, a1, a2.later hm, ?_, ?_, fun k' v' l' j hne e1 e2 => ?_⟩
    · show 0 ≤ max now l; omega
    · show max now l ≤ _; omega
    · exact h.lone k' k v' _ l' l j trivial trivial hne e1 hf e2
end
theorem ret_sub {a b : Nat} {z : Int} (h : z = (a : Int) - b) : Ending.returned (.int .i64 z) = .returned (.int .i64 ((a : Int) - b)) := by rw [h]
set_option maxRecDepth 100000 in
set_option maxHeartbeats 2000000 in
theorem kcount_any {w : World} {B g : Nat} {f win : Int} {m1 m2 : Option Nat} {L : RL} {O : OL} {T : Int → List Int} (h : SwAt w B g f win m1 m2 L O T (fun _ => True)) {k : Int} (hk : OkI k) {now : Int} (h0 : 0 ≤ now) (h1 : now ≤ 1099511627776) :
    Calls Try.prog 9 #[.pointer (some ⟨g, 0, none⟩), .int .i64 k, .int .i64 now] w fun e w' => e = .returned (.int .i64 (((T k).length : Int) - pastN (T k) (lastOr ((fget L k).map (·.2)) now) win)) ∧ Below w.heap.size w w' := by
  have HA := at_any h hk trivial now
  obtain ⟨A, n, c, l, hr, hn, ht, hg, g0, g1, hfr⟩ := h.row_of k h0 h1
  rw [hr] at HA
  dsimp only [rowV] at HA
  obtain ⟨t, htt⟩ : ∃ t, lastOr ((fget L k).map (·.2)) now = t := ⟨_, rfl⟩
  rw [htt] at HA hg g0 g1 ⊢
  have HP : Hid (∀ w', Below w.heap.size w w' → Calls Try.prog 14 #[.pointer (some ⟨g, 0, none⟩), .agg #[.slice A n c, .int .i64 l], .int .i64 t] w' fun e w2 => e = .returned (.int .i64 (pastN (T k) t win)) ∧ Below w'.heap.size w' w2) := Lib.hid fun w' hb => past_any (h.carry hb) (own_keep ht hb) hg g1
  have hp : pastN (T k) t win ≤ n := by rw [hn]; exact pastN_le _ _ _
  have hlen := hg.len
  rw [← hn] at hlen ⊢
  replace HA := Lib.hid HA
  generalize pastN (T k) t win = p at HP hp ⊢
  clear h hk h0 h1 hr ht hg g0 g1 htt hn hfr
  have KX : Hid (∀ w1, Below w.heap.size w w1 → ∀ w', Below (w1.alloc (.cells #[.slice A n c, .int .i64 l] 40)).heap.size (w1.alloc (.cells #[.slice A n c, .int .i64 l] 40)) w' → (w'.cell? ⟨w1.heap.size, 0, none⟩ = some (.slice A n c) ∧ w'.cell? ⟨w1.heap.size, 1, none⟩ = some (.int .i64 l)) ∧ Below w.heap.size w w') := Lib.hid fun w1 hb1 w' hb => by
    have hx := (Box.fresh w1 40 #[.slice A n c, .int .i64 l] rfl).kept_below hb (by simp)
    exact ⟨⟨(hx.reads 0).trans rfl, (hx.reads 1).trans rfl⟩, bel_trans (bel_alloc hb1 _) hb⟩
  go_enter Try.func9, Try.ntmps9
  go_wp2_with (go_at_call 12; refine HA.out.mono ?_; rintro e w1 ⟨rfl, hb1⟩; replace hb1 := Lib.hid hb1)
  obtain ⟨⟨x0, x1⟩, HB0⟩ := KX.out w1 hb1.out _ (Below.refl _ _)
  obtain ⟨⟨y0, y1⟩, HB1⟩ := KX.out w1 hb1.out _ (Below.refl _ _).drew
  replace HB1 := Lib.hid HB1
  go_region_held3 (fun w' => w'.cell? ⟨w1.heap.size, 0, none⟩ = some (.slice A n c) ∧ w'.cell? ⟨w1.heap.size, 1, none⟩ = some (.int .i64 l)) (first | go_keep | exact ⟨x0, x1⟩ | exact ⟨y0, y1⟩ | exact ⟨z0, z1⟩) ((go_at_call 14; refine (HP.out _ HB1.out).mono ?_; rintro e w2 ⟨rfl, hb2⟩; obtain ⟨⟨z0, z1⟩, HB2⟩ := KX.out w1 hb1.out w2 (bel_trans (Below.refl _ _).drew hb2); replace HB2 := Lib.hid HB2; clear hb2))
  all_goals (go_wp2_with fail)
  all_goals (go_ret; exact ⟨ret_sub (IntWalk.i64_in _ (by omega)), HB2.out⟩)
end Go.Proofs.Ytekeciciajbnnaa

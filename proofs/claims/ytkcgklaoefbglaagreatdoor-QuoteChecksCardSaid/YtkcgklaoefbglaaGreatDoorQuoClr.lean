/- Forget whatever the number; Clear. -/
import Derived.Test.YtkcgklaoefbglaaGreatDoorQuoLef
set_option linter.unusedSimpArgs false
namespace Go.Proofs.YtkcgklaoefbglaaGreatDoor
open Go.RowKit Go.Mem1 Go.MapRow Go.QuoMath

theorem forget_any {w : World} {B g : Nat} {m : Option (Nat × Nat)} {Q : QL} {S : SL} (h : DeskAt w B g m Q S) {id : Int} (hi : OkI id) :
    Calls Tryz.prog 14 #[.pointer (some ⟨g, 0, none⟩), .int .i64 id] w (Forgot w B g m Q S id) := by
  cases hf : fget S id with
  | none => exact forget_none h hi hf
  | some s =>
    cases m with
    | none =>
      obtain ⟨_, rfl⟩ := h.bare rfl
      simp [fget] at hf
    | some p =>
      obtain ⟨⟨x, y⟩, hq⟩ : ∃ q, wo (prOf Q s) id = q := ⟨_, rfl⟩
      by_cases hx : x = 0
      · subst hx
        by_cases hy : y = 0
        · exact forget_gone h hi hf hq ⟨rfl, hy⟩
        · exact forget_left2 h hi hf hq hy
      · exact forget_left1 h hi hf hq hx
/-- What Clear leaves. -/
def Cleared (w : World) (B g : Nat) (m : Option (Nat × Nat)) (Q : QL) (S : SL) (s : Sl) (e : Ending) (w' : World) : Prop :=
  e = .returned (.bool (fget Q s).isSome) ∧ DeskAt w' B g m (clrQ Q S s) (clrS Q S s) ∧ Chg (Own g m) w w'
set_option maxRecDepth 100000 in
set_option maxHeartbeats 2000000 in
theorem clear_any {w : World} {B g : Nat} {m : Option (Nat × Nat)} {Q : QL} {S : SL} (h : DeskAt w B g m Q S) {s : Sl} (hs : OkP s) :
    Calls Tryz.prog 24 #[.pointer (some ⟨g, 0, none⟩), slV s] w (Cleared w B g m Q S s) := by
  obtain ⟨s1, s2⟩ := s
  have hqk : OkP (prOf Q (s1, s2)) := h.fine.at _
  obtain ⟨⟨q1, q2⟩, hq⟩ : ∃ q, prOf Q (s1, s2) = q := ⟨_, rfl⟩
  have hF : Cleared w B g m Q S (s1, s2) = fun e w' => e = .returned (.bool (fget Q (s1, s2)).isSome) ∧ DeskAt w' B g m (forQ (forQ Q S q1) (forS S q1) q2) (forS (forS S q1) q2) ∧ Chg (Own g m) w w' := by
    unfold Cleared clrQ clrS
    rw [hq]
  rw [hF]
  clear hF
  obtain ⟨b, hb⟩ : ∃ b, (fget Q (s1, s2)).isSome = b := ⟨_, rfl⟩
  rw [hb]
  obtain ⟨v, hv⟩ : ∃ v, m.map (·.1) = v := ⟨_, rfl⟩
  have KS : ∀ w', Below w.heap.size w w' → w'.cell? ⟨g, 0, none⟩ = some (.map v) ∧
      (Instr.lookup 70 (.map v) (.agg #[.int .i64 s1, .int .i64 s2]) true).run Tryz.prog w' = .ok (.tuple #[.agg #[.int .i64 q1, .int .i64 q2], .bool b]) w' := fun w' hw => by
    have lq := ((h.carry hw).lookQ hs).2
    rw [hq, hb, hv] at lq
    exact ⟨((h.carry hw).box.reads 0).trans (by simp [hv]), lq⟩
  have hn := h.there
  have hne : ¬ g = w.heap.size := by omega
  have H := Lib.hid h
  have HS := Lib.hid KS
  have HQK := Lib.hid (hq ▸ hqk)
  have S1 := KS _ (bel_new w (.cells #[.int .i64 s1, .int .i64 s2] 47)).drew
  clear h KS hq hqk hb hv hs
  change Calls Tryz.prog 24 #[.pointer (some ⟨g, 0, none⟩), .agg #[.int .i64 s1, .int .i64 s2]] w _
  go_enter Tryz.func24, Tryz.ntmps24
  go_wp2_with fail
  go_region_held3 (fun w' => w'.cell? ⟨g, 0, none⟩ = some (.map v) ∧ w'.cell? ⟨w.heap.size, 0, none⟩ = some (.int .i64 s1) ∧ w'.cell? ⟨w.heap.size, 1, none⟩ = some (.int .i64 s2) ∧
      (Instr.lookup 70 (.map v) (.agg #[.int .i64 s1, .int .i64 s2]) true).run Tryz.prog w' = .ok (.tuple #[.agg #[.int .i64 q1, .int .i64 q2], .bool b]) w')
    (first | exact ⟨S1.1, by simp, by simp, S1.2⟩ | exact ⟨(HS.out _ (bel_alloc (bel_new w _) _).drew).1, by simp, by simp, (HS.out _ (bel_alloc (bel_new w _) _).drew).2⟩)
    (fail)
  all_goals
    have BW : Below w.heap.size w ((w.alloc (.cells #[.int .i64 s1, .int .i64 s2] 47)).alloc (.cells #[.int .i64 q1, .int .i64 q2] 75)).drew := (bel_alloc (bel_new _ _) _).drew
    have X5 : Box ((w.alloc (.cells #[.int .i64 s1, .int .i64 s2] 47)).alloc (.cells #[.int .i64 q1, .int .i64 q2] 75)).drew (w.heap.size + 1) 75 #[.int .i64 q1, .int .i64 q2] := Box.fresh (w.alloc (.cells #[.int .i64 s1, .int .i64 s2] 47)) _ _ (by simp)
    generalize ((w.alloc (.cells #[.int .i64 s1, .int .i64 s2] 47)).alloc (.cells #[.int .i64 q1, .int .i64 q2] 75)).drew = w1 at BW X5 ⊢
    have D1 := Lib.hid (H.out.carry BW)
    have C1 := Lib.hid (Chg.of_below BW (Own g m))
    have a0 : w1.cell? ⟨w.heap.size + 1, 0, none⟩ = some (.int .i64 q1) := (X5.reads 0).trans rfl
    have a1 : w1.cell? ⟨w.heap.size + 1, 1, none⟩ = some (.int .i64 q2) := (X5.reads 1).trans rfl
    replace X5 := Lib.hid X5
    clear BW S1
    go_wp2_with (go_at_call 14; refine Hid.out ?_)
    refine Lib.hid ?_
    refine (forget_any D1.out HQK.out.1).mono ?_
    rintro e w2 ⟨rfl, h2, c2⟩
    have X6 := X5.out.kept c2 (D1.out.off X5.out (by decide))
    have b1 : w2.cell? ⟨w.heap.size + 1, 1, none⟩ = some (.int .i64 q2) := (X6.reads 1).trans rfl
    have D2 := Lib.hid h2
    have C2 := Lib.hid (C1.out.then c2 (fun _ _ h => h))
    generalize (fget S q1).getD (0, 0) = z1
    generalize (fget S q1).isSome = z2
    clear h2 c2 X6 a0 a1
    go_wp2_with (go_at_call 14; refine Hid.out ?_)
    refine Lib.hid ?_
    refine (forget_any D2.out HQK.out.2).mono ?_
    rintro e w3 ⟨rfl, h3, c3⟩
    have D3 := Lib.hid h3
    have C3 := Lib.hid (C2.out.then c3 (fun _ _ h => h))
    generalize (fget (forS S q1) q2).getD (0, 0) = z3
    generalize (fget (forS S q1) q2).isSome = z4
    clear h3 c3
    go_wp2_with fail
    go_ret
    exact ⟨rfl, D3.out, C3.out⟩
end Go.Proofs.YtkcgklaoefbglaaGreatDoor

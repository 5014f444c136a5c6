/- give whatever comes; Set. -/
import Derived.Test.YtkcgklaoefbglaaGreatDoorQuoNew
import Derived.BigQuiet
import Derived.Deep.QuietTactic
set_option linter.unusedSimpArgs false
namespace Go.Proofs.YtkcgklaoefbglaaGreatDoor
open Go.RowKit Go.Mem1 Go.MapRow Go.QuoMath

theorem give_any {w : World} {B g : Nat} {m : Option (Nat × Nat)} {Q : QL} {S : SL} (h : DeskAt w B g m Q S) {s : Sl} (hs : OkP s) {q : Pr} (hq : OkP q) :
    Calls Tryz.prog 25 #[.pointer (some ⟨g, 0, none⟩), slV s, prV q] w (Gave w B g m (givQ Q s q) (givS S s q)) := by
  obtain ⟨q1, q2⟩ := q
  by_cases h1 : q1 = 0
  · subst h1
    by_cases h2 : q2 = 0
    · subst h2
      exact give_none h s
    · cases m with
      | none => exact give_new2 h hs hq h2
      | some p => exact give_some2 h hs hq h2
  · cases m with
    | none => exact give_new1 h hs hq h1
    | some p => exact give_some1 h hs hq h1
theorem bel_drewN (w : World) (n : Nat) : Below w.heap.size w (w.drewN n) := ⟨rfl, rfl, rfl, Nat.le_refl _, fun _ _ => rfl⟩
/-- What Set leaves. -/
def SetDone (w : World) (B g : Nat) (m : Option (Nat × Nat)) (Q : QL) (S : SL) (r : Value) (e : Ending) (w' : World) : Prop :=
  e = .returned r ∧ ∃ m', DeskAt w' B g m' Q S ∧ Chg (Own g m) w w' ∧ ∀ j, j < w.heap.size → Own g m' j → Own g m j
/-- Set under way: the desk, what has turned, the boxes of the slot, of what was, of what comes. -/
structure SetAt (w wi : World) (B g : Nat) (m m' : Option (Nat × Nat)) (Q : QL) (S : SL) (r5 r10 r11 : Nat) (s : Sl) (o n : Pr) : Prop where
  desk : DeskAt wi B g m' Q S
  chg : Chg (Own g m) w wi
  own : ∀ j, j < w.heap.size → Own g m' j → Own g m j
  x5 : Box wi r5 47 #[.int .i64 s.1, .int .i64 s.2]
  x10 : Box wi r10 75 #[.int .i64 o.1, .int .i64 o.2]
  x11 : Box wi r11 75 #[.int .i64 n.1, .int .i64 n.2]
theorem SetAt.next {w wi w2 : World} {B g : Nat} {m m' m2 : Option (Nat × Nat)} {Q Q' : QL} {S S' : SL} {r5 r10 r11 : Nat} {s : Sl} {o n : Pr} (h : SetAt w wi B g m m' Q S r5 r10 r11 s o n)
    (hd : DeskAt w2 B g m2 Q' S') (hc : Chg (Own g m') wi w2) (ho : ∀ j, j < wi.heap.size → Own g m2 j → Own g m' j) : SetAt w w2 B g m m2 Q' S' r5 r10 r11 s o n :=
  ⟨hd, h.chg.then hc h.own, fun j hj hw => h.own j hj (ho j (Nat.lt_of_lt_of_le hj h.chg.size) hw), h.x5.kept hc (h.desk.off h.x5 (by decide)), h.x10.kept hc (h.desk.off h.x10 (by decide)), h.x11.kept hc (h.desk.off h.x11 (by decide))⟩
theorem SetAt.cells {w wi : World} {B g : Nat} {m m' : Option (Nat × Nat)} {Q : QL} {S : SL} {r5 r10 r11 : Nat} {s : Sl} {o n : Pr} (h : SetAt w wi B g m m' Q S r5 r10 r11 s o n) :
    wi.cell? ⟨r5, 0, none⟩ = some (.int .i64 s.1) ∧ wi.cell? ⟨r5, 1, none⟩ = some (.int .i64 s.2) ∧ wi.cell? ⟨r10, 0, none⟩ = some (.int .i64 o.1) ∧ wi.cell? ⟨r10, 1, none⟩ = some (.int .i64 o.2) ∧
    wi.cell? ⟨r11, 0, none⟩ = some (.int .i64 n.1) ∧ wi.cell? ⟨r11, 1, none⟩ = some (.int .i64 n.2) :=
  ⟨(h.x5.reads 0).trans rfl, (h.x5.reads 1).trans rfl, (h.x10.reads 0).trans rfl, (h.x10.reads 1).trans rfl, (h.x11.reads 0).trans rfl, (h.x11.reads 1).trans rfl⟩
set_option maxRecDepth 100000 in
set_option maxHeartbeats 4000000 in
theorem set_any {w : World} {B g : Nat} {m : Option (Nat × Nat)} {Q : QL} {S : SL} (h : DeskAt w B g m Q S) {s : Sl} (hs : OkP s) {nb na : Int} (hnb : OkI nb) (hna : OkI na) :
    Calls Tryz.prog 12 #[.pointer (some ⟨g, 0, none⟩), slV s, .int .i64 nb, .int .i64 na] w (SetDone w B g m (setQ Q S s nb na) (setS Q S s nb na) (.tuple #[.int .i64 (prOf Q s).1, .int .i64 (prOf Q s).2])) := by
  have hnk : OkP (pairO nb na) := OkP.pairO hnb hna
  unfold setQ setS
  obtain ⟨⟨n1, n2⟩, hn⟩ : ∃ q, pairO nb na = q := ⟨_, rfl⟩
  rw [hn]
  rw [hn] at hnk
  obtain ⟨s1, s2⟩ := s
  obtain ⟨⟨q1, q2⟩, hq⟩ : ∃ q, prOf Q (s1, s2) = q := ⟨_, rfl⟩
  rw [hq]
  dsimp only
  obtain ⟨v, hv⟩ : ∃ v, m.map (·.1) = v := ⟨_, rfl⟩
  have KS : ∀ w', Below w.heap.size w w' → w'.cell? ⟨g, 0, none⟩ = some (.map v) ∧
      (Instr.lookup 70 (.map v) (.agg #[.int .i64 s1, .int .i64 s2]) false).run Tryz.prog w' = .ok (.agg #[.int .i64 q1, .int .i64 q2]) w' := fun w' hw => by
    have lq := ((h.carry hw).lookQ hs).1
    rw [hq, hv] at lq
    exact ⟨((h.carry hw).box.reads 0).trans (by simp [hv]), lq⟩
  have hgl := h.there
  have hne : ¬ g = w.heap.size := by omega
  have H := Lib.hid h
  have HS := Lib.hid KS
  have HSO := Lib.hid hs
  have HN := Lib.hid hnk
  have HPN := Lib.hid hn
  have S1 := KS _ (bel_new w (.cells #[.int .i64 s1, .int .i64 s2] 47)).drew
  clear h KS hq hv hs hnk hn
  change Calls Tryz.prog 12 #[.pointer (some ⟨g, 0, none⟩), .agg #[.int .i64 s1, .int .i64 s2], .int .i64 nb, .int .i64 na] w _
  go_enter Tryz.func12, Tryz.ntmps12
  go_wp2_with fail
  go_region_held3 (fun w' => w'.cell? ⟨g, 0, none⟩ = some (.map v) ∧ w'.cell? ⟨w.heap.size, 0, none⟩ = some (.int .i64 s1) ∧ w'.cell? ⟨w.heap.size, 1, none⟩ = some (.int .i64 s2) ∧
      (Instr.lookup 70 (.map v) (.agg #[.int .i64 s1, .int .i64 s2]) false).run Tryz.prog w' = .ok (.agg #[.int .i64 q1, .int .i64 q2]) w')
    (first | exact ⟨S1.1, by simp, by simp, S1.2⟩ | exact ⟨(HS.out _ (bel_alloc (bel_new w _) _).drew).1, by simp, by simp, (HS.out _ (bel_alloc (bel_new w _) _).drew).2⟩)
    (fail)
  all_goals
    have BW : Below w.heap.size w ((w.alloc (.cells #[.int .i64 s1, .int .i64 s2] 47)).alloc (.cells #[.int .i64 q1, .int .i64 q2] 75)).drew := (bel_alloc (bel_new _ _) _).drew
    have X5 : Box ((w.alloc (.cells #[.int .i64 s1, .int .i64 s2] 47)).alloc (.cells #[.int .i64 q1, .int .i64 q2] 75)).drew w.heap.size 47 #[.int .i64 s1, .int .i64 s2] := (show Box ((w.alloc (.cells #[.int .i64 s1, .int .i64 s2] 47)).alloc (.cells #[.int .i64 q1, .int .i64 q2] 75)) w.heap.size _ _ from (Box.fresh w _ _ rfl).kept_below (bel_new _ _) (by simp))
    have X10 : Box ((w.alloc (.cells #[.int .i64 s1, .int .i64 s2] 47)).alloc (.cells #[.int .i64 q1, .int .i64 q2] 75)).drew (w.heap.size + 1) 75 #[.int .i64 q1, .int .i64 q2] := Box.fresh (w.alloc (.cells #[.int .i64 s1, .int .i64 s2] 47)) _ _ (by simp)
    generalize ((w.alloc (.cells #[.int .i64 s1, .int .i64 s2] 47)).alloc (.cells #[.int .i64 q1, .int .i64 q2] 75)).drew = w1 at BW X5 X10 ⊢
    replace BW := Lib.hid BW
    replace X5 := Lib.hid X5
    replace X10 := Lib.hid X10
    generalize w.heap.size + 1 = r10 at X10 ⊢
    obtain ⟨r5, hr5⟩ : ∃ r, w.heap.size = r := ⟨_, rfl⟩
    rw [hr5] at X5 ⊢
    clear S1
    have PO : Calls Tryz.prog 23 #[.int .i64 nb, .int .i64 na] w1 fun e w2 => e = .returned (.agg #[.int .i64 n1, .int .i64 n2]) ∧ Hid (Below w1.heap.size w1 w2) := (pairOf_any nb na w1).mono fun e w2 he => by rw [HPN.out] at he; exact he
    go_wp2_with (go_at_call 23; refine Hid.out ?_)
    refine Lib.hid ?_
    refine PO.mono ?_
    rintro e w2 ⟨rfl, b2⟩
    have A3 : Hid (SetAt w (w2.alloc (.cells #[.int .i64 n1, .int .i64 n2] 75)) B g m m Q S r5 r10 w2.heap.size (s1, s2) (q1, q2) (n1, n2)) :=
      have hb : Below w.heap.size w (w2.alloc (.cells #[.int .i64 n1, .int .i64 n2] 75)) := bel_alloc (bel_trans BW.out b2.out) _
      have hb1 : Below w1.heap.size w1 (w2.alloc (.cells #[.int .i64 n1, .int .i64 n2] 75)) := bel_alloc b2.out _
      ⟨H.out.carry hb, Chg.of_below hb _, fun _ _ h => h, X5.out.kept_below hb1 X5.out.there, X10.out.kept_below hb1 X10.out.there, Box.fresh _ _ _ rfl⟩
    obtain ⟨w3, hw3⟩ : ∃ w3, w2.alloc (.cells #[.int .i64 n1, .int .i64 n2] 75) = w3 := ⟨_, rfl⟩
    obtain ⟨r11, hr11⟩ : ∃ r, w2.heap.size = r := ⟨_, rfl⟩
    rw [hw3, hr11] at A3
    obtain ⟨c50, c51, c100, c101, c110, c111⟩ := A3.out.cells
    clear PO X5 X10 b2 BW
    go_wp2_with (go_at_call 14; refine Hid.out ?_)
    refine Lib.hid ?_
    refine (forget_any A3.out.desk HN.out.1).mono ?_
    rintro e w4 ⟨rfl, h4, k4⟩
    have A4 := Lib.hid (A3.out.next h4 k4 (fun _ _ h => h))
    generalize (fget S n1).getD (0, 0) = z1
    generalize (fget S n1).isSome = z2
    clear c50 c51 c100 c101 c110 c111 h4 k4 A3 hw3 hr11
    obtain ⟨c50, c51, c100, c101, c110, c111⟩ := A4.out.cells
    go_wp2_with (go_at_call 14; refine Hid.out ?_)
    refine Lib.hid ?_
    refine (forget_any A4.out.desk HN.out.2).mono ?_
    rintro e w5 ⟨rfl, h5, k5⟩
    have A5 := Lib.hid (A4.out.next h5 k5 (fun _ _ h => h))
    generalize (fget (forS S n1) n2).getD (0, 0) = z3
    generalize (fget (forS S n1) n2).isSome = z4
    clear c50 c51 c100 c101 c110 c111 h5 k5 A4
    obtain ⟨c50, c51, c100, c101, c110, c111⟩ := A5.out.cells
    go_wp2_with (go_at_call 24; refine Hid.out ?_)
    refine Lib.hid ?_
    refine (clear_any (s := (s1, s2)) A5.out.desk HSO.out).mono ?_
    rintro e w6 ⟨rfl, h6, k6⟩
    have A6 := Lib.hid (A5.out.next h6 k6 (fun _ _ h => h))
    generalize (fget (forQ (forQ Q S n1) (forS S n1) n2) (s1, s2)).isSome = z5
    clear c50 c51 c100 c101 c110 c111 h6 k6 A5
    obtain ⟨c50, c51, c100, c101, c110, c111⟩ := A6.out.cells
    go_wp2_with (go_at_call 25; refine Hid.out ?_)
    refine Lib.hid ?_
    refine (give_any (s := (s1, s2)) (q := (n1, n2)) A6.out.desk HSO.out HN.out).mono ?_
    rintro e w7 ⟨rfl, m7, h7, k7, o7⟩
    have A7 := Lib.hid (A6.out.next h7 k7 o7)
    clear c50 c51 c100 c101 c110 c111 h7 k7 o7 A6
    obtain ⟨c50, c51, c100, c101, c110, c111⟩ := A7.out.cells
    go_wp2_with fail
    go_quiet (fail)
    go_wp2_with fail
    refine bodyPost_ret (v := .tuple #[.int .i64 q1, .int .i64 q2]) (by simp [results, Tryz.results12, go_sem]) rfl ⟨rfl, m7, A7.out.desk.carry (bel_drewN _ _), A7.out.chg.drewN _, A7.out.own⟩
end Go.Proofs.YtkcgklaoefbglaaGreatDoor

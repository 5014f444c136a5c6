/- A ledger beside a world that is kept below it; straddlelaw14.known answers true. -/
import Derived.Test.YtfidihmiadjpjaaLifEnter
import Derived.Test.YtfidihmiadjpjaaLifRead
set_option linter.unusedSimpArgs false
namespace Go.Proofs.Ytfidihmiadjpjaa
open Go.RowKit Go.Mem1 Go.LifMath

/-- A ledger; what was there before is as it was. -/
def Lv (w0 : World) (B g : Nat) (L : List Ent) (w : World) : Prop := (∃ vE, Led w B g vE L) ∧ Below B w0 w
section
variable {w0 w w' : World} {B g : Nat} {L : List Ent}
theorem Led.keeps {vE : Value} {w' : World} (h : Led w B g vE L) (hc : Chg (LedS g vE) w w') : Below B w w' := by
  refine hc.small (Nat.le_of_lt h.at_.base) (fun i hi hs => ?_)
  rcases hs with rfl | e
  · have := h.at_.low; omega
  · have := (h.at_.row.lt i e.symm).1; omega
theorem Lv.did {vE : Value} {L' : List Ent} {r : Value} {e : Ending} (h : Led w B g vE L) (hb : Below B w0 w) (hd : Did w B g vE L' r e w') : e = .returned r ∧ Lv w0 B g L' w' := by
  obtain ⟨h1, vE', h2, h3, _⟩ := hd
  exact ⟨h1, ⟨vE', h2⟩, hb.trans (h.keeps h3)⟩
theorem Lv.carry (h : Lv w0 B g L w) (hb : Below w.heap.size w w') : Lv w0 B g L w' := by
  obtain ⟨⟨vE, h1⟩, h2⟩ := h
  exact ⟨⟨vE, h1.carry hb⟩, h2.trans (hb.mono (Nat.le_of_lt h1.at_.base))⟩
theorem Lv.enter (h : Lv w0 B g L w) {ow se si q : Int} (hq : 1 ≤ q ∧ q ≤ 1000000) (hL : L.length < 200) : Calls Try.prog 8 #[.pointer (some ⟨g, 0, none⟩), .int .i64 ow, .int .i64 se, .int .i64 si, .int .i64 q] w fun e w' => e = .returned (.tuple #[.int .i64 ((L.length : Int) + 1), .int .i64 0]) ∧ Lv w0 B g (L ++ [newE ow se si q]) w' := by
  obtain ⟨⟨vE, h1⟩, h2⟩ := h
  exact (enter_ok h1 hq hL).mono fun _ _ hd => Lv.did h1 h2 hd
theorem Lv.fill (h : Lv w0 B g L w) {k : Nat} {e : Ent} (hk : L[k]? = some e) {q : Int} (q1 : 1 ≤ q) (q2 : q ≤ e.op) : Calls Try.prog 9 #[.pointer (some ⟨g, 0, none⟩), .int .i64 ((k : Int) + 1), .int .i64 q] w fun e' w' => e' = .returned (.int .i64 0) ∧ Lv w0 B g (L.set k (fillE q e)) w' := by
  obtain ⟨⟨vE, h1⟩, h2⟩ := h
  exact (fill_ok h1 hk q1 q2).mono fun _ _ hd => Lv.did h1 h2 hd
theorem Lv.canc (h : Lv w0 B g L w) {k : Nat} {e : Ent} (hk : L[k]? = some e) {q : Int} (q1 : 1 ≤ q) (q2 : q ≤ e.op) : Calls Try.prog 10 #[.pointer (some ⟨g, 0, none⟩), .int .i64 ((k : Int) + 1), .int .i64 q] w fun e' w' => e' = .returned (.int .i64 0) ∧ Lv w0 B g (L.set k (cancE q e)) w' := by
  obtain ⟨⟨vE, h1⟩, h2⟩ := h
  exact (canc_ok h1 hk q1 q2).mono fun _ _ hd => Lv.did h1 h2 hd
theorem Lv.fill_bad (h : Lv w0 B g L w) {k : Nat} {e : Ent} (hk : L[k]? = some e) {q : Int} (hq : (decide (1 ≤ q) && decide (q ≤ e.op)) = false) : Calls Try.prog 9 #[.pointer (some ⟨g, 0, none⟩), .int .i64 ((k : Int) + 1), .int .i64 q] w fun e w' => e = .returned (.int .i64 1) ∧ w = w' := by
  obtain ⟨⟨vE, h1⟩, h2⟩ := h
  exact fill_bad_qty h1.at_ hk hq
theorem Lv.canc_bad (h : Lv w0 B g L w) {k : Nat} {e : Ent} (hk : L[k]? = some e) {q : Int} (hq : (decide (1 ≤ q) && decide (q ≤ e.op)) = false) : Calls Try.prog 10 #[.pointer (some ⟨g, 0, none⟩), .int .i64 ((k : Int) + 1), .int .i64 q] w fun e w' => e = .returned (.int .i64 1) ∧ w = w' := by
  obtain ⟨⟨vE, h1⟩, h2⟩ := h
  exact canc_bad_qty h1.at_ hk hq
theorem Lv.get (h : Lv w0 B g L w) {k : Nat} {e : Ent} (hk : L[k]? = some e) : Calls Try.prog 11 #[.pointer (some ⟨g, 0, none⟩), .int .i64 ((k : Int) + 1)] w fun r w' => r = .returned (.tuple #[entV e, .bool true]) ∧ Lv w0 B g L w' := by
  obtain ⟨vE, h1⟩ := h.1
  exact (get_ok h1.at_ hk).mono fun _ _ ⟨a, b⟩ => ⟨a, h.carry b⟩
theorem Lv.sum (h : Lv w0 B g L w) (se si : Int) : Calls Try.prog 13 #[.pointer (some ⟨g, 0, none⟩), .int .i64 se, .int .i64 si] w fun e w' => e = .returned (.int .i64 (sumE se si L L.length)) ∧ Lv w0 B g L w' := by
  obtain ⟨vE, h1⟩ := h.1
  exact (sum_any h1 se si).mono fun _ _ ⟨a, b⟩ => ⟨a, h.carry b⟩
theorem Lv.len (h : Lv w0 B g L w) : Calls Try.prog 14 #[.pointer (some ⟨g, 0, none⟩)] w fun e w' => e = .returned (.int .i64 L.length) ∧ w = w' := by
  obtain ⟨vE, h1⟩ := h.1
  exact len_any h1.at_
theorem Lv.isFair (h : Lv w0 B g L w) : Calls Try.prog 15 #[.pointer (some ⟨g, 0, none⟩)] w fun e w' => e = .returned (.bool true) ∧ Lv w0 B g L w' := by
  obtain ⟨vE, h1⟩ := h.1
  exact (fair_any h1).mono fun _ _ ⟨a, b⟩ => ⟨a, h.carry b⟩
theorem Lv.open_ (h : Lv w0 B g L w) (ow : Int) : Calls Try.prog 12 #[.pointer (some ⟨g, 0, none⟩), .int .i64 ow] w fun e w' => (∃ A c, e = .returned (.slice A (opens ow L L.length).length c) ∧ w'.ownsRow w.heap.size 2 1 (.slice A (opens ow L L.length).length c) (opens ow L L.length).length (nums (opens ow L L.length))) ∧ Lv w0 B g L w' := by
  obtain ⟨vE, h1⟩ := h.1
  exact (open_any h1 ow).mono fun _ _ ⟨a, b⟩ => ⟨a, h.carry b⟩
theorem lv_new (w : World) : Calls Try.prog 7 #[] w fun e w' => e = .returned (.pointer (some ⟨w.heap.size, 0, none⟩)) ∧ Lv w w.heap.size w.heap.size [] w' :=
  (new_any w).mono fun _ _ ⟨a, b, c⟩ => ⟨a, ⟨_, b, fun _ h => by cases h⟩, c⟩
end
set_option maxRecDepth 100000 in
set_option maxHeartbeats 2000000 in
theorem lknown_ok (w : World) : Calls Try.prog 6 #[] w fun e w' => e = .returned (.bool true) ∧ Below w.heap.size w w' := by
  have K0 := Lib.hid (lv_new w)
  have K1 := Lib.hid (fun (B g : Nat) (w1 : World) (h : Lv w B g [] w1) => (h.enter (ow := 2) (se := 3) (si := 1) (q := 10) (by omega) (by simp) : Calls Try.prog 8 #[.pointer (some ⟨g, 0, none⟩), .int .i64 2, .int .i64 3, .int .i64 1, .int .i64 10] w1 fun e w' => e = .returned (.tuple #[.int .i64 1, .int .i64 0]) ∧ Lv w B g [⟨10, 0, 0, 10, 2, 3, 1⟩] w'))
  have K2 := Lib.hid (fun (B g : Nat) (w1 : World) (h : Lv w B g [⟨10, 0, 0, 10, 2, 3, 1⟩] w1) => (h.fill (k := 0) (q := 4) rfl (by omega) (by dsimp only; omega) : Calls Try.prog 9 #[.pointer (some ⟨g, 0, none⟩), .int .i64 1, .int .i64 4] w1 fun e w' => e = .returned (.int .i64 0) ∧ Lv w B g [⟨10, 4, 0, 6, 2, 3, 1⟩] w'))
  have K3 := Lib.hid (fun (B g : Nat) (w1 : World) (h : Lv w B g [⟨10, 4, 0, 6, 2, 3, 1⟩] w1) => (h.canc (k := 0) (q := 6) rfl (by omega) (by dsimp only; omega) : Calls Try.prog 10 #[.pointer (some ⟨g, 0, none⟩), .int .i64 1, .int .i64 6] w1 fun e w' => e = .returned (.int .i64 0) ∧ Lv w B g [⟨10, 4, 6, 0, 2, 3, 1⟩] w'))
  have K4 := Lib.hid (fun (B g : Nat) (w1 : World) (h : Lv w B g [⟨10, 4, 6, 0, 2, 3, 1⟩] w1) => (h.fill_bad (k := 0) (q := 1) rfl (by decide) : Calls Try.prog 9 #[.pointer (some ⟨g, 0, none⟩), .int .i64 1, .int .i64 1] w1 fun e w' => e = .returned (.int .i64 1) ∧ w1 = w'))
  have K5 := Lib.hid (fun (B g : Nat) (w1 : World) (h : Lv w B g [⟨10, 4, 6, 0, 2, 3, 1⟩] w1) => (h.get (k := 0) rfl : Calls Try.prog 11 #[.pointer (some ⟨g, 0, none⟩), .int .i64 1] w1 fun e w' => e = .returned (.tuple #[entV ⟨10, 4, 6, 0, 2, 3, 1⟩, .bool true]) ∧ Lv w B g [⟨10, 4, 6, 0, 2, 3, 1⟩] w'))
  have K6 := Lib.hid (fun (B g : Nat) (w1 : World) (h : Lv w B g [⟨10, 4, 6, 0, 2, 3, 1⟩] w1) => (h.sum 3 1 : Calls Try.prog 13 #[.pointer (some ⟨g, 0, none⟩), .int .i64 3, .int .i64 1] w1 fun e w' => e = .returned (.int .i64 4) ∧ Lv w B g [⟨10, 4, 6, 0, 2, 3, 1⟩] w'))
  have K7 := Lib.hid (fun (B g : Nat) (w1 : World) (h : Lv w B g [⟨10, 4, 6, 0, 2, 3, 1⟩] w1) => (h.len : Calls Try.prog 14 #[.pointer (some ⟨g, 0, none⟩)] w1 fun e w' => e = .returned (.int .i64 1) ∧ w1 = w'))
  have K8 := Lib.hid (fun (B g : Nat) (w1 : World) (h : Lv w B g [⟨10, 4, 6, 0, 2, 3, 1⟩] w1) => h.isFair)
  have K9 := Lib.hid (fun (B g : Nat) (w1 : World) (h : Lv w B g [⟨10, 4, 6, 0, 2, 3, 1⟩] w1) => (((h.open_ 2).mono fun e w' ⟨⟨A, c, a, _⟩, b⟩ => ⟨⟨A, c, a⟩, b⟩) : Calls Try.prog 12 #[.pointer (some ⟨g, 0, none⟩), .int .i64 2] w1 fun e w' => (∃ A c, e = .returned (.slice A 0 c)) ∧ Lv w B g [⟨10, 4, 6, 0, 2, 3, 1⟩] w'))
  go_enter Try.func6, Try.ntmps6
  go_wp2_with (go_at_call 7; refine Hid.out ?_)
  refine Lib.hid ?_
  refine K0.out.mono ?_
  rintro _ w1 ⟨rfl, hA⟩
  have HA := Lib.hid hA
  obtain ⟨g, hg⟩ : ∃ g, w.heap.size = g := ⟨_, rfl⟩
  rw [hg] at HA ⊢
  have HG := Lib.hid hg
  clear hA K0 hg
  go_wp2_with (go_at_call 8; refine Hid.out ?_)
  refine Lib.hid ?_
  refine (K1.out _ g w1 HA.out).mono ?_
  rintro _ w2 ⟨rfl, hA⟩
  clear HA K1
  have HA := Lib.hid hA
  clear hA
  go_wp2_with (go_at_call 9; refine Hid.out ?_)
  refine Lib.hid ?_
  refine (K2.out _ g w2 HA.out).mono ?_
  rintro _ w3 ⟨rfl, hA⟩
  clear HA K2
  have HA := Lib.hid hA
  clear hA
  go_wp2_with (go_at_call 10; refine Hid.out ?_)
  refine Lib.hid ?_
  refine (K3.out _ g w3 HA.out).mono ?_
  rintro _ w4 ⟨rfl, hA⟩
  clear HA K3
  have HA := Lib.hid hA
  clear hA
  go_wp2_with (go_at_call 9; refine (K4.out _ g w4 HA.out).mono ?_; rintro _ _ ⟨rfl, rfl⟩)
  clear K4
  go_wp2_with (go_at_call 11; refine Hid.out ?_)
  refine Lib.hid ?_
  refine (K5.out _ g w4 HA.out).mono ?_
  rintro _ w5 ⟨rfl, hA⟩
  clear HA K5
  have HA := Lib.hid hA
  clear hA
  unfold entV
  go_wp2_with (go_at_call 13; refine Hid.out ?_)
  refine Lib.hid ?_
  refine (K6.out _ g _ (HA.out.carry (bel_new w5 _))).mono ?_
  rintro _ w6 ⟨rfl, hA⟩
  clear HA K6
  have HA := Lib.hid hA
  clear hA
  go_wp2_with ((first
    | (go_at_call 14; refine (K7.out _ g w6 HA.out).mono ?_; rintro _ _ ⟨rfl, rfl⟩)
    | (go_at_call 15; refine Hid.out ?_)))
  refine Lib.hid ?_
  refine (K8.out _ g w6 HA.out).mono ?_
  rintro _ w7 ⟨rfl, hA⟩
  clear HA K8 K7
  have HA := Lib.hid hA
  clear hA
  go_wp2_with (go_at_call 12; refine Hid.out ?_)
  refine Lib.hid ?_
  refine (K9.out _ g w7 HA.out).mono ?_
  rintro _ w8 ⟨⟨A, c, rfl⟩, hA⟩
  clear HA K9
  have HA := Lib.hid hA
  clear hA
  go_wp2_with fail
  go_ret
  exact ⟨rfl, by rw [HG.out]; exact HA.out.2⟩
end Go.Proofs.Ytfidihmiadjpjaa

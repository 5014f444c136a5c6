/- The contracts of a ledger's close, Fill, Cancel, Enter. -/
import Derived.Test.YtfidihmiadjpjaaLifMem
set_option linter.unusedSimpArgs false
namespace Go.Proofs.Ytfidihmiadjpjaa
open Go.RowKit Go.Mem1 Go.LifMath

/-- A ledger that is fair. -/
structure Led (w : World) (B g : Nat) (vE : Value) (L : List Ent) : Prop where
  at_ : LedAt w B g vE L
  fair : ∀ e ∈ L, FairE e
theorem Led.carry {w w' : World} {B g : Nat} {vE : Value} {L : List Ent} (h : Led w B g vE L) (hb : Below w.heap.size w w') : Led w' B g vE L := ⟨h.at_.carry hb, h.fair⟩
/-- What a writing call may turn. -/
def LedS (g : Nat) (vE : Value) (j : Nat) : Prop := j = g ∨ some j = vE.ownBlock
/-- What a writing call answers. -/
def Did (w : World) (B g : Nat) (vE : Value) (L' : List Ent) (r : Value) (e : Ending) (w' : World) : Prop :=
  e = .returned r ∧ ∃ vE', Led w' B g vE' L' ∧ Chg (LedS g vE) w w' ∧ ∀ k, vE'.ownBlock = some k → vE.ownBlock = some k ∨ w.heap.size ≤ k
section
variable {w : World} {B g : Nat} {vE : Value} {L : List Ent}
theorem close_bad_name (h : LedAt w B g vE L) {id : Int} (hid : hasB L.length id = false) (q : Int) : Calls Try.prog 17 #[.pointer (some ⟨g, 0, none⟩), .int .i64 id, .int .i64 q] w fun e w' => e = .returned (.tuple #[.pointer none, .int .i64 5]) ∧ w = w' := by
  have HH := Lib.hid (has_any h id)
  rw [hid] at HH
  clear h hid
  go_enter Try.func17, Try.ntmps17
  go_wp2_with (go_at_call 18; refine HH.out.mono ?_; rintro e w' ⟨rfl, rfl⟩)
  go_ret2
  exact ⟨rfl, rfl⟩
set_option maxHeartbeats 1000000 in
theorem close_bad_qty (h : LedAt w B g vE L) {k : Nat} {e : Ent} (hk : L[k]? = some e) {q : Int} (hq : (decide (1 ≤ q) && decide (q ≤ e.op)) = false) : Calls Try.prog 17 #[.pointer (some ⟨g, 0, none⟩), .int .i64 ((k : Int) + 1), .int .i64 q] w fun e w' => e = .returned (.tuple #[.pointer none, .int .i64 1]) ∧ w = w' := by
  have HH := Lib.hid (has_any h ((k : Int) + 1))
  rw [has_at (at_lt hk)] at HH
  have HI := Lib.hid (in_any q 1 e.op)
  rw [hq] at HI
  have c0 := h.c0
  obtain ⟨b, c, hv, hlt, hb, _, _, k0, k1, k2, k3, k4, k5, k6, _⟩ := h.ent hk
  rw [hv] at c0
  have hm := h.most
  obtain ⟨n, hn⟩ : ∃ n, L.length = n := ⟨_, rfl⟩
  rw [hn] at c0 hm hlt
  obtain ⟨op, hop⟩ : ∃ op, e.op = op := ⟨_, rfl⟩
  rw [hop] at k3 HI
  have i1 : (0 : Int) ≤ (k : Int) := by omega
  have i2 : (k : Int) < (n : Int) := by omega
  clear h hk hn hv hop hq k0 k1 k2 k4 k5 k6
  go_enter Try.func17, Try.ntmps17
  go_wp2_with ((first
    | (go_at_call 18; refine HH.out.mono ?_; rintro e w' ⟨rfl, rfl⟩)
    | (go_at_call 16; refine (HI.out _).mono ?_; rintro e w' ⟨rfl, rfl⟩)))
  go_ret2
  exact ⟨rfl, rfl⟩
/-- What close answers where all is well. -/
def Closed (w : World) (B g : Nat) (vE : Value) (L : List Ent) (k : Nat) (q : Int) (e : Ent) (r : Ending) (w' : World) : Prop :=
  ∃ b c, vE = .slice (some ⟨b, 0, none⟩) L.length c ∧ r = .returned (.tuple #[.pointer (some ⟨b, k * 7, none⟩), .int .i64 0]) ∧ LedAt w' B g vE (L.set k (lessE q e)) ∧ Chg (fun j => some j = vE.ownBlock) w w'
set_option maxHeartbeats 1000000 in
theorem close_ok (h : LedAt w B g vE L) {k : Nat} {e : Ent} (hk : L[k]? = some e) {q : Int} (h1 : 1 ≤ q) (h2 : q ≤ e.op) (h3 : e.op ≤ 1000000) : Calls Try.prog 17 #[.pointer (some ⟨g, 0, none⟩), .int .i64 ((k : Int) + 1), .int .i64 q] w (Closed w B g vE L k q e) := by
  have HH := Lib.hid (has_any h ((k : Int) + 1))
  rw [has_at (at_lt hk)] at HH
  have HI := Lib.hid (in_any q 1 e.op)
  rw [show (decide (1 ≤ q) && decide (q ≤ e.op)) = true by simp; omega] at HI
  have c0 := h.c0
  obtain ⟨b, c, hv, hlt, hb, _, _, k0, k1, k2, k3, k4, k5, k6, hfz⟩ := h.ent hk
  have f3 := hfz (k * 7 + 3)
  have HS := Lib.hid (h.store hv hk (lessE q e) 3 (.int .i64 (e.op - q)) (by omega) rfl)
  have HV := Lib.hid hv
  rw [hv] at c0
  have hm := h.most
  obtain ⟨n, hn⟩ : ∃ n, L.length = n := ⟨_, rfl⟩
  have HN := Lib.hid hn
  rw [hn] at c0 hm hlt
  obtain ⟨op, hop⟩ : ∃ op, e.op = op := ⟨_, rfl⟩
  rw [hop] at k3 HI HS h2 h3
  have i1 : (0 : Int) ≤ (k : Int) := by omega
  have i2 : (k : Int) < (n : Int) := by omega
  clear h hk hn hv hop k0 k1 k2 k4 k5 k6 hfz
  go_enter Try.func17, Try.ntmps17
  go_wp2_with ((first
    | (go_at_call 18; refine HH.out.mono ?_; rintro e w' ⟨rfl, rfl⟩)
    | (go_at_call 16; refine (HI.out _).mono ?_; rintro e w' ⟨rfl, rfl⟩)))
  go_ret2
  exact ⟨b, c, HV.out, rfl, HS.out.1, HS.out.2⟩
theorem fill_bad_name (h : LedAt w B g vE L) {id : Int} (hid : hasB L.length id = false) (q : Int) : Calls Try.prog 9 #[.pointer (some ⟨g, 0, none⟩), .int .i64 id, .int .i64 q] w fun e w' => e = .returned (.int .i64 5) ∧ w = w' := by
  have HH := Lib.hid (close_bad_name h hid q)
  clear h hid
  go_enter Try.func9, Try.ntmps9
  go_wp2_with (go_at_call 17; refine HH.out.mono ?_; rintro e w' ⟨rfl, rfl⟩)
  go_ret
  exact ⟨rfl, rfl⟩
theorem fill_bad_qty (h : LedAt w B g vE L) {k : Nat} {e : Ent} (hk : L[k]? = some e) {q : Int} (hq : (decide (1 ≤ q) && decide (q ≤ e.op)) = false) : Calls Try.prog 9 #[.pointer (some ⟨g, 0, none⟩), .int .i64 ((k : Int) + 1), .int .i64 q] w fun e w' => e = .returned (.int .i64 1) ∧ w = w' := by
  have HH := Lib.hid (close_bad_qty h hk hq)
  clear h hk hq
  go_enter Try.func9, Try.ntmps9
  go_wp2_with (go_at_call 17; refine HH.out.mono ?_; rintro e w' ⟨rfl, rfl⟩)
  go_ret
  exact ⟨rfl, rfl⟩
set_option maxHeartbeats 1000000 in
theorem fill_ok (h : Led w B g vE L) {k : Nat} {e : Ent} (hk : L[k]? = some e) {q : Int} (h1 : 1 ≤ q) (h2 : q ≤ e.op) : Calls Try.prog 9 #[.pointer (some ⟨g, 0, none⟩), .int .i64 ((k : Int) + 1), .int .i64 q] w (Did w B g vE (L.set k (fillE q e)) (.int .i64 0)) := by
  have hF := h.fair e (List.mem_of_getElem? hk)
  have hF2 := fair_fill hF ⟨h1, h2⟩
  have hF3 := Lib.hid (fair_set (k := k) h.fair hF2)
  obtain ⟨s1, s2, s3, s4, s5⟩ := hF
  have HH := Lib.hid (close_ok h.at_ hk h1 h2 (by omega))
  have hkl := at_lt hk
  clear hF2
  have r0 : 0 ≤ e.fi := by omega
  have r1 : e.fi + q ≤ 1000000 := by omega
  clear h hk s1 s2 s3 s4 s5 h2
  go_enter Try.func9, Try.ntmps9
  go_wp2_with (go_at_call 17; refine Hid.out ?_)
  refine Lib.hid ?_
  refine HH.out.mono ?_
  rintro _ w1 ⟨b, c, hv, rfl, hA, hC⟩
  have hk1 : (L.set k (lessE q e))[k]? = some (lessE q e) := by simp [hkl]
  obtain ⟨b', c', hv', hlt, hb, _, _, k0, k1, k2, k3, k4, k5, k6, hfz⟩ := hA.ent hk1
  obtain rfl : b' = b := by rw [hv'] at hv; injection hv with hv; injection hv with hv; injection hv
  have fz := hfz (k * 7 + 1)
  obtain ⟨hA2, hC2⟩ := hA.store hv' hk1 (fillE q e) 1 (.int .i64 (e.fi + q)) (by omega) rfl
  rw [List.set_set] at hA2
  have HEND : Hid (∃ vE', Led (w1.setCell ⟨b', k * 7 + 1, none⟩ (.int .i64 (e.fi + q))) B g vE' (L.set k (fillE q e)) ∧ Chg (LedS g vE) w (w1.setCell ⟨b', k * 7 + 1, none⟩ (.int .i64 (e.fi + q))) ∧ ∀ k, vE'.ownBlock = some k → vE.ownBlock = some k ∨ w.heap.size ≤ k) :=
    Lib.hid ⟨vE, ⟨hA2, hF3.out⟩, hC.trans hC2 (fun _ _ e => .inr e) (fun _ _ e => .inr e), fun k hk => .inl hk⟩
  dsimp only [lessE] at k1 k2
  obtain ⟨x, hx⟩ : ∃ x, e.fi = x := ⟨_, rfl⟩
  rw [hx] at k1 r0 r1 HEND
  clear hA hC hk1 hv hv' hA2 hC2 k0 k2 k3 k4 k5 k6 hfz HH hx
  go_wp2_with fail
  go_ret
  exact ⟨rfl, HEND.out⟩
theorem canc_bad_name (h : LedAt w B g vE L) {id : Int} (hid : hasB L.length id = false) (q : Int) : Calls Try.prog 10 #[.pointer (some ⟨g, 0, none⟩), .int .i64 id, .int .i64 q] w fun e w' => e = .returned (.int .i64 5) ∧ w = w' := by
  have HH := Lib.hid (close_bad_name h hid q)
  clear h hid
  go_enter Try.func10, Try.ntmps10
  go_wp2_with (go_at_call 17; refine HH.out.mono ?_; rintro e w' ⟨rfl, rfl⟩)
  go_ret
  exact ⟨rfl, rfl⟩
theorem canc_bad_qty (h : LedAt w B g vE L) {k : Nat} {e : Ent} (hk : L[k]? = some e) {q : Int} (hq : (decide (1 ≤ q) && decide (q ≤ e.op)) = false) : Calls Try.prog 10 #[.pointer (some ⟨g, 0, none⟩), .int .i64 ((k : Int) + 1), .int .i64 q] w fun e w' => e = .returned (.int .i64 1) ∧ w = w' := by
  have HH := Lib.hid (close_bad_qty h hk hq)
  clear h hk hq
  go_enter Try.func10, Try.ntmps10
  go_wp2_with (go_at_call 17; refine HH.out.mono ?_; rintro e w' ⟨rfl, rfl⟩)
  go_ret
  exact ⟨rfl, rfl⟩
set_option maxHeartbeats 1000000 in
theorem canc_ok (h : Led w B g vE L) {k : Nat} {e : Ent} (hk : L[k]? = some e) {q : Int} (h1 : 1 ≤ q) (h2 : q ≤ e.op) : Calls Try.prog 10 #[.pointer (some ⟨g, 0, none⟩), .int .i64 ((k : Int) + 1), .int .i64 q] w (Did w B g vE (L.set k (cancE q e)) (.int .i64 0)) := by
  have hF := h.fair e (List.mem_of_getElem? hk)
  have hF2 := fair_canc hF ⟨h1, h2⟩
  have hF3 := Lib.hid (fair_set (k := k) h.fair hF2)
  obtain ⟨s1, s2, s3, s4, s5⟩ := hF
  have HH := Lib.hid (close_ok h.at_ hk h1 h2 (by omega))
  have hkl := at_lt hk
  clear hF2
  have r0 : 0 ≤ e.ca := by omega
  have r1 : e.ca + q ≤ 1000000 := by omega
  clear h hk s1 s2 s3 s4 s5 h2
  go_enter Try.func10, Try.ntmps10
  go_wp2_with (go_at_call 17; refine Hid.out ?_)
  refine Lib.hid ?_
  refine HH.out.mono ?_
  rintro _ w1 ⟨b, c, hv, rfl, hA, hC⟩
  have hk1 : (L.set k (lessE q e))[k]? = some (lessE q e) := by simp [hkl]
  obtain ⟨b', c', hv', hlt, hb, _, _, k0, k1, k2, k3, k4, k5, k6, hfz⟩ := hA.ent hk1
  obtain rfl : b' = b := by rw [hv'] at hv; injection hv with hv; injection hv with hv; injection hv
  have fz := hfz (k * 7 + 2)
  obtain ⟨hA2, hC2⟩ := hA.store hv' hk1 (cancE q e) 2 (.int .i64 (e.ca + q)) (by omega) rfl
  rw [List.set_set] at hA2
  have HEND : Hid (∃ vE', Led (w1.setCell ⟨b', k * 7 + 2, none⟩ (.int .i64 (e.ca + q))) B g vE' (L.set k (cancE q e)) ∧ Chg (LedS g vE) w (w1.setCell ⟨b', k * 7 + 2, none⟩ (.int .i64 (e.ca + q))) ∧ ∀ k, vE'.ownBlock = some k → vE.ownBlock = some k ∨ w.heap.size ≤ k) :=
    Lib.hid ⟨vE, ⟨hA2, hF3.out⟩, hC.trans hC2 (fun _ _ e => .inr e) (fun _ _ e => .inr e), fun k hk => .inl hk⟩
  dsimp only [lessE] at k1 k2
  obtain ⟨x, hx⟩ : ∃ x, e.ca = x := ⟨_, rfl⟩
  rw [hx] at k2 r0 r1 HEND
  clear hA hC hk1 hv hv' hA2 hC2 k0 k1 k3 k4 k5 k6 hfz HH hx
  go_wp2_with fail
  go_ret
  exact ⟨rfl, HEND.out⟩
end
end Go.Proofs.Ytfidihmiadjpjaa

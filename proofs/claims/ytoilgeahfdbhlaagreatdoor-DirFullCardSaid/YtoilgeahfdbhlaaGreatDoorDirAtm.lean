/- Contracts of the directory's at, State, fault, Table, Grid. -/
import Derived.Test.YtoilgeahfdbhlaaGreatDoorDirFind
set_option linter.unusedSimpArgs false
namespace Go.Proofs.YtoilgeahfdbhlaaGreatDoor
open Go.RowKit Go.Mem1 Go.GridMath Go.DirMath

/-- What is listed by a number. -/
def lookL (L : List Lst) (id : Int) : Option Lst := if 1 ≤ id ∧ id ≤ L.length then L[(id - 1).toNat]? else none
def noLst : Lst := (⟨⟨#[]⟩, 0, 0, 0⟩, 0)
/-- What at answers. -/
def atL (L : List Lst) (id : Int) : Lst := (lookL L id).getD noLst
def AtAns (L : List Lst) (id : Int) (w : World) (e : Ending) (w' : World) : Prop := e = .returned (.tuple #[.agg (lst1 (atL L id)).toArray, .bool (lookL L id).isSome]) ∧ Below w.heap.size w w'
theorem lookL_none {L : List Lst} {id : Int} (h : ¬ (1 ≤ id ∧ id ≤ L.length)) : lookL L id = none := if_neg h
theorem lookL_some {L : List Lst} {k : Nat} {x : Lst} (h : L[k]? = some x) : lookL L ((k : Int) + 1) = some x := by
  have hk : k < L.length := by
    rcases Nat.lt_or_ge k L.length with h' | h'
    · exact h'
    · rw [List.getElem?_eq_none h'] at h; cases h
  unfold lookL
  rw [if_pos (by omega), show ((k : Int) + 1 - 1).toNat = k by omega, h]
theorem AtAns.none {L : List Lst} {id : Int} {w w' : World} (h : ¬ (1 ≤ id ∧ id ≤ L.length)) (hb : Below w.heap.size w w') : AtAns L id w (.returned (.tuple #[.agg #[.string ⟨#[]⟩, .int .i64 0, .int .i64 0, .int .i64 0, .int .i64 0], .bool false])) w' := by
  unfold AtAns atL; rw [lookL_none h]; exact ⟨rfl, hb⟩
theorem AtAns.some {L : List Lst} {k : Nat} {x : Lst} {w w' : World} (h : L[k]? = some x) (hb : Below w.heap.size w w') : AtAns L ((k : Int) + 1) w (.returned (.tuple #[.agg #[.string x.1.cls, .int .i64 x.1.ex, .int .i64 x.1.st, .int .i64 x.1.rt, .int .i64 x.2], .bool true])) w' := by
  unfold AtAns atL; rw [lookL_some h]; exact ⟨rfl, hb⟩
set_option maxHeartbeats 1000000 in
theorem lat_none {w : World} {B g : Nat} {vC vL : Value} {cs : List Cl} {L : List Lst} {day : Int} (h : DirAt w B g vC vL cs L day) (id : Int) (hid : ¬ (1 ≤ id ∧ id ≤ L.length)) :
    Calls Tryz.prog 46 #[.pointer (some ⟨g, 0, none⟩), .int .i64 id] w (AtAns L id w) := by
  have HA := Lib.hid (fun w' (hb : Below w.heap.size w w') => AtAns.none (L := L) (id := id) hid hb)
  have hm := h.mostL
  obtain ⟨A, c, hv⟩ := h.formL
  have c1 := h.c1
  rw [hv] at c1
  have hg := h.there
  obtain ⟨n, hn⟩ : ∃ n, L.length = n := ⟨_, rfl⟩
  rw [hn] at c1 hm hid
  have HN := Lib.hid hn
  clear h hv hn
  have c2 : ∀ o, (w.alloc o).cell? ⟨g, 1, none⟩ = some (.slice A n c) := fun o => ((bel_new w o).cell (p := ⟨g, 1, none⟩) hg).trans c1
  by_cases h1 : id < 1
  · have t1 : decide (id < 1) = true := by simpa using h1
    clear hid h1
    go_enter Tryz.func46, Tryz.ntmps46
    go_wp2_with fail
    refine bodyPost_ret (v := .tuple #[.agg #[.string ⟨#[]⟩, .int .i64 0, .int .i64 0, .int .i64 0, .int .i64 0], .bool false]) (by simp [results, Tryz.results46, go_sem]) rfl (HA.out _ ?_)
    exact bel_new _ _
  · have t1 : decide (id < 1) = false := by simpa using h1
    have t2 : decide ((n : Int) < id) = true := by simp; omega
    clear hid h1
    go_enter Tryz.func46, Tryz.ntmps46
    go_wp2_with fail
    refine bodyPost_ret (v := .tuple #[.agg #[.string ⟨#[]⟩, .int .i64 0, .int .i64 0, .int .i64 0, .int .i64 0], .bool false]) (by simp [results, Tryz.results46, go_sem]) rfl (HA.out _ ?_)
    exact bel_new _ _
set_option maxHeartbeats 1000000 in
theorem lat_some {w : World} {B g : Nat} {vC vL : Value} {cs : List Cl} {L : List Lst} {day : Int} (h : DirAt w B g vC vL cs L day) (k : Nat) (x : Lst) (hx : L[k]? = some x) :
    Calls Tryz.prog 46 #[.pointer (some ⟨g, 0, none⟩), .int .i64 ((k : Int) + 1)] w (AtAns L ((k : Int) + 1) w) := by
  have HA := Lib.hid (fun w' (hb : Below w.heap.size w w') => AtAns.some (L := L) (k := k) hx hb)
  have hm := h.mostL
  have hk : k < L.length := by
    rcases Nat.lt_or_ge k L.length with h' | h'
    · exact h'
    · rw [List.getElem?_eq_none h'] at hx; cases hx
  obtain ⟨b, c, hv, hb, _, k0, k1, k2, k3, k4⟩ := h.lst hx
  have c1 := h.c1
  rw [hv] at c1
  have hg := h.there
  obtain ⟨n, hn⟩ : ∃ n, L.length = n := ⟨_, rfl⟩
  rw [hn] at c1 hm hk
  have c2 : ∀ o, (w.alloc o).cell? ⟨g, 1, none⟩ = some (.slice (some ⟨b, 0, none⟩) n c) := fun o => ((bel_new w o).cell (p := ⟨g, 1, none⟩) hg).trans c1
  have d0 : ∀ o, (w.alloc o).cell? ⟨b, k * 5, none⟩ = some (.string x.1.cls) := fun o => ((bel_new w o).cell (p := ⟨b, _, none⟩) hb).trans k0
  have d1 : ∀ o, (w.alloc o).cell? ⟨b, k * 5 + 1, none⟩ = some (.int .i64 x.1.ex) := fun o => ((bel_new w o).cell (p := ⟨b, _, none⟩) hb).trans k1
  have d2 : ∀ o, (w.alloc o).cell? ⟨b, k * 5 + 2, none⟩ = some (.int .i64 x.1.st) := fun o => ((bel_new w o).cell (p := ⟨b, _, none⟩) hb).trans k2
  have d3 : ∀ o, (w.alloc o).cell? ⟨b, k * 5 + 3, none⟩ = some (.int .i64 x.1.rt) := fun o => ((bel_new w o).cell (p := ⟨b, _, none⟩) hb).trans k3
  have d4 : ∀ o, (w.alloc o).cell? ⟨b, k * 5 + 4, none⟩ = some (.int .i64 x.2) := fun o => ((bel_new w o).cell (p := ⟨b, _, none⟩) hb).trans k4
  have t1 : decide ((k : Int) + 1 < 1) = false := by simp; omega
  have t2 : decide ((n : Int) < (k : Int) + 1) = false := by simp; omega
  obtain ⟨⟨xc, xe, xs, xr⟩, xst⟩ := x
  dsimp only at d0 d1 d2 d3 d4 HA
  clear h hv hn hx k0 k1 k2 k3 k4 c1
  go_enter Tryz.func46, Tryz.ntmps46
  go_wp2_with fail
  refine bodyPost_ret (v := .tuple #[.agg #[.string xc, .int .i64 xe, .int .i64 xs, .int .i64 xr, .int .i64 xst], .bool true]) (by simp [results, Tryz.results46, go_sem]) rfl (HA.out _ ?_)
  exact bel_new _ _
theorem lat_any {w : World} {B g : Nat} {vC vL : Value} {cs : List Cl} {L : List Lst} {day : Int} (h : DirAt w B g vC vL cs L day) (id : Int) :
    Calls Tryz.prog 46 #[.pointer (some ⟨g, 0, none⟩), .int .i64 id] w (AtAns L id w) := by
  by_cases hid : 1 ≤ id ∧ id ≤ L.length
  · obtain ⟨k, rfl⟩ : ∃ k : Nat, id = (k : Int) + 1 := ⟨(id - 1).toNat, by omega⟩
    have hk : k < L.length := by omega
    exact lat_some h k L[k] (List.getElem?_eq_getElem hk)
  · exact lat_none h id hid
set_option maxHeartbeats 1000000 in
theorem state_any {w : World} {B g : Nat} {vC vL : Value} {cs : List Cl} {L : List Lst} {day : Int} (h : DirAt w B g vC vL cs L day) (id : Int) :
    Calls Tryz.prog 23 #[.pointer (some ⟨g, 0, none⟩), .int .i64 id] w fun e w' => e = .returned (.int .i64 (atL L id).2) ∧ Below w.heap.size w w' := by
  have HA := Lib.hid (lat_any h id)
  obtain ⟨X, hX⟩ : ∃ X, atL L id = X := ⟨_, rfl⟩
  obtain ⟨ok, hok⟩ : ∃ ok, (lookL L id).isSome = ok := ⟨_, rfl⟩
  unfold AtAns at HA
  rw [hX, hok] at HA
  rw [hX]
  obtain ⟨⟨xc, xe, xs, xr⟩, xst⟩ := X
  have HA2 : Hid (Calls Tryz.prog 46 #[.pointer (some ⟨g, 0, none⟩), .int .i64 id] w fun e w' => e = .returned (.tuple #[.agg #[.string xc, .int .i64 xe, .int .i64 xs, .int .i64 xr, .int .i64 xst], .bool ok]) ∧ Below w.heap.size w w') := HA
  clear h hX hok HA
  go_enter Tryz.func23, Tryz.ntmps23
  go_wp2_with (go_at_call 46; refine HA2.out.mono ?_; rintro e w' ⟨rfl, hb⟩; replace hb := Lib.hid hb)
  go_ret
  exact ⟨rfl, hb.out.alloc hb.out.size _⟩
/-- A Fault of the directory's: a part at a number. -/
theorem dfault_any (s : ByteArray) (k x : Int) (w : World) :
    Calls Tryz.prog 36 #[.string s, .int .i64 k, .iface 83 (.int .i64 x)] w fun e w' => e = .returned (.iface 84 (.pointer (some ⟨w.heap.size, 0, none⟩))) ∧ w' = w.alloc (.cells #[.string s, .int .i64 k, .iface 83 (.int .i64 x)] 88) := by
  go_enter Tryz.func36, Tryz.ntmps36
  go_wp2_with fail
  go_ret
  exact ⟨rfl, rfl⟩
theorem sclone_any (s : ByteArray) (w : World) (hs : s.size ≤ 1000000) :
    Calls Tryz.prog 37 #[.string s] w fun e w' => e = .returned (.string s) ∧ Below w.heap.size w w' := by
  have HC := Lib.hid (fun w' => Any.stringslite_Clone Tryz.scloneL s w' (by omega))
  clear hs
  go_enter Tryz.func37, Tryz.ntmps37
  go_wp2_with (go_at_call 68; refine (HC.out _).mono ?_; rintro e w' ⟨rfl, hb⟩; replace hb := Lib.hid hb)
  go_ret
  exact ⟨rfl, hb.out⟩
end Go.Proofs.YtoilgeahfdbhlaaGreatDoor

/- A directory in memory. -/
import Derived.Test.YtoilgeahfdbhlaaGreatDoorGrdCells
import Derived.Test.YtoilgeahfdbhlaaGreatDoorDirChk
import Derived.Test.YtoilgeahfdbhlaaGreatDoorStepAt
import Derived.Test.YtoilgeahfdbhlaaGreatDoorKit
set_option linter.unusedSimpArgs false
namespace Go.Proofs.YtoilgeahfdbhlaaGreatDoor
open Go.RowKit Go.Mem1 Go.GridMath Go.DirMath

/-- What is listed, as cells. -/
def lst1 (x : Lst) : List Value := [.string x.1.cls, .int .i64 x.1.ex, .int .i64 x.1.st, .int .i64 x.1.rt, .int .i64 x.2]
theorem lst1_len (x : Lst) : (lst1 x).length = 5 := rfl
/-- A class in memory: its name, its prices' slice, its prices. -/
abbrev Cl := ByteArray × Value × List Stp
def cls1 (c : Cl) : List Value := [.string c.1, c.2.1]
theorem cls1_len (c : Cl) : (cls1 c).length = 2 := rfl
def lookC : List Cl → ByteArray → Option Cl
  | [], _ => none
  | c :: l, name => if c.1.toList == name.toList then some c else lookC l name
theorem lookC_skip : ∀ (l r : List Cl) (name : ByteArray), (∀ c ∈ l, (c.1.toList == name.toList) = false) → lookC (l ++ r) name = lookC r name
  | [], _, _, _ => rfl
  | c :: l, r, name, h => by
    show (if c.1.toList == name.toList then some c else lookC (l ++ r) name) = _
    rw [h c (List.mem_cons_self ..)]
    exact lookC_skip l r name (fun x hx => h x (List.mem_cons_of_mem _ hx))
theorem lookC_hit {l : List Cl} {name : ByteArray} {k : Nat} {c : Cl} (hc : l[k]? = some c) (he : (c.1.toList == name.toList) = true) (h : ∀ j < k, ∀ x : Cl, l[j]? = some x → (x.1.toList == name.toList) = false) : lookC l name = some c := by
  have hk : k < l.length := by
    rcases Nat.lt_or_ge k l.length with h | h
    · exact h
    · rw [List.getElem?_eq_none h] at hc; cases hc
  rw [← List.take_append_drop k l, lookC_skip]
  · rw [List.drop_eq_getElem_cons hk]
    rw [List.getElem?_eq_getElem hk] at hc
    injection hc with hc
    rw [hc]
    show (if c.1.toList == name.toList then some c else _) = _
    rw [if_pos he]
  · intro x hx
    obtain ⟨j, hj, e⟩ := List.mem_iff_getElem.1 hx
    rw [List.length_take] at hj
    rw [List.getElem_take] at e
    exact h j (by omega) x (by rw [← e]; exact List.getElem?_eq_getElem _)
theorem lookC_none {l : List Cl} {name : ByteArray} (h : ∀ (j : Nat) (x : Cl), l[j]? = some x → (x.1.toList == name.toList) = false) : lookC l name = none := by
  have := lookC_skip l [] name (fun c hc => by
    obtain ⟨j, hj, e⟩ := List.mem_iff_getElem.1 hc
    exact h j c (by rw [← e]; exact List.getElem?_eq_getElem _))
  rw [List.append_nil] at this
  exact this
theorem lookC_mem : ∀ {l : List Cl} {name : ByteArray} {c : Cl}, lookC l name = some c → c ∈ l
  | [], _, _, h => by cases h
  | x :: l, name, c, h => by
    unfold lookC at h
    split at h
    · injection h with h; subst h; exact List.mem_cons_self ..
    · exact List.mem_cons_of_mem _ (lookC_mem h)
/-- What a look-up answers, as a slice. -/
def lookV (o : Option Cl) : Value := match o with
  | none => .slice none 0 0
  | some c => c.2.1
/-- A directory: its block, its two rows, its classes. -/
structure DirAt (w : World) (B g : Nat) (vC vL : Value) (cs : List Cl) (L : List Lst) (day : Int) : Prop where
  box : Box w g 79 #[vC, vL, .int .i64 day]
  low : B ≤ g
  rowC : w.ownsRow B 95 2 vC cs.length (cs.flatMap cls1)
  rowL : w.ownsRow B 104 5 vL L.length (L.flatMap lst1)
  tabs : ∀ c ∈ cs, w.ownsRow B 74 2 c.2.1 c.2.2.length (stepCells c.2.2) ∧ chk c.2.2 = none
  mostC : cs.length ≤ 16
  mostL : L.length ≤ 64
section
variable {w w' : World} {B g : Nat} {vC vL : Value} {cs : List Cl} {L : List Lst} {day : Int}
theorem DirAt.carry (h : DirAt w B g vC vL cs L day) (hb : Below w.heap.size w w') : DirAt w' B g vC vL cs L day :=
  ⟨h.box.kept_below hb h.box.there, h.low, own_keep h.rowC hb, own_keep h.rowL hb, fun c hc => ⟨own_keep (h.tabs c hc).1 hb, (h.tabs c hc).2⟩, h.mostC, h.mostL⟩
theorem DirAt.base (h : DirAt w B g vC vL cs L day) : B < w.heap.size := Nat.lt_of_le_of_lt h.low h.box.there
theorem DirAt.there (h : DirAt w B g vC vL cs L day) : g < w.heap.size := h.box.there
theorem DirAt.c0 (h : DirAt w B g vC vL cs L day) : w.cell? ⟨g, 0, none⟩ = some vC := h.box.reads 0
theorem DirAt.c1 (h : DirAt w B g vC vL cs L day) : w.cell? ⟨g, 1, none⟩ = some vL := h.box.reads 1
theorem DirAt.c2 (h : DirAt w B g vC vL cs L day) : w.cell? ⟨g, 2, none⟩ = some (.int .i64 day) := h.box.reads 2
theorem DirAt.formC (h : DirAt w B g vC vL cs L day) : ∃ A c, vC = .slice A cs.length c := own_slice h.rowC
theorem DirAt.formL (h : DirAt w B g vC vL cs L day) : ∃ A c, vL = .slice A L.length c := own_slice h.rowL
/-- A class's cells. -/
theorem DirAt.cls (h : DirAt w B g vC vL cs L day) {k : Nat} {x : Cl} (hk : cs[k]? = some x) : ∃ b c, vC = .slice (some ⟨b, 0, none⟩) cs.length c ∧ b < w.heap.size ∧ B ≤ b ∧ w.cell? ⟨b, k * 2, none⟩ = some (.string x.1) ∧ w.cell? ⟨b, k * 2 + 1, none⟩ = some x.2.1 := by
  have hl : k < cs.length := by
    rcases Nat.lt_or_ge k cs.length with h | h
    · exact h
    · rw [List.getElem?_eq_none h] at hk; cases hk
  rcases own_form h.rowC with ⟨_, h0⟩ | ⟨b, c, rfl, hb, hlt, _⟩
  · omega
  · exact ⟨b, c, rfl, hlt, hb, own_cell h.rowC (flat_at cls1_len hk (i := 0) rfl), own_cell h.rowC (flat_at cls1_len hk (i := 1) rfl)⟩
/-- The cells of what is listed. -/
theorem DirAt.lst (h : DirAt w B g vC vL cs L day) {k : Nat} {x : Lst} (hk : L[k]? = some x) : ∃ b c, vL = .slice (some ⟨b, 0, none⟩) L.length c ∧ b < w.heap.size ∧ B ≤ b ∧
    w.cell? ⟨b, k * 5, none⟩ = some (.string x.1.cls) ∧ w.cell? ⟨b, k * 5 + 1, none⟩ = some (.int .i64 x.1.ex) ∧ w.cell? ⟨b, k * 5 + 2, none⟩ = some (.int .i64 x.1.st) ∧ w.cell? ⟨b, k * 5 + 3, none⟩ = some (.int .i64 x.1.rt) ∧ w.cell? ⟨b, k * 5 + 4, none⟩ = some (.int .i64 x.2) := by
  have hl : k < L.length := by
    rcases Nat.lt_or_ge k L.length with h | h
    · exact h
    · rw [List.getElem?_eq_none h] at hk; cases hk
  rcases own_form h.rowL with ⟨_, h0⟩ | ⟨b, c, rfl, hb, hlt, _⟩
  · omega
  · exact ⟨b, c, rfl, hlt, hb, own_cell h.rowL (flat_at lst1_len hk (i := 0) rfl), own_cell h.rowL (flat_at lst1_len hk (i := 1) rfl), own_cell h.rowL (flat_at lst1_len hk (i := 2) rfl), own_cell h.rowL (flat_at lst1_len hk (i := 3) rfl), own_cell h.rowL (flat_at lst1_len hk (i := 4) rfl)⟩
end
/-- New: nothing in it. -/
theorem new_any (w : World) : Calls Tryz.prog 6 #[] w fun e w' => e = .returned (.pointer (some ⟨w.heap.size, 0, none⟩)) ∧ DirAt w' w.heap.size w.heap.size (.slice none 0 0) (.slice none 0 0) [] [] 0 ∧ Below w.heap.size w w' := by
  go_enter Tryz.func6, Tryz.ntmps6
  go_wp2_with fail
  go_ret
  exact ⟨rfl, ⟨Box.fresh w _ _ rfl, Nat.le_refl _, World.ownsRow_nil _ _ _ _, World.ownsRow_nil _ _ _ _, (fun c hc => by cases hc), by simp, by simp⟩, bel_new _ _⟩
set_option maxRecDepth 100000 in
set_option maxHeartbeats 1000000 in
theorem table_any {w : World} {B g : Nat} {vC vL : Value} {cs : List Cl} {L : List Lst} {day : Int} (h : DirAt w B g vC vL cs L day) (name : ByteArray) :
    Calls Tryz.prog 52 #[.pointer (some ⟨g, 0, none⟩), .string name] w fun e w' => e = .returned (.tuple #[lookV (lookC cs name), .bool (lookC cs name).isSome]) ∧ Below w.heap.size w w' := by
  obtain ⟨A, c, hv⟩ := h.formC
  have c0 := h.c0
  have hg := h.there
  have hm := h.mostC
  rw [hv] at c0
  have H := Lib.hid h
  have HV := Lib.hid hv
  obtain ⟨n, hn⟩ : ∃ n, cs.length = n := ⟨_, rfl⟩
  rw [hn] at c0 hm
  have HN := Lib.hid hn
  obtain ⟨R, hR⟩ : ∃ R, lookC cs name = R := ⟨_, rfl⟩
  rw [hR]
  have HR := Lib.hid hR
  clear h hv hn hR
  go_enter Tryz.func52, Tryz.ntmps52
  go_wp2_with fail
  go_loopw [13] (fun v13 wr => ∃ k : Nat, k ≤ n ∧ v13 = .int .i64 k ∧ Hid (∀ j < k, ∀ x : Cl, cs[j]? = some x → (x.1.toList == name.toList) = false) ∧ Hid (Below w.heap.size w wr)) (fun v13 _ => n - (intOf v13).toNat)
  case atStart => exact ⟨0, by omega, rfl, Lib.hid (fun j hj => absurd hj (Nat.not_lt_zero _)), Lib.hid (Below.refl _ _)⟩
  case round =>
    obtain ⟨k, hk, rfl, hq, hB⟩ := hrel
    by_cases hlt : k < n
    · obtain ⟨x, hx⟩ : ∃ x, cs[k]? = some x := ⟨_, List.getElem?_eq_getElem (by rw [HN.out]; exact hlt)⟩
      obtain ⟨b, c', e1, hb, _, k0, k1⟩ := H.out.cls hx
      rw [HV.out] at e1
      injection e1 with e1 _ e2
      subst e1; subst e2
      have d0 := (hB.out.cell (p := ⟨b, k * 2, none⟩) hb).trans k0
      have d1 := (hB.out.cell (p := ⟨b, k * 2 + 1, none⟩) hb).trans k1
      have hbr : b ≠ wr.heap.size := by have := hB.out.size; omega
      clear k0 k1
      obtain ⟨xA, xc', hxv⟩ := own_slice (H.out.tabs x (List.mem_of_getElem? hx)).1
      obtain ⟨xm, hxm⟩ : ∃ m, x.2.2.length = m := ⟨_, rfl⟩
      rw [hxm] at hxv
      clear hxm
      have HX := Lib.hid hx
      clear hx
      obtain ⟨D, hD⟩ : ∃ D, (x.1.toList == name.toList) = D := ⟨_, rfl⟩
      have HD := Lib.hid hD
      cases D with
      | true =>
        have hD2 : x.1.toList = name.toList := by simpa using hD
        have HL := Lib.hid (lookC_hit HX.out HD.out hq.out)
        obtain ⟨xc, xv, xt⟩ := x
        dsimp only at d0 d1 hD hD2 hxv
        subst hxv
        clear hD2
        go_wp2_with fail
        refine bodyPost_ret (v := .tuple #[.slice xA xm xc', .bool true]) (by simp [results, Tryz.results52, go_sem]) rfl ⟨?_, hB.out.alloc hB.out.size _⟩
        rw [← HR.out, HL.out]; rfl
      | false =>
        have hD2 : ¬ x.1.toList = name.toList := by simpa using hD
        obtain ⟨xc, xv, xt⟩ := x
        dsimp only at d0 d1 hD hD2 hxv
        subst hxv
        clear hD2
        go_wp2_with fail
        go_roundw
        case rel => exact ⟨k + 1, by omega, by go_num, Lib.hid (fun j hj y hy => by
          rcases Nat.lt_or_ge j k with h | h
          · exact hq.out j h y hy
          · obtain rfl : j = k := by omega
            rw [HX.out] at hy
            injection hy with hy
            rw [← hy]
            exact HD.out), Lib.hid (hB.out.alloc hB.out.size _)⟩
        case measure => simp [intOf]; omega
    · obtain rfl : k = n := by omega
      have HL := Lib.hid (lookC_none (l := cs) (name := name) (fun j x hx => by
        have hj : j < cs.length := by
          rcases Nat.lt_or_ge j cs.length with h | h
          · exact h
          · rw [List.getElem?_eq_none h] at hx; cases hx
        exact hq.out j (by rw [← HN.out]; exact hj) x hx))
      go_wp2_with fail
      refine bodyPost_ret (v := .tuple #[.slice none 0 0, .bool false]) (by simp [results, Tryz.results52, go_sem]) rfl ⟨?_, hB.out⟩
      rw [← HR.out, HL.out]; rfl
end Go.Proofs.YtoilgeahfdbhlaaGreatDoor

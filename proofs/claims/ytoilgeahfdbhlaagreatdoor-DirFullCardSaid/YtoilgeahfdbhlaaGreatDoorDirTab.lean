/- Contracts of slices.Clone of a table, of the directory's Table and Grid. -/
import Derived.Test.YtoilgeahfdbhlaaGreatDoorDirAtm
set_option linter.unusedSimpArgs false
namespace Go.Proofs.YtoilgeahfdbhlaaGreatDoor
open Go.RowKit Go.Mem1 Go.GridMath Go.DirMath

theorem step_info : (Tryz.prog.info? 74).map (fun i => (i.zero, i.size, i.bytes)) = some (some (.agg #[.int .i64 0, .int .i64 0]), 2, 16) := by kernel_rfl
theorem step_one (l : List Stp) : ∀ u ∈ stepCells l, u.oneCell' = true := by
  intro u hu
  unfold stepCells at hu
  obtain ⟨s, _, h⟩ := List.mem_flatMap.1 hu
  simp at h
  rcases h with rfl | rfl <;> rfl
theorem TabAt.flat {w : World} {B b off n : Nat} {l : List Stp} (h : TabAt w B (some ⟨b, off, none⟩) n l) : ∀ j u, (stepCells l)[j]? = some u → w.cell? ⟨b, off + j, none⟩ = some u := by
  intro j u hu
  have hj : j < (stepCells l).length := by
    rcases Nat.lt_or_ge j (stepCells l).length with h | h
    · exact h
    · rw [List.getElem?_eq_none h] at hu; cases hu
  rw [stepCells_len] at hj
  have hk : j / 2 < l.length := by omega
  obtain ⟨b', off', e, _, h1, h2⟩ := h.at_ (j / 2) l[j / 2] (List.getElem?_eq_getElem hk)
  injection e with e
  injection e with e1 e2
  subst e1; subst e2
  obtain ⟨s1, s2⟩ := stepCells_at (List.getElem?_eq_getElem hk)
  rcases Nat.mod_two_eq_zero_or_one j with hm | hm
  · have ej : j / 2 * 2 = j := by omega
    rw [ej] at h1 s1
    rw [s1] at hu
    injection hu with hu
    rw [h1, hu]
  · have ej : j / 2 * 2 + 1 = j := by omega
    rw [ej] at s2
    rw [s2] at hu
    injection hu with hu
    rw [show off + j = off + j / 2 * 2 + 1 by omega, h2, hu]
/-- A slice's address is a block's, or it is nil. -/
def PlainA (A : Option Addr) (c : Nat) : Prop := (A = none ∧ c = 0) ∨ ∃ b off, A = some ⟨b, off, none⟩
def ClonePost (w : World) (l : List Stp) (e : Ending) (w' : World) : Prop := ∃ v', e = .returned v' ∧ w'.ownsRow w.heap.size 74 2 v' l.length (stepCells l) ∧ Below w.heap.size w w'
theorem tclone_any (A : Option Addr) (n c : Nat) (l : List Stp) (w : World) (hA : PlainA A c) (h : TabAt w w.heap.size A n l) (hn : n ≤ 1000000) :
    Calls Tryz.prog 38 #[.slice A n c] w (ClonePost w l) := by
  obtain ⟨i0, hi0, hz0, hz1, hz2⟩ := info_parts step_info
  have hl := h.len
  subst hl
  rcases hA with ⟨rfl, rfl⟩ | ⟨b, off, rfl⟩
  · have h0 : l = [] := by
      match l, h with
      | [], _ => rfl
      | x :: r, h =>
        obtain ⟨b, off, e, _⟩ := h.at_ 0 x rfl
        cases e
    subst h0
    exact (AnyE.slices_Clone_nil Tryz.cloneL 0 0 w).mono fun e w' ⟨he, hw⟩ => ⟨_, he, World.ownsRow_nil _ _ _ _, hw ▸ Below.refl _ _⟩
  · exact (AnyE.slices_Clone Tryz.cloneL i0 _ 2 16 hi0 hz0 hz1 hz2 rfl (by omega) Tryz.sizeOf74 b off l.length c (stepCells l) w (stepCells_len l) (by simp only [maxLen]; omega) (by omega) h.flat (step_one l)).mono fun e w' ⟨v', he, ho, _, hb⟩ => ⟨v', he, ho, hb⟩
/-- What Table tells. -/
def TableAns (o : Option Cl) (w : World) (e : Ending) (w' : World) : Prop := ∃ v', e = .returned (.tuple #[v', .bool o.isSome]) ∧ w'.ownsRow w.heap.size 74 2 v' ((o.map (·.2.2)).getD []).length (stepCells ((o.map (·.2.2)).getD [])) ∧ Below w.heap.size w w'
theorem own_plain {w : World} {base : Nat} {e : TypeId} {size n : Nat} {v : Value} {xs : List Value} (h : w.ownsRow base e size v n xs) : ∃ A c, v = .slice A n c ∧ PlainA A c := by
  rcases own_form h with ⟨rfl, rfl⟩ | ⟨g, c, rfl, _⟩
  · exact ⟨_, _, rfl, .inl ⟨rfl, rfl⟩⟩
  · exact ⟨_, _, rfl, .inr ⟨g, 0, rfl⟩⟩
theorem chk_len {l : List Stp} (h : chk l = none) : l.length ≤ 8 := (of_chk h).2.1
set_option maxHeartbeats 1000000 in
theorem Table_any {w : World} {B g : Nat} {vC vL : Value} {cs : List Cl} {L : List Lst} {day : Int} (h : DirAt w B g vC vL cs L day) (name : ByteArray) :
    Calls Tryz.prog 27 #[.pointer (some ⟨g, 0, none⟩), .string name] w (TableAns (lookC cs name) w) := by
  have HT := Lib.hid (table_any h name)
  have htabs := h.tabs
  have hmem : ∀ x, lookC cs name = some x → x ∈ cs := fun x hx => lookC_mem hx
  obtain ⟨o, ho⟩ : ∃ o, lookC cs name = o := ⟨_, rfl⟩
  rw [ho] at HT hmem ⊢
  clear ho
  obtain ⟨A, n, c, l, hv, hp, hl, hat, hn⟩ : ∃ A n c l, lookV o = .slice A n c ∧ PlainA A c ∧ l = (o.map (·.2.2)).getD [] ∧ TabAt w w.heap.size A n l ∧ n ≤ 8 := by
    cases o with
    | none => exact ⟨none, 0, 0, [], rfl, .inl ⟨rfl, rfl⟩, rfl, TabAt.empty _ _ _, by omega⟩
    | some x =>
      obtain ⟨hr, hc⟩ := htabs x (hmem x rfl)
      obtain ⟨A, c, e, hp⟩ := own_plain hr
      refine ⟨A, x.2.2.length, c, x.2.2, e, hp, rfl, ?_, chk_len hc⟩
      rw [e] at hr
      exact TabAt.ofOwn hr
  obtain ⟨ok, hok⟩ : ∃ ok, o.isSome = ok := ⟨_, rfl⟩
  have HE := Lib.hid (show TableAns o w = fun e w' => ∃ v', e = .returned (.tuple #[v', .bool ok]) ∧ w'.ownsRow w.heap.size 74 2 v' l.length (stepCells l) ∧ Below w.heap.size w w' by unfold TableAns; rw [← hl, hok])
  rw [HE.out]
  rw [hv, hok] at HT
  have HP := Lib.hid hp
  have HA := Lib.hid hat
  clear h htabs hmem hv hl hok hp hat HE
  go_enter Tryz.func27, Tryz.ntmps27
  go_wp2_with (go_at_call 52; refine HT.out.mono ?_; rintro e w1 ⟨rfl, hb⟩; replace hb := Lib.hid hb)
  go_wp2_with (go_at_call 38; refine Hid.out ?_)
  refine Lib.hid ?_
  refine (tclone_any A n c l w1 HP.out ((HA.out.carry hb.out).wider hb.out.size) (by omega)).mono ?_
  rintro e w2 ⟨v', rfl, ho, hb2⟩
  have hb3 := Lib.hid (bel_trans hb.out hb2)
  have HO := Lib.hid (own_wider ho hb.out.size)
  clear ho hb2
  obtain ⟨A', c', rfl⟩ := own_slice HO.out
  go_wp2_with fail
  go_ret2
  exact ⟨_, rfl, HO.out, hb3.out⟩
set_option maxHeartbeats 1000000 in
theorem Grid_any {w : World} {B g : Nat} {vC vL : Value} {cs : List Cl} {L : List Lst} {day : Int} (h : DirAt w B g vC vL cs L day) (id : Int) :
    Calls Tryz.prog 24 #[.pointer (some ⟨g, 0, none⟩), .int .i64 id] w fun e w' => ∃ v', e = .returned v' ∧ w'.ownsRow w.heap.size 74 2 v' (((lookC cs (atL L id).1.cls).map (·.2.2)).getD []).length (stepCells (((lookC cs (atL L id).1.cls).map (·.2.2)).getD [])) ∧ Below w.heap.size w w' := by
  have HA := Lib.hid (lat_any h id)
  have HH := Lib.hid h
  clear h
  obtain ⟨X, hX⟩ : ∃ X, atL L id = X := ⟨_, rfl⟩
  obtain ⟨ok, hok⟩ : ∃ ok, (lookL L id).isSome = ok := ⟨_, rfl⟩
  unfold AtAns at HA
  rw [hX, hok] at HA
  rw [hX]
  obtain ⟨⟨xc, xe, xs, xr⟩, xst⟩ := X
  have HA2 : Hid (Calls Tryz.prog 46 #[.pointer (some ⟨g, 0, none⟩), .int .i64 id] w fun e w' => e = .returned (.tuple #[.agg #[.string xc, .int .i64 xe, .int .i64 xs, .int .i64 xr, .int .i64 xst], .bool ok]) ∧ Below w.heap.size w w') := HA
  clear hX hok HA
  dsimp only
  go_enter Tryz.func24, Tryz.ntmps24
  go_wp2_with (go_at_call 46; refine HA2.out.mono ?_; rintro e w1 ⟨rfl, hb⟩; replace hb := Lib.hid hb)
  go_wp2_with (go_at_call 27; refine Hid.out ?_)
  refine Lib.hid ?_
  have hb1 : Below w.heap.size w (w1.alloc (.cells #[.string xc, .int .i64 xe, .int .i64 xs, .int .i64 xr, .int .i64 xst] 104)) := hb.out.alloc hb.out.size _
  refine (Table_any (HH.out.carry hb1) xc).mono ?_
  rintro e w2 ⟨v', rfl, ho, hb2⟩
  have hb3 := Lib.hid (bel_trans hb1 hb2)
  have HO := Lib.hid (own_wider ho hb1.size)
  clear ho hb2 hb1
  obtain ⟨A', c', hv'⟩ := own_slice HO.out
  subst hv'
  go_wp2_with fail
  go_ret
  exact ⟨_, rfl, HO.out, hb3.out⟩
end Go.Proofs.YtoilgeahfdbhlaaGreatDoor

/- The contract of the directory's Set. -/
import Derived.Test.YtoilgeahfdbhlaaGreatDoorDirList
set_option linter.unusedSimpArgs false
namespace Go.Proofs.YtoilgeahfdbhlaaGreatDoor
open Go.RowKit Go.Mem1 Go.GridMath Go.DirMath

/-- What is wrong about a state that is to be set. -/
def wT (a b : Int) : Int := if b = 1 ∨ b = 2 ∨ b = 3 then (if a = 4 then 7 else 0) else 1
set_option maxHeartbeats 1000000 in
theorem turn_any (a b : Int) (w : World) : Calls Tryz.prog 47 #[.int .i64 a, .int .i64 b] w fun e w' => e = .returned (.int .i64 (wT a b)) ∧ w = w' := by
  have HT := Lib.hid (show wT a b = if b = 1 ∨ b = 2 ∨ b = 3 then (if a = 4 then 7 else 0) else 1 from rfl)
  obtain ⟨R, hR⟩ : ∃ R, wT a b = R := ⟨_, rfl⟩
  rw [hR] at HT ⊢
  clear hR
  by_cases h1 : b = 1
  · subst h1
    by_cases h4 : a = 4
    · subst h4
      go_enter Tryz.func47, Tryz.ntmps47
      go_wp2_with fail
      go_ret
      exact ⟨ri (by rw [HT.out]; rfl), rfl⟩
    · have t4 : (a == 4) = false := by simpa using h4
      have HR := Lib.hid (show R = 0 by rw [HT.out, if_pos (Or.inl rfl), if_neg h4])
      clear h4
      go_enter Tryz.func47, Tryz.ntmps47
      go_wp2_with fail
      go_ret
      exact ⟨ri HR.out, rfl⟩
  · by_cases h2 : b = 2
    · subst h2
      by_cases h4 : a = 4
      · subst h4
        go_enter Tryz.func47, Tryz.ntmps47
        go_wp2_with fail
        go_ret
        exact ⟨ri (by rw [HT.out]; rfl), rfl⟩
      · have t4 : (a == 4) = false := by simpa using h4
        have HR := Lib.hid (show R = 0 by rw [HT.out, if_pos (Or.inr (Or.inl rfl)), if_neg h4])
        clear h4 h1
        go_enter Tryz.func47, Tryz.ntmps47
        go_wp2_with fail
        go_ret
        exact ⟨ri HR.out, rfl⟩
    · by_cases h3 : b = 3
      · subst h3
        by_cases h4 : a = 4
        · subst h4
          go_enter Tryz.func47, Tryz.ntmps47
          go_wp2_with fail
          go_ret
          exact ⟨ri (by rw [HT.out]; rfl), rfl⟩
        · have t4 : (a == 4) = false := by simpa using h4
          have HR := Lib.hid (show R = 0 by rw [HT.out, if_pos (Or.inr (Or.inr rfl)), if_neg h4])
          clear h4 h1 h2
          go_enter Tryz.func47, Tryz.ntmps47
          go_wp2_with fail
          go_ret
          exact ⟨ri HR.out, rfl⟩
      · have HR := Lib.hid (show R = 1 by rw [HT.out, if_neg (by omega)])
        have t1 : (b == 1) = false := by simpa using h1
        have t2 : (b == 2) = false := by simpa using h2
        have t3 : (b == 3) = false := by simpa using h3
        clear h1 h2 h3
        go_enter Tryz.func47, Tryz.ntmps47
        go_wp2_with fail
        go_ret
        exact ⟨ri HR.out, rfl⟩
/-- A state stored. -/
theorem DirAt.stored {w : World} {B g b c : Nat} {vC vL : Value} {cs : List Cl} {L : List Lst} {day : Int} (h : DirAt w B g vC vL cs L day) (hv : vL = .slice (some ⟨b, 0, none⟩) L.length c) {k : Nat} {x : Lst} (hx : L[k]? = some x) (st : Int) :
    DirAt (w.setCell ⟨b, k * 5 + 4, none⟩ (.int .i64 st)) B g vC vL cs (L.set k (x.1, st)) day ∧ Chg (fun j => j = b) w (w.setCell ⟨b, k * 5 + 4, none⟩ (.int .i64 st)) ∧ w.frozen? ⟨b, k * 5 + 4, none⟩ = false ∧ w.cell? ⟨b, k * 5 + 4, none⟩ = some (.int .i64 x.2) := by
  have hbl : vL.ownBlock = some b := by rw [hv]; rfl
  have hc : Chg (fun j => j = b) w (w.setCell ⟨b, k * 5 + 4, none⟩ (.int .i64 st)) := Chg.setCell (S := fun j => j = b) (Chg.refl _ _) (p := ⟨b, k * 5 + 4, none⟩) (fun _ => rfl) _
  have hgb : ¬ g = b := fun e => h.box.off_row h.rowL (by decide) (by rw [hbl, e])
  have hr := h.rowL
  rw [hv] at hr
  refine ⟨⟨h.box.kept hc hgb, h.low, own_chg h.rowC hc (fun j hj e => h.apartC hj (by rw [hbl, e])), ?_, ?_, h.mostC, by simpa using h.mostL⟩, hc, hr.frozenAt _, ?_⟩
  · have hs := (hr.stored (k * 5 + 4) (.int .i64 st)).1
    rw [flat_set (f := lst1) lst1_len hx (y := (x.1, st)) (by omega) rfl] at hs
    rw [List.length_set, hv]
    exact hs
  · intro cl hcl
    obtain ⟨ht, hk⟩ := h.tabs cl hcl
    exact ⟨own_chg ht hc (fun j hj e => own_apart ht h.rowL (by decide) hj (by rw [hbl, e])), hk⟩
  · exact own_cell hr (flat_at lst1_len hx (i := 4) rfl)
/-- What Set answers, refused. -/
def SetBad (id code : Int) (w : World) (e : Ending) (w' : World) : Prop :=
  ∃ b, e = .returned (.iface 84 (.pointer (some ⟨b, 0, none⟩))) ∧ Box w' b 88 #[.string seriesB, .int .i64 id, .iface 83 (.int .i64 code)] ∧ Below w.heap.size w w'
set_option maxHeartbeats 1000000 in
theorem set_none {w : World} {B g : Nat} {vC vL : Value} {cs : List Cl} {L : List Lst} {day : Int} (h : DirAt w B g vC vL cs L day) (id st : Int) (hn : lookL L id = none) :
    Calls Tryz.prog 14 #[.pointer (some ⟨g, 0, none⟩), .int .i64 id, .int .i64 st] w (SetBad id 5 w) := by
  have HA := Lib.hid (lat_any h id)
  unfold AtAns atL at HA
  rw [hn] at HA
  have HA2 : Hid (Calls Tryz.prog 46 #[.pointer (some ⟨g, 0, none⟩), .int .i64 id] w fun e w' => e = .returned (.tuple #[.agg #[.string ⟨#[]⟩, .int .i64 0, .int .i64 0, .int .i64 0, .int .i64 0], .bool false]) ∧ Below w.heap.size w w') := HA
  clear h hn HA
  go_enter Tryz.func14, Tryz.ntmps14
  go_wp2_with ((first
    | (go_at_call 46; refine HA2.out.mono ?_; rintro e w1 ⟨rfl, hb⟩; replace hb := Lib.hid hb)
    | (go_at_call 36; refine (dfault_any _ _ _ _).mono ?_; rintro e w' ⟨rfl, rfl⟩)))
  go_ret
  exact ⟨_, rfl, Box.fresh _ _ _ (by simp), bel_alloc (bel_alloc hb.out _) _⟩
set_option maxHeartbeats 1000000 in
theorem set_bad {w : World} {B g : Nat} {vC vL : Value} {cs : List Cl} {L : List Lst} {day : Int} (h : DirAt w B g vC vL cs L day) (k : Nat) (x : Lst) (hx : L[k]? = some x) (st : Int) (hz : wT x.2 st ≠ 0) :
    Calls Tryz.prog 14 #[.pointer (some ⟨g, 0, none⟩), .int .i64 ((k : Int) + 1), .int .i64 st] w (SetBad ((k : Int) + 1) (wT x.2 st) w) := by
  have HA := Lib.hid (lat_any h ((k : Int) + 1))
  unfold AtAns atL at HA
  rw [lookL_some hx] at HA
  obtain ⟨⟨xc, xe, xs, xr⟩, xst⟩ := x
  have HA2 : Hid (Calls Tryz.prog 46 #[.pointer (some ⟨g, 0, none⟩), .int .i64 ((k : Int) + 1)] w fun e w' => e = .returned (.tuple #[.agg #[.string xc, .int .i64 xe, .int .i64 xs, .int .i64 xr, .int .i64 xst], .bool true]) ∧ Below w.heap.size w w') := HA
  have HT := Lib.hid (fun w' => turn_any xst st w')
  dsimp only at hz ⊢
  obtain ⟨R, hR⟩ : ∃ R, wT xst st = R := ⟨_, rfl⟩
  rw [hR] at HT hz ⊢
  have hz' : (R != 0) = true := by simpa using hz
  clear h hx HA hz hR
  go_enter Tryz.func14, Tryz.ntmps14
  go_wp2_with ((first
    | (go_at_call 46; refine HA2.out.mono ?_; rintro e w1 ⟨rfl, hb⟩; replace hb := Lib.hid hb)
    | (go_at_call 47; refine (HT.out _).mono ?_; rintro e w' ⟨rfl, rfl⟩)
    | (go_at_call 36; refine (dfault_any _ _ _ _).mono ?_; rintro e w' ⟨rfl, rfl⟩)))
  go_ret
  exact ⟨_, rfl, Box.fresh _ _ _ (by simp), bel_alloc (bel_alloc hb.out _) _⟩
def SetOk (B g : Nat) (vC vL : Value) (cs : List Cl) (L : List Lst) (day : Int) (w : World) (e : Ending) (w' : World) : Prop :=
  e = .returned .nilIface ∧ DirAt w' B g vC vL cs L day ∧ Chg (fun j => some j = vL.ownBlock) w w'
set_option maxHeartbeats 1000000 in
theorem set_ok {w : World} {B g : Nat} {vC vL : Value} {cs : List Cl} {L : List Lst} {day : Int} (h : DirAt w B g vC vL cs L day) (k : Nat) (x : Lst) (hx : L[k]? = some x) (st : Int) (hz : wT x.2 st = 0) :
    Calls Tryz.prog 14 #[.pointer (some ⟨g, 0, none⟩), .int .i64 ((k : Int) + 1), .int .i64 st] w (SetOk B g vC vL cs (L.set k (x.1, st)) day w) := by
  have HA := Lib.hid (lat_any h ((k : Int) + 1))
  unfold AtAns atL at HA
  rw [lookL_some hx] at HA
  obtain ⟨b, c, hv, _⟩ := h.lst hx
  have hk : k < L.length := by
    rcases Nat.lt_or_ge k L.length with h' | h'
    · exact h'
    · rw [List.getElem?_eq_none h'] at hx; cases hx
  have HT := Lib.hid (fun w' => turn_any x.2 st w')
  rw [hz] at HT
  have HS := Lib.hid (fun w' (hb : Below w.heap.size w w') => (h.carry hb).stored hv hx st)
  have HC := Lib.hid (fun w' (hb : Below w.heap.size w w') => ((h.carry hb).c1).trans (show some vL = some (.slice (some ⟨b, 0, none⟩) L.length c) by rw [hv]))
  have HV := Lib.hid (show vL.ownBlock = some b by rw [hv]; rfl)
  have hm := h.mostL
  obtain ⟨n, hn⟩ : ∃ n, L.length = n := ⟨_, rfl⟩
  rw [hn] at HC hk hm
  obtain ⟨⟨xc, xe, xs, xr⟩, xst⟩ := x
  have HA2 : Hid (Calls Tryz.prog 46 #[.pointer (some ⟨g, 0, none⟩), .int .i64 ((k : Int) + 1)] w fun e w' => e = .returned (.tuple #[.agg #[.string xc, .int .i64 xe, .int .i64 xs, .int .i64 xr, .int .i64 xst], .bool true]) ∧ Below w.heap.size w w') := HA
  dsimp only at HT HS ⊢
  clear h hx HA hz hv hn
  go_enter Tryz.func14, Tryz.ntmps14
  go_wp2_with (go_at_call 46; refine Hid.out ?_)
  refine Lib.hid ?_
  refine HA2.out.mono ?_
  rintro e w1 ⟨rfl, hb⟩
  have hb2 : Below w.heap.size w (w1.alloc (.cells #[.string xc, .int .i64 xe, .int .i64 xs, .int .i64 xr, .int .i64 xst] 104)) := bel_alloc hb _
  obtain ⟨hD, hCh, hf, hcell⟩ := HS.out _ hb2
  have c1 := HC.out _ hb2
  have HD := Lib.hid hD
  have HCh := Lib.hid hCh
  have HB := Lib.hid hb2
  clear hb hD hCh hb2
  go_wp2_with (go_at_call 47; refine (HT.out _).mono ?_; rintro e w' ⟨rfl, rfl⟩)
  go_ret
  exact ⟨rfl, HD.out, (Chg.of_below HB.out _).then HCh.out (fun i _ hi => by rw [HV.out, hi])⟩
end Go.Proofs.YtoilgeahfdbhlaaGreatDoor

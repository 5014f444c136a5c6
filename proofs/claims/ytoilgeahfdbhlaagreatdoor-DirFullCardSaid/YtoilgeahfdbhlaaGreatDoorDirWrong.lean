/- The contract of the directory's wrongSeries. -/
import Derived.Test.YtoilgeahfdbhlaaGreatDoorDirTab
import Derived.Test.YtoilgeahfdbhlaaGreatDoorGrdNear
set_option linter.unusedSimpArgs false
namespace Go.Proofs.YtoilgeahfdbhlaaGreatDoor
open Go.RowKit Go.Mem1 Go.GridMath Go.DirMath

/-- What may not be about a series that is to be listed. -/
def wS (cs : List Cl) (L : List Lst) (day : Int) (s : Ser) : Int :=
  if serCode s ≠ 0 then serCode s else match lookC cs s.cls with
    | none => 5
    | some c => if onT c.2.2 s.st = false then 10 else if 0 ≤ findI L s then 6 else if s.ex ≤ day then 7 else if 64 ≤ L.length then 8 else 0
theorem serCode_bd (s : Ser) : serCode s = 0 ∨ serCode s = 1 ∨ serCode s = 5 := by unfold serCode; (repeat' split) <;> simp
set_option maxRecDepth 100000 in
set_option maxHeartbeats 1000000 in
theorem dwrong_any {w : World} {B g : Nat} {vC vL : Value} {cs : List Cl} {L : List Lst} {day : Int} (h : DirAt w B g vC vL cs L day) (s : Ser) (hs : s.cls.size ≤ 1000000) :
    Calls Tryz.prog 42 #[.pointer (some ⟨g, 0, none⟩), serV s] w fun e w' => e = .returned (.int .i64 (wS cs L day s)) ∧ Below w.heap.size w w' := by
  have HK := Lib.hid (fun w' => sCheck_any s w' hs)
  have HF := Lib.hid (fun w' (hb : Below w.heap.size w w') => find_any (h.carry hb) s)
  have HT := Lib.hid (fun w' (hb : Below w.heap.size w w') => table_any (h.carry hb) s.cls)
  have H := Lib.hid h
  have hW := show wS cs L day s = if serCode s ≠ 0 then serCode s else match lookC cs s.cls with
    | none => 5
    | some c => if onT c.2.2 s.st = false then 10 else if 0 ≤ findI L s then 6 else if s.ex ≤ day then 7 else if 64 ≤ L.length then 8 else 0 from rfl
  obtain ⟨R, hR⟩ : ∃ R, wS cs L day s = R := ⟨_, rfl⟩
  rw [hR] at hW ⊢
  clear h hs hR
  obtain ⟨Z, hZ⟩ : ∃ Z, serCode s = Z := ⟨_, rfl⟩
  rw [hZ] at HK hW
  clear hZ
  obtain ⟨sc, se, st, sr⟩ := s
  dsimp only at HT hW
  have HW := Lib.hid hW
  clear hW
  have hgl := H.out.there
  by_cases hz : Z = 0
  · subst hz
    have hob : ∀ x, lookC cs sc = some x → x ∈ cs := fun x hx => lookC_mem hx
    have HW2 := HW.out
    rw [if_neg (by simp)] at HW2
    clear HW
    obtain ⟨o, ho⟩ : ∃ o, lookC cs sc = o := ⟨_, rfl⟩
    rw [ho] at HT HW2 hob
    clear ho
    obtain ⟨F, hF⟩ : ∃ F, findI L ⟨sc, se, st, sr⟩ = F := ⟨_, rfl⟩
    rw [hF] at HF HW2
    obtain ⟨A, n, c, hv⟩ : ∃ A n c, lookV o = .slice A n c := by
      cases o with
      | none => exact ⟨none, 0, 0, rfl⟩
      | some x =>
        obtain ⟨A, c, e⟩ := own_slice (H.out.tabs x (hob x rfl)).1
        exact ⟨A, _, c, e⟩
    have HO := Lib.hid (fun x (hx : o = some x) w' (hb : Below w.heap.size w w') => show TabAt w' w'.heap.size A n x.2.2 ∧ chk x.2.2 = none from by
      subst hx
      obtain ⟨hr, hc⟩ := H.out.tabs x (hob x rfl)
      have hv' : x.2.1 = .slice A n c := hv
      rw [hv'] at hr
      have hn : n = x.2.2.length := by
        rcases own_form hr with ⟨e, h0⟩ | ⟨g, c, e, _⟩
        · injection e with _ e _; omega
        · injection e with _ e _
      subst hn
      exact ⟨((TabAt.ofOwn hr).carry hb).wider hb.size, hc⟩)
    obtain ⟨ok, hok⟩ : ∃ ok, o.isSome = ok := ⟨_, rfl⟩
    rw [hv, hok] at HT
    have HOK := Lib.hid hok
    have hFb := findI_bd L ⟨sc, se, st, sr⟩
    rw [hF] at hFb
    have hm := H.out.mostL
    obtain ⟨hF1, hF2⟩ := hFb
    have hF3 : F < 64 := by omega
    obtain ⟨twice, htw⟩ : ∃ b, decide (0 ≤ F) = b := ⟨_, rfl⟩
    rw [htw] at HF
    have HTW := Lib.hid htw
    have HR := Lib.hid HW2
    clear hv hob hok hF HW2 hm hF2 htw
    go_enter Tryz.func42, Tryz.ntmps42
    go_wp2_with (go_at_call 69; refine Hid.out ?_)
    refine Lib.hid ?_
    obtain ⟨W0, hW0⟩ : ∃ W0, w.alloc (.cells #[.string sc, .int .i64 se, .int .i64 st, .int .i64 sr] 35) = W0 := ⟨_, rfl⟩
    have B0 : Below w.heap.size w W0 := by rw [← hW0]; exact bel_new _ _
    have X0 : Box W0 w.heap.size 35 #[.string sc, .int .i64 se, .int .i64 st, .int .i64 sr] := by rw [← hW0]; exact Box.fresh w _ _ rfl
    rw [hW0]
    clear hW0
    refine (HK.out W0).mono ?_
    rintro e w1 ⟨rfl, hb1⟩
    have B1 := bel_trans B0 hb1
    have X1 := X0.kept_below hb1 X0.there
    have k0 : w1.cell? ⟨w.heap.size, 0, none⟩ = some (.string sc) := X1.reads 0
    have HB1 := Lib.hid B1
    have HX1 := Lib.hid X1
    clear B0 X0 hb1 B1 X1
    go_wp2_with (go_at_call 52; refine Hid.out ?_)
    refine Lib.hid ?_
    refine (HT.out _ HB1.out).mono ?_
    rintro e w2 ⟨rfl, hb2⟩
    have HB2 := Lib.hid (bel_trans HB1.out hb2)
    have HX2 := Lib.hid (HX1.out.kept_below hb2 HX1.out.there)
    clear hb2 k0 HB1 HX1
    have j0 : w2.cell? ⟨w.heap.size, 0, none⟩ = some (.string sc) := HX2.out.reads 0
    have j1 : w2.cell? ⟨w.heap.size, 1, none⟩ = some (.int .i64 se) := HX2.out.reads 1
    have j2 : w2.cell? ⟨w.heap.size, 2, none⟩ = some (.int .i64 st) := HX2.out.reads 2
    have j3 : w2.cell? ⟨w.heap.size, 3, none⟩ = some (.int .i64 sr) := HX2.out.reads 3
    go_wp2_with (go_at_call 26; refine Hid.out ?_)
    refine Lib.hid ?_
    refine (HF.out _ HB2.out).mono ?_
    rintro e w3 ⟨rfl, hb3⟩
    have HB3 := Lib.hid (bel_trans HB2.out hb3)
    have HX3 := Lib.hid (HX2.out.kept_below hb3 HX2.out.there)
    clear hb3 j0 j1 j2 j3 HB2 HX2
    cases o with
    | none =>
      obtain rfl : ok = false := HOK.out.symm
      have hR5 := Lib.hid (show R = 5 from HR.out)
      go_wp2_with fail
      go_ret
      exact ⟨ri hR5.out, HB3.out⟩
    | some x =>
      obtain rfl : ok = true := HOK.out.symm
      obtain ⟨hta, hch⟩ := HO.out x rfl w3 HB3.out
      have HR1 := Lib.hid (show R = if onT x.2.2 st = false then 10 else if 0 ≤ F then 6 else if se ≤ day then 7 else if 64 ≤ L.length then 8 else 0 from HR.out)
      have hOn := on_any A n c x.2.2 st w3 hta hch
      obtain ⟨on, hon⟩ : ∃ b, onT x.2.2 st = b := ⟨_, rfl⟩
      rw [hon] at hOn HR1
      have HOn := Lib.hid hOn
      clear hta hch hOn hon HR HO HOK
      have k2 : w3.cell? ⟨w.heap.size, 2, none⟩ = some (.int .i64 st) := HX3.out.reads 2
      go_wp2_with (go_at_call 31; refine Hid.out ?_)
      refine Lib.hid ?_
      refine HOn.out.mono ?_
      rintro e w4 ⟨rfl, hb4⟩
      have HB4 := Lib.hid (bel_trans HB3.out hb4)
      have HX4 := Lib.hid (HX3.out.kept_below hb4 HX3.out.there)
      clear hb4 k2 HB3 HX3 HOn
      cases on with
      | false =>
        have hR5 := Lib.hid (show R = 10 from HR1.out)
        go_wp2_with fail
        go_ret
        exact ⟨ri hR5.out, HB4.out⟩
      | true =>
        have HR2 := Lib.hid (show R = if 0 ≤ F then 6 else if se ≤ day then 7 else if 64 ≤ L.length then 8 else 0 from HR1.out)
        clear HR1
        cases twice with
        | true =>
          have hR5 := Lib.hid (show R = 6 by rw [HR2.out, if_pos (of_decide_eq_true HTW.out)])
          go_wp2_with fail
          go_ret
          exact ⟨ri hR5.out, HB4.out⟩
        | false =>
          have HR3 := Lib.hid (show R = if se ≤ day then 7 else if 64 ≤ L.length then 8 else 0 by rw [HR2.out, if_neg (of_decide_eq_false HTW.out)])
          clear HR2
          have D4 := H.out.carry HB4.out
          have c2 := D4.c2
          have c1 := D4.c1
          obtain ⟨lA, lc, hvL⟩ := D4.formL
          rw [hvL] at c1
          have hm := D4.mostL
          obtain ⟨m, hmm⟩ : ∃ m, L.length = m := ⟨_, rfl⟩
          rw [hmm] at c1 hm HR3
          have k1 : w4.cell? ⟨w.heap.size, 1, none⟩ = some (.int .i64 se) := HX4.out.reads 1
          clear D4 hvL hmm
          by_cases hd : se ≤ day
          · have hR5 := Lib.hid (show R = 7 by rw [HR3.out, if_pos hd])
            go_wp2_with fail
            go_quiet (fail)
            go_wp2_with fail
            go_ret
            exact ⟨ri hR5.out, by first | exact HB4.out | exact bel_drawn HB4.out _⟩
          · have hd' : decide (se ≤ day) = false := by simpa using hd
            by_cases hf : 64 ≤ m
            · have hR5 := Lib.hid (show R = 8 by rw [HR3.out, if_neg hd, if_pos hf])
              have hf' : decide ((64 : Int) ≤ (m : Int)) = true := by simp; omega
              clear hd
              go_wp2_with fail
              go_quiet (fail)
              go_wp2_with fail
              go_ret
              exact ⟨ri hR5.out, by first | exact HB4.out | exact bel_drawn HB4.out _⟩
            · have hR5 := Lib.hid (show R = 0 by rw [HR3.out, if_neg hd, if_neg hf])
              have hf' : decide ((64 : Int) ≤ (m : Int)) = false := by simp; omega
              clear hd
              go_wp2_with fail
              go_quiet (fail)
              go_wp2_with fail
              go_ret
              exact ⟨ri hR5.out, by first | exact HB4.out | exact bel_drawn HB4.out _⟩
  · have hz' : (Z != 0) = true := by simpa using hz
    have HZ := Lib.hid (show R = Z by rw [HW.out, if_pos hz])
    clear hz HW
    go_enter Tryz.func42, Tryz.ntmps42
    go_wp2_with (go_at_call 69; refine (HK.out _).mono ?_; rintro e w1 ⟨rfl, hb1⟩; replace hb1 := Lib.hid hb1)
    go_ret
    exact ⟨ri HZ.out, bel_trans (bel_new _ _) hb1.out⟩
end Go.Proofs.YtoilgeahfdbhlaaGreatDoor

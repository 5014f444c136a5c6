/- The law's known: one series, opened, expired. -/
import Derived.Test.YtoilgeahfdbhlaaGreatDoorDirCls
import Derived.Test.YtoilgeahfdbhlaaGreatDoorDirRow
set_option linter.unusedSimpArgs false
namespace Go.Proofs.YtoilgeahfdbhlaaGreatDoor
open Go.RowKit Go.Mem1 Go.GridMath Go.DirMath

/-- The plainest grid. -/
def pl : List Stp := [(1, 1)]
theorem near_pl (p : Int) : nearT pl p = if 1 ≤ p then min p 1000000 else 0 := by
  unfold nearT
  have e : ∀ q : Int, near pl.reverse q = if 1 ≤ q then q else 0 := fun q => by
    show near [((1 : Int), (1 : Int))] q = _
    rw [near_cons]
    by_cases h : 1 ≤ q
    · rw [if_pos h, if_pos h, Int.emod_one]; omega
    · rw [if_neg h, if_neg h]; rfl
  rw [e]
  by_cases h : 1 ≤ p
  · rw [if_pos (by omega), if_pos h]
  · rw [if_neg (by omega), if_neg h]
theorem on_pl {p : Int} (h : 1 ≤ p ∧ p ≤ 1000000) : onT pl p = true := by
  unfold onT
  rw [near_pl, if_pos h.1, Bool.and_eq_true, decide_eq_true_iff, decide_eq_true_iff]
  omega
theorem chk_pl : chk pl = none := by decide
/-- The class's name. -/
def ab : ByteArray := ⟨#[65, 66]⟩
theorem good_ab : goodB ab = true := by decide +kernel
theorem size_ab : ab.size ≤ 1000000 := by decide
theorem eqS_st {a b : Ser} (h : a.st ≠ b.st) : eqS a b = false := by
  unfold eqS
  rw [show (a.st == b.st) = false by simpa using h]
  simp
theorem find_no {L : List Lst} {s : Ser} (h : ∀ x ∈ L, x.1.st ≠ s.st) : findI L s = -1 := by
  unfold findI
  have e := Lib.idxBy_miss (fun _ (y : Lst) => eqS y.1 s) L L.length default (fun j hj => by
    rw [getElem!_pos L j hj]
    exact eqS_st (h _ (List.getElem_mem hj)))
  rw [List.take_of_length_le (Nat.le_refl _)] at e
  exact e
theorem code_ab {x t r : Int} (hx : 1 ≤ x ∧ x ≤ 100000) (ht : 1 ≤ t ∧ t ≤ 1000000) (hr : r = 1 ∨ r = 2) : serCode ⟨ab, x, t, r⟩ = 0 := by
  unfold serCode
  rw [if_neg (by rw [good_ab]; simp), if_neg (by dsimp only; omega), if_neg (by dsimp only; omega), if_neg (by dsimp only; omega)]
theorem look_ab (v : Value) : lookC [(ab, v, pl)] ab = some (ab, v, pl) := by
  unfold lookC
  rw [if_pos (by simp)]
theorem wS_ab {v : Value} {L : List Lst} {day x t r : Int} (hx : 1 ≤ x ∧ x ≤ 100000) (ht : 1 ≤ t ∧ t ≤ 1000000) (hr : r = 1 ∨ r = 2) (hf : ∀ y ∈ L, y.1.st ≠ t) (hd : day < x) : wS [(ab, v, pl)] L day ⟨ab, x, t, r⟩ = if 64 ≤ L.length then 8 else 0 := by
  unfold wS
  rw [code_ab hx ht hr, if_neg (by simp)]
  dsimp only
  rw [look_ab]
  dsimp only
  rw [if_neg (by rw [on_pl ht]; simp), if_neg (by rw [find_no hf]; omega), if_neg (by omega)]
theorem DirAt.chgBelow {w w' : World} {B g : Nat} {vC vL : Value} {cs : List Cl} {L : List Lst} {day : Int} (h : DirAt w B g vC vL cs L day) (hc : Chg (fun j => j = g ∨ some j = vL.ownBlock) w w') : Below B w w' :=
  hc.small (Nat.le_of_lt h.base) (fun i hi hs => by
    rcases hs with e | e
    · have := h.low; omega
    · have := (h.rowL.lt i e.symm).1; omega)
theorem tab_pl (w : World) {g : Nat} (hg : g = w.heap.size) : TabAt (w.alloc (.cells #[.int .i64 1, .int .i64 1] 74)) (w.alloc (.cells #[.int .i64 1, .int .i64 1] 74)).heap.size (some ⟨g, 0, none⟩) 1 pl :=
  TabAt.made w _ _ _ 1 pl rfl (fun k s hs => by
    match k, hs with
    | 0, hs => injection hs with hs; subst hs; exact ⟨rfl, rfl⟩) hg rfl
/-- A new directory with the class: what New and Class leave, in the words of a law. -/
theorem class_ab {w : World} {B g : Nat} (h : DirAt w B g (.slice none 0 0) (.slice none 0 0) [] [] 0) {b : Nat} (hb : b = w.heap.size) :
    Calls Tryz.prog 8 #[.pointer (some ⟨g, 0, none⟩), .string ab, .slice (some ⟨b, 0, none⟩) 1 1] (w.alloc (.cells #[.int .i64 1, .int .i64 1] 74)) fun e w' =>
      e = .returned .nilIface ∧ ∃ vC' v, DirAt w' B g vC' (.slice none 0 0) [(ab, v, pl)] [] 0 ∧ Below B w w' :=
  (class_ok (h.carry (bel_new w _)) ab size_ab good_ab rfl (by simp) (some ⟨b, 0, none⟩) 1 1 pl (.inr ⟨b, 0, rfl⟩) (tab_pl w hb) chk_pl).mono fun e w' ⟨he, vC', v, hd, hbl⟩ => ⟨he, vC', v, hd, ((bel_new w _).mono (Nat.le_of_lt h.base)).trans hbl⟩
/-- The known series. -/
def ks : Ser := ⟨ab, 20, 100, 2⟩
set_option maxRecDepth 100000 in
set_option maxHeartbeats 2000000 in
theorem dknown_ok (w : World) : Calls Tryz.prog 5 #[] w fun e w' => e = .returned (.bool true) ∧ Below w.heap.size w w' := by
  go_enter Tryz.func5, Tryz.ntmps5
  go_wp2_with (go_at_call 6; refine Hid.out ?_)
  refine Lib.hid ?_
  refine (new_any w).mono ?_
  rintro e w1 ⟨rfl, hD1, hb1⟩
  have HK := Lib.hid (class_ab hD1 rfl)
  have HB1 := Lib.hid hb1
  clear hD1 hb1
  go_wp2_with (go_at_call 8; refine Hid.out ?_)
  refine Lib.hid ?_
  refine HK.out.mono ?_
  rintro e w2 ⟨rfl, vC, v, hD2, hb2⟩
  have HB2 := Lib.hid (HB1.out.trans hb2)
  have hl := list_ok hD2 ks size_ab (by rw [show ks = ⟨ab, 20, 100, 2⟩ from rfl, wS_ab (by omega) (by omega) (by omega) (fun y hy => by cases hy) (by omega)]; rfl) (by simp)
  have HL := Lib.hid hl
  clear hD2 hb2 hl HK HB1
  go_wp2_with (go_at_call 11; refine Hid.out ?_)
  refine Lib.hid ?_
  refine HL.out.mono ?_
  rintro e w3 ⟨rfl, vL, hD3, hb3⟩
  have HB3 := Lib.hid (HB2.out.trans hb3)
  have HD3 := Lib.hid hD3
  have HS3 := Lib.hid (state_any hD3 1)
  clear hD3 hb3 HL HB2
  go_wp2_with (go_at_call 23; refine Hid.out ?_)
  refine Lib.hid ?_
  refine HS3.out.mono ?_
  rintro e w4 ⟨rfl, hb4⟩
  have hD4 := HD3.out.carry hb4
  have HB4 := Lib.hid (HB3.out.trans (hb4.mono (Nat.le_of_lt HD3.out.base)))
  have HT4 := Lib.hid (set_ok hD4 0 (ks, 1) rfl 2 (by decide))
  have HD4 := Lib.hid hD4
  clear hD4 hb4 HS3 HB3 HD3
  go_wp2_with (go_at_call 14; refine Hid.out ?_)
  refine Lib.hid ?_
  refine HT4.out.mono ?_
  rintro e w5 ⟨rfl, hD5, hc5⟩
  have HB5 := Lib.hid (HB4.out.trans (HD4.out.chgBelow (hc5.mono (fun _ _ h => Or.inr h))))
  have HD5 := Lib.hid (show DirAt w5 w.heap.size w.heap.size vC vL [(ab, v, pl)] [(ks, 2)] 0 from hD5)
  have HY5 := Lib.hid (day_any HD5.out 20 (by omega))
  clear hD5 hc5 HD4 HB4 HT4
  go_wp2_with (go_at_call 18; refine Hid.out ?_)
  refine Lib.hid ?_
  refine HY5.out.mono ?_
  rintro e w6 ⟨A6, c6, rfl, _, hD6, hc6⟩
  have HB6 := Lib.hid (HB5.out.trans (HD5.out.chgBelow hc6))
  have HD6 := Lib.hid (show DirAt w6 w.heap.size w.heap.size vC vL [(ab, v, pl)] [(ks, 4)] 20 from hD6)
  have e6 : (goneIds 20 [(ks, (2 : Int))]).length = 1 := by decide
  rw [e6]
  have HT6 := Lib.hid (set_bad HD6.out 0 (ks, 4) rfl 2 (by decide))
  clear hD6 hc6 HD5 HB5 HY5 e6
  go_wp2_with (go_at_call 14; refine Hid.out ?_)
  refine Lib.hid ?_
  refine HT6.out.mono ?_
  rintro e w7 ⟨fb, rfl, _, hb7⟩
  have HD7 := Lib.hid (HD6.out.carry hb7)
  have HB7 := Lib.hid (HB6.out.trans (hb7.mono (Nat.le_of_lt HD6.out.base)))
  have HS7 := Lib.hid (state_any HD7.out 1)
  clear hb7 HD6 HB6 HT6
  go_wp2_with (go_at_call 23; refine Hid.out ?_)
  refine Lib.hid ?_
  refine HS7.out.mono ?_
  rintro e w8 ⟨rfl, hb8⟩
  have e8 : (atL [(ks, (4 : Int))] 1).2 = 4 := by decide
  rw [e8]
  have HD8 := Lib.hid (HD7.out.carry hb8)
  have HB8 := Lib.hid (HB7.out.trans (hb8.mono (Nat.le_of_lt HD7.out.base)))
  have HR8 := Lib.hid (Row_any HD8.out)
  clear hb8 HD7 HB7 HS7 e8
  go_wp2_with (go_at_call 28; refine Hid.out ?_)
  refine Lib.hid ?_
  refine HR8.out.mono ?_
  rintro e w9 ⟨⟨A9, c9, rfl⟩, hb9⟩
  have HD9 := Lib.hid (HD8.out.carry hb9)
  have HB9 := Lib.hid (HB8.out.trans (hb9.mono (Nat.le_of_lt HD8.out.base)))
  have HS9 := Lib.hid (state_any HD9.out 2)
  have e9 : [(ks, (4 : Int))].length = 1 := rfl
  rw [e9]
  clear hb9 HD8 HB8 HR8 e9
  go_wp2_with (go_at_call 23; refine Hid.out ?_)
  refine Lib.hid ?_
  refine HS9.out.mono ?_
  rintro e w10 ⟨rfl, hb10⟩
  have e10 : (atL [(ks, (4 : Int))] 2).2 = 0 := by decide
  rw [e10]
  have HD10 := Lib.hid (HD9.out.carry hb10)
  have HB10 := Lib.hid (HB9.out.trans (hb10.mono (Nat.le_of_lt HD9.out.base)))
  have HG10 := Lib.hid (Grid_any HD10.out 1)
  clear hb10 HD9 HB9 HS9 e10
  go_wp2_with (go_at_call 24; refine Hid.out ?_)
  refine Lib.hid ?_
  refine HG10.out.mono ?_
  rintro e w11 ⟨vG, rfl, ho, hb11⟩
  have ek : (atL [(ks, (4 : Int))] 1).1.cls = ab := rfl
  rw [ek, look_ab] at ho
  obtain ⟨AG, cG, rfl⟩ := own_slice ho
  have HO := Lib.hid (on_any AG 1 cG pl 5 w11 (TabAt.ofOwn ho) chk_pl)
  have HB11 := Lib.hid (HB10.out.trans (hb11.mono (Nat.le_of_lt HD10.out.base)))
  rw [show onT pl 5 = true from on_pl (by omega)] at HO
  clear ho hb11 HD10 HB10 HG10 ek
  go_wp2_with (go_at_call 31; refine Hid.out ?_)
  refine Lib.hid ?_
  refine HO.out.mono ?_
  rintro e w12 ⟨rfl, hb12⟩
  have HB12 := Lib.hid (HB11.out.trans (hb12.mono HB11.out.size))
  clear hb12 HO HB11
  go_wp2_with fail
  go_ret
  exact ⟨rfl, HB12.out⟩
end Go.Proofs.YtoilgeahfdbhlaaGreatDoor

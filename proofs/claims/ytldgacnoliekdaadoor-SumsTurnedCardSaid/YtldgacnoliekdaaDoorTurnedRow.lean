/- straddlelaw2.SumsTurned: for every row of bytes, every place, every pattern the law returns true and its arguments read as they did, where errors.errorType holds what its initialiser lays; tied to the program's text. From the contracts of package crc's faces. Conditions: what the card ties (errors.errorType and crc.halves hold what the program's text lays). -/
import Derived.Test.YtldgacnoliekdaaDoorTurned
import Derived.Test.YtldgacnoliekdaaDoorOpen
import Derived.Test.YtldgacnoliekdaaDoorCards
import Derived.Test.YtldgacnoliekdaaDoorTie
import Derived.LaidMore
import Derived.Lib.LaidTab
import Derived.Test.YtldgacnoliekdaaDoorCrcHolds
import Derived.LaidHandle
import Derived.LaidLaws
import Derived.Stop.Joined
import Derived.SevenTiedAt
namespace Go.Proofs.YtldgacnoliekdaaDoor
open Go Go.ChangeShapes Go.WideShapes Go.ChangeAt Go.RowKit Go.Mem1

def laidE : List (String × DataW Unit) := [("errors.errorType", Rows.laid_errors_errorType), ("straddle/crc.halves", Rows.laid_straddle_crc_halves)]
theorem door_met (os : Os) (args : Array Value) : laidMetH Tryd.prog laidE ((World.doorLaid Tryd.prog 400 os).forCall (fun _ _ => 0) ⟨#[], args, []⟩).memory :=
  laidMetH_of_parts (laidMet_of_run' 60 (by kernel_rfl) (by kernel_rfl)) (by kernel_rfl)
theorem et : Tryd.prog.globalNamed "errors.errorType" = some 1 := by kernel_rfl
theorem rt : (Tryd.prog.cutTypes.find? (·.1 == "internal/reflectlite.rtype")).map (·.2) = some 73 := by kernel_rfl
theorem sizeT : Tryd.prog.types.size = 234 - 100 := by kernel_rfl
theorem oneRow : ((List.range (234 - 100)).filter fun t => Tryd.prog.rowNamed t [101, 114, 114, 111, 114]) = [29] := by kernel_rfl
/-- What the condition gives the walks. -/
theorem errType_of {W : World} (h : laidMetH Tryd.prog laidE W) : ErrType W := by
  have h' : laidMet Tryd.prog [("straddle/crc.halves", Rows.laid_straddle_crc_halves)] W ∧ handlesMet Tryd.prog [("errors.errorType", Rows.laid_errors_errorType)] W := h
  obtain ⟨name, u, ty, e1, e2, e3, e4, e5⟩ := h'.2 _ (List.mem_singleton.2 rfl)
  have en : name = [101, 114, 114, 111, 114] := (Option.some.inj e1).symm
  subst en
  obtain rfl := Option.some.inj (rt.symm.trans e2)
  have hm : ty ∈ (List.range (234 - 100)).filter fun t => Tryd.prog.rowNamed t [101, 114, 114, 111, 114] := List.mem_filter.2 ⟨List.mem_range.2 (by rw [← sizeT]; exact e3), e4⟩
  rw [oneRow] at hm
  obtain rfl := List.mem_singleton.1 hm
  have hh : typeHandle Tryd.prog 29 = hnd 29 := by kernel_rfl
  rw [hh] at e5
  unfold ErrType
  simpa using World.var?_cell et e5 0

theorem ht : Tryd.prog.globalNamed "straddle/crc.halves" = some 0 := by kernel_rfl
def halvesZ : List Int := halvesL.map fun (k : Nat) => (k : Int)
theorem halves_of {W : World} (h : laidMetH Tryd.prog laidE W) : Halves W := by
  have h' : laidMet Tryd.prog [("straddle/crc.halves", Rows.laid_straddle_crc_halves)] W ∧ handlesMet Tryd.prog [("errors.errorType", Rows.laid_errors_errorType)] W := h
  have hz : Lib.TabIs Tryd.prog W "straddle/crc.halves" .u32 halvesZ :=
    Lib.tabIs_of_head (t := 49) (e := 25) (n := 16) (rest := []) ht (by kernel_rfl) Tryd.underlying49 Tryd.underlying25 (by kernel_rfl) (by kernel_rfl) h'.1
  intro k hk
  have := hz.cell ht k (by simpa [halvesZ, halvesL] using hk)
  rw [this]
  have : ∀ k : Fin 16, halvesZ.getD k.val 0 = ((halvesL.getD k.val 0 : Nat) : Int) := by decide
  rw [this ⟨k, hk⟩]

set_option maxRecDepth 100000 in
theorem turned_lifted (hSum : SumC) (hAdd : AddC) (hSeal : SealC) (hOpen : OpenC) (os : Os) (started : os.Started) (H : Type) (enc : TypeId × Value → H) :
    ReturnsInHanded {} Tryd.checked os 4 .any (fun w args => (Rows.sumsTurnedSpec.pre enc Tryd.prog Tryd.f4 [] false w args ∧ laidMetH Tryd.prog laidE w) ∧ sizedMet enc Tryd.prog Tryd.f4 (OpenSpec.ofChange Rows.sumsTurnedSpec) false w args)
      (Rows.sumsTurnedSpec.post enc Tryd.prog Tryd.f4 false true false false) := by
  refine returnsInHanded_of_change_and (C := Tryd.checked) (X := fun w _ => laidMetH Tryd.prog laidE w) (fun _ _ _ hh h => h.of_heap hh) own started (by kernel_rfl) Tryd.func4
    (ChangeSpec.witness_shaped (enc := enc) (C := Tryd.checked) (os := os) (X := fun w _ => laidMetH Tryd.prog laidE w) false (World.doorLaid Tryd.prog 400 os) #[.slice none 0 0, .int .i64 0, .int .u32 0] 8 rfl (World.shaped_of_RefB (by kernel_rfl) (by kernel_rfl)) (by kernel_rfl) (by kernel_rfl) (by kernel_rfl) (door_met os _)) ?_
  intro W base args ds gs before hval0 hW _ _ hL _
  have hval : ∀ (j : Nat) t v, Tryd.f4.params[j]? = some t → args[j]? = some v → Value.okWide Tryd.prog W .any base t v := hval0
  have hW' := hW
  obtain ⟨p, q, hA0, hV, rfl, hfz, hnd⟩ := hW
  have hA : DataW.TrodAll enc Tryd.prog W 0 (fun _ => true) true Tryd.f4.params.toList args.toList ds p := hA0
  rw [Tryd.params4] at hA hval
  obtain ⟨v0, vs0, d0, ds0, p0, q0, hargs, rfl, rfl, h0, r0⟩ := trodAll_cons hA
  obtain ⟨v1, vs1, d1, ds1, p1, q1, rfl, rfl, rfl, h1, r1⟩ := trodAll_cons r0
  obtain ⟨v2, vs2, d2, ds2, p2, q2, rfl, rfl, rfl, h2, r2⟩ := trodAll_cons r1
  obtain ⟨rfl, rfl, rfl⟩ := trodAll_nil r2
  obtain rfl : args = #[v0, v1, v2] := by cases args; simp_all
  obtain ⟨rfl, rfl⟩ := trodVars_none hV
  obtain ⟨a0, n0, c0, rfl⟩ := okWide_slice Tryd.underlying23 (hval 0 23 v0 rfl rfl)
  have k0 := h0
  have lt0 : ∀ x ∈ p0, x.block < W.heap.size := by obtain ⟨m, hm⟩ := k0; exact DataW.trod_lt m _ _ _ hm
  obtain ⟨l, hb, hc⟩ := open_bytes h0
  obtain ⟨x1, rfl, rfl, rfl, wf1⟩ := open_int Tryd.underlying3 (hval 1 3 v1 rfl rfl) h1
  obtain ⟨x2, rfl, rfl, rfl, wf2⟩ := open_int Tryd.underlying25 (hval 2 25 v2 rfl rfl) h2
  clear hA0 hval0
  have hg := errType_of hL
  have hT := halves_of hL
  have b1 : -9223372036854775808 ≤ x1 ∧ x1 ≤ 9223372036854775807 := by simpa [Lit.wf, IntKind.min, IntKind.max, IntKind.signed, IntKind.bits] using wf1
  have b2 : 0 ≤ x2 ∧ x2 ≤ 4294967295 := by simpa [Lit.wf, IntKind.min, IntKind.max, IntKind.signed, IntKind.bits] using wf2
  obtain ⟨m, rfl⟩ := Int.eq_ofNat_of_zero_le b2.1
  have fin : Calls Tryd.prog 4 #[.slice a0 n0 c0, .int .i64 x1, .int .u32 (m : Int)] W fun e w' => e = .returned (.bool true) ∧ Below W.heap.size W w' := by
    by_cases hx : n0 < 4 ∨ 300 < n0 ∨ x1 < 0 ∨ m = 0
    · exact turned_early hSum hAdd hSeal hOpen a0 n0 c0 x1 m W hg hT hx
    · exact turned_main hSum hAdd hSeal hOpen a0 n0 c0 x1 m l W hg hT (by omega) (by omega) (by omega) (by omega) (by omega) (by omega) hb
  refine fin.mono fun e W' ⟨he, bel⟩ => ?_
  subst he
  exact ⟨_, rfl, _, _, _, [], _, [], hW', trodAll_mk1 (shut_bool Tryd.underlying4 _), (trodAll_cons_mk (Below.trod laidOut (by kernel_rfl) (of_decide_eq_true (by kernel_rfl)) k0 bel lt0) (trodAll_cons_mk (shut_int Tryd.underlying3 wf1) (trodAll_cons_mk (shut_int Tryd.underlying25 wf2) trodAll_mk0))), rfl, bel.frame _, fun h => by cases h⟩

theorem turned_row (hSum : SumC) (hAdd : AddC) (hSeal : SealC) (hOpen : OpenC) : Rows.SumsTurnedSaid :=
  OpenClaim.holds_of_wide 4 Tryd.f4 rfl rfl rfl rfl rfl rfl rfl ⟨rfl, rfl, rfl, rfl, rfl⟩ rfl rfl rfl rfl rfl (by kernel_rfl) Tryd.func4 (by kernel_rfl)
    (of_decide_eq_true (by kernel_rfl)) (by unfold Func.isWrapper; rw [if_neg (of_decide_eq_false (by kernel_rfl))]; exact ⟨rfl, rfl⟩)
    (fun os started H enc _ => turned_lifted hSum hAdd hSeal hOpen os started H enc)

theorem turned_card (hSum : SumC) (hAdd : AddC) (hSeal : SealC) (hOpen : OpenC) : Rows.SumsTurnedCardSaid :=
  Claim7.holds_tied_plain_at .later [] [.handle, .data] true Rows.sumsTurnedCard.stood.harness true
    (turned_row hSum hAdd hSeal hOpen) (fun _ h => by cases h) (by kernel_rfl) (fun _ h => by cases h) sumsTurned_row_tie rfl ⟨rfl, rfl⟩ (by kernel_rfl) rfl
    (fun f fn hf hfn => by
      obtain rfl : f = 4 := Option.some.inj ((show Tryd.prog.funcNamed "straddle/straddlelaw2.SumsTurned" = some 4 by kernel_rfl).symm.trans hf) |>.symm
      obtain rfl : fn = Tryd.f4 := (Option.some.inj (Tryd.func4.symm.trans hfn)).symm
      exact ⟨by kernel_rfl, fun j t ht => by
        rw [Tryd.params4] at ht
        have hm : t ∈ [23, 3, 25] := by simpa using Array.mem_of_getElem? ht
        have hall : ([23, 3, 25].all fun u => !Tryd.prog.wantsStandIn u) = true := by kernel_rfl
        exact (show Tryd.prog.wantsStandIn t = false by simpa using List.all_eq_true.1 hall t hm)⟩)
    (by kernel_rfl)
theorem sumsTurned_holds : Rows.SumsTurnedCardSaid := turned_card sumC addC sealC openC
end Go.Proofs.YtldgacnoliekdaaDoor

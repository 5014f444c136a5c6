/- The landed book: Insert. -/
import Derived.Test.YtekppjigckjgiaaCbkPut
import Derived.Test.YtekppjigckjgiaaCbkRdc
set_option linter.unusedSimpArgs false
namespace Go.Proofs.Ytekppjigckjgiaa
open Go.RowKit Go.Mem1 Go.CbkMath

set_option maxRecDepth 100000 in
set_option maxHeartbeats 2000000 in
theorem bins_bad {w : World} {B g : Nat} {v1 v2 : Value} {D : Dk} (h : BkAt w B g v1 v2 D) {o : CO} (he : insE D o ≠ 0) :
    Calls Try.prog 9 #[.pointer (some ⟨g, 0, none⟩), coV o] w (BkDid w B g v1 v2 (insD D o) (.int .i64 (insE D o))) := by
  have hD : insD D o = D := by unfold insD; rw [if_neg he]
  obtain ⟨W, hW⟩ : ∃ W, w.alloc (.cells (co1 o).toArray 31) = W := ⟨_, rfl⟩
  have BW : Below w.heap.size w W := by rw [← hW]; exact bel_new _ _
  have hX : Box W w.heap.size 31 (co1 o).toArray := by rw [← hW]; exact Box.fresh w _ _ rfl
  have HX := Lib.hid (fun w' (hb : Below W.heap.size W w') => hX.kept_below hb hX.there)
  have HM := Lib.hid (bmay_any o W)
  have HW := Lib.hid (fun w' (hb : Below W.heap.size W w') => bwaits_any ((h.carry BW).carry hb) o.id)
  have HL := Lib.hid (fun w' (hb : Below W.heap.size W w') => blen_any ((h.carry BW).carry hb))
  have HE := Lib.hid (fun w' (hb : Below W.heap.size W w') => bk_same ((h.carry BW).carry hb) (bel_trans BW hb))
  have hm := h.inv.most
  unfold BkDid
  rw [hD]
  have hW' : w.alloc (.cells #[.int .i64 o.id, .int .i64 o.ow, .int .i64 o.si, .int .i64 o.ne, .int .i64 o.un] 31) = W := hW
  have o0 : W.cell? ⟨w.heap.size, 0, none⟩ = some (.int .i64 o.id) := hX.reads 0
  have o1 : W.cell? ⟨w.heap.size, 1, none⟩ = some (.int .i64 o.ow) := hX.reads 1
  have o2 : W.cell? ⟨w.heap.size, 2, none⟩ = some (.int .i64 o.si) := hX.reads 2
  have o3 : W.cell? ⟨w.heap.size, 3, none⟩ = some (.int .i64 o.ne) := hX.reads 3
  have o4 : W.cell? ⟨w.heap.size, 4, none⟩ = some (.int .i64 o.un) := hX.reads 4
  clear h BW hX hW hD
  obtain ⟨m, hmm⟩ : ∃ m, D.1.length + D.2.length = m := ⟨_, rfl⟩
  unfold insE at *
  by_cases h1 : okC o
  · have hk : decide (okC o) = true := by simp [h1]
    rw [hk] at HM
    rw [if_neg (not_not_intro h1)] at he ⊢
    obtain ⟨R, hR⟩ : ∃ R, (get2 D o.id).isSome = R := ⟨_, rfl⟩
    rw [hR] at HW he ⊢
    clear hR hk
    cases R with
    | true =>
      rw [if_pos rfl]
      unfold coV at *
      go_enter Try.func9, Try.ntmps9
      go_wp2_with (first
        | (go_at_call 27; refine HM.out.mono ?_; rintro e w2 ⟨rfl, hb2⟩; obtain ⟨q0, q1, q2, q3, q4⟩ := OrdAt.cells (HX.out w2 hb2); replace hb2 := Lib.hid hb2)
        | (go_at_call 28; refine (HW.out _ hb2.out).mono ?_; rintro e w3 ⟨rfl, hb3⟩; replace hb3 := Lib.hid (bel_trans hb2.out hb3)))
      go_ret
      exact ⟨rfl, HE.out _ hb3.out⟩
    | false =>
      rw [if_neg (by decide)] at he ⊢
      have h2 : 256 ≤ D.1.length + D.2.length := by
        by_cases h2 : 256 ≤ D.1.length + D.2.length
        · exact h2
        · rw [if_neg h2] at he; exact absurd rfl he
      rw [if_pos h2]
      rw [hmm] at HL h2
      have d1 : (256 : Int) ≤ (m : Int) := by omega
      clear hmm h2 he
      unfold coV at *
      go_enter Try.func9, Try.ntmps9
      go_wp2_with (first
        | (go_at_call 27; refine HM.out.mono ?_; rintro e w2 ⟨rfl, hb2⟩; obtain ⟨q0, q1, q2, q3, q4⟩ := OrdAt.cells (HX.out w2 hb2); replace hb2 := Lib.hid hb2)
        | (go_at_call 28; refine (HW.out _ hb2.out).mono ?_; rintro e w3 ⟨rfl, hb3⟩; replace hb3 := Lib.hid (bel_trans hb2.out hb3))
        | (go_at_call 25; refine (HL.out _ hb3.out).mono ?_; rintro e w4 ⟨rfl, hb4⟩; replace hb4 := Lib.hid (bel_trans hb3.out hb4)))
      go_ret
      exact ⟨rfl, HE.out _ hb4.out⟩
  · have hk : decide (okC o) = false := by simp [h1]
    rw [hk] at HM
    rw [if_pos h1]
    unfold coV at *
    go_enter Try.func9, Try.ntmps9
    go_wp2_with (go_at_call 27; refine HM.out.mono ?_; rintro e w2 ⟨rfl, hb2⟩; replace hb2 := Lib.hid hb2)
    go_ret
    exact ⟨rfl, HE.out _ hb2.out⟩
end Go.Proofs.Ytekppjigckjgiaa

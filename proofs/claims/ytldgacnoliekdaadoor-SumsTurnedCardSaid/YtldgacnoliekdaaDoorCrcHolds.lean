/- The landed crc's four faces do what the laws use of them. -/
import Derived.Test.YtldgacnoliekdaaDoorCrcSeal
import Derived.Test.YtldgacnoliekdaaDoorCrcOpen
namespace Go.Proofs.YtldgacnoliekdaaDoor
open Go.RowKit Go.Mem1

theorem sumC : SumC := fun A n c ls w hT hn h => (sum_any A n c ls w _ hT hn h).mono fun _ _ ⟨he, hw⟩ => ⟨he, by subst hw; exact Below.refl _ _⟩
theorem addC : AddC := fun s A n c l w hT hs hn h => (add_any s A n c l w _ hT hs hn h).mono fun _ _ ⟨he, hw⟩ => ⟨he, by subst hw; exact Below.refl _ _⟩
theorem sealC : SealC := fun A n c l w hT hn hc h => seal_any A n c l w hT hn hc h
theorem openC : OpenC := by
  intro A n c l w hT hn hnc hc h
  by_cases h4 : n < 4
  · exact open_short A n c l w h4 h
  · obtain ⟨m, rfl⟩ : ∃ m, n = m + 4 := ⟨n - 4, by omega⟩
    obtain ⟨b, o, rfl, _, _⟩ := h.rd.cells (by omega)
    have hl : (l.drop m).length = 4 := by have := h.len; rw [List.length_drop]; omega
    match hd : l.drop m, hl with
    | [x0, x1, x2, x3], _ => exact open_long _ _ _ _ _ x0 x1 x2 x3 b o m c l w hT hn hnc h rfl hd rfl
end Go.Proofs.YtldgacnoliekdaaDoor

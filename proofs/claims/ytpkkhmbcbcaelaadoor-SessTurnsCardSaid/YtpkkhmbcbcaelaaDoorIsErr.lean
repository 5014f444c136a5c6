/- An error in memory: a chain of *api.Fault that ends in an api.Errno. No call. -/
import Derived.Test.YtpkkhmbcbcaelaaDoorRows
import Derived.WalkKit
import Derived.LaidEql
import Derived.Stop.Asserts
import Derived.RowKitTokens
import Derived.Deep.LoopGhost
import Derived.Lib.Hide
namespace Go.Proofs.YtpkkhmbcbcaelaaDoor
open Go.RowKit Go.Extern.Stop Go.Stop Go.Extern

/-- An error: Faults (part, place) from the outermost on, then an Errno; all blocks below B. -/
def IsErr (w : World) (B : Nat) : List (ByteArray × Int) → Int → Value → Prop
  | [], n, v => v = .iface 25 (.int .i64 n)
  | (p, k) :: r, n, v => ∃ b u, v = .iface 73 (.pointer (some ⟨b, 0, none⟩)) ∧ b < B ∧ w.cell? ⟨b, 0, none⟩ = some (.string p) ∧ w.cell? ⟨b, 1, none⟩ = some (.int .i64 k) ∧ w.cell? ⟨b, 2, none⟩ = some u ∧ IsErr w B r n u

theorem IsErr.carry {w w' : World} {B : Nat} (hb : Below B w w') : ∀ {l : List (ByteArray × Int)} {n : Int} {v : Value}, IsErr w B l n v → IsErr w' B l n v
  | [], _, _, h => h
  | (_, _) :: _, _, _, ⟨b, u, e, hlt, h0, h1, h2, hr⟩ => ⟨b, u, e, hlt, (hb.cell (p := ⟨b, 0, none⟩) hlt).trans h0, (hb.cell (p := ⟨b, 1, none⟩) hlt).trans h1, (hb.cell (p := ⟨b, 2, none⟩) hlt).trans h2, IsErr.carry hb hr⟩
theorem IsErr.wider {w : World} {B B' : Nat} (hB : B ≤ B') : ∀ {l : List (ByteArray × Int)} {n : Int} {v : Value}, IsErr w B l n v → IsErr w B' l n v
  | [], _, _, h => h
  | (_, _) :: _, _, _, ⟨b, u, e, hlt, h0, h1, h2, hr⟩ => ⟨b, u, e, by omega, h0, h1, h2, IsErr.wider hB hr⟩

theorem IsErr.notNil {w : World} {B : Nat} : ∀ {l : List (ByteArray × Int)} {n : Int} {v : Value}, IsErr w B l n v → ∃ t x, v = .iface t x
  | [], _, _, h => ⟨_, _, h⟩
  | (_, _) :: _, _, _, ⟨_, _, h, _⟩ => ⟨_, _, h⟩
theorem unwrapFault (v : Value) (xT : TypeId) (w : World) : (Instr.typeAssert (.iface 73 v) xT 104 true).run Tryd.prog w = .ok (.tuple #[.iface 73 v, .bool true]) w := run_typeAssert_hasB Tryd.underlying104 (by kernel_rfl) v xT w
theorem methodUnwrapFault (v : Value) (w : World) : (Go.method 260 73 v "Unwrap").run Tryd.prog w = .ok (57, v) w := by kernel_rfl
end Go.Proofs.YtpkkhmbcbcaelaaDoor

/- errors.Is at a chain of *api.Fault that ends in an api.Errno, the target an api.Errno: true just if the numbers are the same. The world is as it was. -/
import Derived.Test.YtpkkhmbcbcaelaaDoorIsErr
import Derived.WalkKit
import Derived.LaidEql
import Derived.Stop.Asserts
import Derived.RowKitTokens
import Derived.Deep.LoopGhost
import Derived.Lib.Hide
namespace Go.Proofs.YtpkkhmbcbcaelaaDoor
open Go.RowKit Go.Extern.Stop Go.Stop Go.Extern

section
variable {P : Program} (w : World)
theorem equalIn_ints (d : Nat) {ti tn : TypeId} {ms : Array (String × TypeId)} {i : TypeInfo} {k : IntKind} (a b : Int) (hi : P.underlying ti = some (.interface ms)) (hn : P.underlying tn = some (.int k))
    (hinfo : P.info? tn = some i) (hcomp : i.comparable = true) : (Op.equalIn (d + 2) ti (.iface tn (.int k a)) (.iface tn (.int k b))).run P w = .ok (a == b) w := by
  simp [Op.equalIn, run_underlying hi, run_underlying hn, typeInfo, hinfo, hcomp]
/-- '==' at two interface values that hold numbers of one type. -/
theorem eql_ints {ti tn : TypeId} {ms : Array (String × TypeId)} {i : TypeInfo} {k : IntKind} (a b : Int) (hi : P.underlying ti = some (.interface ms)) (hn : P.underlying tn = some (.int k))
    (hinfo : P.info? tn = some i) (hcomp : i.comparable = true) : (binOp .eql ti (.iface tn (.int k a)) (.iface tn (.int k b))).run P w = .ok (.bool (a == b)) w := by
  simp only [binOp]
  simp [Op.equal, Op.maxDepth, equalIn_ints w 9998 a b hi hn hinfo hcomp]
end

theorem cmpErrno : (Tryd.prog.info? 25).map (·.comparable) = some true := by kernel_rfl
theorem eqlErrno (a b : Int) (w : World) : (binOp .eql 34 (.iface 25 (.int .i64 a)) (.iface 25 (.int .i64 b))).run Tryd.prog w = .ok (.bool (a == b)) w := by
  obtain ⟨i, hi, hc⟩ := Option.map_eq_some_iff.1 cmpErrno
  exact eql_ints w a b Tryd.underlying34 Tryd.underlying25 hi hc
theorem eqlOther (a : Value) (b : Value) (w : World) : (binOp .eql 34 (.iface 73 a) (.iface 25 b)).run Tryd.prog w = .ok (.bool false) w :=
  run_eql_iface_types (P := Tryd.prog) 73 25 a b Tryd.underlying34 (by decide) w
theorem callTypeOf (v : Value) (w : World) : (callFunc 29 #[.iface 25 v]).run Tryd.prog w = .ok (.value (.iface 99 (.agg #[.pointer (some ⟨4, 25, none⟩)]))) w :=
  (@run_callFunc_extern Tryd.prog 29 _ Extern.ReflectliteType.typeOf Tryd.func29 (by kernel_rfl) (by kernel_rfl) (by kernel_rfl) (by kernel_rfl) _ _).trans (by kernel_rfl)
theorem callComparable (w : World) : (callFunc 77 #[.agg #[.pointer (some ⟨4, 25, none⟩)]]).run Tryd.prog w = .ok (.value (.bool true)) w :=
  (@run_callFunc_extern Tryd.prog 77 _ (Extern.ReflectliteType.method fun t => do Extern.Rtype.noPackHeld "Comparable" t; pure (.bool (← typeInfo t).comparable)) Tryd.func77 (by kernel_rfl) (by kernel_rfl) (by kernel_rfl) (by kernel_rfl) _ _).trans (by kernel_rfl)
theorem methodComparable (v : Value) (w : World) : (Go.method 260 99 v "Comparable").run Tryd.prog w = .ok (77, v) w := by kernel_rfl
theorem noIsFault (v : Value) (xT : TypeId) (w : World) : (Instr.typeAssert (.iface 73 v) xT 101 true).run Tryd.prog w = .ok (.tuple #[.nilIface, .bool false]) w := run_typeAssert_lacksB Tryd.underlying101 (by kernel_rfl) (by kernel_rfl) v xT w
theorem noIsErrno (v : Value) (xT : TypeId) (w : World) : (Instr.typeAssert (.iface 25 v) xT 101 true).run Tryd.prog w = .ok (.tuple #[.nilIface, .bool false]) w := run_typeAssert_lacksB Tryd.underlying101 (by kernel_rfl) (by kernel_rfl) v xT w
theorem noUnwrapErrno (v : Value) (xT : TypeId) (w : World) : (Instr.typeAssert (.iface 25 v) xT 104 true).run Tryd.prog w = .ok (.tuple #[.nilIface, .bool false]) w := run_typeAssert_lacksB Tryd.underlying104 (by kernel_rfl) (by kernel_rfl) v xT w
theorem noUnwrapsErrno (v : Value) (xT : TypeId) (w : World) : (Instr.typeAssert (.iface 25 v) xT 106 true).run Tryd.prog w = .ok (.tuple #[.nilIface, .bool false]) w := run_typeAssert_lacksB Tryd.underlying106 (by kernel_rfl) (by kernel_rfl) v xT w

set_option maxHeartbeats 1000000 in
theorem is_walk (l : List (ByteArray × Int)) (n m : Int) (v : Value) (w : World) (B : Nat) (h : IsErr w B l n v) :
    Calls Tryd.prog 30 #[v, .iface 25 (.int .i64 m), .bool true] w fun e w' => e = .returned (.bool (n == m)) ∧ w = w' := by
  have eE := eqlErrno
  have eO := eqlOther
  have n1 := noIsFault
  have n2 := noIsErrno
  have u1 := unwrapFault
  have u2 := noUnwrapErrno
  have u3 := noUnwrapsErrno
  have mU := methodUnwrapFault
  have H := Lib.hid h; clear h
  go_enter Tryd.func30, Tryd.ntmps30
  go_wp2
  go_loopg [0] l.length (fun k p wr => ∃ l' : List (ByteArray × Int), l'.length = k ∧ Hid (IsErr w B l' n p) ∧ w = wr)
  case atStart => exact ⟨l, rfl, H, rfl⟩
  case round =>
    obtain ⟨l', hk, hI, rfl⟩ := hrel
    cases l' with
    | nil =>
      obtain rfl : _ = _ := hI.out
      go_wp2
      · go_ret
        have hnm : (n == m) = true := by assumption
        exact ⟨by rw [hnm]; rfl, rfl⟩
      · go_ret
        have hnm : (n == m) = false := by assumption
        exact ⟨by rw [hnm]; rfl, rfl⟩
    | cons x r =>
      obtain ⟨p, k⟩ := x
      obtain ⟨b, u, rfl, hb, h0, h1, h2, hr⟩ := hI.out
      obtain ⟨t, x, rfl⟩ := hr.notNil
      have HR := Lib.hid hr; clear hr
      have HK := Lib.hid hk; clear hk
      go_wp2
      go_roundg r.length
      case measure => have := HK.out; simp at this; omega
      case rel => exact ⟨r, rfl, HR, rfl⟩

set_option maxHeartbeats 1000000 in
theorem errorsIs (l : List (ByteArray × Int)) (n m : Int) (v : Value) (w : World) (B : Nat) (h : IsErr w B l n v) :
    Calls Tryd.prog 23 #[v, .iface 25 (.int .i64 m)] w fun e w' => e = .returned (.bool (n == m)) ∧ w = w' := by
  have h8 := callTypeOf
  have h32 := callComparable
  have mR := methodComparable
  obtain ⟨t, x, rfl⟩ := h.notNil
  go_enter Tryd.func23, Tryd.ntmps23
  go_wp2_with (go_at_call 30; refine (is_walk l n m _ _ B h).mono ?_; rintro e w' ⟨rfl, rfl⟩)
  go_ret
  exact ⟨rfl, rfl⟩
theorem errorsIsNil (m : Int) (w : World) :
    Calls Tryd.prog 23 #[.nilIface, .iface 25 (.int .i64 m)] w fun e w' => e = .returned (.bool false) ∧ w = w' := by
  have hn := run_eql_iface_nil_left (P := Tryd.prog) w 25 (.int .i64 m) Tryd.underlying34
  go_enter Tryd.func23, Tryd.ntmps23
  go_wp2
  go_ret
  exact ⟨rfl, rfl⟩
end Go.Proofs.YtpkkhmbcbcaelaaDoor

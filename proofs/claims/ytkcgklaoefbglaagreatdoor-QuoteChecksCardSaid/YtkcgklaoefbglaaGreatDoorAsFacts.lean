/- errors.As at a chain of *api.Fault that ends in an api.Errno, the target a variable of type *api.Fault: a chain with a Fault sets it to the outermost one; a bare Errno, or no error, sets nothing. -/
import Derived.Test.YtkcgklaoefbglaaGreatDoorErr
namespace Go.Proofs.YtkcgklaoefbglaaGreatDoor
open Go.RowKit Go.Extern.Stop Go.Stop Go.Extern

/-- A callee without a body, at closed arguments. -/
theorem extern_at {P : Program} {f : FuncId} {fn : Func} {e : Array Value → Sem Value} (hf : P.funcs[f]? = some fn) (hname : (fn.name == "runtime.NumGoroutine") = false)
    (hb : fn.body.isNone = true) (hn : Extern.findNext fn = none) (he : Extern.find fn = some e) {args : Array Value} {w w' : World} {v : Value} (h : (e args).run P w = .ok v w') :
    (callFunc f args).run P w = .ok (.value v) w' := by rw [run_callFunc_extern hf hname hb hn he, h]; rfl

abbrev hnd (t : Nat) : Value := .pointer (some ⟨4, t, none⟩)
theorem aValueOfPP (t : Addr) (w : World) : (callFunc 35 #[.iface 65 (.pointer (some t))]).run Tryz.prog w = .ok (.value (.agg #[hnd 65, .pointer (some ⟨w.heap.size, 0, none⟩), .int .u64 150])) (w.alloc (.cells #[.pointer (some t)] 65)) :=
  extern_at (e := fun args => ReflectliteValue.unpack (args.getD 0 (.tuple #[]))) Tryz.func35 (by kernel_rfl) (by kernel_rfl) (by kernel_rfl) (by kernel_rfl) (by kernel_rfl)
theorem aValueOfP (e : Addr) (w : World) : (callFunc 35 #[.iface 63 (.pointer (some e))]).run Tryz.prog w = .ok (.value (.agg #[hnd 63, .pointer (some ⟨w.heap.size, 0, none⟩), .int .u64 150])) (w.alloc (.cells #[.pointer (some e)] 63)) :=
  extern_at (e := fun args => ReflectliteValue.unpack (args.getD 0 (.tuple #[]))) Tryz.func35 (by kernel_rfl) (by kernel_rfl) (by kernel_rfl) (by kernel_rfl) (by kernel_rfl)
theorem aType (a : Addr) (w : World) : (callFunc 36 #[.agg #[hnd 65, .pointer (some a), .int .u64 150]]).run Tryz.prog w = .ok (.value (.iface 113 (.agg #[hnd 65]))) w :=
  extern_at (e := ReflectliteValue.methodAny (ReflectliteValue.valueError "reflectlite.Value.Type" 0) fun t _ _ _ => ReflectliteType.toType t) Tryz.func36 (by kernel_rfl) (by kernel_rfl) (by kernel_rfl) (by kernel_rfl) (by kernel_rfl)
theorem aKindPP (w : World) : (callFunc 93 #[hnd 65]).run Tryz.prog w = .ok (.value (.int .u8 22)) w :=
  extern_at (e := ReflectliteType.abiMethod fun t => do pure (.int .u8 (← Rtype.kind t))) Tryz.func93 (by kernel_rfl) (by kernel_rfl) (by kernel_rfl) (by kernel_rfl) (by kernel_rfl)
theorem aKindP (w : World) : (callFunc 93 #[hnd 63]).run Tryz.prog w = .ok (.value (.int .u8 22)) w :=
  extern_at (e := ReflectliteType.abiMethod fun t => do pure (.int .u8 (← Rtype.kind t))) Tryz.func93 (by kernel_rfl) (by kernel_rfl) (by kernel_rfl) (by kernel_rfl) (by kernel_rfl)
theorem aElem (w : World) : (callFunc 118 #[.agg #[hnd 65]]).run Tryz.prog w = .ok (.value (.iface 113 (.agg #[hnd 63]))) w :=
  extern_at (e := ReflectliteType.method ReflectliteType.elem) Tryz.func118 (by kernel_rfl) (by kernel_rfl) (by kernel_rfl) (by kernel_rfl) (by kernel_rfl)
theorem aImplements (w : World) : (callFunc 119 #[.agg #[hnd 63], .iface 113 (.agg #[hnd 39])]).run Tryz.prog w = .ok (.value (.bool true)) w :=
  extern_at (e := ReflectliteType.relation "Implements" ReflectliteType.implements_) Tryz.func119 (by kernel_rfl) (by kernel_rfl) (by kernel_rfl) (by kernel_rfl) (by kernel_rfl)
theorem aTypeOfP (v : Value) (w : World) : (callFunc 33 #[.iface 63 v]).run Tryz.prog w = .ok (.value (.iface 113 (.agg #[hnd 63]))) w :=
  extern_at (e := ReflectliteType.typeOf) Tryz.func33 (by kernel_rfl) (by kernel_rfl) (by kernel_rfl) (by kernel_rfl) (by kernel_rfl)
theorem aAssignP (w : World) : (callFunc 116 #[.agg #[hnd 63], .iface 113 (.agg #[hnd 63])]).run Tryz.prog w = .ok (.value (.bool true)) w :=
  extern_at (e := ReflectliteType.relation "AssignableTo" ReflectliteType.assignableTo) Tryz.func116 (by kernel_rfl) (by kernel_rfl) (by kernel_rfl) (by kernel_rfl) (by kernel_rfl)
theorem aAssignE (w : World) : (callFunc 116 #[.agg #[hnd 62], .iface 113 (.agg #[hnd 63])]).run Tryz.prog w = .ok (.value (.bool false)) w :=
  extern_at (e := ReflectliteType.relation "AssignableTo" ReflectliteType.assignableTo) Tryz.func116 (by kernel_rfl) (by kernel_rfl) (by kernel_rfl) (by kernel_rfl) (by kernel_rfl)
theorem mKind (h : Value) (w : World) : (Go.method 301 113 (.agg #[h]) "Kind").run Tryz.prog w = .ok (93, h) w := by kernel_rfl
theorem mElem (h : Value) (w : World) : (Go.method 301 113 (.agg #[h]) "Elem").run Tryz.prog w = .ok (118, .agg #[h]) w := by kernel_rfl
theorem mImplements (h : Value) (w : World) : (Go.method 301 113 (.agg #[h]) "Implements").run Tryz.prog w = .ok (119, .agg #[h]) w := by kernel_rfl
theorem mAssignableTo (h : Value) (w : World) : (Go.method 301 113 (.agg #[h]) "AssignableTo").run Tryz.prog w = .ok (116, .agg #[h]) w := by kernel_rfl
theorem noAsErrno (v : Value) (xT : TypeId) (w : World) : (Instr.typeAssert (.iface 62 v) xT 125 true).run Tryz.prog w = .ok (.tuple #[.nilIface, .bool false]) w := run_typeAssert_lacksB Tryz.underlying125 (by kernel_rfl) (by kernel_rfl) v xT w

/-! The three that read or write memory. -/
theorem pick1 (h1 : Value → Sem Value) (h2 : Array Value → Sem Value) (v : Value) : ReflectliteValue.method.match_2 (fun _ => Sem Value) #[v] h1 h2 = h1 v := rfl
theorem pick2 (h1 : Value → Value → Sem Value) (h2 : Array Value → Sem Value) (v x : Value) : ReflectliteValue.set.match_3 (fun _ => Sem Value) #[v, x] h1 h2 = h1 v x := rfl
theorem partsPP (a : Addr) (w : World) : (ReflectliteValue.parts (.agg #[hnd 65, .pointer (some a), .int .u64 150])).run Tryz.prog w = .ok (some (65, a, 150)) w := by kernel_rfl
theorem partsP (a : Addr) (w : World) : (ReflectliteValue.parts (.agg #[hnd 63, .pointer (some a), .int .u64 150])).run Tryz.prog w = .ok (some (63, a, 150)) w := by kernel_rfl
theorem partsPa (a : Addr) (w : World) : (ReflectliteValue.parts (.agg #[hnd 63, .pointer (some a), .int .u64 406])).run Tryz.prog w = .ok (some (63, a, 406)) w := by kernel_rfl
theorem aIsNil (a p : Addr) (W : World) (ha : W.cell? a = some (.pointer (some p))) :
    (callFunc 37 #[.agg #[hnd 65, .pointer (some a), .int .u64 150]]).run Tryz.prog W = .ok (.value (.bool false)) W := by
  refine extern_at (e := ReflectliteValue.method (ReflectliteValue.valueError "reflectlite.Value.IsNil" 0) ReflectliteValue.isNil) Tryz.func37 (by kernel_rfl) (by kernel_rfl) (by kernel_rfl) (by kernel_rfl) ?_
  unfold ReflectliteValue.method
  rw [pick1]
  simp only [Sem.run_bind, partsPP, Result.andThen]
  simp [ReflectliteValue.isNil, loadVar, isAgg, underlying, Tryz.underlying65, ha, Result.andThen]
theorem elemOfPP (w : World) : (Rtype.elem? 65).run Tryz.prog w = .ok (some 63) w := by kernel_rfl
theorem mkP (p : Addr) (w : World) : (ReflectliteValue.mk 63 p ReflectliteValue.flagAddr).run Tryz.prog w = .ok (.agg #[hnd 63, .pointer (some p), .int .u64 406]) w := by kernel_rfl
theorem aElemV (a p : Addr) (W : World) (ha : W.cell? a = some (.pointer (some p))) :
    (callFunc 45 #[.agg #[hnd 65, .pointer (some a), .int .u64 150]]).run Tryz.prog W = .ok (.value (.agg #[hnd 63, .pointer (some p), .int .u64 406])) W := by
  refine extern_at (e := ReflectliteValue.method (ReflectliteValue.valueError "reflectlite.Value.Elem" 0) ReflectliteValue.elem) Tryz.func45 (by kernel_rfl) (by kernel_rfl) (by kernel_rfl) (by kernel_rfl) ?_
  unfold ReflectliteValue.method
  rw [pick1]
  simp only [Sem.run_bind, partsPP, Result.andThen]
  simp [ReflectliteValue.elem, loadVar, isAgg, underlying, Tryz.underlying65, ha, Result.andThen, elemOfPP, mkP]
theorem directP (w : World) : (Rtype.directlyAssignable 63 63).run Tryz.prog w = .ok true w := by kernel_rfl
theorem aSet (ta b e : Addr) (old : Value) (W : World) (hb : W.cell? b = some (.pointer (some e))) (ht : W.cell? ta = some old) (hf : W.frozen? ta = false) :
    (callFunc 46 #[.agg #[hnd 63, .pointer (some ta), .int .u64 406], .agg #[hnd 63, .pointer (some b), .int .u64 150]]).run Tryz.prog W = .ok (.value (.tuple #[])) (W.setCell ta (.pointer (some e))) := by
  refine extern_at (e := ReflectliteValue.set) Tryz.func46 (by kernel_rfl) (by kernel_rfl) (by kernel_rfl) (by kernel_rfl) ?_
  unfold ReflectliteValue.set
  rw [pick2]
  simp only [Sem.run_bind, partsPa, partsP, Result.andThen]
  simp [ReflectliteValue.flagAddr, loadVar, isAgg, underlying, Tryz.underlying63, hb, Result.andThen, directP, storeVar, Value.cells, storeCells, Addr.add]
  rw [run_store Tryz.prog W ta _ _ (by rfl)]
  simp [ht, hf]
end Go.Proofs.YtkcgklaoefbglaaGreatDoor

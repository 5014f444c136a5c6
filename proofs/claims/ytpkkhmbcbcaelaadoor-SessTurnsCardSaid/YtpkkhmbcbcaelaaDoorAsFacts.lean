/- errors.As at a chain of *api.Fault that ends in an api.Errno, the target a variable of type *api.Fault: a chain with a Fault sets it to the outermost one; a bare Errno, or no error, sets nothing. -/
import Derived.Test.YtpkkhmbcbcaelaaDoorErr
namespace Go.Proofs.YtpkkhmbcbcaelaaDoor
open Go.RowKit Go.Extern.Stop Go.Stop Go.Extern

/-- A callee without a body, at closed arguments. -/
theorem extern_at {P : Program} {f : FuncId} {fn : Func} {e : Array Value → Sem Value} (hf : P.funcs[f]? = some fn) (hname : (fn.name == "runtime.NumGoroutine") = false)
    (hb : fn.body.isNone = true) (hn : Extern.findNext fn = none) (he : Extern.find fn = some e) {args : Array Value} {w w' : World} {v : Value} (h : (e args).run P w = .ok v w') :
    (callFunc f args).run P w = .ok (.value v) w' := by rw [run_callFunc_extern hf hname hb hn he, h]; rfl

abbrev hnd (t : Nat) : Value := .pointer (some ⟨4, t, none⟩)
theorem aValueOfPP (t : Addr) (w : World) : (callFunc 31 #[.iface 75 (.pointer (some t))]).run Tryd.prog w = .ok (.value (.agg #[hnd 75, .pointer (some ⟨w.heap.size, 0, none⟩), .int .u64 150])) (w.alloc (.cells #[.pointer (some t)] 75)) :=
  extern_at (e := fun args => ReflectliteValue.unpack (args.getD 0 (.tuple #[]))) Tryd.func31 (by kernel_rfl) (by kernel_rfl) (by kernel_rfl) (by kernel_rfl) (by kernel_rfl)
theorem aValueOfP (e : Addr) (w : World) : (callFunc 31 #[.iface 73 (.pointer (some e))]).run Tryd.prog w = .ok (.value (.agg #[hnd 73, .pointer (some ⟨w.heap.size, 0, none⟩), .int .u64 150])) (w.alloc (.cells #[.pointer (some e)] 73)) :=
  extern_at (e := fun args => ReflectliteValue.unpack (args.getD 0 (.tuple #[]))) Tryd.func31 (by kernel_rfl) (by kernel_rfl) (by kernel_rfl) (by kernel_rfl) (by kernel_rfl)
theorem aType (a : Addr) (w : World) : (callFunc 32 #[.agg #[hnd 75, .pointer (some a), .int .u64 150]]).run Tryd.prog w = .ok (.value (.iface 99 (.agg #[hnd 75]))) w :=
  extern_at (e := ReflectliteValue.methodAny (ReflectliteValue.valueError "reflectlite.Value.Type" 0) fun t _ _ _ => ReflectliteType.toType t) Tryd.func32 (by kernel_rfl) (by kernel_rfl) (by kernel_rfl) (by kernel_rfl) (by kernel_rfl)
theorem aKindPP (w : World) : (callFunc 52 #[hnd 75]).run Tryd.prog w = .ok (.value (.int .u8 22)) w :=
  extern_at (e := ReflectliteType.abiMethod fun t => do pure (.int .u8 (← Rtype.kind t))) Tryd.func52 (by kernel_rfl) (by kernel_rfl) (by kernel_rfl) (by kernel_rfl) (by kernel_rfl)
theorem aKindP (w : World) : (callFunc 52 #[hnd 73]).run Tryd.prog w = .ok (.value (.int .u8 22)) w :=
  extern_at (e := ReflectliteType.abiMethod fun t => do pure (.int .u8 (← Rtype.kind t))) Tryd.func52 (by kernel_rfl) (by kernel_rfl) (by kernel_rfl) (by kernel_rfl) (by kernel_rfl)
theorem aElem (w : World) : (callFunc 78 #[.agg #[hnd 75]]).run Tryd.prog w = .ok (.value (.iface 99 (.agg #[hnd 73]))) w :=
  extern_at (e := ReflectliteType.method ReflectliteType.elem) Tryd.func78 (by kernel_rfl) (by kernel_rfl) (by kernel_rfl) (by kernel_rfl) (by kernel_rfl)
theorem aImplements (w : World) : (callFunc 79 #[.agg #[hnd 73], .iface 99 (.agg #[hnd 34])]).run Tryd.prog w = .ok (.value (.bool true)) w :=
  extern_at (e := ReflectliteType.relation "Implements" ReflectliteType.implements_) Tryd.func79 (by kernel_rfl) (by kernel_rfl) (by kernel_rfl) (by kernel_rfl) (by kernel_rfl)
theorem aTypeOfP (v : Value) (w : World) : (callFunc 29 #[.iface 73 v]).run Tryd.prog w = .ok (.value (.iface 99 (.agg #[hnd 73]))) w :=
  extern_at (e := ReflectliteType.typeOf) Tryd.func29 (by kernel_rfl) (by kernel_rfl) (by kernel_rfl) (by kernel_rfl) (by kernel_rfl)
theorem aAssignP (w : World) : (callFunc 76 #[.agg #[hnd 73], .iface 99 (.agg #[hnd 73])]).run Tryd.prog w = .ok (.value (.bool true)) w :=
  extern_at (e := ReflectliteType.relation "AssignableTo" ReflectliteType.assignableTo) Tryd.func76 (by kernel_rfl) (by kernel_rfl) (by kernel_rfl) (by kernel_rfl) (by kernel_rfl)
theorem aAssignE (w : World) : (callFunc 76 #[.agg #[hnd 25], .iface 99 (.agg #[hnd 73])]).run Tryd.prog w = .ok (.value (.bool false)) w :=
  extern_at (e := ReflectliteType.relation "AssignableTo" ReflectliteType.assignableTo) Tryd.func76 (by kernel_rfl) (by kernel_rfl) (by kernel_rfl) (by kernel_rfl) (by kernel_rfl)
theorem mKind (h : Value) (w : World) : (Go.method 260 99 (.agg #[h]) "Kind").run Tryd.prog w = .ok (52, h) w := by kernel_rfl
theorem mElem (h : Value) (w : World) : (Go.method 260 99 (.agg #[h]) "Elem").run Tryd.prog w = .ok (78, .agg #[h]) w := by kernel_rfl
theorem mImplements (h : Value) (w : World) : (Go.method 260 99 (.agg #[h]) "Implements").run Tryd.prog w = .ok (79, .agg #[h]) w := by kernel_rfl
theorem mAssignableTo (h : Value) (w : World) : (Go.method 260 99 (.agg #[h]) "AssignableTo").run Tryd.prog w = .ok (76, .agg #[h]) w := by kernel_rfl
theorem noAsErrno (v : Value) (xT : TypeId) (w : World) : (Instr.typeAssert (.iface 25 v) xT 111 true).run Tryd.prog w = .ok (.tuple #[.nilIface, .bool false]) w := run_typeAssert_lacksB Tryd.underlying111 (by kernel_rfl) (by kernel_rfl) v xT w

/-! The three that read or write memory. -/
theorem pick1 (h1 : Value → Sem Value) (h2 : Array Value → Sem Value) (v : Value) : ReflectliteValue.method.match_2 (fun _ => Sem Value) #[v] h1 h2 = h1 v := rfl
theorem pick2 (h1 : Value → Value → Sem Value) (h2 : Array Value → Sem Value) (v x : Value) : ReflectliteValue.set.match_3 (fun _ => Sem Value) #[v, x] h1 h2 = h1 v x := rfl
theorem partsPP (a : Addr) (w : World) : (ReflectliteValue.parts (.agg #[hnd 75, .pointer (some a), .int .u64 150])).run Tryd.prog w = .ok (some (75, a, 150)) w := by kernel_rfl
theorem partsP (a : Addr) (w : World) : (ReflectliteValue.parts (.agg #[hnd 73, .pointer (some a), .int .u64 150])).run Tryd.prog w = .ok (some (73, a, 150)) w := by kernel_rfl
theorem partsPa (a : Addr) (w : World) : (ReflectliteValue.parts (.agg #[hnd 73, .pointer (some a), .int .u64 406])).run Tryd.prog w = .ok (some (73, a, 406)) w := by kernel_rfl
theorem aIsNil (a p : Addr) (W : World) (ha : W.cell? a = some (.pointer (some p))) :
    (callFunc 33 #[.agg #[hnd 75, .pointer (some a), .int .u64 150]]).run Tryd.prog W = .ok (.value (.bool false)) W := by
  refine extern_at (e := ReflectliteValue.method (ReflectliteValue.valueError "reflectlite.Value.IsNil" 0) ReflectliteValue.isNil) Tryd.func33 (by kernel_rfl) (by kernel_rfl) (by kernel_rfl) (by kernel_rfl) ?_
  unfold ReflectliteValue.method
  rw [pick1]
  simp only [Sem.run_bind, partsPP, Result.andThen]
  simp [ReflectliteValue.isNil, loadVar, isAgg, underlying, Tryd.underlying75, ha, Result.andThen]
theorem elemOfPP (w : World) : (Rtype.elem? 75).run Tryd.prog w = .ok (some 73) w := by kernel_rfl
theorem mkP (p : Addr) (w : World) : (ReflectliteValue.mk 73 p ReflectliteValue.flagAddr).run Tryd.prog w = .ok (.agg #[hnd 73, .pointer (some p), .int .u64 406]) w := by kernel_rfl
theorem aElemV (a p : Addr) (W : World) (ha : W.cell? a = some (.pointer (some p))) :
    (callFunc 36 #[.agg #[hnd 75, .pointer (some a), .int .u64 150]]).run Tryd.prog W = .ok (.value (.agg #[hnd 73, .pointer (some p), .int .u64 406])) W := by
  refine extern_at (e := ReflectliteValue.method (ReflectliteValue.valueError "reflectlite.Value.Elem" 0) ReflectliteValue.elem) Tryd.func36 (by kernel_rfl) (by kernel_rfl) (by kernel_rfl) (by kernel_rfl) ?_
  unfold ReflectliteValue.method
  rw [pick1]
  simp only [Sem.run_bind, partsPP, Result.andThen]
  simp [ReflectliteValue.elem, loadVar, isAgg, underlying, Tryd.underlying75, ha, Result.andThen, elemOfPP, mkP]
theorem directP (w : World) : (Rtype.directlyAssignable 73 73).run Tryd.prog w = .ok true w := by kernel_rfl
theorem aSet (ta b e : Addr) (old : Value) (W : World) (hb : W.cell? b = some (.pointer (some e))) (ht : W.cell? ta = some old) (hf : W.frozen? ta = false) :
    (callFunc 37 #[.agg #[hnd 73, .pointer (some ta), .int .u64 406], .agg #[hnd 73, .pointer (some b), .int .u64 150]]).run Tryd.prog W = .ok (.value (.tuple #[])) (W.setCell ta (.pointer (some e))) := by
  refine extern_at (e := ReflectliteValue.set) Tryd.func37 (by kernel_rfl) (by kernel_rfl) (by kernel_rfl) (by kernel_rfl) ?_
  unfold ReflectliteValue.set
  rw [pick2]
  simp only [Sem.run_bind, partsPa, partsP, Result.andThen]
  simp [ReflectliteValue.flagAddr, loadVar, isAgg, underlying, Tryd.underlying73, hb, Result.andThen, directP, storeVar, Value.cells, storeCells, Addr.add]
  rw [run_store Tryd.prog W ta _ _ (by rfl)]
  simp [ht, hf]
end Go.Proofs.YtpkkhmbcbcaelaaDoor

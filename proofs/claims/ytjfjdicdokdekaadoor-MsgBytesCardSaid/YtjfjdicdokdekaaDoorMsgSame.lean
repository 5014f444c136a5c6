/- The landed msg.Same, the reference's Same; the law's Of. -/
import Derived.Test.YtjfjdicdokdekaaDoorMsgEnc
import Derived.Laws.StructEq
import Derived.Deep.QuietTactic
import Derived.BigQuiet
set_option linter.unusedSimpArgs false
namespace Go.Mem1
open Go.RowKit
theorem all_range_ints : ∀ (xs ys : List Int), xs.length = ys.length → ((List.range xs.length).all fun i => xs.getD i 0 == ys.getD i 0) = (xs == ys)
  | [], [], _ => rfl
  | x :: xs, y :: ys, h => by
    have ih := all_range_ints xs ys (by simpa using h)
    rw [List.length_cons, List.range_succ_eq_map, List.all_cons, List.all_map]
    simp only [List.getD_cons_zero, Function.comp_def, List.getD_cons_succ, ih]
    simp [List.cons_beq_cons]
  | [], _ :: _, h => by simp at h
  | _ :: _, [], h => by simp at h
section
variable {P : Program} (w : World)
theorem run_equalIn_i64s (d : Nat) (t e : TypeId) (n : Nat) (ht : P.underlying t = some (.array n e)) (he : P.underlying e = some (.int .i64)) (hsz : ∀ w, (sizeOf e).run P w = .ok 1 w)
    (xs ys : List Int) (hx : xs.length = n) (hy : ys.length = n) :
    (Op.equalIn (d + 2) t (.agg (xs.map (Value.int .i64)).toArray) (.agg (ys.map (Value.int .i64)).toArray)).run P w = .ok (xs == ys) w := by
  rw [← all_range_ints xs ys (hx.trans hy.symm), hx, List.range_eq_range', Op.equalIn]
  simp only [Sem.run_bind, run_underlying ht, Result.andThen_ok, hsz, Std.Legacy.Range.forIn_eq_forIn_range', Std.Legacy.Range.size, Nat.sub_zero, Nat.add_sub_cancel, Nat.div_one]
  have hl : ∀ i ∈ List.range' 0 n 1, i < n := fun i hi => by simpa using (List.mem_range'_1.1 hi).2
  generalize List.range' 0 n 1 = l at hl ⊢
  induction l with
  | nil => simp
  | cons i l ih =>
    have hi : i < n := hl i (by simp)
    have px : (part e (xs.map (Value.int .i64)).toArray (i * 1)).run P w = .ok (.int .i64 (xs.getD i 0)) w := by
      simp [part, isAgg, run_underlying he, List.getD, List.getElem?_eq_getElem (show i < xs.length by omega)]
    have py : (part e (ys.map (Value.int .i64)).toArray (i * 1)).run P w = .ok (.int .i64 (ys.getD i 0)) w := by
      simp [part, isAgg, run_underlying he, List.getD, List.getElem?_eq_getElem (show i < ys.length by omega)]
    have pe : (Op.equalIn (d + 1) e (.int .i64 (xs.getD i 0)) (.int .i64 (ys.getD i 0))).run P w = .ok (xs.getD i 0 == ys.getD i 0) w :=
      run_equalIn_int w d e .i64 .i64 _ _ he
    simp only [List.forIn_cons, Sem.run_bind, px, py, pe, Result.andThen_ok, List.all_cons]
    cases hb : (xs.getD i 0 == ys.getD i 0)
    · simp
    · simp only [Bool.not_true, Bool.false_eq_true, if_false, Sem.run_pure, Result.andThen_ok, Bool.true_and]
      exact ih fun j hj => hl j (by simp [hj])
theorem run_eql_i64s (t e : TypeId) (n : Nat) (ht : P.underlying t = some (.array n e)) (he : P.underlying e = some (.int .i64)) (hsz : ∀ w, (sizeOf e).run P w = .ok 1 w)
    (xs ys : List Int) (hx : xs.length = n) (hy : ys.length = n) :
    (binOp .eql t (.agg (xs.map (Value.int .i64)).toArray) (.agg (ys.map (Value.int .i64)).toArray)).run P w = .ok (.bool (xs == ys)) w := by
  rw [run_eql_struct, run_equalIn_i64s w 9998 t e n ht he hsz xs ys hx hy]
  rfl
theorem run_neq_i64s (t e : TypeId) (n : Nat) (ht : P.underlying t = some (.array n e)) (he : P.underlying e = some (.int .i64)) (hsz : ∀ w, (sizeOf e).run P w = .ok 1 w)
    (xs ys : List Int) (hx : xs.length = n) (hy : ys.length = n) :
    (binOp .neq t (.agg (xs.map (Value.int .i64)).toArray) (.agg (ys.map (Value.int .i64)).toArray)).run P w = .ok (.bool (!(xs == ys))) w := by
  rw [run_neq_struct, run_equalIn_i64s w 9998 t e n ht he hsz xs ys hx hy]
  rfl
end
end Go.Mem1
namespace Go.Proofs.YtjfjdicdokdekaaDoor
open Go.RowKit Go.Mem1 Go.CodMath

theorem int_size (w : World) : (sizeOf 2).run Tryd.prog w = .ok 1 w := by kernel_rfl
theorem neqRow (x y : R5) (w : World) : (binOp .neq 88 (.agg #[.int .i64 x.p, .int .i64 x.q, .int .i64 x.r, .int .i64 x.s, .int .i64 x.t]) (.agg #[.int .i64 y.p, .int .i64 y.q, .int .i64 y.r, .int .i64 y.s, .int .i64 y.t])).run Tryd.prog w = .ok (.bool (!(x.l == y.l))) w :=
  run_neq_i64s (P := Tryd.prog) w 88 2 5 Tryd.underlying88 Tryd.underlying2 int_size x.l y.l rfl rfl
theorem neqRefRow (x y : R5) (w : World) : (binOp .neq 105 (.agg #[.int .i64 x.p, .int .i64 x.q, .int .i64 x.r, .int .i64 x.s, .int .i64 x.t]) (.agg #[.int .i64 y.p, .int .i64 y.q, .int .i64 y.r, .int .i64 y.s, .int .i64 y.t])).run Tryd.prog w = .ok (.bool (!(x.l == y.l))) w :=
  run_neq_i64s (P := Tryd.prog) w 105 2 5 Tryd.underlying105 Tryd.underlying2 int_size x.l y.l rfl rfl
def Hd.as (h : Hd) : List Int := [h.a, h.b, h.c, h.d, h.e, h.f]
theorem eqlAs (x y : Hd) (w : World) : (binOp .eql 55 (.agg #[.int .i64 x.a, .int .i64 x.b, .int .i64 x.c, .int .i64 x.d, .int .i64 x.e, .int .i64 x.f]) (.agg #[.int .i64 y.a, .int .i64 y.b, .int .i64 y.c, .int .i64 y.d, .int .i64 y.e, .int .i64 y.f])).run Tryd.prog w = .ok (.bool (x.as == y.as)) w :=
  run_eql_i64s (P := Tryd.prog) w 55 2 6 Tryd.underlying55 Tryd.underlying2 int_size x.as y.as rfl rfl
theorem neqAs (x y : Hd) (w : World) : (binOp .neq 55 (.agg #[.int .i64 x.a, .int .i64 x.b, .int .i64 x.c, .int .i64 x.d, .int .i64 x.e, .int .i64 x.f]) (.agg #[.int .i64 y.a, .int .i64 y.b, .int .i64 y.c, .int .i64 y.d, .int .i64 y.e, .int .i64 y.f])).run Tryd.prog w = .ok (.bool (!(x.as == y.as))) w :=
  run_neq_i64s (P := Tryd.prog) w 55 2 6 Tryd.underlying55 Tryd.underlying2 int_size x.as y.as rfl rfl

/-- The same rows; the same messages. -/
def eqRows (ra rb : List R5) : Bool := ra.map R5.l == rb.map R5.l
def sameB (ha hb : Hd) (ra rb : List R5) : Bool := ha.k == hb.k && ha.s == hb.s && ha.as == hb.as && eqRows ra rb
theorem R5.ext_l {x y : R5} (h : x.l = y.l) : x = y := by
  obtain ⟨p, q, r, s, t⟩ := x
  obtain ⟨p', q', r', s', t'⟩ := y
  simp [R5.l] at h
  obtain ⟨rfl, rfl, rfl, rfl, rfl⟩ := h
  rfl
theorem eqRows_iff {ra rb : List R5} : eqRows ra rb = true ↔ ra = rb := by
  unfold eqRows
  rw [beq_iff_eq]
  constructor
  · intro h
    induction ra generalizing rb with
    | nil => cases rb with
      | nil => rfl
      | cons y r => simp at h
    | cons x r ih => cases rb with
      | nil => simp at h
      | cons y r' =>
        simp only [List.map_cons, List.cons.injEq] at h
        rw [R5.ext_l h.1, ih h.2]
  · rintro rfl; rfl
theorem sameB_iff {ha hb : Hd} {ra rb : List R5} : sameB ha hb ra rb = true ↔ ha = hb ∧ ra = rb := by
  unfold sameB
  simp only [Bool.and_eq_true, beq_iff_eq, eqRows_iff]
  constructor
  · rintro ⟨⟨⟨h1, h2⟩, h3⟩, h4⟩
    obtain ⟨k, s, a, b, c, d, e, f⟩ := ha
    obtain ⟨k', s', a', b', c', d', e', f'⟩ := hb
    simp [Hd.as] at h1 h2 h3
    obtain ⟨rfl, rfl, rfl, rfl, rfl, rfl⟩ := h3
    subst h1; subst h2
    exact ⟨rfl, h4⟩
  · rintro ⟨rfl, rfl⟩; exact ⟨⟨⟨rfl, rfl⟩, rfl⟩, rfl⟩
theorem eqRows_len {ra rb : List R5} (h : ra.length ≠ rb.length) : eqRows ra rb = false := by
  rcases hb : eqRows ra rb with _ | _
  · rfl
  · rw [eqRows_iff] at hb; subst hb; exact absurd rfl h
theorem eqRows_at {ra rb : List R5} {k : Nat} {x y : R5} (hx : ra[k]? = some x) (hy : rb[k]? = some y) (h : (x.l == y.l) = false) : eqRows ra rb = false := by
  rcases hb : eqRows ra rb with _ | _
  · rfl
  · rw [eqRows_iff] at hb; subst hb
    rw [hx] at hy; injection hy with hy; subst hy
    simp at h

def QuietBool (b : Bool) (w : World) (e : Ending) (w' : World) : Prop := e = .returned (.bool b) ∧ ∃ m, w' = w.drewN m
theorem drewN_drewN (w : World) (m n : Nat) : ∃ k, (w.drewN m).drewN n = w.drewN k := ⟨m + n, by simp [World.drewN, Nat.add_assoc]⟩
theorem RowsAt.drewN {w : World} {B : Nat} {A : Option Addr} {n : Nat} {rs : List R5} (h : RowsAt w B A n rs) (m : Nat) : RowsAt (w.drewN m) B A n rs := h.carry (bel_drewN (Below.refl B w) m)
set_option maxRecDepth 100000 in
set_option maxHeartbeats 2000000 in
theorem equal_any (A A' : Option Addr) (n n' c c' : Nat) (ra rb : List R5) (w : World) (B B' : Nat) (h : RowsAt w B A n ra) (h' : RowsAt w B' A' n' rb) (hn : n ≤ maxLen) :
    Calls Tryd.prog 71 #[.slice A n c, .slice A' n' c'] w (QuietBool (eqRows ra rb) w) := by
  unfold maxLen at hn
  have l1 := h.len
  have l2 := h'.len
  by_cases hnn : n = n'
  · subst hnn
    have H := Lib.hid h
    have H' := Lib.hid h'
    have L1 := Lib.hid l1
    have L2 := Lib.hid l2
    clear h h' l1 l2
    go_enter Tryd.func71, Tryd.ntmps71
    go_wp2_with fail
    go_loopw [13] (fun v13 wr => ∃ k m : Nat, k ≤ n ∧ v13 = .int .i64 k ∧ Hid (wr = w.drewN m) ∧ Hid (ra.take k = rb.take k)) (fun v13 _ => n - (intOf v13).toNat)
    case atStart => exact ⟨0, 0, by omega, rfl, Lib.hid rfl, Lib.hid rfl⟩
    case round =>
      obtain ⟨k, m, hk, rfl, hW, hT⟩ := hrel
      by_cases hlt : k < n
      · have hr := H.out.drewN m
        have hr' := H'.out.drewN m
        rw [← hW.out] at hr hr'
        obtain ⟨b, off, x, rfl, hb, hx, _, x0, x1, x2, x3, x4⟩ := hr.at_ hlt
        obtain ⟨b', off', y, rfl, hb', hy, _, y0, y1, y2, y3, y4⟩ := hr'.at_ hlt
        have hq := fun w => neqRow x y w
        have HX := Lib.hid hx
        have HY := Lib.hid hy
        clear hx hy hr hr'
        have i1 : (0 : Int) ≤ (k : Int) := by omega
        have i2 : (k : Int) < (n : Int) := by omega
        have HXY0 : ∃ bb, (x.l == y.l) = bb := ⟨_, rfl⟩
        obtain ⟨bb, hbb⟩ := HXY0
        simp only [hbb] at hq
        have HBB := Lib.hid hbb
        clear hbb
        cases bb
        · go_wp2_with fail
          go_quiet (fail)
          go_wp2_with fail
          go_ret
          obtain ⟨m2, hm2⟩ := drewN_drewN w m nq
          exact ⟨ret_bool (eqRows_at HX.out HY.out HBB.out).symm, m2, by rw [hW.out]; exact hm2⟩
        · go_wp2_with fail
          go_quiet (fail)
          go_wp2_with fail
          go_roundw
          obtain ⟨m2, hm2⟩ := drewN_drewN w m nq
          case rel => exact ⟨k + 1, m2, by omega, by go_num, Lib.hid (by rw [hW.out]; exact hm2), Lib.hid (by
            rw [List.take_add_one, List.take_add_one, hT.out, HX.out, HY.out]
            have := R5.ext_l (beq_iff_eq.1 HBB.out)
            rw [this])⟩
          case measure => simp [intOf]; omega
      · obtain rfl : k = n := by omega
        have he : eqRows ra rb = true := by
          rw [eqRows_iff]
          have := hT.out
          rwa [List.take_of_length_le (by have := L1.out; omega), List.take_of_length_le (by have := L2.out; omega)] at this
        have HE := Lib.hid he
        clear he
        go_wp2_with fail
        go_ret
        exact ⟨ret_bool HE.out.symm, m, hW.out⟩
  · have he : eqRows ra rb = false := eqRows_len (by omega)
    have hne : ((n : Int) == (n' : Int)) = false := by simp; omega
    have hne' : ((n : Int) != (n' : Int)) = true := by simp; omega
    rw [he]
    clear he h h' l1 l2
    go_enter Tryd.func71, Tryd.ntmps71
    go_wp2_with fail
    go_ret
    exact ⟨rfl, 0, rfl⟩

set_option maxRecDepth 100000 in
set_option maxHeartbeats 2000000 in
theorem same_any (ha hb : Hd) (A A' : Option Addr) (n n' c c' : Nat) (ra rb : List R5) (w : World) (B B' : Nat) (h : RowsAt w B A n ra) (h' : RowsAt w B' A' n' rb) (hB : B ≤ w.heap.size) (hB' : B' ≤ w.heap.size) (hn : n ≤ maxLen) :
    Calls Tryd.prog 40 #[.agg #[.int .i64 ha.k, .int .i64 ha.s, .int .i64 ha.a, .int .i64 ha.b, .int .i64 ha.c, .int .i64 ha.d, .int .i64 ha.e, .int .i64 ha.f, .slice A n c],
      .agg #[.int .i64 hb.k, .int .i64 hb.s, .int .i64 hb.a, .int .i64 hb.b, .int .i64 hb.c, .int .i64 hb.d, .int .i64 hb.e, .int .i64 hb.f, .slice A' n' c']] w
      fun e w' => e = .returned (.bool (sameB ha hb ra rb)) ∧ Below w.heap.size w w' := by
  have hq := fun w => eqlAs ha hb w
  have hE := fun (w' : World) (k : Below w.heap.size w w') => equal_any A A' n n' c c' ra rb w' B B' (h.carry (k.mono hB)) (h'.carry (k.mono hB')) hn
  have HE := Lib.hid hE
  clear hE h h'
  have hs : sameB ha hb ra rb = (ha.k == hb.k && ha.s == hb.s && ha.as == hb.as && eqRows ra rb) := rfl
  have HS := Lib.hid hs
  have h1 : ∃ b, (ha.k == hb.k) = b := ⟨_, rfl⟩
  obtain ⟨b1, h1⟩ := h1
  have h2 : ∃ b, (ha.s == hb.s) = b := ⟨_, rfl⟩
  obtain ⟨b2, h2⟩ := h2
  have h3 : ∃ b, (ha.as == hb.as) = b := ⟨_, rfl⟩
  obtain ⟨b3, h3⟩ := h3
  rw [h1, h2, h3] at hs
  simp only [h3] at hq
  have HS := Lib.hid hs
  clear hs h3
  cases b1
  · clear h2
    go_enter Tryd.func40, Tryd.ntmps40
    go_wp2_with fail
    go_ret
    exact ⟨ret_bool (by rw [HS.out]; rfl), bel_alloc (bel_new _ _) _⟩
  · cases b2
    · go_enter Tryd.func40, Tryd.ntmps40
      go_wp2_with fail
      go_ret
      exact ⟨ret_bool (by rw [HS.out]; rfl), bel_alloc (bel_new _ _) _⟩
    · cases b3
      · go_enter Tryd.func40, Tryd.ntmps40
        go_wp2_with fail
        go_ret
        exact ⟨ret_bool (by rw [HS.out]; rfl), bel_alloc (bel_new _ _) _⟩
      · go_enter Tryd.func40, Tryd.ntmps40
        go_wp2_with fail
        refine (HE.out _ (bel_alloc (bel_new _ _) _)).mono ?_
        rintro e w1 ⟨rfl, m, rfl⟩
        generalize eqRows ra rb = b4 at HS
        have HS := Lib.hid HS.out
        cases b4
        · go_wp2_with fail
          go_ret
          exact ⟨ret_bool (by rw [HS.out]; rfl), bel_drewN (bel_alloc (bel_new _ _) _) m⟩
        · go_wp2_with fail
          go_ret
          exact ⟨ret_bool (by rw [HS.out]; rfl), bel_drewN (bel_alloc (bel_new _ _) _) m⟩
end Go.Proofs.YtjfjdicdokdekaaDoor

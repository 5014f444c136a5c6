/- Rows of five numbers in memory; numbers one behind the other read into a block. -/
import Derived.Test.YtjfjdicdokdekaaDoorCodDec
import Derived.Test.YtjfjdicdokdekaaDoorCodEnc
set_option linter.unusedSimpArgs false
namespace Go.Mem1
open Go.RowKit
theorem Rd.kept {w w' : World} {A : Option Addr} {n : Nat} {xs : List Value} {S : Nat → Prop} (h : Rd w w.heap.size A n xs) (hc : Chg S w w') (hS : ∀ b o, A = some ⟨b, o, none⟩ → 0 < n → ¬ S b) : Rd w' w'.heap.size A n xs :=
  ⟨h.len, fun hn => by
    obtain ⟨b, o, e, hlt, hcell⟩ := h.cells hn
    refine ⟨b, o, e, Nat.lt_of_lt_of_le hlt hc.size, fun k u hu => hc.cell (hcell k u hu) (hS b o e hn)⟩⟩
theorem Rd.made' {w : World} {cs : Array Value} {e : TypeId} {n g : Nat} {xs : List Value} (hg : g = w.heap.size) (hn : cs.size = n) (hx : cs.toList = xs) : Rd (w.alloc (.cells cs e)) (w.alloc (.cells cs e)).heap.size (some ⟨g, 0, none⟩) n xs := by
  subst hg; subst hx
  have := Rd.made w cs e n hn
  exact this.wider (by simp)
theorem bel_drewN {B : Nat} {a w : World} (h : Below B a w) (n : Nat) : Below B a (w.drewN n) := h.trans ⟨rfl, rfl, rfl, Nat.le_refl _, fun _ _ => rfl⟩
theorem Rd.ofBox {w : World} {g o n : Nat} {t : TypeId} {cs : Array Value} {xs : List Value} (h : Box w g t cs) (hl : xs.length = n) (hx : ∀ k u, xs[k]? = some u → cs[o + k]? = some u) : Rd w w.heap.size (some ⟨g, o, none⟩) n xs :=
  ⟨hl, fun _ => ⟨g, o, rfl, h.there, fun k u hu => (h.reads (o + k)).trans (hx k u hu)⟩⟩
end Go.Mem1
namespace Go.Proofs.YtjfjdicdokdekaaDoor
open Go.RowKit Go.Mem1 Go.CodMath

theorem EncAt.new' {w : World} {B g : Nat} (hB : B = w.heap.size) (hg : g = w.heap.size) : EncAt (w.alloc (.cells #[.slice none 0 0] 127)) B g none [] := by
  subst hB; exact EncAt.new w hg
/-- A row of five numbers. -/
structure R5 where
  p : Int
  q : Int
  r : Int
  s : Int
  t : Int
instance : Inhabited R5 := ⟨⟨0, 0, 0, 0, 0⟩⟩
def R5.l (x : R5) : List Int := [x.p, x.q, x.r, x.s, x.t]
def i64b (z : Int) : Prop := -9223372036854775808 ≤ z ∧ z ≤ 9223372036854775807
def R5.ok (x : R5) : Prop := ∀ z ∈ x.l, -9223372036854775808 ≤ z ∧ z ≤ 9223372036854775807
def rowCells (rs : List R5) : List Value := rs.flatMap fun x => x.l.map (Value.int .i64)
theorem rowCells_len (rs : List R5) : (rowCells rs).length = rs.length * 5 := by
  induction rs with
  | nil => rfl
  | cons x r ih => unfold rowCells at *; rw [List.flatMap_cons, List.length_append, ih]; simp [R5.l]; omega
theorem rowCells_at {rs : List R5} {k j : Nat} {x : R5} (h : rs[k]? = some x) (hj : j < 5) : (rowCells rs)[k * 5 + j]? = (x.l.map (Value.int .i64))[j]? := by
  induction rs generalizing k with
  | nil => simp at h
  | cons y r ih =>
    have e : rowCells (y :: r) = y.l.map (Value.int .i64) ++ rowCells r := by simp [rowCells]
    have hl : (y.l.map (Value.int .i64)).length = 5 := by simp [R5.l]
    rw [e]
    cases k with
    | zero => simp at h; subst h; rw [List.getElem?_append_left (by omega)]; simp
    | succ k =>
      rw [List.getElem?_append_right (by omega), hl, show (k + 1) * 5 + j - 5 = k * 5 + j by omega]
      exact ih (by simpa using h)
/-- A slice value that reads as rows of five numbers, below block B. -/
structure RowsAt (w : World) (B : Nat) (A : Option Addr) (n : Nat) (rs : List R5) : Prop where
  len : rs.length = n
  rd : Rd w B A (n * 5) (rowCells rs)
  ok : ∀ x ∈ rs, x.ok
theorem RowsAt.empty (w : World) (B : Nat) (A : Option Addr) : RowsAt w B A 0 [] := ⟨rfl, Rd.empty A, fun x hx => by cases hx⟩
theorem RowsAt.carry {w w' : World} {B : Nat} {A : Option Addr} {n : Nat} {rs : List R5} (h : RowsAt w B A n rs) (hb : Below B w w') : RowsAt w' B A n rs := ⟨h.len, h.rd.carry hb, h.ok⟩
theorem RowsAt.drew {w : World} {B : Nat} {A : Option Addr} {n : Nat} {rs : List R5} (h : RowsAt w B A n rs) : RowsAt w.drew B A n rs := ⟨h.len, h.rd.drew, h.ok⟩
theorem RowsAt.wider {w : World} {B B' : Nat} {A : Option Addr} {n : Nat} {rs : List R5} (h : RowsAt w B A n rs) (hB : B ≤ B') : RowsAt w B' A n rs := ⟨h.len, h.rd.wider hB, h.ok⟩
theorem RowsAt.kept {w w' : World} {A : Option Addr} {n : Nat} {rs : List R5} {S : Nat → Prop} (h : RowsAt w w.heap.size A n rs) (hc : Chg S w w') (hS : ∀ b o, A = some ⟨b, o, none⟩ → 0 < n → ¬ S b) : RowsAt w' w'.heap.size A n rs :=
  ⟨h.len, h.rd.kept hc (fun b o e hn => hS b o e (by omega)), h.ok⟩
theorem RowsAt.at_ {w : World} {B : Nat} {A : Option Addr} {n : Nat} {rs : List R5} (h : RowsAt w B A n rs) {k : Nat} (hk : k < n) :
    ∃ b off x, A = some ⟨b, off, none⟩ ∧ b < B ∧ rs[k]? = some x ∧ x.ok ∧ w.cell? ⟨b, off + k * 5, none⟩ = some (.int .i64 x.p) ∧ w.cell? ⟨b, off + k * 5 + 1, none⟩ = some (.int .i64 x.q) ∧
      w.cell? ⟨b, off + k * 5 + 2, none⟩ = some (.int .i64 x.r) ∧ w.cell? ⟨b, off + k * 5 + 3, none⟩ = some (.int .i64 x.s) ∧ w.cell? ⟨b, off + k * 5 + 4, none⟩ = some (.int .i64 x.t) := by
  obtain ⟨b, off, rfl, hb, hc⟩ := h.rd.cells (by omega)
  have hl : k < rs.length := by rw [h.len]; exact hk
  have hx : rs[k]? = some rs[k] := List.getElem?_eq_getElem hl
  refine ⟨b, off, rs[k], rfl, hb, hx, h.ok _ (List.getElem_mem _), ?_, ?_, ?_, ?_, ?_⟩
  · have := hc (k * 5 + 0) _ ((rowCells_at hx (by omega)).trans rfl); exact this
  · have := hc (k * 5 + 1) _ ((rowCells_at hx (by omega)).trans rfl); rw [← Nat.add_assoc] at this; exact this
  · have := hc (k * 5 + 2) _ ((rowCells_at hx (by omega)).trans rfl); rw [← Nat.add_assoc] at this; exact this
  · have := hc (k * 5 + 3) _ ((rowCells_at hx (by omega)).trans rfl); rw [← Nat.add_assoc] at this; exact this
  · have := hc (k * 5 + 4) _ ((rowCells_at hx (by omega)).trans rfl); rw [← Nat.add_assoc] at this; exact this

/-- So many numbers read, and the state behind them. -/
def intsVal : Nat → St → List Int
  | 0, _ => []
  | n + 1, s => intVal s.l :: intsVal n (intSt s)
def intsSt : Nat → St → St
  | 0, s => s
  | n + 1, s => intsSt n (intSt s)
theorem intsVal_len : ∀ (n : Nat) (s : St), (intsVal n s).length = n
  | 0, _ => rfl
  | n + 1, s => by rw [intsVal, List.length_cons, intsVal_len n]
theorem intsSt_snoc : ∀ (n : Nat) (s : St), intsSt (n + 1) s = intSt (intsSt n s)
  | 0, _ => rfl
  | n + 1, s => by rw [intsSt, intsSt_snoc n, intsSt]
theorem intsVal_snoc : ∀ (n : Nat) (s : St), intsVal (n + 1) s = intsVal n s ++ [intVal (intsSt n s).l]
  | 0, _ => rfl
  | n + 1, s => by rw [intsVal, intsVal_snoc n, intsVal, intsSt, List.cons_append]
theorem intsSt_add : ∀ (m n : Nat) (s : St), intsSt (m + n) s = intsSt n (intsSt m s)
  | 0, n, s => by rw [Nat.zero_add, intsSt]
  | m + 1, n, s => by rw [Nat.succ_add, intsSt, intsSt_add m n, intsSt]
/-- Numbers written into a row of cells, from a place on. -/
def putL (cs : Array Value) (o : Nat) : List Int → Array Value
  | [] => cs
  | z :: r => putL (cs.setIfInBounds o (.int .i64 z)) (o + 1) r
theorem putL_snoc : ∀ (zs : List Int) (cs : Array Value) (o : Nat) (z : Int), putL cs o (zs ++ [z]) = (putL cs o zs).setIfInBounds (o + zs.length) (.int .i64 z)
  | [], _, _, _ => rfl
  | y :: r, cs, o, z => by
    rw [List.cons_append, putL, putL_snoc r, putL, List.length_cons, show o + 1 + r.length = o + (r.length + 1) by omega]
theorem putL_size : ∀ (zs : List Int) (cs : Array Value) (o : Nat), (putL cs o zs).size = cs.size
  | [], _, _ => rfl
  | y :: r, cs, o => by rw [putL, putL_size r, Array.size_setIfInBounds]
theorem DecAt.aside {w w' : World} {B g gt : Nat} {s : St} (h : DecAt w B g s) (hne : g < gt) (hc : Chg (· = gt) w w') : DecAt w' B g s := h.kept hc (fun b hb e => by omega)

/-- What take leaves. -/
def TakePost (w : World) (B g gt o : Nat) (ty : TypeId) (cs : Array Value) (s : St) (k : Nat) (wr : World) : Prop :=
  DecAt wr B g (intsSt k s) ∧ Box wr gt ty (putL cs o (intsVal k s)) ∧ Chg (fun i => i = g ∨ i = gt) w wr
theorem TakePost.step {w wr w1 : World} {B g gt o : Nat} {ty : TypeId} {cs : Array Value} {s : St} {k : Nat} (h : TakePost w B g gt o ty cs s k wr) (hne : g < gt)
    (hd : DecPost wr B g (intSt (intsSt k s)) w1) : w1.frozen? ⟨gt, o + k, none⟩ = false ∧ (o + k < cs.size → ∃ v, w1.cell? ⟨gt, o + k, none⟩ = some v) ∧ TakePost w B g gt o ty cs s (k + 1) (w1.setCell ⟨gt, o + k, none⟩ (.int .i64 (intVal (intsSt k s).l))) := by
  obtain ⟨h1, h2, h3⟩ := h
  obtain ⟨d1, d2⟩ := hd
  have hb : Box w1 gt ty (putL cs o (intsVal k s)) := h2.kept d2 (by omega)
  have hw := hb.wrote (o + k) (.int .i64 (intVal (intsSt k s).l))
  have e : putL cs o (intsVal (k + 1) s) = (putL cs o (intsVal k s)).setIfInBounds (o + k) (.int .i64 (intVal (intsSt k s).l)) := by rw [intsVal_snoc, putL_snoc, intsVal_len]
  rw [← e] at hw
  refine ⟨hb.unmarked _, fun hlt => ⟨(putL cs o (intsVal k s))[o + k]'(by rw [putL_size]; exact hlt), by rw [hb.reads]; exact Array.getElem?_eq_getElem _⟩, ?_, hw, ?_⟩
  · rw [intsSt_snoc]
    exact d1.aside hne ((Chg.refl (· = gt) w1).setCell (fun _ => rfl) _)
  · exact (h3.trans d2 (fun _ _ h => h) (fun _ _ h => .inl h)).setCell (fun _ => .inr rfl) _

set_option maxRecDepth 100000 in
set_option maxHeartbeats 1000000 in
theorem take_any (g B gt o n c : Nat) (ty : TypeId) (cs : Array Value) (s : St) (w : World) (h : DecAt w B g s) (hb : Box w gt ty cs) (hne : g < gt) (hn : o + n ≤ cs.size) (hn2 : n ≤ 1000) :
    Calls Tryd.prog 46 #[.pointer (some ⟨g, 0, none⟩), .slice (some ⟨gt, o, none⟩) n c] w fun e w' => e = .returned (.tuple #[]) ∧ TakePost w B g gt o ty cs s n w' := by
  have h0 : TakePost w B g gt o ty cs s 0 w := ⟨h, hb, Chg.refl _ _⟩
  have H0 := Lib.hid h0
  have HN := Lib.hid hne
  clear h hb h0 hne
  go_enter Tryd.func46, Tryd.ntmps46
  go_wp2_with fail
  go_loopw [7] (fun v7 wr => ∃ k : Nat, k ≤ n ∧ v7 = .int .i64 k ∧ Hid (TakePost w B g gt o ty cs s k wr)) (fun v7 _ => n - (intOf v7).toNat)
  case atStart => exact ⟨0, by omega, rfl, H0⟩
  case round =>
    obtain ⟨k, hk, rfl, hK⟩ := hrel
    by_cases hlt : k < n
    · go_wp2_with fail
      refine (decInt_any g B (intsSt k s) wr hK.out.1).mono ?_
      rintro e w1 ⟨rfl, hd⟩
      obtain ⟨hf, hcell, hnx⟩ := hK.out.step HN.out hd
      obtain ⟨v, hv⟩ := hcell (by omega)
      have HX := Lib.hid hnx
      clear hd hnx hcell
      generalize intVal (intsSt k s).l = z at *
      go_wp2_with fail
      go_roundw
      case rel => exact ⟨k + 1, by omega, by go_num, HX⟩
      case measure => simp [intOf]; omega
    · obtain rfl : k = n := by omega
      go_wp2_with fail
      go_end0
      exact ⟨rfl, hK.out⟩

set_option maxRecDepth 100000 in
set_option maxHeartbeats 1000000 in
theorem encInts_any (g : Nat) (B : Nat) (R : Option Nat) (l : List Nat) (zs : List Int) (A : Option Addr) (n c : Nat) (w : World) (h : EncAt w B g R l) (hB : B ≤ w.heap.size)
    (ha : Rd w w.heap.size A n (zs.map (Value.int .i64))) (hS : ∀ b o, A = some ⟨b, o, none⟩ → 0 < n → ¬ EncSet g R b) (hz : ∀ z ∈ zs, -9223372036854775808 ≤ z ∧ z ≤ 9223372036854775807) (hn : l.length + 10 * n ≤ 1000000) :
    Calls Tryd.prog 69 #[.pointer (some ⟨g, 0, none⟩), .slice A n c] w fun e w' => e = .returned (.tuple #[]) ∧ EncGo w B g R (l ++ zs.flatMap ien) w' := by
  obtain rfl : n = zs.length := by have := ha.len; simpa using this.symm
  have hrd : ∀ (l' : List Nat) (wr : World), EncGo w B g R l' wr → Rd wr wr.heap.size A zs.length (zs.map (Value.int .i64)) := by
    intro l' wr hh
    obtain ⟨R', h1, h2, h3⟩ := hh
    exact ha.kept h2 hS
  have HX := Lib.hid hrd; clear hrd
  have hG := Lib.hid (EncGo.start h); clear h
  have HS := Lib.hid hS; clear hS
  have HA := Lib.hid ha; clear ha
  have HZ := Lib.hid hz; clear hz
  go_enter Tryd.func69, Tryd.ntmps69
  have i0 := info_parts u8_info
  obtain ⟨i0, hi0, hz0, hz1, hz2⟩ := i0
  go_wp2_with fail
  go_loopw [9] (fun v9 wr => ∃ k : Nat, k ≤ zs.length ∧ v9 = .int .i64 k ∧ Hid (EncGo w B g R (l ++ (zs.take k).flatMap ien) wr)) (fun v9 _ => zs.length - (intOf v9).toNat)
  case atStart => exact ⟨0, by omega, rfl, by simpa using hG⟩
  case round =>
    obtain ⟨k, hk, rfl, hK⟩ := hrel
    by_cases hlt : k < zs.length
    · obtain ⟨ba, oa, u, rfl, hba, hu, hcell⟩ := (HX.out _ _ hK.out).get hlt
      have hlk : zs[k]? = some zs[k] := List.getElem?_eq_getElem hlt
      rw [List.getElem?_map, hlk] at hu
      injection hu with hu
      subst hu
      have hzb := HZ.out zs[k] (List.getElem_mem _)
      have htk : l ++ (zs.take (k + 1)).flatMap ien = (l ++ (zs.take k).flatMap ien) ++ ien zs[k] := by
        rw [List.take_succ_eq_append_getElem hlt, List.flatMap_append, List.append_assoc]
        simp
      have hll : (l ++ (zs.take k).flatMap ien).length ≤ l.length + 10 * k := by
        have h1 := iens_len (zs.take k) (fun x hx => HZ.out x (List.mem_of_mem_take hx))
        have h2 : (zs.take k).length ≤ k := List.length_take_le _ _
        rw [List.length_append]; omega
      generalize zs[k] = z at *
      generalize l ++ (zs.take k).flatMap ien = l1 at *
      have HT := Lib.hid htk; clear htk
      have HL := Lib.hid hlk; clear hlk
      have hzz := zz_lt hzb.1 hzb.2
      go_wp2_with (go_at_call 85; refine (unsigned_any z _ hzb.1 hzb.2).mono ?_; rintro e w1 ⟨rfl, rfl⟩)
      go_loopw [6] (fun v6 w2 => ∃ (u : Nat) (ys : List Nat), u < 18446744073709551616 ∧ v6 = .int .u64 (u : Int) ∧ Hid (EncGo w B g R (l1 ++ ys) w2) ∧ Hid (ien z = ys ++ vint u)) (fun v6 _ => (intOf v6).toNat)
      case atStart => exact ⟨zz z, [], hzz, rfl, by simpa using hK, rfl⟩
      case round =>
        obtain ⟨u, ys, hu, rfl, hK2, hU⟩ := hrel
        obtain ⟨A, n, c, hln, hcl, hfr, hown, hgl, hput⟩ := hK2.out.put
        have hyl : ys.length ≤ 9 := by
          have h1 := congrArg List.length hU.out
          rw [List.length_append] at h1
          have h2 := vint_len10 hzz
          have h3 := vint_pos u
          unfold ien at h1
          omega
        have hn1 : n ≤ 1000000 := by rw [← hln, List.length_append]; omega
        have hwB := hK2.out.size
        have HP := Lib.hid hput; clear hput
        have HW := Lib.hid hln; clear hln
        by_cases hub : 128 ≤ u
        · obtain ⟨X, hX⟩ : ∃ X, X = u % 128 + 128 := ⟨_, rfl⟩
          have hmb := more_byte (u := u)
          rw [← hX] at hmb
          have hXb : X < 256 := by omega
          have H3 := Lib.hid hX; clear hX
          have hub2 : decide ((128 : Int) ≤ (u : Int)) = true := by simp; omega
          go_wp2_with (at_builtin; go_loud (refine wpList_append rfl (.tmp 21) (.tmp 25) _ rfl B 5 i0 _ 1 Tryd.underlying22 hi0 hz0 hz1 hz2 rfl (.slice A n c) n ((l1 ++ ys).map bv) rfl (hown.alloc _) (some ⟨wr.heap.size, 0, none⟩) 1 1 (by intro h; cases h) _ rfl (Rd.made wr #[.int .u8 (X : Int)] 5 1 rfl) (by intro u hu; simp at hu; subst hu; rfl) (by simp only [maxLen]; omega) (by omega) (by simp; omega) ?_; intro v1 w2 hown2 hgr2 hat2; obtain ⟨A1, c1, rfl⟩ := own_slice hown2; obtain ⟨hcl2, hfr2, hgo⟩ := HP.out [X] _ w2 (.slice A1 _ c1) _ (by intro x hx; simp at hx; omega) (bel_new wr _) (by simpa [bv] using hown2) hgr2 hat2; have HGO := Lib.hid hgo; clear hgo hown2 hgr2 hat2))
          go_roundw
          case rel => exact ⟨u / 128, ys ++ [X], by omega, by rfl, by rw [← List.append_assoc]; exact HGO, by rw [H3.out, List.append_assoc, List.singleton_append, ← vint_big hub]; exact hU⟩
          case measure => simp [intOf]; omega
        · have hub2 : decide ((128 : Int) ≤ (u : Int)) = false := by simp; omega
          have hub3 : (u : Int) % 256 = (u : Int) := by omega
          have hub4 : u < 128 := by omega
          clear hub
          go_wp2_with (at_builtin; go_loud (refine wpList_append rfl (.tmp 35) (.tmp 38) _ rfl B 5 i0 _ 1 Tryd.underlying22 hi0 hz0 hz1 hz2 rfl (.slice A n c) n ((l1 ++ ys).map bv) rfl (hown.alloc _) (some ⟨wr.heap.size, 0, none⟩) 1 1 (by intro h; cases h) _ rfl (Rd.made wr #[.int .u8 (u : Int)] 5 1 rfl) (by intro u hu; simp at hu; subst hu; rfl) (by simp only [maxLen]; omega) (by omega) (by simp; omega) ?_; intro v1 w2 hown2 hgr2 hat2; obtain ⟨A1, c1, rfl⟩ := own_slice hown2; obtain ⟨hcl2, hfr2, hgo⟩ := HP.out [u] _ w2 (.slice A1 _ c1) _ (by intro x hx; simp at hx; omega) (bel_new wr _) (by simpa [bv] using hown2) hgr2 hat2; have HGO := Lib.hid hgo; clear hgo hown2 hgr2 hat2))
          go_roundw
          case rel => exact ⟨k + 1, by omega, by go_num, by rw [HT.out, hU.out, vint_small hub4, ← List.append_assoc]; exact HGO⟩
          case measure => simp [intOf]; omega
    · obtain rfl : k = zs.length := by omega
      rw [List.take_length] at hK
      go_wp2_with fail
      go_end0
      exact ⟨rfl, hK.out⟩
end Go.Proofs.YtjfjdicdokdekaaDoor

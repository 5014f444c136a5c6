/- Contracts of the landed crc: Sum, markOf. -/
import Derived.Test.YtjfjdicdokdekaaDoorFCrcSaid
import Derived.Stop.BytesEq
namespace Go.Proofs.YtjfjdicdokdekaaDoor
open Go.RowKit Go.Mem1

theorem addOf_zero : (0 : Nat) = sumOf [] := rfl
theorem xor_back (x : Nat) : x ^^^ 4294967295 ^^^ 4294967295 = x := by rw [Nat.xor_assoc, Nat.xor_self, Nat.xor_zero]
theorem addOf_sumOf (a b : List Nat) : addOf (sumOf a) b = sumOf (a ++ b) := by
  unfold addOf sumOf
  rw [xor_back, CrcMath.fold_append]
theorem sumOf_lt' {l : List Nat} (h : ∀ x ∈ l, x < 256) : sumOf l < 4294967296 := sumOf_lt h
theorem CParts.bnd {w : World} {B : Nat} {A : Option Addr} {n : Nat} {ls : List (List Nat)} (h : CParts w B A n ls) : ∀ l ∈ ls, ∀ x ∈ l, x < 256 := by
  obtain ⟨vs, _, hlen, hat⟩ := h.ex
  intro l hl x hx
  obtain ⟨i, hi, rfl⟩ := List.getElem_of_mem hl
  obtain ⟨_, _, _, _, _, hb⟩ := hat i (vs[i]'(by omega)) ls[i] (List.getElem?_eq_getElem _) (List.getElem?_eq_getElem _)
  exact hb.bnd x hx
theorem CParts.at_ {w : World} {B : Nat} {A : Option Addr} {n : Nat} {ls : List (List Nat)} (h : CParts w B A n ls) {k : Nat} (hk : k < n) :
    ∃ b off A1 n1 c1 l, A = some ⟨b, off, none⟩ ∧ b < B ∧ ls[k]? = some l ∧ w.cell? ⟨b, off + k, none⟩ = some (.slice A1 n1 c1) ∧ n1 ≤ 140737488355328 ∧ Byt w B A1 n1 l := by
  obtain ⟨vs, hrd, hlen, hat⟩ := h.ex
  obtain ⟨b, off, u, rfl, hb, hu, hc⟩ := hrd.get hk
  have hl : k < ls.length := by have := hrd.len; omega
  obtain ⟨A1, n1, c1, rfl, h1, h2⟩ := hat k u ls[k] hu (List.getElem?_eq_getElem hl)
  exact ⟨b, off, A1, n1, c1, ls[k], rfl, hb, List.getElem?_eq_getElem hl, hc, h1, h2⟩
theorem CParts.len {w : World} {B : Nat} {A : Option Addr} {n : Nat} {ls : List (List Nat)} (h : CParts w B A n ls) : ls.length = n := by
  obtain ⟨vs, hrd, hlen, _⟩ := h.ex
  have := hrd.len; omega

set_option maxHeartbeats 400000 in
theorem sum_any (A : Option Addr) (n c : Nat) (ls : List (List Nat)) (w : World) (B : Nat) (hT : Halves w) (hn : n ≤ 140737488355328) (h : CParts w B A n ls) :
    Calls Tryd.prog 84 #[.slice A n c] w fun e w' => e = .returned (.int .u32 ((sumOf ls.flatten : Nat) : Int)) ∧ w = w' := by
  have H := Lib.hid h; clear h
  have HT := Lib.hid hT; clear hT
  go_enter Tryd.func84, Tryd.ntmps84
  go_wp2
  go_loop [3, 8] (fun v3 v8 => ∃ k : Nat, k ≤ n ∧ v8 = .int .i64 k ∧ v3 = .int .u32 ((sumOf (ls.take k).flatten : Nat) : Int)) (fun _ v8 => n - (intOf v8).toNat)
  case atStart => exact ⟨0, Nat.zero_le _, rfl, by rw [List.take_zero, List.flatten_nil, ← addOf_zero]; rfl⟩
  case round =>
    obtain ⟨k, hk, rfl, rfl⟩ := hrel
    have hS : sumOf (ls.take k).flatten < 4294967296 := sumOf_lt (fun x hx => by
      obtain ⟨l, hl, hx⟩ := List.mem_flatten.1 hx
      exact H.out.bnd l (List.mem_of_mem_take hl) x hx)
    by_cases hlt : k < n
    · obtain ⟨b, off, A1, n1, c1, l, rfl, hbw, hlk, hck, hn1, hb1⟩ := H.out.at_ hlt
      have hstep : sumOf (ls.take (k + 1)).flatten = addOf (sumOf (ls.take k).flatten) l := by
        obtain ⟨hk', rfl⟩ := List.getElem?_eq_some_iff.1 hlk
        rw [addOf_sumOf, List.take_succ_eq_append_getElem hk', List.flatten_append]
        simp
      generalize sumOf (ls.take k).flatten = S at *
      have HS := Lib.hid hstep; clear hstep
      have HL := Lib.hid hlk; clear hlk
      go_wp2_with fail
      refine (add_any S A1 n1 c1 l w B HT.out hS hn1 hb1).mono ?_
      rintro e w' ⟨rfl, rfl⟩
      go_wp2
      go_round
      case rel => exact ⟨k + 1, by omega, by go_num, by rw [HS.out]⟩
      case measure => simp [intOf]; omega
    · have hk' : k = n := by omega
      have hx : sumOf (ls.take k).flatten = sumOf ls.flatten := by rw [hk', List.take_of_length_le (by have := H.out.len; omega)]
      rw [hx] at hS ⊢
      have HX := Lib.hid hx; clear hx
      have HK := Lib.hid hk'; clear hk'
      go_wp2
      go_ret
      exact ⟨rfl, rfl⟩

theorem CParts.single (w : World) {A1 : Option Addr} {n1 c1 : Nat} {l1 : List Nat} (h1 : Byt w w.heap.size A1 n1 l1) (hn1 : n1 ≤ 140737488355328) (e : TypeId) (g : Nat) (hg : g = w.heap.size) :
    CParts (w.alloc (.cells #[.slice A1 n1 c1] e)) (w.heap.size + 1) (some ⟨g, 0, none⟩) 1 [l1] := by
  subst hg
  refine ⟨[.slice A1 n1 c1], Rd.made w #[.slice A1 n1 c1] e 1 rfl, rfl, fun i v l hv hl => ?_⟩
  match i, hv, hl with
  | 0, hv, hl => injection hv with hv; injection hl with hl; subst hv; subst hl; exact ⟨_, _, _, rfl, hn1, (h1.carry (bel_new w _)).wider (by omega)⟩
  | (k + 1), hv, _ => simp at hv

set_option maxHeartbeats 400000 in
theorem mark_s (S : Nat) (A : Option Addr) (n c : Nat) (l : List Nat) (w : World) (hS : S < 4294967296) (hSd : sumOf [l].flatten = S) (hT : Halves w) (hn : n ≤ 140737488355328) (h : Byt w w.heap.size A n l) :
    Calls Tryd.prog 68 #[.slice A n c] w fun e w' => e = .returned (.agg #[.int .u8 ((S : Int) % 256), .int .u8 ((S : Int) / 256 % 256), .int .u8 ((S : Int) / 65536 % 256), .int .u8 ((S : Int) / 16777216)]) ∧ Below w.heap.size w w' := by
  have b1 : Byt (w.alloc (.cells #[.int .u8 0, .int .u8 0, .int .u8 0, .int .u8 0] 124)) (w.alloc (.cells #[.int .u8 0, .int .u8 0, .int .u8 0, .int .u8 0] 124)).heap.size A n l := (h.carry (bel_new _ _)).wider (by simp)
  have c1 := sum_any _ 1 1 _ _ _ ((hT.alloc _).alloc _) (by omega) (CParts.single (c1 := c) _ b1 hn 22 (w.heap.size + 1) (by simp))
  rw [hSd] at c1
  have C1 := Lib.hid c1
  clear c1 b1 hSd hT h hn
  go_enter Tryd.func68, Tryd.ntmps68
  go_wp2_with fail
  refine C1.out.mono ?_
  rintro e w' ⟨rfl, rfl⟩
  clear C1
  go_wp2_with fail
  exact bodyPost_ret (v := .agg #[.int .u8 ((S : Int) % 256), .int .u8 ((S : Int) / 256 % 256), .int .u8 ((S : Int) / 65536 % 256), .int .u8 ((S : Int) / 16777216)]) (by simp [results, Tryd.results68, go_sem]) rfl ⟨rfl, bel_alloc (bel_new _ _) _⟩

theorem mark_any (m0 m1 m2 m3 : Nat) (A : Option Addr) (n c : Nat) (l : List Nat) (w : World) (hm : le4 (sumOf l) = [m0, m1, m2, m3]) (hT : Halves w) (hn : n ≤ 140737488355328) (h : Byt w w.heap.size A n l) :
    Calls Tryd.prog 68 #[.slice A n c] w fun e w' => e = .returned (.agg #[.int .u8 (m0 : Int), .int .u8 (m1 : Int), .int .u8 (m2 : Int), .int .u8 (m3 : Int)]) ∧ Below w.heap.size w w' := by
  have hS : sumOf l < 4294967296 := sumOf_lt h.bnd
  have e := bv_le4 hS
  rw [hm] at e
  simp only [List.map_cons, List.map_nil, bv, List.cons.injEq, and_true] at e
  rw [e.1, e.2.1, e.2.2.1, e.2.2.2]
  exact mark_s (sumOf l) A n c l w hS (by simp) hT hn h

theorem sizeU8 : (Tryd.prog.info? 5).map (·.size) = some 1 := by kernel_rfl
theorem size_u8 (w : World) : (sizeOf 5).run Tryd.prog w = .ok 1 w := by
  obtain ⟨i, hi, hs⟩ := Option.map_eq_some_iff.1 sizeU8
  simp [sizeOf, typeInfo, hi, hs]
set_option maxRecDepth 100000 in
theorem eq4 (m0 m1 m2 m3 x0 x1 x2 x3 : Nat) (hm : ∀ x ∈ [m0, m1, m2, m3], x < 256) (hx : ∀ x ∈ [x0, x1, x2, x3], x < 256) (w : World) :
    (Op.equalIn 10000 124 (.agg #[.int .u8 (m0 : Int), .int .u8 (m1 : Int), .int .u8 (m2 : Int), .int .u8 (m3 : Int)]) (.agg #[.int .u8 (x0 : Int), .int .u8 (x1 : Int), .int .u8 (x2 : Int), .int .u8 (x3 : Int)])).run Tryd.prog w = .ok (decide ([m0, m1, m2, m3] = [x0, x1, x2, x3])) w := by
  have key := run_equalIn_bytes (P := Tryd.prog) w 9998 124 5 4 Tryd.underlying124 Tryd.underlying5 size_u8 ([m0, m1, m2, m3].map UInt8.ofNat) ([x0, x1, x2, x3].map UInt8.ofNat) rfl rfl
  have hc : ∀ x : Nat, x < 256 → Extern.Stop.cell (UInt8.ofNat x) = .int .u8 (x : Int) := fun x hx => by
    unfold Extern.Stop.cell
    rw [show (UInt8.ofNat x).toNat = x by simp; omega]
    rfl
  simp only [List.map_cons, List.map_nil] at key
  simp only [List.mem_cons, List.not_mem_nil, or_false, forall_eq_or_imp, forall_eq] at hm hx
  rw [hc _ hm.1, hc _ hm.2.1, hc _ hm.2.2.1, hc _ hm.2.2.2, hc _ hx.1, hc _ hx.2.1, hc _ hx.2.2.1, hc _ hx.2.2.2] at key
  refine key.trans ?_
  congr 1
  rw [Bool.eq_iff_iff]
  have hu : ∀ a b : Nat, a < 256 → b < 256 → ((UInt8.ofNat a = UInt8.ofNat b) ↔ a = b) := fun a b ha hb => by
    rw [← UInt8.toNat_inj]; simp; omega
  simp only [beq_iff_eq, List.cons.injEq, and_true, decide_eq_true_eq, hu _ _ hm.1 hx.1, hu _ _ hm.2.1 hx.2.1, hu _ _ hm.2.2.1 hx.2.2.1, hu _ _ hm.2.2.2 hx.2.2.2]

end Go.Proofs.YtjfjdicdokdekaaDoor

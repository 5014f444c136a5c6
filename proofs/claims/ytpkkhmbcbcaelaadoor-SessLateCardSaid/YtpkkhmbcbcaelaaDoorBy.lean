/- Rows of bytes in the walks: a slice value that reads as a list of bytes, cut, made into a string, cloned. -/
import Derived.Test.YtpkkhmbcbcaelaaDoorRows
import Derived.Test.YtpkkhmbcbcaelaaDoorChg
import Derived.WalkKit
import Derived.WalkSpells
import Derived.WalkLawsBesides
import Derived.Handy
import Derived.Lib.Hide
import Derived.Lib.SlBytesConst
namespace Go.Proofs.YtpkkhmbcbcaelaaDoor
open Go.RowKit Go.Mem1

def bv (x : Nat) : Value := .int .u8 (x : Int)
/-- A slice value that reads as a list of bytes, below block B. -/
structure Byt (w : World) (B : Nat) (A : Option Addr) (n : Nat) (l : List Nat) : Prop where
  rd : Rd w B A n (l.map bv)
  bnd : ∀ x ∈ l, x < 256
theorem Byt.len {w : World} {B : Nat} {A : Option Addr} {n : Nat} {l : List Nat} (h : Byt w B A n l) : l.length = n := by have := h.rd.len; simpa using this
theorem Byt.carry {w w' : World} {B : Nat} {A : Option Addr} {n : Nat} {l : List Nat} (h : Byt w B A n l) (hb : Below B w w') : Byt w' B A n l := ⟨h.rd.carry hb, h.bnd⟩
theorem Byt.wider {w : World} {B B' : Nat} {A : Option Addr} {n : Nat} {l : List Nat} (h : Byt w B A n l) (hb : B ≤ B') : Byt w B' A n l := ⟨h.rd.wider hb, h.bnd⟩
theorem Byt.drew {w : World} {B : Nat} {A : Option Addr} {n : Nat} {l : List Nat} (h : Byt w B A n l) : Byt w.drew B A n l := ⟨h.rd.drew, h.bnd⟩
theorem Byt.at_ {w : World} {B : Nat} {A : Option Addr} {n : Nat} {l : List Nat} (h : Byt w B A n l) {k : Nat} (hk : k < n) :
    ∃ b off X, A = some ⟨b, off, none⟩ ∧ b < B ∧ X < 256 ∧ l[k]? = some X ∧ w.cell? ⟨b, off + k, none⟩ = some (.int .u8 ((X : Nat) : Int)) := by
  obtain ⟨b, off, u, rfl, hb, hu, hc⟩ := h.rd.get hk
  rw [List.getElem?_map] at hu
  cases hl : l[k]? with
  | none => rw [hl] at hu; cases hu
  | some X =>
    rw [hl] at hu
    injection hu with hu
    subst hu
    exact ⟨b, off, X, rfl, hb, h.bnd X (List.mem_of_getElem? hl), rfl, hc⟩
theorem Byt.nil_cap {w : World} {B : Nat} {A : Option Addr} {n c : Nat} {l : List Nat} (h : Byt w B A n l) (hn : 0 < n) : A = none → c = 0 := by
  intro h0
  obtain ⟨b, off, e, _⟩ := h.rd.cells hn
  rw [e] at h0; cases h0
theorem Byt.behind {w : World} {A : Option Addr} {n : Nat} {l : List Nat} (h : Byt w w.heap.size A n l) (o : Obj) : Byt (w.alloc o) (w.alloc o).heap.size A n l :=
  (h.carry ((Below.refl _ _).alloc (Nat.le_refl _) o)).wider (by simp)
/-- What lies behind the first k bytes. -/
theorem Byt.cut {w : World} {B : Nat} {b o n k : Nat} {l : List Nat} (h : Byt w B (some ⟨b, o, none⟩) n l) (hk : k ≤ n) : Byt w B (some ⟨b, o + k, none⟩) (n - k) (l.drop k) := by
  have hl := h.len
  refine ⟨⟨by simp; omega, fun hn => ?_⟩, fun x hx => h.bnd x (List.mem_of_mem_drop hx)⟩
  obtain ⟨b', o', e, hlt, hc⟩ := h.rd.cells (by omega)
  injection e with e
  injection e with e1 e2
  subst e1; subst e2
  refine ⟨b, o + k, rfl, hlt, fun j u hu => ?_⟩
  rw [List.map_drop, List.getElem?_drop] at hu
  have := hc (k + j) u hu
  rw [← Nat.add_assoc] at this
  exact this
theorem Byt.head {w : World} {B : Nat} {A : Option Addr} {n k : Nat} {l : List Nat} (h : Byt w B A n l) (hk : k ≤ n) : Byt w B A k (l.take k) := by
  have hl := h.len
  refine ⟨⟨by simp; omega, fun hn => ?_⟩, fun x hx => h.bnd x (List.mem_of_mem_take hx)⟩
  obtain ⟨b, o, e, hlt, hc⟩ := h.rd.cells (by omega)
  refine ⟨b, o, e, hlt, fun j u hu => hc j u ?_⟩
  rw [List.map_take, List.getElem?_take] at hu
  split at hu
  · exact hu
  · cases hu
theorem Byt.empty (w : World) (B : Nat) (A : Option Addr) : Byt w B A 0 [] := ⟨Rd.empty A, fun x hx => by cases hx⟩
theorem Byt.zero {w : World} {B : Nat} {A : Option Addr} {l : List Nat} (h : Byt w B A 0 l) : l = [] := List.eq_nil_of_length_eq_zero h.len
/-- Of a row of the call's own. -/
theorem Byt.ofOwn {w : World} {base : Nat} {A : Option Addr} {n c : Nat} {l : List Nat} (h : w.ownsRow base 5 1 (.slice A n c) n (l.map bv)) (hb : ∀ x ∈ l, x < 256) : Byt w w.heap.size A n l := ⟨Rd.ofOwn h, hb⟩

theorem Byt.kept {w w' : World} {A : Option Addr} {n : Nat} {l : List Nat} {S : Nat → Prop} (h : Byt w w.heap.size A n l) (hc : Chg S w w') (hS : ∀ b o, A = some ⟨b, o, none⟩ → 0 < n → ¬ S b) : Byt w' w'.heap.size A n l :=
  ⟨⟨h.rd.len, fun hn => by
    obtain ⟨b, o, e, hlt, hcell⟩ := h.rd.cells hn
    refine ⟨b, o, e, Nat.lt_of_lt_of_le hlt hc.size, fun k u hu => hc.cell (hcell k u hu) (hS b o e hn)⟩⟩, h.bnd⟩

theorem u8_info : (Tryd.prog.info? 5).map (fun i => (i.zero, i.size, i.bytes)) = some (some (.int .u8 0), 1, 1) := by kernel_rfl
theorem oneCell_bv (l : List Nat) : ∀ u ∈ l.map bv, u.oneCell' = true := by
  intro u hu
  obtain ⟨x, _, rfl⟩ := List.mem_map.1 hu
  rfl
theorem own_cap {w : World} {base : Nat} {e : TypeId} {A : Option Addr} {n c : Nat} {xs : List Value} (h : w.ownsRow base e 1 (.slice A n c) n xs) : n ≤ c := by
  rcases h.2 with ⟨_, h0⟩ | ⟨g, cap, cur, hv, _, _, hc, _⟩
  · omega
  · injection hv with _ _ h3; omega

def strOf (l : List Nat) : ByteArray := (l.map (fun x : Nat => (x : Int))).foldl (fun r n => r.push (UInt8.ofNat n.toNat)) ByteArray.empty
/-- string of a row of bytes. -/
theorem conv_str {w : World} {B : Nat} {A : Option Addr} {n : Nat} {l : List Nat} (h : Byt w B A n l) (c : Nat) :
    (convert 55 9 (.slice A n c)).run Tryd.prog w = .ok (.string (strOf l)) w := by
  rw [run_convert_bytes_string w _ _ _ _ _ _ Tryd.underlying55 Tryd.underlying5 Tryd.underlying9]
  cases A with
  | none =>
    have hn : n = 0 := by
      rcases Nat.eq_zero_or_pos n with h0 | h0
      · exact h0
      · obtain ⟨b, off, h, _⟩ := h.rd.cells h0; cases h
    subst hn
    obtain rfl := h.zero
    rfl
  | some ad =>
    refine run_bytesToString w _ _ _ (l.map (fun x : Nat => (x : Int))) ?_
    have := run_loadCells_list (P := Tryd.prog) w ad (l.map bv) (fun j v hv => by
      have hj : j < n := by
        have := h.len
        rcases Nat.lt_or_ge j l.length with h | h
        · omega
        · rw [List.getElem?_eq_none (by simpa using h)] at hv; cases hv
      obtain ⟨b, off, e, _, hc⟩ := h.rd.cells (by omega)
      injection e with e
      subst e
      have := hc j v hv
      rcases Nat.eq_zero_or_pos j with h0 | h0
      · subst h0; simpa [Addr.add] using this
      · simpa [Addr.add, show j ≠ 0 by omega] using this)
    rw [List.length_map, h.len] at this
    rw [this, List.map_map]
    rfl
/-- []byte of a constant: the row gets a mark behind its last cell. -/
theorem conv_const (w : World) (C : Array Value) (g n c : Nat) (hg : g = w.heap.size) :
    (convert 55 55 (.slice (some ⟨g, 0, none⟩) n c)).run Tryd.prog (w.alloc (.cells C 5)) = .ok (.slice (some ⟨g, 0, none⟩) n c) (w.alloc (.cells C 5 (C.size, C.size + 1))) := by
  subst hg
  exact Lib.run_convert_bytes_const (P := Tryd.prog) w 55 5 C n c Tryd.underlying55 Tryd.underlying5
/-- Of a block just made, whatever mark it bears. -/
theorem Byt.made (w : World) (cs : Array Value) (fr : Nat × Nat) (n : Nat) (l : List Nat) (hn : cs.size = n) (hl : cs.toList = l.map bv) (hb : ∀ x ∈ l, x < 256) {g : Nat} (hg : g = w.heap.size) :
    Byt (w.alloc (.cells cs 5 fr)) (w.alloc (.cells cs 5 fr)).heap.size (some ⟨g, 0, none⟩) n l := by
  subst hg
  refine ⟨⟨by rw [← hl]; simpa using hn, fun _ => ⟨_, _, rfl, by simp, fun k u hu => ?_⟩⟩, hb⟩
  have : (w.alloc (.cells cs 5 fr)).cell? ⟨w.heap.size, 0 + k, none⟩ = cs[k]? := by
    rw [Nat.zero_add]
    exact cell_of_row _ _ _ cs _ fr (heap_alloc_new w _)
  rw [this]
  rw [← hl] at hu
  simpa using hu
end Go.Proofs.YtpkkhmbcbcaelaaDoor

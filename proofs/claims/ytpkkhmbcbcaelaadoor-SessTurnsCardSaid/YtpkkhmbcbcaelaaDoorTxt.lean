/- Words of errors: strconv.Itoa below 100, api.Errno's and api.Fault's Error; the reference's Text, Word, At, Words. -/
import Derived.Test.YtpkkhmbcbcaelaaDoorBy
import Derived.Deep.QuietTactic
import Derived.BigQuiet
namespace Go.Proofs.YtpkkhmbcbcaelaaDoor
open Go.RowKit Go.Mem1

/-- A number below 100 in words. -/
def txt (p : Nat) : ByteArray := if p < 10 then ⟨#[UInt8.ofNat (48 + p)]⟩ else ⟨#[UInt8.ofNat (48 + p / 10), UInt8.ofNat (48 + p % 10)]⟩

def dig36 : ByteArray := ⟨#[48, 49, 50, 51, 52, 53, 54, 55, 56, 57, 97, 98, 99, 100, 101, 102, 103, 104, 105, 106, 107, 108, 109, 110, 111, 112, 113, 114, 115, 116, 117, 118, 119, 120, 121, 122]⟩
def smalls : ByteArray := ⟨#[48, 48, 48, 49, 48, 50, 48, 51, 48, 52, 48, 53, 48, 54, 48, 55, 48, 56, 48, 57, 49, 48, 49, 49, 49, 50, 49, 51, 49, 52, 49, 53, 49, 54, 49, 55, 49, 56, 49, 57, 50, 48, 50, 49, 50, 50, 50, 51, 50, 52, 50, 53, 50, 54, 50, 55, 50, 56, 50, 57, 51, 48, 51, 49, 51, 50, 51, 51, 51, 52, 51, 53, 51, 54, 51, 55, 51, 56, 51, 57, 52, 48, 52, 49, 52, 50, 52, 51, 52, 52, 52, 53, 52, 54, 52, 55, 52, 56, 52, 57, 53, 48, 53, 49, 53, 50, 53, 51, 53, 52, 53, 53, 53, 54, 53, 55, 53, 56, 53, 57, 54, 48, 54, 49, 54, 50, 54, 51, 54, 52, 54, 53, 54, 54, 54, 55, 54, 56, 54, 57, 55, 48, 55, 49, 55, 50, 55, 51, 55, 52, 55, 53, 55, 54, 55, 55, 55, 56, 55, 57, 56, 48, 56, 49, 56, 50, 56, 51, 56, 52, 56, 53, 56, 54, 56, 55, 56, 56, 56, 57, 57, 48, 57, 49, 57, 50, 57, 51, 57, 52, 57, 53, 57, 54, 57, 55, 57, 56, 57, 57]⟩
theorem dig_ok : ∀ p, p < 10 → dig36.extract p (p + 1) = txt p := by decide +kernel
theorem smalls_ok : ∀ p, p < 100 → ¬ p < 10 → smalls.extract (p * 2) (p * 2 + 2) = txt p := by decide +kernel

set_option maxRecDepth 100000 in
set_option maxHeartbeats 1000000 in
theorem itoa_any (p : Nat) (w : World) (h : p < 100) : Calls Tryd.prog 58 #[.int .i64 (p : Int)] w fun e w' => e = .returned (.string (txt p)) ∧ w = w' := by
  have h2 : (p : Int) < 100 := by omega
  by_cases h10 : p < 10
  · have h3 : decide ((p : Int) < 10) = true := by simp; omega
    go_enter Tryd.func58, Tryd.ntmps58
    go_wp2
    go_ret
    exact ⟨congrArg (fun s => Ending.returned (Value.string s)) (dig_ok p h10), rfl⟩
  · have h3 : decide ((p : Int) < 10) = false := by simp; omega
    go_enter Tryd.func58, Tryd.ntmps58
    go_wp2
    go_ret
    exact ⟨congrArg (fun s => Ending.returned (Value.string s)) (smalls_ok p h h10), rfl⟩

/-- An Errno's word. -/
def word : Nat → ByteArray
  | 0 => ⟨#[111, 107]⟩
  | 1 => ⟨#[97, 114, 103]⟩
  | 2 => ⟨#[102, 111, 114, 109]⟩
  | 3 => ⟨#[115, 104, 111, 114, 116]⟩
  | 4 => ⟨#[108, 111, 110, 103]⟩
  | 5 => ⟨#[110, 97, 109, 101]⟩
  | 6 => ⟨#[116, 119, 105, 99, 101]⟩
  | 7 => ⟨#[115, 116, 97, 116, 101]⟩
  | 8 => ⟨#[102, 117, 108, 108]⟩
  | 9 => ⟨#[114, 97, 110, 103, 101]⟩
  | 10 => ⟨#[103, 114, 105, 100]⟩
  | 11 => ⟨#[99, 114, 111, 115, 115]⟩
  | 12 => ⟨#[107, 105, 108, 108]⟩
  | 13 => ⟨#[115, 101, 113]⟩
  | 14 => ⟨#[115, 117, 109]⟩
  | _ => ⟨#[101, 114, 114, 111, 114]⟩
theorem word_size (e : Nat) : (word e).size ≤ 5 := by
  unfold word
  split <;> decide
theorem txt_size (p : Nat) : (txt p).size ≤ 2 := by
  unfold txt
  split
  · exact Nat.le_succ _
  · exact Nat.le_refl _
set_option maxRecDepth 100000 in
set_option maxHeartbeats 2000000 in
theorem errno_any (e : Nat) (w : World) (h : e ≤ 14) : Calls Tryd.prog 55 #[.int .i64 (e : Int)] w fun r w' => r = .returned (.string (word e)) ∧ w = w' := by
  obtain rfl | rfl | rfl | rfl | rfl | rfl | rfl | rfl | rfl | rfl | rfl | rfl | rfl | rfl | rfl : e = 0 ∨ e = 1 ∨ e = 2 ∨ e = 3 ∨ e = 4 ∨ e = 5 ∨ e = 6 ∨ e = 7 ∨ e = 8 ∨ e = 9 ∨ e = 10 ∨ e = 11 ∨ e = 12 ∨ e = 13 ∨ e = 14 := by omega
  all_goals
    go_enter Tryd.func55, Tryd.ntmps55
    go_wp2
    go_ret
    exact ⟨rfl, rfl⟩

theorem still_quiet {P : Program} {f : FuncId} {args : Array Value} {w : World} {n : Nat} {v : Value} (h : Calls P f args (w.drewN n) fun r w' => r = .returned v ∧ w.drewN n = w') :
    Calls P f args (w.drewN n) fun r w' => r = .returned v ∧ ∃ m, w' = w.drewN m := h.mono fun _ _ hh => ⟨hh.1, n, hh.2.symm⟩
theorem methodErrno (v : Value) (w : World) : (Go.method 260 25 v "Error").run Tryd.prog w = .ok (55, v) w := by kernel_rfl
theorem methodFault (v : Value) (w : World) : (Go.method 260 73 v "Error").run Tryd.prog w = .ok (56, v) w := by kernel_rfl
/-- What an error of one part says. -/
def told (s : ByteArray) (p e : Nat) : ByteArray := s ++ ⟨#[32]⟩ ++ txt p ++ ⟨#[58, 32]⟩ ++ word e
set_option maxRecDepth 100000 in
set_option maxHeartbeats 2000000 in
theorem fault_any (b : Nat) (s : ByteArray) (p e : Nat) (w : World) (h : Box w b 77 #[.string s, .int .i64 (p : Int), .iface 25 (.int .i64 (e : Int))]) (hs : s.size ≤ 100) (hp : p < 100) (he : e ≤ 14) :
    Calls Tryd.prog 56 #[.pointer (some ⟨b, 0, none⟩)] w fun r w' => r = .returned (.string (told s p e)) ∧ ∃ n, w' = w.drewN n := by
  have c0 := h.reads 0
  have c1 := h.reads 1
  have c2 := h.reads 2
  simp at c0 c1 c2
  have t1 := txt_size p
  have t2 := word_size e
  have q1 : ¬ 9223372036854775807 < s.size + 1 := by omega
  have q2 : ¬ 9223372036854775807 < s.size + 1 + (txt p).size := by omega
  have q3 : ¬ 9223372036854775807 < s.size + 1 + (txt p).size + 2 := by omega
  have q4 : ¬ 9223372036854775807 < s.size + 1 + (txt p).size + 2 + (word e).size := by omega
  have z1 : (⟨#[32]⟩ : ByteArray).size = 1 := rfl
  have z2 : (⟨#[58, 32]⟩ : ByteArray).size = 2 := rfl
  have mE := methodErrno
  clear h
  go_enter Tryd.func56, Tryd.ntmps56
  go_wp2_with fail
  go_quiet ((first
    | (go_at_call 58; exact still_quiet (itoa_any p _ hp))
    | (go_at_call 55; exact still_quiet (errno_any e _ he))))
  go_wp2_with fail
  go_ret
  exact ⟨rfl, nq, rfl⟩

/-- One digit's text. -/
def dg (x : Nat) : ByteArray := ⟨#[UInt8.ofNat (48 + x)]⟩
theorem conv_dg (w : World) (x g : Nat) (hg : g = w.heap.size) (hx : x < 10) :
    (convert 55 9 (.slice (some ⟨g, 0, none⟩) 1 1)).run Tryd.prog (w.alloc (.cells #[.int .u8 (48 + (x : Int))] 5)) = .ok (.string (dg x)) (w.alloc (.cells #[.int .u8 (48 + (x : Int))] 5)) := by
  have e : (48 + (x : Int)) = ((48 + x : Nat) : Int) := by omega
  rw [e]
  exact conv_str (Byt.made w #[.int .u8 ((48 + x : Nat) : Int)] (0, 0) 1 [48 + x] rfl rfl (by intro y hy; simp at hy; omega) hg) 1
theorem txt_one {p : Nat} (h : p < 10) : txt p = dg p := if_pos h
theorem txt_two {p : Nat} (h : ¬ p < 10) : dg (p / 10) ++ dg (p % 10) = txt p := by
  unfold txt
  rw [if_neg h]
  rfl
theorem refSize_any (p : Nat) (w : World) (h : p < 100) : Calls Tryd.prog 35 #[.int .i64 (p : Int)] w fun e w' => e = .returned (.int .u64 (p : Int)) ∧ w = w' := by
  go_enter Tryd.func35, Tryd.ntmps35
  go_wp2
  go_ret
  exact ⟨rfl, rfl⟩
set_option maxRecDepth 100000 in
set_option maxHeartbeats 2000000 in
theorem refText_any (p : Nat) (w : World) (h : p < 100) :
    Calls Tryd.prog 27 #[.int .i64 (p : Int)] w fun e w' => e = .returned (.string (txt p)) ∧ Below w.heap.size w w' := by
  have cd := conv_dg
  by_cases h10 : p < 10
  · have hm : (p : Int) % 10 = (p : Int) := by omega
    have hd : decide ((10 : Int) ≤ (p : Int)) = false := by simp; omega
    have c1 := cd w p _ rfl h10
    rw [txt_one h10]
    clear cd
    go_enter Tryd.func27, Tryd.ntmps27
    go_wp2_with (go_at_call 35; refine (refSize_any p _ h).mono ?_; rintro e w1 ⟨rfl, rfl⟩)
    go_loopw [3, 4] (fun v3 v4 wr => v3 = .int .u64 (p : Int) ∧ v4 = .string (dg p) ∧ Below w.heap.size w wr) (fun _ _ _ => 0)
    case atStart => exact ⟨rfl, rfl, bel_new _ _⟩
    case round =>
      obtain ⟨rfl, rfl, hb⟩ := hrel
      go_wp2_with fail
      go_ret
      exact ⟨rfl, hb⟩
  · have hq : p / 10 < 10 := by omega
    have hd : decide ((10 : Int) ≤ (p : Int)) = true := by simp; omega
    have hd2 : decide ((10 : Int) ≤ ((p / 10 : Nat) : Int)) = false := by simp; omega
    have hr : p % 10 < 10 := by omega
    have c1 := cd w (p % 10) _ rfl hr
    have e1 : (p : Int) / 10 = ((p / 10 : Nat) : Int) := by omega
    have e2 : ((p / 10 : Nat) : Int) % 10 = ((p / 10 : Nat) : Int) := by omega
    have e3 : (p : Int) % 10 = ((p % 10 : Nat) : Int) := by omega
    have tt := txt_two h10
    have s1 : (dg (p / 10)).size = 1 := rfl
    have s2 : (dg (p % 10)).size = 1 := rfl
    rw [← tt]
    clear tt
    generalize p / 10 = q at *
    generalize p % 10 = r at *
    go_enter Tryd.func27, Tryd.ntmps27
    go_wp2_with (go_at_call 35; refine (refSize_any p _ h).mono ?_; rintro e w1 ⟨rfl, rfl⟩)
    go_loopw [3, 4] (fun v3 v4 wr => Below w.heap.size w wr ∧ ((v3 = .int .u64 (p : Int) ∧ v4 = .string (dg r)) ∨ (v3 = .int .u64 (q : Int) ∧ v4 = .string (dg q ++ dg r)))) (fun v3 _ _ => (intOf v3).toNat)
    case atStart => exact ⟨bel_new _ _, .inl ⟨rfl, rfl⟩⟩
    case round =>
      obtain ⟨hb, ⟨rfl, rfl⟩ | ⟨rfl, rfl⟩⟩ := hrel
      · have c2 := cd wr q _ rfl hq
        clear cd c1
        go_wp2_with fail
        go_roundw
        case rel => exact ⟨bel_alloc hb _, .inr ⟨rfl, rfl⟩⟩
        case measure => simp [intOf]; omega
      · go_wp2_with fail
        go_ret
        exact ⟨rfl, hb⟩
end Go.Proofs.YtpkkhmbcbcaelaaDoor

/- The reference's Words of an error of any parts, whatever numbers in words are (Num). -/
import Derived.Test.YtpkkhmbcbcaelaaDoorErrAll
import Derived.Deep.RegionHeld3
namespace Go.Proofs.YtpkkhmbcbcaelaaDoor
open Go.RowKit Go.Mem1

set_option maxRecDepth 100000 in
set_option maxHeartbeats 2000000 in
theorem refWord_any (e : Nat) (w : World) (h : e ≤ 14) : Calls Tryd.prog 28 #[.int .i64 (e : Int)] w fun r w' => r = .returned (.string (word e)) ∧ Below w.heap.size w w' := by
  obtain rfl | rfl | rfl | rfl | rfl | rfl | rfl | rfl | rfl | rfl | rfl | rfl | rfl | rfl | rfl : e = 0 ∨ e = 1 ∨ e = 2 ∨ e = 3 ∨ e = 4 ∨ e = 5 ∨ e = 6 ∨ e = 7 ∨ e = 8 ∨ e = 9 ∨ e = 10 ∨ e = 11 ∨ e = 12 ∨ e = 13 ∨ e = 14 := by omega
  all_goals
    go_enter Tryd.func28, Tryd.ntmps28
    go_wp2
    go_ret
    exact ⟨rfl, bel_new _ _⟩

/-- Parts as the reference has them: a row of (word, place), below block B. -/
structure PartsAt (w : World) (B : Nat) (A : Option Addr) (n : Nat) (l : List (ByteArray × Int)) : Prop where
  len : l.length = n
  at_ : ∀ (i : Nat) (x : ByteArray × Int), l[i]? = some x → ∃ b off, A = some ⟨b, off, none⟩ ∧ b < B ∧ w.cell? ⟨b, off + i * 2, none⟩ = some (.string x.1) ∧ w.cell? ⟨b, off + i * 2 + 1, none⟩ = some (.int .i64 x.2)
theorem PartsAt.carry {w w' : World} {B : Nat} {A : Option Addr} {n : Nat} {l : List (ByteArray × Int)} (h : PartsAt w B A n l) (hb : Below B w w') : PartsAt w' B A n l :=
  ⟨h.len, fun i x hx => by
    obtain ⟨b, off, e, hlt, h1, h2⟩ := h.at_ i x hx
    exact ⟨b, off, e, hlt, (hb.cell (p := ⟨b, _, none⟩) hlt).trans h1, (hb.cell (p := ⟨b, _, none⟩) hlt).trans h2⟩⟩
theorem PartsAt.wider {w : World} {B B' : Nat} {A : Option Addr} {n : Nat} {l : List (ByteArray × Int)} (h : PartsAt w B A n l) (hB : B ≤ B') : PartsAt w B' A n l :=
  ⟨h.len, fun i x hx => by
    obtain ⟨b, off, e, hlt, h1, h2⟩ := h.at_ i x hx
    exact ⟨b, off, e, by omega, h1, h2⟩⟩
section
variable {tx : Int → ByteArray} {ok : Int → Prop} {Keep : World → Prop}
/-- The words of the first parts. -/
def headTxt (tx : Int → ByteArray) (l : List (ByteArray × Int)) : ByteArray := l.foldl (fun a x => a ++ x.1 ++ ⟨#[32]⟩ ++ tx x.2 ++ ⟨#[58, 32]⟩) ⟨#[]⟩
theorem empty_app (a : ByteArray) : (⟨#[]⟩ : ByteArray) ++ a = a := by show ByteArray.empty ++ a = a; simp
theorem foldl_txt (e : Nat) : ∀ (l : List (ByteArray × Int)) (a : ByteArray), l.foldl (fun a x => a ++ x.1 ++ ⟨#[32]⟩ ++ tx x.2 ++ ⟨#[58, 32]⟩) a ++ word e = a ++ errAll tx l e
  | [], a => rfl
  | (s, k) :: r, a => by
    rw [List.foldl_cons, foldl_txt e r]
    simp only [errAll, ByteArray.append_assoc]
theorem headTxt_end (l : List (ByteArray × Int)) (e : Nat) : headTxt tx l ++ word e = errAll tx l e := (foldl_txt e l ⟨#[]⟩).trans (empty_app _)
theorem headTxt_step {l : List (ByteArray × Int)} {i : Nat} {s : ByteArray} {k : Int} (h : l[i]? = some (s, k)) : headTxt tx (l.take (i + 1)) = headTxt tx (l.take i) ++ s ++ ⟨#[32]⟩ ++ tx k ++ ⟨#[58, 32]⟩ := by
  obtain ⟨hi, e⟩ := List.getElem?_eq_some_iff.1 h
  rw [List.take_succ_eq_append_getElem hi, e]
  unfold headTxt
  rw [List.foldl_append]
  rfl
theorem headTxt_size (N : Num tx ok Keep) (l : List (ByteArray × Int)) (h : OkParts ok l) : (headTxt tx l).size ≤ 133 * l.length + 5 := by
  have h1 := errAll_size N l 0 h
  rw [← headTxt_end] at h1
  rw [ByteArray.size_append] at h1
  omega

set_option maxRecDepth 100000 in
set_option maxHeartbeats 4000000 in
theorem refWords_all (N : Num tx ok Keep) (A : Option Addr) (n c e : Nat) (l : List (ByteArray × Int)) (w : World) (h : PartsAt w w.heap.size A n l) (hsm : OkParts ok l) (hn : n ≤ 5) (he : e ≤ 14) :
    Calls Tryd.prog 22 #[.agg #[.slice A n c, .int .i64 (e : Int)]] w fun r w' => r = .returned (.string (errAll tx l e)) ∧ Below w.heap.size w w' := by
  have t2 := word_size e
  have HP := Lib.hid h
  have HS := Lib.hid hsm
  clear h hsm
  go_enter Tryd.func22, Tryd.ntmps22
  go_wp2_with fail
  go_loopw [3, 4] (fun v3 v4 wr => Below w.heap.size w wr ∧ w.heap.size < wr.heap.size ∧ wr.cell? ⟨w.heap.size, 0, none⟩ = some (.slice A n c) ∧ wr.cell? ⟨w.heap.size, 1, none⟩ = some (.int .i64 (e : Int)) ∧
    ∃ i : Nat, i ≤ n ∧ v3 = .string (headTxt tx (l.take i)) ∧ v4 = .int .i64 (i : Int)) (fun _ v4 _ => n - (intOf v4).toNat)
  case atStart => exact ⟨bel_new _ _, by simp, by simp, by simp, 0, by omega, rfl, rfl⟩
  case round =>
    obtain ⟨hb, hz, b0, b1, i, hi, rfl, rfl⟩ := hrel
    by_cases hlt : i < n
    · obtain ⟨⟨s, k⟩, hx⟩ : ∃ x, l[i]? = some x := ⟨l[i]'(by rw [HP.out.len]; exact hlt), List.getElem?_eq_getElem _⟩
      obtain ⟨bp, off, rfl, hbp, r0, r1⟩ := (HP.out.carry hb).at_ i _ hx
      obtain ⟨hs, hk⟩ := HS.out _ (List.mem_of_getElem? hx)
      simp only at hs hk r0 r1
      have t1 := N.size k hk
      have cT := N.text k wr.drew hk
      have hst := headTxt_step (tx := tx) hx
      have hsz := headTxt_size N (l.take i) (fun x hx => HS.out x (List.mem_of_mem_take hx))
      have htl : (l.take i).length ≤ i := List.length_take_le _ _
      generalize headTxt tx (l.take i) = T at *
      generalize tx k = X at *
      have q0 : ¬ 9223372036854775807 < T.size + s.size := by omega
      have q1 : ¬ 9223372036854775807 < T.size + s.size + 1 := by omega
      have q2 : ¬ 9223372036854775807 < T.size + s.size + 1 + X.size := by omega
      have q3 : ¬ 9223372036854775807 < T.size + s.size + 1 + X.size + 2 := by omega
      have z1 : (⟨#[32]⟩ : ByteArray).size = 1 := rfl
      have z2 : (⟨#[58, 32]⟩ : ByteArray).size = 2 := rfl
      have i0 : (0 : Int) ≤ (i : Int) := by omega
      have i1 : (i : Int) < (n : Int) := by omega
      have HX := Lib.hid hst
      have hbz : bp < wr.heap.size := by omega
      have CT := Lib.hid cT
      clear hx hst hk cT
      go_wp2_with fail
      go_region_held3 (fun w' => w'.cell? ⟨w.heap.size, 0, none⟩ = some (.slice (some ⟨bp, off, none⟩) n c) ∧ w'.cell? ⟨bp, off + i * 2, none⟩ = some (.string s) ∧ w'.cell? ⟨bp, off + i * 2 + 1, none⟩ = some (.int .i64 k))
        (first | exact ⟨b0, r0, r1⟩ | exact ⟨k0, k1, k2⟩)
        ((first | (go_at_call 27; refine CT.out.mono ?_; rintro r w5 ⟨rfl, hb5⟩
                   have Bs : Below wr.heap.size wr w5 := ((Below.refl wr.heap.size wr).drew).trans hb5
                   have k0 := (Bs.cell (p := ⟨w.heap.size, 0, none⟩) hz).trans b0
                   have k3 := (Bs.cell (p := ⟨w.heap.size, 1, none⟩) hz).trans b1
                   have k1 := (Bs.cell (p := ⟨bp, off + i * 2, none⟩) hbz).trans r0
                   have k2 := (Bs.cell (p := ⟨bp, off + i * 2 + 1, none⟩) hbz).trans r1
                   have B5 := bel_trans hb Bs
                   have hz5 : w.heap.size < w5.heap.size := Nat.lt_of_lt_of_le hz Bs.size)))
      all_goals
        go_wp2_with fail
        go_roundw
        case rel => exact ⟨B5, hz5, k0, k3, i + 1, by omega, by rw [HX.out], by go_num⟩
        case measure => simp [intOf]; omega
    · have hin : i = n := by omega
      have hta : l.take i = l := List.take_of_length_le (by have := HP.out.len; omega)
      have hend := headTxt_end (tx := tx) l e
      have hsz := headTxt_size N l HS.out
      have hln := HP.out.len
      rw [hta]
      rw [hln] at hsz
      have q4 : ¬ 9223372036854775807 < (headTxt tx l).size + (word e).size := by omega
      have HE := Lib.hid hend
      clear hin hta hend hsz hln
      go_wp2_with (go_at_call 28; refine (refWord_any e _ he).mono ?_; rintro r w5 ⟨rfl, hb5⟩)
      go_ret
      exact ⟨by rw [← HE.out]; rfl, bel_trans hb hb5⟩
end
end Go.Proofs.YtpkkhmbcbcaelaaDoor

/- The landed msg.Encode, whatever the message. -/
import Derived.Test.YtjfjdicdokdekaaDoorMsgMem
import Derived.Test.YtjfjdicdokdekaaDoorMsgErr
set_option linter.unusedSimpArgs false
namespace Go.Proofs.YtjfjdicdokdekaaDoor
open Go.RowKit Go.Mem1 Go.CodMath

/-- A message but for its rows. -/
structure Hd where
  k : Int
  s : Int
  a : Int
  b : Int
  c : Int
  d : Int
  e : Int
  f : Int
instance : Inhabited Hd := ⟨⟨0, 0, 0, 0, 0, 0, 0, 0⟩⟩
def Hd.l (h : Hd) : List Int := [h.k, h.s, h.a, h.b, h.c, h.d, h.e, h.f]
def Hd.ok (h : Hd) : Prop := ∀ z ∈ h.l, -9223372036854775808 ≤ z ∧ z ≤ 9223372036854775807
/-- A message's bytes. -/
def encOf (h : Hd) (rs : List R5) : List Nat := h.l.flatMap ien ++ ien (rs.length : Int) ++ rs.flatMap fun x => x.l.flatMap ien
/-- What Encode tells. -/
def EncBad (w : World) (h : Hd) (n : Nat) (e : Ending) (w' : World) : Prop :=
  ∃ b, e = .returned (.tuple #[.slice none 0 0, .iface 78 (.pointer (some ⟨b, 0, none⟩))]) ∧ IsErr w' w'.heap.size [(msgBytes, MsgMath.cut h.k)] ((MsgMath.chk h.k h.s n : Nat) : Int) (.iface 78 (.pointer (some ⟨b, 0, none⟩))) ∧ Below w.heap.size w w'
def EncOk (w : World) (h : Hd) (rs : List R5) (e : Ending) (w' : World) : Prop :=
  ∃ A c, e = .returned (.tuple #[.slice A (encOf h rs).length c, .nilIface]) ∧ (A = none → c = 0) ∧ (encOf h rs).length ≤ c ∧ Byt w' w'.heap.size A (encOf h rs).length (encOf h rs) ∧ Below w.heap.size w w'

set_option maxRecDepth 100000 in
set_option maxHeartbeats 1000000 in
theorem encode_bad (h : Hd) (A : Option Addr) (n c : Nat) (w : World) (hc : MsgMath.chk h.k h.s n ≠ 0) :
    Calls Tryd.prog 38 #[.agg #[.int .i64 h.k, .int .i64 h.s, .int .i64 h.a, .int .i64 h.b, .int .i64 h.c, .int .i64 h.d, .int .i64 h.e, .int .i64 h.f, .slice A n c]] w (EncBad w h n) := by
  have hch := fun w' => check_bad (MsgMath.cut h.k) h.s n w' (by rw [MsgMath.chk_cut]; exact hc)
  rw [MsgMath.chk_cut] at hch
  have HC := Lib.hid hch
  clear hch hc
  go_enter Tryd.func38, Tryd.ntmps38
  go_wp2_with fail
  go_region_held3 (fun w' => w'.cell? ⟨w.heap.size, 0, none⟩ = some (.int .i64 h.k) ∧ w'.cell? ⟨w.heap.size, 1, none⟩ = some (.int .i64 h.s) ∧ w'.cell? ⟨w.heap.size, 8, none⟩ = some (.slice A n c))
    (first | exact ⟨by simp, by simp, by simp⟩ | exact ⟨k0, k1, k2⟩)
    ((first | (go_at_call 44; refine (cut_any _ _).mono ?_; rintro e w1 ⟨rfl, rfl⟩)
            | (go_at_call 49; refine (HC.out _).mono ?_; rintro e w1 ⟨b, rfl, hE, hB⟩
               have k0 := (hB.cell (p := ⟨w.heap.size, 0, none⟩) (by simp)).trans (show _ = some (Value.int .i64 h.k) by simp)
               have k1 := (hB.cell (p := ⟨w.heap.size, 1, none⟩) (by simp)).trans (show _ = some (Value.int .i64 h.s) by simp)
               have k2 := (hB.cell (p := ⟨w.heap.size, 8, none⟩) (by simp)).trans (show _ = some (Value.slice A n c) by simp)
               have HE := Lib.hid hE
               have HB := Lib.hid hB
               clear hE hB)))
  all_goals
    go_wp2_with fail
    go_ret2
    exact ⟨b, rfl, HE.out, ((bel_new w _).drew).trans (HB.out.mono (by simp))⟩

theorem flat_take {rs : List R5} {k : Nat} {x : R5} (h : rs[k]? = some x) : (rs.take (k + 1)).flatMap (fun x => x.l.flatMap ien) = (rs.take k).flatMap (fun x => x.l.flatMap ien) ++ x.l.flatMap ien := by
  obtain ⟨hk, rfl⟩ := List.getElem?_eq_some_iff.1 h
  rw [List.take_succ_eq_append_getElem hk, List.flatMap_append]
  simp
theorem flat_len : ∀ (rs : List R5), (∀ x ∈ rs, x.ok) → (rs.flatMap fun x => x.l.flatMap ien).length ≤ 50 * rs.length
  | [], _ => by simp
  | x :: r, h => by
    have h1 := iens_len x.l (h x (List.mem_cons_self ..))
    have h2 := flat_len r (fun x hx => h x (List.mem_cons_of_mem _ hx))
    simp only [List.flatMap_cons, List.length_append, List.length_cons]
    have : x.l.length = 5 := rfl
    omega
set_option maxRecDepth 100000 in
set_option maxHeartbeats 2000000 in
theorem encode_ok (h : Hd) (rs : List R5) (A : Option Addr) (n c : Nat) (w : World) (hok : h.ok) (hr : RowsAt w w.heap.size A n rs) (hc : MsgMath.chk h.k h.s n = 0) :
    Calls Tryd.prog 38 #[.agg #[.int .i64 h.k, .int .i64 h.s, .int .i64 h.a, .int .i64 h.b, .int .i64 h.c, .int .i64 h.d, .int .i64 h.e, .int .i64 h.f, .slice A n c]] w (EncOk w h rs) := by
  have hn64 : n ≤ 64 := by have := MsgMath.chk_ok hc; have := MsgMath.most_bd h.k; omega
  have hch := fun w' => check_ok (MsgMath.cut h.k) h.s n w' (by rw [MsgMath.chk_cut]; exact hc)
  have HC := Lib.hid hch
  have HR := Lib.hid hr
  have HO := Lib.hid hok
  clear hch hc hr hok
  go_enter Tryd.func38, Tryd.ntmps38
  go_wp2_with fail
  go_quiet ((first | (go_at_call 44; exact Calls.quiet_of_same ((cut_any _ _).mono fun _ _ h => ⟨h.1, h.2.symm⟩)) | (go_at_call 49; exact Calls.quiet_of_same ((HC.out _).mono fun _ _ h => ⟨h.1, h.2.symm⟩))))
  go_wp2_with fail
  have hb0 : Box ((w.alloc (.cells #[.int .i64 h.k, .int .i64 h.s, .int .i64 h.a, .int .i64 h.b, .int .i64 h.c, .int .i64 h.d, .int .i64 h.e, .int .i64 h.f, .slice A n c] 58)).drewN nq) w.heap.size 58 #[.int .i64 h.k, .int .i64 h.s, .int .i64 h.a, .int .i64 h.b, .int .i64 h.c, .int .i64 h.d, .int .i64 h.e, .int .i64 h.f, .slice A n c] := Box.fresh w _ _ rfl
  have Bw0 : Below w.heap.size w ((w.alloc (.cells #[.int .i64 h.k, .int .i64 h.s, .int .i64 h.a, .int .i64 h.b, .int .i64 h.c, .int .i64 h.d, .int .i64 h.e, .int .i64 h.f, .slice A n c] 58)).drewN nq) := bel_drewN (bel_new w _) nq
  have hz0 : ((w.alloc (.cells #[.int .i64 h.k, .int .i64 h.s, .int .i64 h.a, .int .i64 h.b, .int .i64 h.c, .int .i64 h.d, .int .i64 h.e, .int .i64 h.f, .slice A n c] 58)).drewN nq).heap.size = w.heap.size + 1 := by simp [World.drewN]
  generalize ((w.alloc (.cells #[.int .i64 h.k, .int .i64 h.s, .int .i64 h.a, .int .i64 h.b, .int .i64 h.c, .int .i64 h.d, .int .i64 h.e, .int .i64 h.f, .slice A n c] 58)).drewN nq) = W0 at *
  have hE0 : EncAt (W0.alloc (.cells #[.slice none 0 0] 127)) (w.heap.size + 1) (w.heap.size + 1) none [] := EncAt.new' hz0.symm hz0.symm
  have hE1 := hE0.alloc (.cells #[.int .i64 h.k, .int .i64 h.s] 2)
  have hI1 := encInts_any (w.heap.size + 1) (w.heap.size + 1) none [] [h.k, h.s] (some ⟨w.heap.size + 1 + 1, 0, none⟩) 2 2 _ hE1 (by simp; omega) (Rd.made' (by simp; omega) rfl rfl) (fun b o e _ => by
    injection e with e; injection e with e _; subst e
    rintro (hh | hh)
    · omega
    · cases hh) (fun z hz => HO.out z (by simp [Hd.l] at hz ⊢; rcases hz with rfl | rfl <;> simp)) (by simp)
  refine hI1.mono ?_
  rintro e w1 ⟨rfl, hgo⟩
  obtain ⟨B1, R1, hE2, -, -⟩ := hgo.next hE1 (by simp; omega)
  have hb1 : Box w1 w.heap.size 58 _ := ((hb0.kept_below ((bel_alloc (bel_new W0 _) _)) hb0.there)).kept_below B1 (by omega)
  have Bw1 : Below w.heap.size w w1 := (Bw0.trans ((bel_alloc (bel_new W0 _) _).mono (by omega))).trans (B1.mono (by omega))
  have hz1 := B1.size
  simp at hz1
  have HE2 := Lib.hid hE2
  have HB1 := Lib.hid hb1
  have HZ0 := Lib.hid hz0
  have c8 := hb1.reads 8
  simp at c8
  clear hgo hE2 hb1 hb0 hE0 hE1 hI1 hz0 Bw0 B1
  go_wp2_with fail
  have hI2 := encInts_any (w.heap.size + 1) (w.heap.size + 1) R1 _ [h.a, h.b, h.c, h.d, h.e, h.f] (some ⟨w.heap.size, 2, none⟩) 6 6 w1 HE2.out (by have := HZ0.out; omega)
    (Rd.ofBox HB1.out rfl (fun k u hk => by
      match k, hk with
      | 0, hk => exact hk
      | 1, hk => exact hk
      | 2, hk => exact hk
      | 3, hk => exact hk
      | 4, hk => exact hk
      | 5, hk => exact hk
      | k + 6, hk => simp at hk)) (fun b o e _ => by
    injection e with e; injection e with e _; subst e
    exact HE2.out.off (by omega)) (fun z hz => HO.out z (by simp [Hd.l] at hz ⊢; omega)) (by
      have h1 := HE2.out.bnd
      have := iens_len [h.k, h.s] (fun z hz => HO.out z (by simp [Hd.l] at hz ⊢; omega))
      simp at this ⊢; omega)
  refine hI2.mono ?_
  rintro e w2 ⟨rfl, hgo⟩
  obtain ⟨B2, R2, hE3, -, -⟩ := hgo.next HE2.out (by have := HZ0.out; omega)
  have hb2 := HB1.out.kept_below B2 (by omega)
  have Bw2 : Below w.heap.size w w2 := Bw1.trans (B2.mono (by omega))
  have hz2 := B2.size
  have HE3 := Lib.hid hE3
  have HB2 := Lib.hid hb2
  have d8 := hb2.reads 8
  simp at d8
  clear hgo hE3 hb2 hI2 B2 c8 HB1 HE2
  go_wp2_with fail
  have hlen := HR.out.len
  have hE4 := HE3.out.alloc (.cells #[.int .i64 (n : Int)] 2)
  have hl8 : ([] ++ List.flatMap ien [h.k, h.s] ++ List.flatMap ien [h.a, h.b, h.c, h.d, h.e, h.f]).length ≤ 80 := by
    have h1 := iens_len [h.k, h.s] (fun z hz => HO.out z (by simp [Hd.l] at hz ⊢; omega))
    have h2 := iens_len [h.a, h.b, h.c, h.d, h.e, h.f] (fun z hz => HO.out z (by simp [Hd.l] at hz ⊢; omega))
    rw [List.nil_append, List.length_append]
    simp only [List.length_cons, List.length_nil] at h1 h2
    omega
  have hI3 := encInts_any (w.heap.size + 1) (w.heap.size + 1) R2 _ [(n : Int)] (some ⟨w2.heap.size, 0, none⟩) 1 1 _ hE4 (by have := HZ0.out; simp; omega) (Rd.made' rfl rfl rfl) (fun b o e _ => by
    injection e with e; injection e with e _; subst e
    rintro (hh | hh)
    · have := HZ0.out; omega
    · have := (HE3.out.row _ hh.symm).2; omega) (fun z hz => by simp at hz; omega) (by omega)
  refine hI3.mono ?_
  rintro e w3 ⟨rfl, hgo⟩
  obtain ⟨B3, R3, hE5, -, -⟩ := hgo.next hE4 (by have := HZ0.out; simp; omega)
  have hb3 := (HB2.out.kept_below (bel_new w2 _) HB2.out.there).kept_below B3 (by omega)
  have Bw3 : Below w.heap.size w w3 := (bel_alloc Bw2 _).trans (B3.mono (by omega))
  have hz3 := B3.size
  simp at hz3
  have hbase : ([] ++ List.flatMap ien [h.k, h.s] ++ List.flatMap ien [h.a, h.b, h.c, h.d, h.e, h.f]) ++ [(n : Int)].flatMap ien = h.l.flatMap ien ++ ien (rs.length : Int) := by
    rw [hlen]; simp [Hd.l]
  rw [hbase] at hE5
  have hl9 : (h.l.flatMap ien ++ ien (rs.length : Int)).length ≤ 90 := by
    have h1 := iens_len h.l HO.out
    have h2 := ien_len (z := (rs.length : Int)) ⟨by omega, by omega⟩
    have h3 : h.l.length = 8 := rfl
    rw [List.length_append]; omega
  have HE5 := Lib.hid hE5
  have HB3 := Lib.hid hb3
  have HL := Lib.hid hlen
  have e8 := hb3.reads 8
  simp at e8
  have hgz : w.heap.size + 1 ≤ w3.heap.size := by have := HZ0.out; omega
  have henc : encOf h rs = (h.l.flatMap ien ++ ien (rs.length : Int)) ++ rs.flatMap fun x => x.l.flatMap ien := rfl
  have HEN := Lib.hid henc
  generalize h.l.flatMap ien ++ ien (rs.length : Int) = base at *
  clear hgo hE5 hb3 hI3 B3 d8 HB2 HE3 hE4 hl8 hbase hlen henc hz1 hz2 hz3 Bw1 Bw2
  go_wp2_with fail
  go_loopw [37] (fun v37 wr => ∃ k : Nat, k ≤ n ∧ v37 = .int .i64 k ∧ Below w.heap.size w wr ∧ w.heap.size + 1 ≤ wr.heap.size ∧ Hid (∃ R, EncAt wr (w.heap.size + 1) (w.heap.size + 1) R (base ++ (rs.take k).flatMap fun x => x.l.flatMap ien))) (fun v37 _ => n - (intOf v37).toNat)
  case atStart => exact ⟨0, by omega, rfl, Bw3, hgz, ⟨R3, by simpa using HE5.out⟩⟩
  case round =>
    obtain ⟨k, hk, rfl, Bwr, hzr, hR⟩ := hrel
    by_cases hlt : k < n
    · obtain ⟨b, off, x, rfl, hbl, hx, hxo, x0, x1, x2, x3, x4⟩ := (HR.out.carry Bwr).at_ hlt
      have HX := Lib.hid hx
      have HXO := Lib.hid hxo
      clear hx hxo
      go_wp2_with fail
      obtain ⟨R, hE⟩ := hR.out
      have hE' := hE.alloc (.cells #[.int .i64 x.p, .int .i64 x.q, .int .i64 x.r, .int .i64 x.s, .int .i64 x.t] 88)
      have hlk : (base ++ (rs.take k).flatMap fun x => x.l.flatMap ien).length ≤ 90 + 50 * 64 := by
        have h1 := flat_len (rs.take k) (fun y hy => HR.out.ok y (List.mem_of_mem_take hy))
        have h2 : (rs.take k).length ≤ k := List.length_take_le _ _
        rw [List.length_append]; omega
      have hI4 := encInts_any (w.heap.size + 1) (w.heap.size + 1) R _ x.l (some ⟨wr.heap.size, 0, none⟩) 5 5 _ hE' (by simp; omega) (Rd.made' rfl rfl rfl) (fun b' o' e _ => by
        injection e with e; injection e with e _; subst e
        rintro (hh | hh)
        · have := hE.there; omega
        · have := (hE.row _ hh.symm).2; omega) HXO.out (by omega)
      refine hI4.mono ?_
      rintro e w4 ⟨rfl, hgo⟩
      obtain ⟨B4, R4, hE6, -, -⟩ := hgo.next hE' (by simp; omega)
      have Bw4 : Below w.heap.size w w4 := (bel_alloc Bwr _).trans (B4.mono (by omega))
      have hz4 : w.heap.size + 1 ≤ w4.heap.size := by have := B4.size; simp at this; omega
      rw [List.append_assoc, ← flat_take HX.out] at hE6
      have HE6 := Lib.hid hE6
      clear hgo hE6 hI4 B4 hE hE' hlk x0 x1 x2 x3 x4
      go_wp2_with fail
      go_roundw
      case rel => exact ⟨k + 1, by omega, by go_num, Bw4, hz4, ⟨R4, HE6.out⟩⟩
      case measure => simp [intOf]; omega
    · obtain rfl : k = n := by omega
      have htk : rs.take k = rs := List.take_of_length_le (by have := HL.out; omega)
      rw [htk] at hR
      obtain ⟨R, hE⟩ := hR.out
      rw [← HEN.out] at hE
      have hlk : (encOf h rs).length ≤ 90 + 50 * 64 := by
        have h1 := flat_len rs (fun y hy => HR.out.ok y hy)
        have := HL.out
        rw [HEN.out, List.length_append]; omega
      have hby := encBytes_any (w.heap.size + 1) (w.heap.size + 1) R (encOf h rs) wr hE (by omega)
      have hbd := Lib.hid hE.bnd
      have HBY := Lib.hid hby
      clear htk hE hlk hby hR
      generalize hLL : (encOf h rs).length = L at *
      have HLL := Lib.hid hLL
      clear hLL
      go_wp2_with fail
      refine HBY.out.mono ?_
      rintro e w5 ⟨B5, A5, c5, rfl, hn5, hc5, ho5⟩
      have HO5 := Lib.hid ho5
      have HC5 := Lib.hid hc5
      clear ho5 hc5
      go_wp2_with fail
      go_ret2
      have hL5 := HLL.out
      subst hL5
      exact ⟨A5, c5, rfl, HC5.out, hn5, Byt.ofOwn HO5.out hbd.out, bel_trans Bwr B5⟩
end Go.Proofs.YtjfjdicdokdekaaDoor

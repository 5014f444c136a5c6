/- straddlelaw2.Tells: an error and the document's own, told the same, whatever numbers in words are (Num). -/
import Derived.Test.YtpkkhmbcbcaelaaDoorWordsAll
import Derived.Test.YtpkkhmbcbcaelaaDoorAsUse
namespace Go.Proofs.YtpkkhmbcbcaelaaDoor
open Go.RowKit Go.Mem1

set_option maxHeartbeats 1000000 in
theorem tells_nil (A : Option Addr) (n c : Nat) (w : World) :
    Calls Tryd.prog 11 #[.nilIface, .agg #[.slice A n c, .int .i64 0]] w fun r w' => r = .returned (.bool true) ∧ Below w.heap.size w w' := by
  go_enter Tryd.func11, Tryd.ntmps11
  go_wp2_with fail
  go_ret
  exact ⟨rfl, bel_new _ _⟩

set_option maxRecDepth 100000 in
set_option maxHeartbeats 4000000 in
theorem tells_all {tx : Int → ByteArray} {ok : Int → Prop} {Keep : World → Prop} (N : Num tx ok Keep) (s : ByteArray) (p : Int) (l : List (ByteArray × Int)) (A : Option Addr) (n c e b : Nat) (w : World) (hg : ErrType w) (hE : IsErr w w.heap.size ((s, p) :: l) e (.iface 73 (.pointer (some ⟨b, 0, none⟩)))) (h : PartsAt w w.heap.size A n ((s, p) :: l)) (hK : Keep w) (hsm : OkParts ok ((s, p) :: l)) (hl : l.length ≤ 4) (he : e ≤ 14) (he0 : e ≠ 0) :
    Calls Tryd.prog 11 #[.iface 73 (.pointer (some ⟨b, 0, none⟩)), .agg #[.slice A n c, .int .i64 (e : Int)]] w fun r w' => r = .returned (.bool true) ∧ Below w.heap.size w w' := by
  have hne : ((e : Int) == 0) = false := by simp; omega
  have mF := methodFault
  have HE := Lib.hid hE
  have HP := Lib.hid h
  have HG := Lib.hid hg
  have HS := Lib.hid hsm
  have HK := Lib.hid hK
  clear hE h hg hsm hK he0
  go_enter Tryd.func11, Tryd.ntmps11
  go_wp2_with fail
  have W1 : ∃ W, W = (w.alloc (.cells #[.slice A n c, .int .i64 (e : Int)] 42)).drew := ⟨_, rfl⟩
  obtain ⟨W, hW⟩ := W1
  have B0 : Below w.heap.size w W := by rw [hW]; exact (bel_new w _).drew
  have z0 : w.heap.size < W.heap.size := by rw [hW]; show w.heap.size < (w.alloc _).heap.size; simp
  have b0 : W.cell? ⟨w.heap.size, 0, none⟩ = some (.slice A n c) := by rw [hW]; simp
  have b1 : W.cell? ⟨w.heap.size, 1, none⟩ = some (.int .i64 (e : Int)) := by rw [hW]; simp
  have E0 := (HE.out.carry B0).wider (Nat.le_of_lt z0)
  have cE := chain_all N e he l s p b W HS.out hl (N.keep _ _ HK.out B0) E0
  have hnn : n ≤ 5 := by have := HP.out.len; simp at this; omega
  have cW := fun W' h => refWords_all N A n c e ((s, p) :: l) W' h HS.out hnn he
  have cI := fun W' B h => errorsIs ((s, p) :: l) e e (.iface 73 (.pointer (some ⟨b, 0, none⟩))) W' B h
  have hee : ((e : Int) == (e : Int)) = true := by simp
  rw [hee] at cI
  generalize errAll tx ((s, p) :: l) e = T at cE cW
  have CW := Lib.hid cW
  have CI := Lib.hid cI
  clear cW cI hee
  rw [hW] at b0 b1
  rw [hW] at cE
  have CE := Lib.hid cE
  have HW := Lib.hid hW
  have HB0 := Lib.hid B0
  clear cE hW B0 E0
  go_region_held3 (fun w' => w'.cell? ⟨w.heap.size, 0, none⟩ = some (.slice A n c) ∧ w'.cell? ⟨w.heap.size, 1, none⟩ = some (.int .i64 (e : Int)))
    (first | exact ⟨b0, b1⟩ | exact ⟨k0, k1⟩ | exact ⟨j0, j1⟩)
    ((first | (go_at_call 56; refine CE.out.mono ?_; rintro r w2 ⟨rfl, hb2⟩
               have Bd : Below w.heap.size w w2 := ((bel_new w _).drew).trans (hb2.mono (by show w.heap.size ≤ (w.alloc _).heap.size; simp))
               have z2 : w.heap.size < w2.heap.size := Nat.lt_of_lt_of_le (by show w.heap.size < (w.alloc _).heap.size; simp) hb2.size
               have k0 := (hb2.cell (p := ⟨w.heap.size, 0, none⟩) (by show w.heap.size < (w.alloc _).heap.size; simp)).trans b0
               have k1 := (hb2.cell (p := ⟨w.heap.size, 1, none⟩) (by show w.heap.size < (w.alloc _).heap.size; simp)).trans b1
               clear hb2)
            | (go_at_call 22
               refine (CW.out _ ((HP.out.carry Bd).wider Bd.size)).mono ?_; rintro r w3 ⟨rfl, B23⟩
               have B3 := bel_trans Bd B23
               have z3 : w.heap.size < w3.heap.size := Nat.lt_of_lt_of_le z2 B23.size
               have j0 := (B23.cell (p := ⟨w.heap.size, 0, none⟩) z2).trans k0
               have j1 := (B23.cell (p := ⟨w.heap.size, 1, none⟩) z2).trans k1)
            | (go_at_call 23; refine (CI.out w3 _ (HE.out.carry B3)).mono ?_; rintro r w4 ⟨rfl, rfl⟩)))
  have hlt := HG.out.lt
  have hnz : ((n : Int) == 0) = false := by have := HP.out.len; simp at this; simp; omega
  obtain ⟨b', u, e1, hbl, c0, c1, c2, hr⟩ := HE.out
  injection e1 with _ e1; injection e1 with e1; injection e1 with e1; injection e1 with e1
  subst e1
  obtain ⟨bp, off, hA, hbp, r0, r1⟩ := HP.out.at_ 0 _ rfl
  simp only [Nat.zero_mul, Nat.add_zero] at r0 r1
  have HA := Lib.hid hA
  clear hA hr k0 k1 b0 b1 c2
  go_wp2_with fail
  have Bw : Below w.heap.size w (w3.alloc (.cells #[.pointer none] 73)) := bel_alloc B3 _
  refine (errorsAs_hit ⟨b, 0, none⟩ w3.heap.size (.pointer none) _ w3.heap.size (Nat.le_refl _) ((Bw.cell (p := ⟨0, 0, none⟩) hlt).trans HG.out) (by simp) (by simp)).mono ?_
  rintro r w5 ⟨rfl, hv5, B5⟩
  have Bs : Below w3.heap.size w3 w5 := ((bel_new w3 _)).trans B5
  have B05 := bel_trans B3 Bs
  have m0 := (Bs.cell (p := ⟨w.heap.size, 0, none⟩) z3).trans j0
  have m1 := (Bs.cell (p := ⟨w.heap.size, 1, none⟩) z3).trans j1
  have d0 := (B05.cell (p := ⟨b, 0, none⟩) hbl).trans c0
  have d1 := (B05.cell (p := ⟨b, 1, none⟩) hbl).trans c1
  have p0 := (B05.cell (p := ⟨bp, off, none⟩) hbp).trans r0
  have p1 := (B05.cell (p := ⟨bp, off + 1, none⟩) hbp).trans r1
  rw [HA.out] at m0
  clear j0 j1 c0 c1 r0 r1 B5 Bs
  have i1 : (0 : Int) < (n : Int) := by have := HP.out.len; simp at this; omega
  go_wp2_with fail
  go_quiet (fail)
  go_wp2_with fail
  go_ret
  exact ⟨rfl, B05.trans ⟨rfl, rfl, rfl, Nat.le_refl _, fun _ _ => rfl⟩⟩
end Go.Proofs.YtpkkhmbcbcaelaaDoor

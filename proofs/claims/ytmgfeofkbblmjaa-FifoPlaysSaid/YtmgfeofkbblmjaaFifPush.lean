/- The contracts of an arena's Push and Remove. -/
import Derived.Test.YtmgfeofkbblmjaaFifTake
set_option linter.unusedSimpArgs false
namespace Go.Proofs.Ytmgfeofkbblmjaa
open Go.RowKit Go.Mem1 Go.FifMath

theorem zOf_some {s : Aren} {row : Nat} {e : Tip} (he : s.rs[row]? = some e) : zOf s row = e.z := by unfold zOf; rw [he]
theorem NumOf.ge {s : Aren} {x : Int} (h : NumOf s x) : -1 ≤ x := by rcases h with rfl | ⟨k, rfl, _⟩ <;> omega
theorem join_len (s : Aren) (row : Nat) (x y : Int) : (join s row x y).cs.length = s.cs.length ∧ (join s row x y).rs.length = s.rs.length := by
  unfold join join1 join2
  split <;> split <;> simp [Aren.atRow, Aren.atCell]
theorem join_row (s : Aren) (row : Nat) (x y : Int) {e : Tip} (he : s.rs[row]? = some e) : ∃ a z, (join s row x y).rs[row]? = some ⟨a, z, e.k⟩ := by
  unfold join join1 join2
  split <;> split
  · exact ⟨y, x, mod_at (f := setZ x) (x := setA y e) (mod_at (f := setA y) he)⟩
  · exact ⟨e.a, x, mod_at (f := setZ x) he⟩
  · exact ⟨y, e.z, mod_at (f := setA y) he⟩
  · exact ⟨e.a, e.z, he⟩
theorem join_free (s : Aren) (row : Nat) (x y : Int) : (join s row x y).free = s.free ∧ (join s row x y).top = s.top := by
  unfold join join1 join2
  split <;> split <;> exact ⟨rfl, rfl⟩
section
variable {w : World} {B g : Nat} {vR vC : Value} {s : Aren}
set_option maxHeartbeats 1000000 in
theorem push_bad (h : ArenaAt w B g vR vC s) {row : Int} (hr : knB s row = false) (v : Int) :
    Calls Try.prog 8 #[.pointer (some ⟨g, 0, none⟩), .int .i64 row, .int .i64 v] w fun e w' => e = .returned (.tuple #[.int .i64 0, .int .i64 1]) ∧ w = w' := by
  have HK := Lib.hid (known_any h row)
  rw [hr] at HK
  clear h hr
  go_enter Try.func8, Try.ntmps8
  go_wp2_with (go_at_call 16; refine HK.out.mono ?_; rintro e w' ⟨rfl, rfl⟩)
  go_ret2
  exact ⟨rfl, rfl⟩
set_option maxHeartbeats 1000000 in
theorem push_full (h : ArenaAt w B g vR vC s) {row : Int} (hr : knB s row = true) (hf : s.free = 0) (v : Int) :
    Calls Try.prog 8 #[.pointer (some ⟨g, 0, none⟩), .int .i64 row, .int .i64 v] w fun e w' => e = .returned (.tuple #[.int .i64 0, .int .i64 8]) ∧ w = w' := by
  have HK := Lib.hid (known_any h row)
  rw [hr] at HK
  have c3 := h.c3
  rw [hf] at c3
  clear h hr hf
  go_enter Try.func8, Try.ntmps8
  go_wp2_with (go_at_call 16; refine HK.out.mono ?_; rintro e w' ⟨rfl, rfl⟩)
  go_ret2
  exact ⟨rfl, rfl⟩
/-- What Push answers. -/
def Pushed (w : World) (B g : Nat) (vR : Value) (c : Nat) (s : Aren) (e : Ending) (w' : World) : Prop := e = .returned (.tuple #[.int .i64 c, .int .i64 0]) ∧ ∃ vC', ArenaAt w' B g vR vC' s ∧ Keep B w w'
set_option maxHeartbeats 2000000 in
/-- Push where take is known: s1 is what take leaves. -/
theorem push_at (h : ArenaAt w B g vR vC s) {row c : Nat} {s1 : Aren} (hT : Calls Try.prog 17 #[.pointer (some ⟨g, 0, none⟩)] w (Took w B g vR c s1)) {e : Tip} (he : s.rs[row]? = some e) (hrs : s1.rs = s.rs) (hz : NumOf s1 e.z) (hc : c < s1.cs.length) (hf : s.free ≠ 0) (hk0 : 0 ≤ e.k) (hk1 : e.k ≤ 5000) (v : Int) :
    Calls Try.prog 8 #[.pointer (some ⟨g, 0, none⟩), .int .i64 row, .int .i64 v] w (Pushed w B g vR c (put s1 c row v)) := by
  have HK := Lib.hid (known_any h (row : Int))
  obtain ⟨_, _, _, hrl, _⟩ := h.ends he
  rw [knB_at hrl] at HK
  have c3 := h.c3
  have tf : (s.free == 0) = false := by simpa using hf
  have he1 : s1.rs[row]? = some e := by rw [hrs]; exact he
  have hzo := zOf_some he1
  obtain ⟨l, hl⟩ : ∃ l, s1.cs[c]? = some l := ⟨_, List.getElem?_eq_getElem hc⟩
  -- all that comes behind take
  have HS := Lib.hid (fun (w1 : World) (vC1 : Value) (hA : ArenaAt w1 B g vR vC1 s1) => hA.link hl)
  have HE := Lib.hid (fun (w1 : World) (vC1 : Value) (hA : ArenaAt w1 B g vR vC1 s1) => hA.ends he1)
  obtain ⟨a2, z2, he2⟩ := join_row (s1.atCell c fun _ => ⟨v, row, 0, 0⟩) row e.z c (e := e) he1
  obtain ⟨a3, z3, he3⟩ := join_row (join (s1.atCell c fun _ => ⟨v, row, 0, 0⟩) row e.z c) row c (-1) he2
  have hl0 : (s1.atCell c fun _ => (⟨v, row, 0, 0⟩ : Lnk)).cs.length = s1.cs.length := by simp [Aren.atCell]
  have HW := Lib.hid (fun (w1 : World) (vC1 : Value) (hA : ArenaAt w1 B g vR vC1 s1) (b cc n : Nat) (hv : vC1 = .slice (some ⟨b, 0, none⟩) n cc) => hA.storeWhole hv hl ⟨v, row, 0, 0⟩)
  have HJ1 := Lib.hid (fun (w1 : World) (vC1 : Value) (hA : ArenaAt w1 B g vR vC1 (s1.atCell c fun _ => ⟨v, row, 0, 0⟩)) => join_any hA (e := e) he1 (x := e.z) (y := c) (by rcases hz with h | ⟨k, h1, h2⟩; exact .inl h; exact .inr ⟨k, h1, by rw [hl0]; exact h2⟩) (.inr ⟨c, rfl, by rw [hl0]; exact hc⟩))
  have HJ2 := Lib.hid (fun (w1 : World) (vC1 : Value) (hA : ArenaAt w1 B g vR vC1 (join (s1.atCell c fun _ => ⟨v, row, 0, 0⟩) row e.z c)) => join_any hA he2 (x := c) (y := -1) (.inr ⟨c, rfl, by rw [(join_len _ _ _ _).1, hl0]; exact hc⟩) (.inl rfl))
  have HK3 := Lib.hid (fun (w1 : World) (vC1 : Value) (hA : ArenaAt w1 B g vR vC1 (join (join (s1.atCell c fun _ => ⟨v, row, 0, 0⟩) row e.z c) row c (-1))) => hA.ends he3)
  have HF := Lib.hid (fun (w1 : World) (vC1 : Value) (hA : ArenaAt w1 B g vR vC1 (join (join (s1.atCell c fun _ => ⟨v, row, 0, 0⟩) row e.z c) row c (-1))) (b cc n : Nat) (hv : vR = .slice (some ⟨b, 0, none⟩) n cc) => hA.storeR hv he3 (addK 1) 2 (.int .i64 (e.k + 1)) (by omega) rfl)
  have hput : put s1 c row v = (join (join (s1.atCell c fun _ => ⟨v, row, 0, 0⟩) row e.z c) row c (-1)).atRow row (addK 1) := by
    unfold put
    rw [hzo]
  rw [hput]
  have HT := Lib.hid hT
  obtain ⟨fr, hfr⟩ : ∃ fr, s.free = fr := ⟨_, rfl⟩
  rw [hfr] at c3 tf
  have hl3 : (join (join (s1.atCell c fun _ => (⟨v, row, 0, 0⟩ : Lnk)) row e.z c) row c (-1)).rs.length = s1.rs.length := by rw [(join_len _ _ _ _).2, (join_len _ _ _ _).2]; rfl
  obtain ⟨ek, hek⟩ : ∃ ek, e.k = ek := ⟨_, rfl⟩
  obtain ⟨ez, hez⟩ : ∃ ez, e.z = ez := ⟨_, rfl⟩
  generalize hs2 : (s1.atCell c fun _ => (⟨v, row, 0, 0⟩ : Lnk)) = s2 at *
  rw [hek] at HK3 HF hk0 hk1
  rw [hez] at HJ1 HJ2 HK3 HF hl3 ⊢
  generalize hs3 : join s2 row ez c = s3 at *
  generalize hs4 : join s3 row c (-1) = s4 at *
  have hm1 : s1.rs.length ≤ 1024 := by rw [hrs]; exact h.mostR
  obtain ⟨n1, hn1⟩ : ∃ n, s1.rs.length = n := ⟨_, rfl⟩
  obtain ⟨n2, hn2⟩ : ∃ n, s1.cs.length = n := ⟨_, rfl⟩
  rw [hn1] at hm1 hl3
  rw [hn2] at hc
  have hrl1 : row < n1 := by rw [← hn1, hrs]; exact hrl
  have HN1 := Lib.hid hn1
  have HN2 := Lib.hid hn2
  have HL3 := Lib.hid hl3
  have HEZ := Lib.hid hez
  have HEK := Lib.hid hek
  clear h he hrs hz hf hrl he1 hzo hl he2 he3 hl0 hput hT hfr hs2 hs3 hs4 hn1 hn2 hl3 hek hez
  go_enter Try.func8, Try.ntmps8
  go_wp2_with ((first
    | (go_at_call 16; refine HK.out.mono ?_; rintro e w' ⟨rfl, rfl⟩)
    | (go_at_call 17; refine Hid.out ?_)))
  refine Lib.hid ?_
  refine HT.out.mono ?_
  rintro _ w1 ⟨rfl, vC1, hA, hKp⟩
  obtain ⟨b, cc, hv, _, hlt, _, hbg, j0, j1, j2, j3, hfz⟩ := HS.out w1 vC1 hA
  obtain ⟨bR, cR, hvR, _, hltR, _, hbgR, k0, k1, k2, hfR⟩ := HE.out w1 vC1 hA
  have c0 := hA.c0
  have c1 := hA.c1
  have hbb := hA.rc hvR hv
  have hW1 := HW.out w1 vC1 hA b cc _ hv
  subst hv
  subst hvR
  have f0 := hfz (c * 4)
  have f1 := hfz (c * 4 + 1)
  have f2 := hfz (c * 4 + 2)
  have f3 := hfz (c * 4 + 3)
  rw [HN1.out] at c0
  rw [HN2.out] at c1
  rw [HEZ.out] at k1
  have HW1 := Lib.hid hW1
  have HKP := Lib.hid hKp
  have HA := Lib.hid hA
  clear hW1 hKp hA hfz hfR k0 k2
  go_wp2_with (go_at_call 18; refine Hid.out ?_)
  refine Lib.hid ?_
  refine (HJ1.out _ _ HW1.out.1).mono ?_
  rintro _ w3 ⟨rfl, hW3⟩
  have HW3 := Lib.hid hW3
  clear hW3 c0 c1 f0 f1 f2 f3 j0 j1 j2 j3 k1
  go_wp2_with (go_at_call 18; refine Hid.out ?_)
  refine Lib.hid ?_
  refine (HJ2.out _ _ HW3.out.1).mono ?_
  rintro _ w4 ⟨rfl, hW4⟩
  obtain ⟨bR', cR', hvR', _, hltR', _, hbgR', k0, k1, k2, hfR⟩ := HK3.out w4 _ hW4.1
  have c0 := hW4.1.c0
  injection hvR' with hvR' hlen hcap
  injection hvR' with hvR'
  injection hvR' with hvR'
  subst hvR'
  have f2 := hfR (row * 3 + 2)
  have hfin := HF.out w4 _ hW4.1 bR cR _ rfl
  rw [HN1.out] at c0
  have HFIN : Hid (∃ vC', ArenaAt (w4.setCell ⟨bR, row * 3 + 2, none⟩ (.int .i64 (ek + 1))) B g (.slice (some ⟨bR, 0, none⟩) s1.rs.length cR) vC' (s4.atRow row (addK 1)) ∧ Keep B w (w4.setCell ⟨bR, row * 3 + 2, none⟩ (.int .i64 (ek + 1)))) :=
    Lib.hid ⟨_, hfin.1, HKP.out.trans ((HA.out.keep ((HW1.out.then HW3.out).then hW4).2).trans (hW4.1.keep hfin.2))⟩
  clear hfin hW4 k0 k1 hfR hlen hcap HW3 HW1 HA HKP HF HK3 HJ1 HJ2 HW HE HS HT
  go_wp2_with fail
  go_ret2
  exact ⟨rfl, HFIN.out⟩
end
end Go.Proofs.Ytmgfeofkbblmjaa

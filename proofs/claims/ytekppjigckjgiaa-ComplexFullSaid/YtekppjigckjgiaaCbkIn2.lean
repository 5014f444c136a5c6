/- The reference's Insert, where all is well. -/
import Derived.Test.YtekppjigckjgiaaCbkIns
import Derived.Test.YtekppjigckjgiaaCbkFlat
set_option linter.unusedSimpArgs false
namespace Go.Proofs.Ytekppjigckjgiaa
open Go.RowKit Go.Mem1 Go.CbkMath

section
variable {w : World} {B g : Nat} {v1 v2 : Value} {D : Dk}
set_option maxRecDepth 100000 in
set_option maxHeartbeats 2000000 in
theorem rins_ok (h : RefAt w B g v1 v2 D) (hI : Inv D) {o : CO} (hE : insE D o = 0) :
    Calls Try.prog 10 #[.pointer (some ⟨g, 0, none⟩), coV o] w (RIns w B g D o) := by
  have hm := hI.most
  have HG := Lib.hid (fun w' (hb : Below w.heap.size w w') => rget_any (h.carry hb) hm o.id)
  have HL := Lib.hid (fun w' (hb : Below w.heap.size w w') => (h.carry hb))
  rw [getV_eq] at HG
  have HR := Lib.hid (rright_any o)
  have HA := Lib.hid (rahead_any o)
  have HS := Lib.hid (fun w' (hb : Below w.heap.size w w') => rside_any (h.carry hb) o.si)
  have HI := Lib.hid hI
  unfold RIns
  have hD : insD D o = setD o.si (putC o (rowD o.si D)) D := by unfold insD; rw [if_pos hE]
  rw [hD, hE]
  have hE2 : insE D o = if ¬ okC o then 1 else if (get2 D o.id).isSome then 6 else if 256 ≤ D.1.length + D.2.length then 8 else 0 := rfl
  obtain ⟨oi, oo, os, on, ou⟩ := o
  obtain ⟨N, hN⟩ : ∃ N, orderG D oi = N := ⟨_, rfl⟩
  obtain ⟨P, hP⟩ : ∃ P, placeG D oi = P := ⟨_, rfl⟩
  have hPn := place_neg D oi
  dsimp only at HG HS hE2 ⊢
  rw [hN, hP] at HG
  rw [hP] at hPn
  rw [hE] at hE2
  have hok : okC ⟨oi, oo, os, on, ou⟩ := by
    by_cases hok : okC ⟨oi, oo, os, on, ou⟩
    · exact hok
    · rw [if_pos hok] at hE2; cases hE2
  rw [if_neg (by simpa using hok)] at hE2
  have hs : ¬ (get2 D oi).isSome = true := fun hs => by rw [if_pos hs] at hE2; cases hE2
  rw [if_neg hs] at hE2
  have p0 : ¬ 0 ≤ P := fun e => hs (hPn.1 e)
  have hfull : ¬ 256 ≤ D.1.length + D.2.length := fun e => by rw [if_pos e] at hE2; cases hE2
  have HR2 : Hid (decide (okC ⟨oi, oo, os, on, ou⟩) = true) := Lib.hid (by simpa using hok)
  obtain ⟨ni, no, ns, nn, nu⟩ := N
  unfold coV at HG
  have HB : Hid (B ≤ w.heap.size) := Lib.hid (Nat.le_of_lt h.base)
  obtain ⟨A1, p1, e1⟩ := own_slice h.b
  obtain ⟨A2, p2, e2⟩ := own_slice h.s
  obtain ⟨n1, hn1⟩ : ∃ n, D.1.length = n := ⟨_, rfl⟩
  obtain ⟨n2, hn2⟩ : ∃ n, D.2.length = n := ⟨_, rfl⟩
  have HC : Hid (∀ w', Below w.heap.size w w' → w'.cell? ⟨g, 0, Option.none⟩ = some (.slice A1 n1 p1) ∧ w'.cell? ⟨g, 1, Option.none⟩ = some (.slice A2 n2 p2)) := Lib.hid fun w' hb => by rw [← hn1, ← hn2, ← e1, ← e2]; exact ⟨(h.carry hb).c0, (h.carry hb).c1⟩
  have hrow := h.row (s := os) hok.2.1
  have hfew : (rowD os D).length < 256 := by
    rcases hok.2.1 with e | e <;> dsimp only at e <;> rw [e] <;> simp [rowD] <;> omega
  obtain ⟨A, c, hv⟩ := own_slice hrow
  obtain ⟨n, hn⟩ : ∃ n, (rowD os D).length = n := ⟨_, rfl⟩
  rw [hv] at hrow HS
  rw [hn] at hrow HS hfew
  rw [hn1, hn2] at hfull hm
  have dF : decide ((256 : Int) ≤ (n1 : Int) + (n2 : Int)) = false := by simp; omega
  replace hrow := Lib.hid hrow
  have HN := Lib.hid hn
  have HOK := Lib.hid hok
  have hsi : os = 1 ∨ os = 2 := hok.2.1
  have HSo : Hid (Sorted os (rowD os D)) := Lib.hid (by
    rcases hsi with e | e
    · rw [e]; exact hI.s1
    · rw [e]; exact hI.s2)
  clear h hI hE hN hP hPn hok hs hE2 hn1 hn2 e1 e2 hD hv hn
  unfold coV
  go_enter Try.func10, Try.ntmps10
  go_wp2_with ((first
    | (go_at_call 20; refine (HG.out _ (bel_new _ _)).mono ?_; rintro e w1 ⟨rfl, hb1⟩; have hO := OrdAt.carry (o := ⟨oi, oo, os, on, ou⟩) (Box.fresh w _ _ rfl) hb1; obtain ⟨q0, q1, q2, q3, q4⟩ := hO.ups; have hne : w.heap.size ≠ w1.heap.size := Nat.ne_of_lt (Box.there hO); have hle := Nat.le_of_lt (Box.there hO); replace hO := Lib.hid hO; replace hb1 := Lib.hid (bel_trans (bel_new _ _) hb1))
    | (go_at_call 33; refine (HR.out _).mono ?_; rintro e w2 ⟨rfl, hb2⟩; rw [HR2.out]; replace hO := Lib.hid (OrdAt.carry hO.out (bel_trans (bel_new _ _) hb2)); replace hb2 := Lib.hid (bel_trans (bel_alloc hb1.out _) hb2); obtain ⟨c0, c1⟩ := HC.out _ hb2.out; clear q0 q1 q2 q3 q4; obtain ⟨q0, q1, q2, q3, q4⟩ := hO.out.cells)))
  go_quiet (fail)
  have hb3 := Lib.hid (bel_trans hb2.out (bel_drewN w2 nq))
  replace hO := Lib.hid (OrdAt.carry hO.out (bel_drewN w2 nq))
  obtain ⟨w3, hw3⟩ : ∃ w3, w2.drewN nq = w3 := ⟨_, rfl⟩
  rw [hw3] at hO hb3 ⊢
  clear c0 c1 q0 q1 q2 q3 q4 hw3 hb2 HR HR2 hne hle hb1 dF hfull
  obtain ⟨q0, q1, q2, q3, q4⟩ := hO.out.cells
  go_wp2_with (go_at_call 18; refine (HS.out w3 hb3.out).mono ?_; rintro e w' ⟨rfl, rfl⟩)
  clear q0 q1 q2 q3 q4
  go_loopw [8] (fun v8 wr => ∃ k : Nat, k ≤ n ∧ v8 = .int .i64 k ∧ Hid (Below w.heap.size w wr ∧ OrdAt wr w.heap.size 37 ⟨oi, oo, os, on, ou⟩ ∧ ∀ j x, k ≤ j → (rowD os D)[j]? = some x → aheadC ⟨oi, oo, os, on, ou⟩ x = true)) (fun v8 _ => (intOf v8).toNat)
  case atStart => exact ⟨n, by omega, rfl, Lib.hid ⟨hb3.out, hO.out, fun j x hj hx => absurd (at_lt hx) (by rw [HN.out]; omega)⟩⟩
  case round =>
    clear hb3 hO
    obtain ⟨k, hk, rfl, hJ⟩ := hrel
    obtain ⟨hb3, hO, hF⟩ := hJ.out
    by_cases hk0 : k = 0
    · subst hk0
      have HCUT : Hid (cutC ⟨oi, oo, os, on, ou⟩ (rowD os D) = 0) := Lib.hid (cut_at (Nat.zero_le _) (fun i y hi _ => absurd hi (Nat.not_lt_zero _)) (fun y hy => hF 0 y (Nat.le_refl _) hy))
      have B4' : Below wr.heap.size wr wr.drew := (Below.refl _ _).drew
      replace hO := Lib.hid hO
      replace hb3 := Lib.hid hb3
      clear hF hJ
      rcases own_form hrow.out with ⟨hA, h0⟩ | ⟨b, c', hA, _, _, hc⟩
      · injection hA with hA _ hcc
        subst hA; subst hcc; subst h0
        go_wp2_with fail
        refine wp_region_held_drew (S := (fun _ => True)) (by kernel_rfl) (trivial) (fun hHeld => ?_)
        refine wpAnyH_take (i := 0) (v := ?_) rfl (by kernel_rfl) (by kernel_rfl) (by kernel_rfl) (fun _ _ _ h => h) (Or.inl ⟨by rfl, ?_⟩) (by assumption) ?_
        rotate_left
        · (intro w hSw; (try dsimp only at hSw); first | (go_simp; done) | (go_simp; with_reducible rfl))
        try simp only [Act.put, List.setIfInBounds_toArray, List.set_cons_zero, List.set_cons_succ, List.getElem_toArray, List.getElem_cons_zero, List.getElem_cons_succ]
        refine wpAnyH_take (i := 1) (v := .bool false) rfl (by kernel_rfl) (by kernel_rfl) (by kernel_rfl) (fun _ _ _ h => h) (Or.inl ⟨by rfl, ?_⟩) (by assumption) ?_
        · (intro w hSw; (try dsimp only at hSw); first | (go_simp; done) | (go_simp; omega) | (go_simp; trivial))
        try simp only [Act.put, List.setIfInBounds_toArray, List.set_cons_zero, List.set_cons_succ, List.getElem_toArray, List.getElem_cons_zero, List.getElem_cons_succ]
        refine wpAnyH_take (i := 2) (v := ?_) rfl (by kernel_rfl) (by kernel_rfl) (by kernel_rfl) (fun _ _ _ h => h) (Or.inl ⟨by rfl, ?_⟩) (by assumption) ?_
        rotate_left
        · (intro w hSw; (try dsimp only at hSw); first | (go_simp; done) | (go_simp; with_reducible rfl))
        try simp only [Act.put, List.setIfInBounds_toArray, List.set_cons_zero, List.set_cons_succ, List.getElem_toArray, List.getElem_cons_zero, List.getElem_cons_succ]
        refine wpAnyH_take (i := 3) (v := undef) rfl (by kernel_rfl) (by kernel_rfl) (by kernel_rfl) (fun _ _ _ h => h) (Or.inr ⟨by rfl, rfl⟩) (by assumption) ?_
        try simp only [Act.put, List.setIfInBounds_toArray, List.set_cons_zero, List.set_cons_succ, List.getElem_toArray, List.getElem_cons_zero, List.getElem_cons_succ]
        refine wpAnyH_take (i := 4) (v := undef) rfl (by kernel_rfl) (by kernel_rfl) (by kernel_rfl) (fun _ _ _ h => h) (Or.inr ⟨by rfl, rfl⟩) (by assumption) ?_
        try simp only [Act.put, List.setIfInBounds_toArray, List.set_cons_zero, List.set_cons_succ, List.getElem_toArray, List.getElem_cons_zero, List.getElem_cons_succ]
        refine wpAnyH_take (i := 5) (v := undef) rfl (by kernel_rfl) (by kernel_rfl) (by kernel_rfl) (fun _ _ _ h => h) (Or.inr ⟨by rfl, rfl⟩) (by assumption) ?_
        try simp only [Act.put, List.setIfInBounds_toArray, List.set_cons_zero, List.set_cons_succ, List.getElem_toArray, List.getElem_cons_zero, List.getElem_cons_succ]
        refine wpAnyH_take (i := 6) (v := undef) rfl (by kernel_rfl) (by kernel_rfl) (by kernel_rfl) (fun _ _ _ h => h) (Or.inr ⟨by rfl, rfl⟩) (by assumption) ?_
        try simp only [Act.put, List.setIfInBounds_toArray, List.set_cons_zero, List.set_cons_succ, List.getElem_toArray, List.getElem_cons_zero, List.getElem_cons_succ]
        refine wpAnyH_take (i := 7) (v := undef) rfl (by kernel_rfl) (by kernel_rfl) (by kernel_rfl) (fun _ _ _ h => h) (Or.inr ⟨by rfl, rfl⟩) (by assumption) ?_
        try simp only [Act.put, List.setIfInBounds_toArray, List.set_cons_zero, List.set_cons_succ, List.getElem_toArray, List.getElem_cons_zero, List.getElem_cons_succ]
        refine wpAnyH_take (i := 8) (v := undef) rfl (by kernel_rfl) (by kernel_rfl) (by kernel_rfl) (fun _ _ _ h => h) (Or.inr ⟨by rfl, rfl⟩) (by assumption) ?_
        try simp only [Act.put, List.setIfInBounds_toArray, List.set_cons_zero, List.set_cons_succ, List.getElem_toArray, List.getElem_cons_zero, List.getElem_cons_succ]
        refine wpAnyH_take (i := 9) (v := undef) rfl (by kernel_rfl) (by kernel_rfl) (by kernel_rfl) (fun _ _ _ h => h) (Or.inr ⟨by rfl, rfl⟩) (by assumption) ?_
        try simp only [Act.put, List.setIfInBounds_toArray, List.set_cons_zero, List.set_cons_succ, List.getElem_toArray, List.getElem_cons_zero, List.getElem_cons_succ]
        refine wpAnyH_take (i := 10) (v := ?_) rfl (by kernel_rfl) (by kernel_rfl) (by kernel_rfl) (fun _ _ _ h => h) (Or.inl ⟨by rfl, ?_⟩) (by assumption) ?_
        rotate_left
        · (intro w hSw; (try dsimp only at hSw); first | (go_simp; done) | (go_simp; with_reducible rfl))
        try simp only [Act.put, List.setIfInBounds_toArray, List.set_cons_zero, List.set_cons_succ, List.getElem_toArray, List.getElem_cons_zero, List.getElem_cons_succ]
        refine wpAnyH_done (by kernel_rfl) ?_ _
        go_wp2_with fail
        obtain ⟨w4, hw4⟩ : ∃ w4, wr.drew = w4 := ⟨_, rfl⟩
        rw [hw4] at B4' ⊢
        have B4 := B4'
        obtain ⟨y0, y1, y2, y3, y4⟩ := (OrdAt.carry hO.out B4).cells
        clear hw4 B4'
        obtain ⟨i0, hi0, hz0, hz1, hz2⟩ := info_parts co_info
        have HI0 := Lib.hid hi0
        have HI1 := Lib.hid hz0
        have HI2 := Lib.hid hz1
        have HI3 := Lib.hid hz2
        have hW := Lib.hid (bel_trans hb3.out B4)
        have hOW := Lib.hid (OrdAt.carry hO.out B4)
        have hrW := own_keep hrow.out hW.out
        have hrd := RdS.ofOwn hrW
        have RD1 : Hid (∀ W', Below w4.heap.size w4 W' → RdS W' w4.heap.size (Option.none) (0) 5 (((rowD os D).take (0)).flatMap co1)) := Lib.hid (fun W' hb => by
          have := (hrd.head (k := 0) (Nat.zero_le _)).carry hb
          rw [flat_take5] at this
          exact this)
        have RD2 : Hid (∀ W', Below w4.heap.size w4 W' → RdS W' w4.heap.size (Option.none) (0) 5 (((rowD os D).drop (0)).flatMap co1)) := Lib.hid (fun W' hb => by
          rw [show (rowD os D).drop (0) = [] from List.drop_eq_nil_of_le (by rw [HN.out]; omega)]
          exact RdS.nothing _ _ _ _)
        have OW0 := Lib.hid (fun W' (h : w4.heap.size ≤ W'.heap.size) => own_empty W' 37 w4.heap.size 5 h)
        have KX := Lib.hid (fun W' (hb : Below w4.heap.size w4 W') => (OrdAt.carry hOW.out hb).cells)
        have HPUT : Hid (∀ (W' : World) (v : Value), W'.ownsRow w4.heap.size 37 5 v (0 + 1 + (0)) ((((rowD os D).take (0)).flatMap co1 ++ [.int .i64 oi, .int .i64 oo, .int .i64 os, .int .i64 on, .int .i64 ou]) ++ ((rowD os D).drop (0)).flatMap co1) → W'.ownsRow B 37 5 v (putC ⟨oi, oo, os, on, ou⟩ (rowD os D)).length ((putC ⟨oi, oo, os, on, ou⟩ (rowD os D)).flatMap co1)) := Lib.hid (fun W' v ho => by
          obtain ⟨f1, f2⟩ := put_flat HCUT.out
          rw [f1, f2, HN.out]
          rw [show 0 = 0 - (0) by omega] at ho
          exact own_wider ho (Nat.le_trans HB.out hW.out.size))
        have hgw := (HL.out w (Below.refl _ _)).there
        have HGR : Hid (¬ w.heap.size = g) := Lib.hid (by omega)
        clear hi0 hz0 hz1 hz2 hrW hrd hO hb3 B4 HSo
        obtain ⟨r, hr⟩ : ∃ r, w.heap.size = r := ⟨_, rfl⟩
        rw [hr] at KX hOW HGR y0 y1 y2 y3 y4 ⊢
        have q1 : (0 : Int) ≤ (0 : Int) := by omega
        have q2 : (0 : Int) ≤ (0 : Int) := by omega
        have q5 : 0 ≤ 0 := (Nat.zero_le _)
        have q9 : (0 : Int) ≤ (0 : Int) := by omega
        have q8 : (0 : Int) ≤ (0 : Int) := by omega
        have q7 : ((0 : Int)).toNat = 0 := by omega
        have hlo : r < w4.heap.size := Box.there hOW.out
        go_region_held3 (fun w' => World.cell? w' ⟨r, 0, Option.none⟩ = some (.int .i64 oi) ∧ World.cell? w' ⟨r, 1, Option.none⟩ = some (.int .i64 oo) ∧ World.cell? w' ⟨r, 2, Option.none⟩ = some (.int .i64 os) ∧ World.cell? w' ⟨r, 3, Option.none⟩ = some (.int .i64 on) ∧ World.cell? w' ⟨r, 4, Option.none⟩ = some (.int .i64 ou)) (first | exact ⟨y0, y1, y2, y3, y4⟩ | exact KX.out _ HB7.out | exact KX.out _ (bel_new w4 _) | exact KX.out _ (bel_new w4 _).drew | exact KX.out _ (bel_alloc (bel_new w4 _) _) | exact KX.out _ (bel_alloc (bel_new w4 _) _).drew | exact KX.out _ (bel_alloc (bel_new w4 _).drew _)) ((first
          | (refine step_append_at rfl (.tmp 60) (.tmp 62) _ rfl w4.heap.size 37 i0 _ 5 40 Try.underlying27 HI0.out HI1.out HI2.out HI3.out rfl (by omega) (.slice (some ⟨_, 0, Option.none⟩) 0 0) 0 [] rfl (by first | exact OW0.out w4 (Nat.le_refl _) | exact own_alloc (OW0.out w4 (Nat.le_refl _)) _ | exact own_empty_at (w4.alloc _) _ _ _ _ (by simp) (by simp) | exact (OW0.out w4 (Nat.le_refl _)).drew | exact (own_alloc (OW0.out w4 (Nat.le_refl _)) _).drew | exact (own_empty_at (w4.alloc _) _ _ _ _ (by simp) (by simp)).drew | exact own_alloc (OW0.out w4 (Nat.le_refl _)).drew _) ⟨_, 0, Option.none⟩ 1 1 [.int .i64 oi, .int .i64 oo, .int .i64 os, .int .i64 on, .int .i64 ou] rfl rfl (by first | exact cells_new _ _ _ rfl | exact cells_new (w4.alloc _) _ _ (by simp) | exact cells_new2 w4 [.int .i64 oi, .int .i64 oo, .int .i64 os, .int .i64 on, .int .i64 ou] _ _ | exact cells_drew (cells_new (w4.alloc _) [.int .i64 oi, .int .i64 oo, .int .i64 os, .int .i64 on, .int .i64 ou] _ (by simp)) | exact cells_drew (cells_new2 w4 [.int .i64 oi, .int .i64 oo, .int .i64 os, .int .i64 on, .int .i64 ou] _ _)) (co1_one ⟨oi, oo, os, on, ou⟩) (by simp only [maxLen]; omega) (by omega) (by simp <;> omega) ?_; intro v7 w7 hown7 hgr7 _; obtain ⟨A7, c7, rfl⟩ := own_slice hown7; have hb7 : Below w4.heap.size w4 w7 := (by first | exact (bel_new w4 _).grown hgr7 (by simp <;> omega) (by simp [Value.ownBlock] <;> omega) | exact (bel_new w4 _).drew.grown hgr7 (by simp <;> omega) (by simp [Value.ownBlock] <;> omega) | exact (bel_alloc (bel_new w4 _) _).grown hgr7 (by simp <;> omega) (by simp [Value.ownBlock] <;> omega) | exact (bel_alloc (bel_new w4 _) _).drew.grown hgr7 (by simp <;> omega) (by simp [Value.ownBlock] <;> omega) | exact (bel_alloc (bel_new w4 _).drew _).grown hgr7 (by simp <;> omega) (by simp [Value.ownBlock] <;> omega)); have HB7 := Lib.hid hb7; have HO7 := Lib.hid hown7; clear hown7 hgr7 hb7)
          ))
        all_goals
          have hOW0 := hOW
          replace hOW := Lib.hid (OrdAt.carry hOW.out HB7.out)
          obtain ⟨s0, s1, s2, s3, s4⟩ := hOW.out.cells
          clear y0 y1 y2 y3 y4 KX
          go_wp2_with fail
          go_region_held3 (fun w' => World.cell? w' ⟨r, 2, Option.none⟩ = some (.int .i64 os)) (first | exact s2 | exact t2 | exact x2) ((first
            | (refine step_appendS rfl (.tmp 67) (.tmp 70) _ rfl w4.heap.size 37 i0 _ 5 40 Try.underlying27 HI0.out HI1.out HI2.out HI3.out rfl (by omega) (.slice A7 (0 + 1) c7) (0 + 1) _ rfl (by first | exact HO7.out | exact HO7.out.drew) (Option.none) (0) (0) (by intro h; first | (cases h; done) | rfl | omega) (((rowD os D).drop (0)).flatMap co1) rfl (RD2.out _ (by first | exact HB7.out | exact HB7.out.drew)) (cos_one _) (by simp only [maxLen]; omega) (by omega) (by first | exact HB7.out.size | exact HB7.out.drew.size) ?_; intro v8 w8 hown8 hgr8 _; obtain ⟨A8, c8, rfl⟩ := own_slice hown8; have hb8 : Below w4.heap.size w4 w8 := (by first | exact HB7.out.grown hgr8 HB7.out.size (fun k hk => (HO7.out.lt k hk).1) | exact HB7.out.drew.grown hgr8 HB7.out.size (fun k hk => (HO7.out.lt k hk).1)); have t2 : w8.cell? ⟨r, 2, Option.none⟩ = some (.int .i64 os) := (OrdAt.carry hOW0.out hb8).cells.2.2.1; have HB8 := Lib.hid hb8; have HO8 := Lib.hid (HPUT.out w8 _ hown8); clear hown8 hgr8 hb8)
            | (go_at_call 34; refine (rput_any (HL.out _ (bel_trans hW.out (by first | exact HB8.out | exact HB8.out.drew))) hsi (l := putC ⟨oi, oo, os, on, ou⟩ (rowD os D)) (by first | exact HO8.out | exact HO8.out.drew)).mono ?_; rintro e w9 ⟨rfl, HP9, hc9⟩; have HC9 := Lib.hid ((Chg.of_below (bel_trans hW.out (by first | exact HB8.out | exact HB8.out.drew)) (fun j => j = g)).then hc9 (fun _ _ h => h)); replace HP9 := Lib.hid HP9; have x2 : w9.cell? ⟨r, 2, Option.none⟩ = some (.int .i64 os) := hc9.cell (by first | exact t2 | exact (show _ from t2)) HGR.out; clear hc9)))
          all_goals
            go_wp2_with fail
            go_ret
            exact ⟨rfl, HP9.out, HC9.out⟩
      · injection hA with hA _ hcc
        subst hA; subst hcc
        by_cases hck : c = 0
        · obtain rfl : n = 0 := by omega
          subst hck
          go_wp2_with fail
          refine wp_region_held_drew (S := (fun _ => True)) (by kernel_rfl) (trivial) (fun hHeld => ?_)
          refine wpAnyH_take (i := 0) (v := ?_) rfl (by kernel_rfl) (by kernel_rfl) (by kernel_rfl) (fun _ _ _ h => h) (Or.inl ⟨by rfl, ?_⟩) (by assumption) ?_
          rotate_left
          · (intro w hSw; (try dsimp only at hSw); first | (go_simp; done) | (go_simp; with_reducible rfl))
          try simp only [Act.put, List.setIfInBounds_toArray, List.set_cons_zero, List.set_cons_succ, List.getElem_toArray, List.getElem_cons_zero, List.getElem_cons_succ]
          refine wpAnyH_take (i := 1) (v := .bool false) rfl (by kernel_rfl) (by kernel_rfl) (by kernel_rfl) (fun _ _ _ h => h) (Or.inl ⟨by rfl, ?_⟩) (by assumption) ?_
          · (intro w hSw; (try dsimp only at hSw); first | (go_simp; done) | (go_simp; omega) | (go_simp; trivial))
          try simp only [Act.put, List.setIfInBounds_toArray, List.set_cons_zero, List.set_cons_succ, List.getElem_toArray, List.getElem_cons_zero, List.getElem_cons_succ]
          refine wpAnyH_take (i := 2) (v := ?_) rfl (by kernel_rfl) (by kernel_rfl) (by kernel_rfl) (fun _ _ _ h => h) (Or.inl ⟨by rfl, ?_⟩) (by assumption) ?_
          rotate_left
          · (intro w hSw; (try dsimp only at hSw); first | (go_simp; done) | (go_simp; with_reducible rfl))
          try simp only [Act.put, List.setIfInBounds_toArray, List.set_cons_zero, List.set_cons_succ, List.getElem_toArray, List.getElem_cons_zero, List.getElem_cons_succ]
          refine wpAnyH_take (i := 3) (v := undef) rfl (by kernel_rfl) (by kernel_rfl) (by kernel_rfl) (fun _ _ _ h => h) (Or.inr ⟨by rfl, rfl⟩) (by assumption) ?_
          try simp only [Act.put, List.setIfInBounds_toArray, List.set_cons_zero, List.set_cons_succ, List.getElem_toArray, List.getElem_cons_zero, List.getElem_cons_succ]
          refine wpAnyH_take (i := 4) (v := undef) rfl (by kernel_rfl) (by kernel_rfl) (by kernel_rfl) (fun _ _ _ h => h) (Or.inr ⟨by rfl, rfl⟩) (by assumption) ?_
          try simp only [Act.put, List.setIfInBounds_toArray, List.set_cons_zero, List.set_cons_succ, List.getElem_toArray, List.getElem_cons_zero, List.getElem_cons_succ]
          refine wpAnyH_take (i := 5) (v := undef) rfl (by kernel_rfl) (by kernel_rfl) (by kernel_rfl) (fun _ _ _ h => h) (Or.inr ⟨by rfl, rfl⟩) (by assumption) ?_
          try simp only [Act.put, List.setIfInBounds_toArray, List.set_cons_zero, List.set_cons_succ, List.getElem_toArray, List.getElem_cons_zero, List.getElem_cons_succ]
          refine wpAnyH_take (i := 6) (v := undef) rfl (by kernel_rfl) (by kernel_rfl) (by kernel_rfl) (fun _ _ _ h => h) (Or.inr ⟨by rfl, rfl⟩) (by assumption) ?_
          try simp only [Act.put, List.setIfInBounds_toArray, List.set_cons_zero, List.set_cons_succ, List.getElem_toArray, List.getElem_cons_zero, List.getElem_cons_succ]
          refine wpAnyH_take (i := 7) (v := undef) rfl (by kernel_rfl) (by kernel_rfl) (by kernel_rfl) (fun _ _ _ h => h) (Or.inr ⟨by rfl, rfl⟩) (by assumption) ?_
          try simp only [Act.put, List.setIfInBounds_toArray, List.set_cons_zero, List.set_cons_succ, List.getElem_toArray, List.getElem_cons_zero, List.getElem_cons_succ]
          refine wpAnyH_take (i := 8) (v := undef) rfl (by kernel_rfl) (by kernel_rfl) (by kernel_rfl) (fun _ _ _ h => h) (Or.inr ⟨by rfl, rfl⟩) (by assumption) ?_
          try simp only [Act.put, List.setIfInBounds_toArray, List.set_cons_zero, List.set_cons_succ, List.getElem_toArray, List.getElem_cons_zero, List.getElem_cons_succ]
          refine wpAnyH_take (i := 9) (v := undef) rfl (by kernel_rfl) (by kernel_rfl) (by kernel_rfl) (fun _ _ _ h => h) (Or.inr ⟨by rfl, rfl⟩) (by assumption) ?_
          try simp only [Act.put, List.setIfInBounds_toArray, List.set_cons_zero, List.set_cons_succ, List.getElem_toArray, List.getElem_cons_zero, List.getElem_cons_succ]
          refine wpAnyH_take (i := 10) (v := ?_) rfl (by kernel_rfl) (by kernel_rfl) (by kernel_rfl) (fun _ _ _ h => h) (Or.inl ⟨by rfl, ?_⟩) (by assumption) ?_
          rotate_left
          · (intro w hSw; (try dsimp only at hSw); first | (go_simp; done) | (go_simp; with_reducible rfl))
          try simp only [Act.put, List.setIfInBounds_toArray, List.set_cons_zero, List.set_cons_succ, List.getElem_toArray, List.getElem_cons_zero, List.getElem_cons_succ]
          refine wpAnyH_done (by kernel_rfl) ?_ _
          go_wp2_with fail
          obtain ⟨w4, hw4⟩ : ∃ w4, wr.drew = w4 := ⟨_, rfl⟩
          rw [hw4] at B4' ⊢
          have B4 := B4'
          obtain ⟨y0, y1, y2, y3, y4⟩ := (OrdAt.carry hO.out B4).cells
          clear hw4 B4'
          obtain ⟨i0, hi0, hz0, hz1, hz2⟩ := info_parts co_info
          have HI0 := Lib.hid hi0
          have HI1 := Lib.hid hz0
          have HI2 := Lib.hid hz1
          have HI3 := Lib.hid hz2
          have hW := Lib.hid (bel_trans hb3.out B4)
          have hOW := Lib.hid (OrdAt.carry hO.out B4)
          have hrW := own_keep hrow.out hW.out
          have hrd := RdS.ofOwn hrW
          have RD1 : Hid (∀ W', Below w4.heap.size w4 W' → RdS W' w4.heap.size (some ⟨b, 0, Option.none⟩) (0) 5 (((rowD os D).take (0)).flatMap co1)) := Lib.hid (fun W' hb => by
            have := (hrd.head (k := 0) (Nat.zero_le _)).carry hb
            rw [flat_take5] at this
            exact this)
          have RD2 : Hid (∀ W', Below w4.heap.size w4 W' → RdS W' w4.heap.size (some ⟨b, 0, Option.none⟩) (0) 5 (((rowD os D).drop (0)).flatMap co1)) := Lib.hid (fun W' hb => by
            rw [show (rowD os D).drop (0) = [] from List.drop_eq_nil_of_le (by rw [HN.out]; omega)]
            exact RdS.nothing _ _ _ _)
          have OW0 := Lib.hid (fun W' (h : w4.heap.size ≤ W'.heap.size) => own_empty W' 37 w4.heap.size 5 h)
          have KX := Lib.hid (fun W' (hb : Below w4.heap.size w4 W') => (OrdAt.carry hOW.out hb).cells)
          have HPUT : Hid (∀ (W' : World) (v : Value), W'.ownsRow w4.heap.size 37 5 v (0 + 1 + (0)) ((((rowD os D).take (0)).flatMap co1 ++ [.int .i64 oi, .int .i64 oo, .int .i64 os, .int .i64 on, .int .i64 ou]) ++ ((rowD os D).drop (0)).flatMap co1) → W'.ownsRow B 37 5 v (putC ⟨oi, oo, os, on, ou⟩ (rowD os D)).length ((putC ⟨oi, oo, os, on, ou⟩ (rowD os D)).flatMap co1)) := Lib.hid (fun W' v ho => by
            obtain ⟨f1, f2⟩ := put_flat HCUT.out
            rw [f1, f2, HN.out]
            rw [show 0 = 0 - (0) by omega] at ho
            exact own_wider ho (Nat.le_trans HB.out hW.out.size))
          have hgw := (HL.out w (Below.refl _ _)).there
          have HGR : Hid (¬ w.heap.size = g) := Lib.hid (by omega)
          clear hi0 hz0 hz1 hz2 hrW hrd hO hb3 B4 HSo
          obtain ⟨r, hr⟩ : ∃ r, w.heap.size = r := ⟨_, rfl⟩
          rw [hr] at KX hOW HGR y0 y1 y2 y3 y4 ⊢
          have q1 : (0 : Int) ≤ (0 : Int) := by omega
          have q2 : (0 : Int) ≤ (0 : Int) := by omega
          have q5 : 0 ≤ 0 := (Nat.zero_le _)
          have q9 : (0 : Int) ≤ (0 : Int) := by omega
          have q8 : (0 : Int) ≤ (0 : Int) := by omega
          have q7 : ((0 : Int)).toNat = 0 := by omega
          have hlo : r < w4.heap.size := Box.there hOW.out
          go_region_held3 (fun w' => World.cell? w' ⟨r, 0, Option.none⟩ = some (.int .i64 oi) ∧ World.cell? w' ⟨r, 1, Option.none⟩ = some (.int .i64 oo) ∧ World.cell? w' ⟨r, 2, Option.none⟩ = some (.int .i64 os) ∧ World.cell? w' ⟨r, 3, Option.none⟩ = some (.int .i64 on) ∧ World.cell? w' ⟨r, 4, Option.none⟩ = some (.int .i64 ou)) (first | exact ⟨y0, y1, y2, y3, y4⟩ | exact KX.out _ HB7.out | exact KX.out _ HB3.out | exact KX.out _ (bel_new w4 _).drew | exact KX.out _ (bel_alloc (bel_new w4 _) _).drew | exact KX.out _ (bel_alloc HB3.out _)) ((first
            | (refine step_appendS rfl (.tmp 56) (.tmp 59) _ rfl w4.heap.size 37 i0 _ 5 40 Try.underlying27 HI0.out HI1.out HI2.out HI3.out rfl (by omega) (.slice (some ⟨_, 0, Option.none⟩) 0 0) 0 [] rfl (by first | exact (OW0.out w4 (Nat.le_refl _)).drew | exact (own_alloc (OW0.out w4 (Nat.le_refl _)) _).drew | exact (own_empty_at (w4.alloc _) _ _ _ _ (by simp) (by simp)).drew) (some ⟨b, 0, Option.none⟩) (0) 0 (by intro h; first | (cases h; done) | exact hc0) (((rowD os D).take (0)).flatMap co1) rfl (RD1.out _ (by first | exact (bel_new w4 _).drew | exact (bel_alloc (bel_new w4 _) _).drew)) (cos_one _) (by simp only [maxLen]; omega) (by omega) (by simp <;> omega) ?_; intro v3 w3 hown3 hgr3 _; rw [Nat.zero_add, List.nil_append] at hown3; obtain ⟨A3, c3, rfl⟩ := own_slice hown3; have HO3 := Lib.hid hown3; have hb3 : Below w4.heap.size w4 w3 := (by first | exact (bel_new w4 _).drew.grown hgr3 (by simp <;> omega) (by simp [Value.ownBlock] <;> omega) | exact (bel_alloc (bel_new w4 _) _).drew.grown hgr3 (by simp <;> omega) (by simp [Value.ownBlock] <;> omega)); (try (have HX3 := Lib.hid (cells_grown (l := [.int .i64 oi, .int .i64 oo, .int .i64 os, .int .i64 on, .int .i64 ou]) (by first | exact cells_drew (cells_new (w4.alloc (.cells #[] 37)) [.int .i64 oi, .int .i64 oo, .int .i64 os, .int .i64 on, .int .i64 ou] _ (g := w4.heap.size + 1) (by simp)) | exact cells_drew (cells_new2 w4 [.int .i64 oi, .int .i64 oo, .int .i64 os, .int .i64 on, .int .i64 ou] _ _)) hgr3 (by simp)))); have HB3 := Lib.hid hb3; clear hown3 hgr3 hb3)
            | (refine step_append_at rfl (.tmp 60) (.tmp 62) _ rfl w4.heap.size 37 i0 _ 5 40 Try.underlying27 HI0.out HI1.out HI2.out HI3.out rfl (by omega) (.slice A3 (0) c3) (0) _ rfl (by first | exact HO3.out | exact own_alloc HO3.out _) ⟨_, 0, Option.none⟩ 1 1 [.int .i64 oi, .int .i64 oo, .int .i64 os, .int .i64 on, .int .i64 ou] rfl rfl (by first | exact cells_new _ _ _ rfl | exact HX3.out) (co1_one ⟨oi, oo, os, on, ou⟩) (by simp only [maxLen]; omega) (by omega) (by have := HB3.out.size; simp; omega) ?_; intro v7 w7 hown7 hgr7 _; obtain ⟨A7, c7, rfl⟩ := own_slice hown7; have hb7 : Below w4.heap.size w4 w7 := (by first | exact (bel_alloc HB3.out _).grown hgr7 (by have := HB3.out.size; simp; omega) (fun k hk => (HO3.out.lt k hk).1) | exact HB3.out.grown hgr7 HB3.out.size (fun k hk => (HO3.out.lt k hk).1)); have HB7 := Lib.hid hb7; have HO7 := Lib.hid hown7; clear hown7 hgr7 hb7)
            ))
          all_goals
            have hOW0 := hOW
            replace hOW := Lib.hid (OrdAt.carry hOW.out HB7.out)
            obtain ⟨s0, s1, s2, s3, s4⟩ := hOW.out.cells
            clear y0 y1 y2 y3 y4 KX
            go_wp2_with fail
            go_region_held3 (fun w' => World.cell? w' ⟨r, 2, Option.none⟩ = some (.int .i64 os)) (first | exact s2 | exact t2 | exact x2) ((first
              | (refine step_appendS rfl (.tmp 67) (.tmp 70) _ rfl w4.heap.size 37 i0 _ 5 40 Try.underlying27 HI0.out HI1.out HI2.out HI3.out rfl (by omega) (.slice A7 (0 + 1) c7) (0 + 1) _ rfl (by first | exact HO7.out | exact HO7.out.drew) (some ⟨b, 0, Option.none⟩) (0) (0) (by intro h; first | (cases h; done) | rfl | omega) (((rowD os D).drop (0)).flatMap co1) rfl (RD2.out _ (by first | exact HB7.out | exact HB7.out.drew)) (cos_one _) (by simp only [maxLen]; omega) (by omega) (by first | exact HB7.out.size | exact HB7.out.drew.size) ?_; intro v8 w8 hown8 hgr8 _; obtain ⟨A8, c8, rfl⟩ := own_slice hown8; have hb8 : Below w4.heap.size w4 w8 := (by first | exact HB7.out.grown hgr8 HB7.out.size (fun k hk => (HO7.out.lt k hk).1) | exact HB7.out.drew.grown hgr8 HB7.out.size (fun k hk => (HO7.out.lt k hk).1)); have t2 : w8.cell? ⟨r, 2, Option.none⟩ = some (.int .i64 os) := (OrdAt.carry hOW0.out hb8).cells.2.2.1; have HB8 := Lib.hid hb8; have HO8 := Lib.hid (HPUT.out w8 _ hown8); clear hown8 hgr8 hb8)
              | (go_at_call 34; refine (rput_any (HL.out _ (bel_trans hW.out (by first | exact HB8.out | exact HB8.out.drew))) hsi (l := putC ⟨oi, oo, os, on, ou⟩ (rowD os D)) (by first | exact HO8.out | exact HO8.out.drew)).mono ?_; rintro e w9 ⟨rfl, HP9, hc9⟩; have HC9 := Lib.hid ((Chg.of_below (bel_trans hW.out (by first | exact HB8.out | exact HB8.out.drew)) (fun j => j = g)).then hc9 (fun _ _ h => h)); replace HP9 := Lib.hid HP9; have x2 : w9.cell? ⟨r, 2, Option.none⟩ = some (.int .i64 os) := hc9.cell (by first | exact t2 | exact (show _ from t2)) HGR.out; clear hc9)))
            all_goals
              go_wp2_with fail
              go_ret
              exact ⟨rfl, HP9.out, HC9.out⟩
        · skip
          go_wp2_with fail
          refine wp_region_held_drew (S := (fun _ => True)) (by kernel_rfl) (trivial) (fun hHeld => ?_)
          refine wpAnyH_take (i := 0) (v := ?_) rfl (by kernel_rfl) (by kernel_rfl) (by kernel_rfl) (fun _ _ _ h => h) (Or.inl ⟨by rfl, ?_⟩) (by assumption) ?_
          rotate_left
          · (intro w hSw; (try dsimp only at hSw); first | (go_simp; done) | (go_simp; with_reducible rfl))
          try simp only [Act.put, List.setIfInBounds_toArray, List.set_cons_zero, List.set_cons_succ, List.getElem_toArray, List.getElem_cons_zero, List.getElem_cons_succ]
          refine wpAnyH_take (i := 1) (v := .bool false) rfl (by kernel_rfl) (by kernel_rfl) (by kernel_rfl) (fun _ _ _ h => h) (Or.inl ⟨by rfl, ?_⟩) (by assumption) ?_
          · (intro w hSw; (try dsimp only at hSw); first | (go_simp; done) | (go_simp; omega) | (go_simp; trivial))
          try simp only [Act.put, List.setIfInBounds_toArray, List.set_cons_zero, List.set_cons_succ, List.getElem_toArray, List.getElem_cons_zero, List.getElem_cons_succ]
          refine wpAnyH_take (i := 2) (v := ?_) rfl (by kernel_rfl) (by kernel_rfl) (by kernel_rfl) (fun _ _ _ h => h) (Or.inl ⟨by rfl, ?_⟩) (by assumption) ?_
          rotate_left
          · (intro w hSw; (try dsimp only at hSw); first | (go_simp; done) | (go_simp; with_reducible rfl))
          try simp only [Act.put, List.setIfInBounds_toArray, List.set_cons_zero, List.set_cons_succ, List.getElem_toArray, List.getElem_cons_zero, List.getElem_cons_succ]
          refine wpAnyH_take (i := 3) (v := undef) rfl (by kernel_rfl) (by kernel_rfl) (by kernel_rfl) (fun _ _ _ h => h) (Or.inr ⟨by rfl, rfl⟩) (by assumption) ?_
          try simp only [Act.put, List.setIfInBounds_toArray, List.set_cons_zero, List.set_cons_succ, List.getElem_toArray, List.getElem_cons_zero, List.getElem_cons_succ]
          refine wpAnyH_take (i := 4) (v := undef) rfl (by kernel_rfl) (by kernel_rfl) (by kernel_rfl) (fun _ _ _ h => h) (Or.inr ⟨by rfl, rfl⟩) (by assumption) ?_
          try simp only [Act.put, List.setIfInBounds_toArray, List.set_cons_zero, List.set_cons_succ, List.getElem_toArray, List.getElem_cons_zero, List.getElem_cons_succ]
          refine wpAnyH_take (i := 5) (v := undef) rfl (by kernel_rfl) (by kernel_rfl) (by kernel_rfl) (fun _ _ _ h => h) (Or.inr ⟨by rfl, rfl⟩) (by assumption) ?_
          try simp only [Act.put, List.setIfInBounds_toArray, List.set_cons_zero, List.set_cons_succ, List.getElem_toArray, List.getElem_cons_zero, List.getElem_cons_succ]
          refine wpAnyH_take (i := 6) (v := undef) rfl (by kernel_rfl) (by kernel_rfl) (by kernel_rfl) (fun _ _ _ h => h) (Or.inr ⟨by rfl, rfl⟩) (by assumption) ?_
          try simp only [Act.put, List.setIfInBounds_toArray, List.set_cons_zero, List.set_cons_succ, List.getElem_toArray, List.getElem_cons_zero, List.getElem_cons_succ]
          refine wpAnyH_take (i := 7) (v := undef) rfl (by kernel_rfl) (by kernel_rfl) (by kernel_rfl) (fun _ _ _ h => h) (Or.inr ⟨by rfl, rfl⟩) (by assumption) ?_
          try simp only [Act.put, List.setIfInBounds_toArray, List.set_cons_zero, List.set_cons_succ, List.getElem_toArray, List.getElem_cons_zero, List.getElem_cons_succ]
          refine wpAnyH_take (i := 8) (v := undef) rfl (by kernel_rfl) (by kernel_rfl) (by kernel_rfl) (fun _ _ _ h => h) (Or.inr ⟨by rfl, rfl⟩) (by assumption) ?_
          try simp only [Act.put, List.setIfInBounds_toArray, List.set_cons_zero, List.set_cons_succ, List.getElem_toArray, List.getElem_cons_zero, List.getElem_cons_succ]
          refine wpAnyH_take (i := 9) (v := undef) rfl (by kernel_rfl) (by kernel_rfl) (by kernel_rfl) (fun _ _ _ h => h) (Or.inr ⟨by rfl, rfl⟩) (by assumption) ?_
          try simp only [Act.put, List.setIfInBounds_toArray, List.set_cons_zero, List.set_cons_succ, List.getElem_toArray, List.getElem_cons_zero, List.getElem_cons_succ]
          refine wpAnyH_take (i := 10) (v := ?_) rfl (by kernel_rfl) (by kernel_rfl) (by kernel_rfl) (fun _ _ _ h => h) (Or.inl ⟨by rfl, ?_⟩) (by assumption) ?_
          rotate_left
          · (intro w hSw; (try dsimp only at hSw); first | (go_simp; done) | (go_simp; with_reducible rfl))
          try simp only [Act.put, List.setIfInBounds_toArray, List.set_cons_zero, List.set_cons_succ, List.getElem_toArray, List.getElem_cons_zero, List.getElem_cons_succ]
          refine wpAnyH_done (by kernel_rfl) ?_ _
          go_wp2_with fail
          obtain ⟨w4, hw4⟩ : ∃ w4, wr.drew = w4 := ⟨_, rfl⟩
          rw [hw4] at B4' ⊢
          have B4 := B4'
          obtain ⟨y0, y1, y2, y3, y4⟩ := (OrdAt.carry hO.out B4).cells
          clear hw4 B4'
          obtain ⟨i0, hi0, hz0, hz1, hz2⟩ := info_parts co_info
          have HI0 := Lib.hid hi0
          have HI1 := Lib.hid hz0
          have HI2 := Lib.hid hz1
          have HI3 := Lib.hid hz2
          have hW := Lib.hid (bel_trans hb3.out B4)
          have hOW := Lib.hid (OrdAt.carry hO.out B4)
          have hrW := own_keep hrow.out hW.out
          have hrd := RdS.ofOwn hrW
          have RD1 : Hid (∀ W', Below w4.heap.size w4 W' → RdS W' w4.heap.size (some ⟨b, 0, Option.none⟩) (0) 5 (((rowD os D).take (0)).flatMap co1)) := Lib.hid (fun W' hb => by
            have := (hrd.head (k := 0) (Nat.zero_le _)).carry hb
            rw [flat_take5] at this
            exact this)
          have RD2 : Hid (∀ W', Below w4.heap.size w4 W' → RdS W' w4.heap.size (some ⟨b, 0, Option.none⟩) (n) 5 (((rowD os D).drop (0)).flatMap co1)) := Lib.hid (fun W' hb => by
            have := hrd.carry hb
            exact this)
          have OW0 := Lib.hid (fun W' (h : w4.heap.size ≤ W'.heap.size) => own_empty W' 37 w4.heap.size 5 h)
          have KX := Lib.hid (fun W' (hb : Below w4.heap.size w4 W') => (OrdAt.carry hOW.out hb).cells)
          have HPUT : Hid (∀ (W' : World) (v : Value), W'.ownsRow w4.heap.size 37 5 v (0 + 1 + (n)) ((((rowD os D).take (0)).flatMap co1 ++ [.int .i64 oi, .int .i64 oo, .int .i64 os, .int .i64 on, .int .i64 ou]) ++ ((rowD os D).drop (0)).flatMap co1) → W'.ownsRow B 37 5 v (putC ⟨oi, oo, os, on, ou⟩ (rowD os D)).length ((putC ⟨oi, oo, os, on, ou⟩ (rowD os D)).flatMap co1)) := Lib.hid (fun W' v ho => by
            obtain ⟨f1, f2⟩ := put_flat HCUT.out
            rw [f1, f2, HN.out]
            rw [show n = n - (0) by omega] at ho
            exact own_wider ho (Nat.le_trans HB.out hW.out.size))
          have hgw := (HL.out w (Below.refl _ _)).there
          have HGR : Hid (¬ w.heap.size = g) := Lib.hid (by omega)
          clear hi0 hz0 hz1 hz2 hrW hrd hO hb3 B4 HSo
          obtain ⟨r, hr⟩ : ∃ r, w.heap.size = r := ⟨_, rfl⟩
          rw [hr] at KX hOW HGR y0 y1 y2 y3 y4 ⊢
          have q1 : (0 : Int) ≤ (n : Int) := by omega
          have q2 : (n : Int) ≤ (c : Int) := by omega
          have q5 : 0 ≤ n := (Nat.zero_le _)
          have q9 : (0 : Int) ≤ (c : Int) := by omega
          have q8 : (0 : Int) ≤ (0 : Int) := by omega
          have q7 : ((0 : Int)).toNat = 0 := by omega
          have hlo : r < w4.heap.size := Box.there hOW.out
          go_region_held3 (fun w' => World.cell? w' ⟨r, 0, Option.none⟩ = some (.int .i64 oi) ∧ World.cell? w' ⟨r, 1, Option.none⟩ = some (.int .i64 oo) ∧ World.cell? w' ⟨r, 2, Option.none⟩ = some (.int .i64 os) ∧ World.cell? w' ⟨r, 3, Option.none⟩ = some (.int .i64 on) ∧ World.cell? w' ⟨r, 4, Option.none⟩ = some (.int .i64 ou)) (first | exact ⟨y0, y1, y2, y3, y4⟩ | exact KX.out _ HB7.out | exact KX.out _ HB3.out | exact KX.out _ (bel_new w4 _).drew | exact KX.out _ (bel_alloc (bel_new w4 _) _).drew | exact KX.out _ (bel_alloc HB3.out _)) ((first
            | (refine step_appendS rfl (.tmp 56) (.tmp 59) _ rfl w4.heap.size 37 i0 _ 5 40 Try.underlying27 HI0.out HI1.out HI2.out HI3.out rfl (by omega) (.slice (some ⟨_, 0, Option.none⟩) 0 0) 0 [] rfl (by first | exact (OW0.out w4 (Nat.le_refl _)).drew | exact (own_alloc (OW0.out w4 (Nat.le_refl _)) _).drew | exact (own_empty_at (w4.alloc _) _ _ _ _ (by simp) (by simp)).drew) (some ⟨b, 0, Option.none⟩) (0) c (by intro h; first | (cases h; done) | exact hc0) (((rowD os D).take (0)).flatMap co1) rfl (RD1.out _ (by first | exact (bel_new w4 _).drew | exact (bel_alloc (bel_new w4 _) _).drew)) (cos_one _) (by simp only [maxLen]; omega) (by omega) (by simp <;> omega) ?_; intro v3 w3 hown3 hgr3 _; rw [Nat.zero_add, List.nil_append] at hown3; obtain ⟨A3, c3, rfl⟩ := own_slice hown3; have HO3 := Lib.hid hown3; have hb3 : Below w4.heap.size w4 w3 := (by first | exact (bel_new w4 _).drew.grown hgr3 (by simp <;> omega) (by simp [Value.ownBlock] <;> omega) | exact (bel_alloc (bel_new w4 _) _).drew.grown hgr3 (by simp <;> omega) (by simp [Value.ownBlock] <;> omega)); (try (have HX3 := Lib.hid (cells_grown (l := [.int .i64 oi, .int .i64 oo, .int .i64 os, .int .i64 on, .int .i64 ou]) (by first | exact cells_drew (cells_new (w4.alloc (.cells #[] 37)) [.int .i64 oi, .int .i64 oo, .int .i64 os, .int .i64 on, .int .i64 ou] _ (g := w4.heap.size + 1) (by simp)) | exact cells_drew (cells_new2 w4 [.int .i64 oi, .int .i64 oo, .int .i64 os, .int .i64 on, .int .i64 ou] _ _)) hgr3 (by simp)))); have HB3 := Lib.hid hb3; clear hown3 hgr3 hb3)
            | (refine step_append_at rfl (.tmp 60) (.tmp 62) _ rfl w4.heap.size 37 i0 _ 5 40 Try.underlying27 HI0.out HI1.out HI2.out HI3.out rfl (by omega) (.slice A3 (0) c3) (0) _ rfl (by first | exact HO3.out | exact own_alloc HO3.out _) ⟨_, 0, Option.none⟩ 1 1 [.int .i64 oi, .int .i64 oo, .int .i64 os, .int .i64 on, .int .i64 ou] rfl rfl (by first | exact cells_new _ _ _ rfl | exact HX3.out) (co1_one ⟨oi, oo, os, on, ou⟩) (by simp only [maxLen]; omega) (by omega) (by have := HB3.out.size; simp; omega) ?_; intro v7 w7 hown7 hgr7 _; obtain ⟨A7, c7, rfl⟩ := own_slice hown7; have hb7 : Below w4.heap.size w4 w7 := (by first | exact (bel_alloc HB3.out _).grown hgr7 (by have := HB3.out.size; simp; omega) (fun k hk => (HO3.out.lt k hk).1) | exact HB3.out.grown hgr7 HB3.out.size (fun k hk => (HO3.out.lt k hk).1)); have HB7 := Lib.hid hb7; have HO7 := Lib.hid hown7; clear hown7 hgr7 hb7)
            ))
          all_goals
            have hOW0 := hOW
            replace hOW := Lib.hid (OrdAt.carry hOW.out HB7.out)
            obtain ⟨s0, s1, s2, s3, s4⟩ := hOW.out.cells
            clear y0 y1 y2 y3 y4 KX
            go_wp2_with fail
            go_region_held3 (fun w' => World.cell? w' ⟨r, 2, Option.none⟩ = some (.int .i64 os)) (first | exact s2 | exact t2 | exact x2) ((first
              | (refine step_appendS rfl (.tmp 67) (.tmp 70) _ rfl w4.heap.size 37 i0 _ 5 40 Try.underlying27 HI0.out HI1.out HI2.out HI3.out rfl (by omega) (.slice A7 (0 + 1) c7) (0 + 1) _ rfl (by first | exact HO7.out | exact HO7.out.drew) (some ⟨b, 0, Option.none⟩) (n) (c) (by intro h; first | (cases h; done) | rfl | omega) (((rowD os D).drop (0)).flatMap co1) rfl (RD2.out _ (by first | exact HB7.out | exact HB7.out.drew)) (cos_one _) (by simp only [maxLen]; omega) (by omega) (by first | exact HB7.out.size | exact HB7.out.drew.size) ?_; intro v8 w8 hown8 hgr8 _; obtain ⟨A8, c8, rfl⟩ := own_slice hown8; have hb8 : Below w4.heap.size w4 w8 := (by first | exact HB7.out.grown hgr8 HB7.out.size (fun k hk => (HO7.out.lt k hk).1) | exact HB7.out.drew.grown hgr8 HB7.out.size (fun k hk => (HO7.out.lt k hk).1)); have t2 : w8.cell? ⟨r, 2, Option.none⟩ = some (.int .i64 os) := (OrdAt.carry hOW0.out hb8).cells.2.2.1; have HB8 := Lib.hid hb8; have HO8 := Lib.hid (HPUT.out w8 _ hown8); clear hown8 hgr8 hb8)
              | (go_at_call 34; refine (rput_any (HL.out _ (bel_trans hW.out (by first | exact HB8.out | exact HB8.out.drew))) hsi (l := putC ⟨oi, oo, os, on, ou⟩ (rowD os D)) (by first | exact HO8.out | exact HO8.out.drew)).mono ?_; rintro e w9 ⟨rfl, HP9, hc9⟩; have HC9 := Lib.hid ((Chg.of_below (bel_trans hW.out (by first | exact HB8.out | exact HB8.out.drew)) (fun j => j = g)).then hc9 (fun _ _ h => h)); replace HP9 := Lib.hid HP9; have x2 : w9.cell? ⟨r, 2, Option.none⟩ = some (.int .i64 os) := hc9.cell (by first | exact t2 | exact (show _ from t2)) HGR.out; clear hc9)))
            all_goals
              go_wp2_with fail
              go_ret
              exact ⟨rfl, HP9.out, HC9.out⟩
    · obtain ⟨m, rfl⟩ : ∃ m, k = m + 1 := ⟨k - 1, by omega⟩
      obtain ⟨x, hx⟩ : ∃ x, (rowD os D)[m]? = some x := ⟨_, List.getElem?_eq_getElem (by rw [HN.out]; omega)⟩
      have hrw := own_keep hrow.out hb3
      rw [← HN.out] at hrw
      obtain ⟨b, c', e1, _, hb, _, hc, k0, k1, k2, k3, k4, _⟩ := co_cells hrw hx
      have hbw : b < w.heap.size := by
        rw [HN.out] at e1
        have := (hrow.out.lt b (by rw [e1]; rfl)).2
        exact this
      rw [HN.out] at e1 hc
      injection e1 with e1 e3 e2
      clear e3
      subst e1; subst e2
      obtain ⟨q0, q1, q2, q3, q4⟩ := hO.cells
      have i1 : (0 : Int) ≤ (m : Int) := by omega
      have i2 : (m : Int) < (n : Int) := by omega
      have hlo : w.heap.size < wr.heap.size := Box.there hO
      cases ha : aheadC ⟨oi, oo, os, on, ou⟩ x with
      | true =>
        have HF : Hid (∀ j y, m ≤ j → (rowD os D)[j]? = some y → aheadC ⟨oi, oo, os, on, ou⟩ y = true) := Lib.hid fun j y hj hy => by
          rcases Nat.lt_or_ge j (m + 1) with h' | h'
          · obtain rfl : j = m := by omega
            rw [hx] at hy; injection hy with hy; rw [← hy]; exact ha
          · exact hF j y h' hy
        replace HA := Lib.hid (fun w' => by have := HA.out x w'; rw [ha] at this; exact this)
        replace hO := Lib.hid hO
        replace hb3 := Lib.hid hb3
        obtain ⟨xi, xo, xs, xn, xu⟩ := x
        dsimp only at k0 k1 k2 k3 k4
        unfold coV at HA
        clear hx hrw hJ hF
        go_wp2_with fail
        refine wp_region_held_drew (S := (fun w' => w'.cell? ⟨w.heap.size, 0, Option.none⟩ = some (.int .i64 oi) ∧ w'.cell? ⟨w.heap.size, 1, Option.none⟩ = some (.int .i64 oo) ∧ w'.cell? ⟨w.heap.size, 2, Option.none⟩ = some (.int .i64 os) ∧ w'.cell? ⟨w.heap.size, 3, Option.none⟩ = some (.int .i64 on) ∧ w'.cell? ⟨w.heap.size, 4, Option.none⟩ = some (.int .i64 ou) ∧ w'.cell? ⟨b, m * 5, Option.none⟩ = some (.int .i64 xi) ∧ w'.cell? ⟨b, m * 5 + 1, Option.none⟩ = some (.int .i64 xo) ∧ w'.cell? ⟨b, m * 5 + 2, Option.none⟩ = some (.int .i64 xs) ∧ w'.cell? ⟨b, m * 5 + 3, Option.none⟩ = some (.int .i64 xn) ∧ w'.cell? ⟨b, m * 5 + 4, Option.none⟩ = some (.int .i64 xu))) (by kernel_rfl) (⟨q0, q1, q2, q3, q4, k0, k1, k2, k3, k4⟩) (fun hHeld => ?_)
        refine wpAnyH_take (i := 0) (v := ?_) rfl (by kernel_rfl) (by kernel_rfl) (by kernel_rfl) (fun _ _ _ h => h) (Or.inl ⟨by rfl, ?_⟩) (by assumption) ?_
        rotate_left
        · (intro w hSw; (try dsimp only at hSw); first | (go_simp; done) | (go_simp; with_reducible rfl))
        try simp only [Act.put, List.setIfInBounds_toArray, List.set_cons_zero, List.set_cons_succ, List.getElem_toArray, List.getElem_cons_zero, List.getElem_cons_succ]
        refine wpAnyH_take (i := 1) (v := .bool true) rfl (by kernel_rfl) (by kernel_rfl) (by kernel_rfl) (fun _ _ _ h => h) (Or.inl ⟨by rfl, ?_⟩) (by assumption) ?_
        · (intro w hSw; (try dsimp only at hSw); first | (go_simp; done) | (go_simp; omega) | (go_simp; trivial))
        try simp only [Act.put, List.setIfInBounds_toArray, List.set_cons_zero, List.set_cons_succ, List.getElem_toArray, List.getElem_cons_zero, List.getElem_cons_succ]
        refine wpAnyH_take (i := 2) (v := ?_) rfl (by kernel_rfl) (by kernel_rfl) (by kernel_rfl) (fun _ _ _ h => h) (Or.inl ⟨by rfl, ?_⟩) (by assumption) ?_
        rotate_left
        · (intro w hSw; (try dsimp only at hSw); first | (go_simp; done) | (go_simp; with_reducible rfl))
        try simp only [Act.put, List.setIfInBounds_toArray, List.set_cons_zero, List.set_cons_succ, List.getElem_toArray, List.getElem_cons_zero, List.getElem_cons_succ]
        refine wpAnyH_take (i := 3) (v := ?_) rfl (by kernel_rfl) (by kernel_rfl) (by kernel_rfl) (fun _ _ _ h => h) (Or.inl ⟨by rfl, ?_⟩) (by assumption) ?_
        rotate_left
        · (intro w hSw; (try dsimp only at hSw); first | (go_simp; done) | (go_simp; with_reducible rfl))
        try simp only [Act.put, List.setIfInBounds_toArray, List.set_cons_zero, List.set_cons_succ, List.getElem_toArray, List.getElem_cons_zero, List.getElem_cons_succ]
        refine wpAnyH_take (i := 4) (v := ?_) rfl (by kernel_rfl) (by kernel_rfl) (by kernel_rfl) (fun _ _ _ h => h) (Or.inl ⟨by rfl, ?_⟩) (by assumption) ?_
        rotate_left
        · (intro w hSw; (try dsimp only at hSw); first | (go_simp; done) | (go_simp; with_reducible rfl))
        try simp only [Act.put, List.setIfInBounds_toArray, List.set_cons_zero, List.set_cons_succ, List.getElem_toArray, List.getElem_cons_zero, List.getElem_cons_succ]
        refine wpAnyH_take (i := 5) (v := ?_) rfl (by kernel_rfl) (by kernel_rfl) (by kernel_rfl) (fun _ _ _ h => h) (Or.inl ⟨by rfl, ?_⟩) (by assumption) ?_
        rotate_left
        · (intro w hSw; (try dsimp only at hSw); first | (go_simp; done) | (go_simp; with_reducible rfl))
        try simp only [Act.put, List.setIfInBounds_toArray, List.set_cons_zero, List.set_cons_succ, List.getElem_toArray, List.getElem_cons_zero, List.getElem_cons_succ]
        refine wpAnyH_take (i := 6) (v := .int .i64 (m : Int)) rfl (by kernel_rfl) (by kernel_rfl) (by kernel_rfl) (fun _ _ _ h => h) (Or.inl ⟨by rfl, ?_⟩) (by assumption) ?_
        · (intro w hSw; (try dsimp only at hSw); first | (go_simp; done) | (go_simp; omega) | (go_simp; rw [IntKind.wrap_i64]; omega))
        try simp only [Act.put, List.setIfInBounds_toArray, List.set_cons_zero, List.set_cons_succ, List.getElem_toArray, List.getElem_cons_zero, List.getElem_cons_succ]
        refine wpAnyH_take (i := 7) (v := ?_) rfl (by kernel_rfl) (by kernel_rfl) (by kernel_rfl) (fun _ _ _ h => h) (Or.inl ⟨by rfl, ?_⟩) (by assumption) ?_
        rotate_left
        · (intro w hSw; (try dsimp only at hSw); first | (go_simp; done) | (go_simp; with_reducible rfl))
        try simp only [Act.put, List.setIfInBounds_toArray, List.set_cons_zero, List.set_cons_succ, List.getElem_toArray, List.getElem_cons_zero, List.getElem_cons_succ]
        refine wpAnyH_take (i := 8) (v := ?_) rfl (by kernel_rfl) (by kernel_rfl) (by kernel_rfl) (fun _ _ _ h => h) (Or.inl ⟨by rfl, ?_⟩) (by assumption) ?_
        rotate_left
        · (intro w hSw; (try dsimp only at hSw); first | (go_simp; done) | (go_simp; with_reducible rfl))
        try simp only [Act.put, List.setIfInBounds_toArray, List.set_cons_zero, List.set_cons_succ, List.getElem_toArray, List.getElem_cons_zero, List.getElem_cons_succ]
        refine wpAnyH_ready (rs := [9]) (by kernel_rfl) (by simp) ?_
        refine AllReadyH.cons rfl (fun K hK => ?_) AllReadyH.nil
        go_simp
        refine (HA.out wr.drew).mono ?_; rintro e w4 ⟨rfl, hb4⟩; have B4 : Below wr.heap.size wr w4 := ((Below.refl _ _).drew).trans hb4; have y0 := (B4.cell (p := ⟨w.heap.size, 0, Option.none⟩) hlo).trans q0; have y1 := (B4.cell (p := ⟨w.heap.size, 1, Option.none⟩) hlo).trans q1; have y2 := (B4.cell (p := ⟨w.heap.size, 2, Option.none⟩) hlo).trans q2; have y3 := (B4.cell (p := ⟨w.heap.size, 3, Option.none⟩) hlo).trans q3; have y4 := (B4.cell (p := ⟨w.heap.size, 4, Option.none⟩) hlo).trans q4; have z0 := (B4.cell (p := ⟨b, m * 5, Option.none⟩) hb).trans k0; have z1 := (B4.cell (p := ⟨b, m * 5 + 1, Option.none⟩) hb).trans k1; have z2 := (B4.cell (p := ⟨b, m * 5 + 2, Option.none⟩) hb).trans k2; have z3 := (B4.cell (p := ⟨b, m * 5 + 3, Option.none⟩) hb).trans k3; have z4 := (B4.cell (p := ⟨b, m * 5 + 4, Option.none⟩) hb).trans k4; clear hb4
        refine hK.out _ _ (⟨y0, y1, y2, y3, y4, z0, z1, z2, z3, z4⟩) (fun hHeld => ?_)
        clear hK K
        try simp only [Act.put, List.setIfInBounds_toArray, List.set_cons_zero, List.set_cons_succ, List.getElem_toArray, List.getElem_cons_zero, List.getElem_cons_succ]
        refine wpAnyH_take (i := 10) (v := ?_) rfl (by kernel_rfl) (by kernel_rfl) (by kernel_rfl) (fun _ _ _ h => h) (Or.inl ⟨by rfl, ?_⟩) (by assumption) ?_
        rotate_left
        · (intro w hSw; (try dsimp only at hSw); first | (go_simp; done) | (go_simp; with_reducible rfl))
        try simp only [Act.put, List.setIfInBounds_toArray, List.set_cons_zero, List.set_cons_succ, List.getElem_toArray, List.getElem_cons_zero, List.getElem_cons_succ]
        refine wpAnyH_done (by kernel_rfl) ?_ _
        go_wp2_with fail
        go_roundw
        case rel => exact ⟨m, by omega, by go_num, Lib.hid ⟨bel_trans hb3.out B4, OrdAt.carry hO.out B4, HF.out⟩⟩
        case measure => simp [intOf]
      | false =>
        have HCUT : Hid (cutC ⟨oi, oo, os, on, ou⟩ (rowD os D) = m + 1) := Lib.hid (cut_at (by rw [HN.out]; exact hk) (fun i y hi hy => by
          cases h' : aheadC ⟨oi, oo, os, on, ou⟩ y with
          | false => rfl
          | true =>
            have := HSo.out.mono (o := ⟨oi, oo, os, on, ou⟩) rfl (show i ≤ m by omega) hy hx h'
            rw [ha] at this
            cases this) (fun y hy => hF (m + 1) y (Nat.le_refl _) hy))
        replace HA := Lib.hid (fun w' => by have := HA.out x w'; rw [ha] at this; exact this)
        replace hO := Lib.hid hO
        replace hb3 := Lib.hid hb3
        obtain ⟨xi, xo, xs, xn, xu⟩ := x
        dsimp only at k0 k1 k2 k3 k4
        unfold coV at HA
        clear hx hrw hJ hF
        go_wp2_with fail
        refine wp_region_held_drew (S := (fun w' => w'.cell? ⟨w.heap.size, 0, Option.none⟩ = some (.int .i64 oi) ∧ w'.cell? ⟨w.heap.size, 1, Option.none⟩ = some (.int .i64 oo) ∧ w'.cell? ⟨w.heap.size, 2, Option.none⟩ = some (.int .i64 os) ∧ w'.cell? ⟨w.heap.size, 3, Option.none⟩ = some (.int .i64 on) ∧ w'.cell? ⟨w.heap.size, 4, Option.none⟩ = some (.int .i64 ou) ∧ w'.cell? ⟨b, m * 5, Option.none⟩ = some (.int .i64 xi) ∧ w'.cell? ⟨b, m * 5 + 1, Option.none⟩ = some (.int .i64 xo) ∧ w'.cell? ⟨b, m * 5 + 2, Option.none⟩ = some (.int .i64 xs) ∧ w'.cell? ⟨b, m * 5 + 3, Option.none⟩ = some (.int .i64 xn) ∧ w'.cell? ⟨b, m * 5 + 4, Option.none⟩ = some (.int .i64 xu))) (by kernel_rfl) (⟨q0, q1, q2, q3, q4, k0, k1, k2, k3, k4⟩) (fun hHeld => ?_)
        refine wpAnyH_take (i := 0) (v := ?_) rfl (by kernel_rfl) (by kernel_rfl) (by kernel_rfl) (fun _ _ _ h => h) (Or.inl ⟨by rfl, ?_⟩) (by assumption) ?_
        rotate_left
        · (intro w hSw; (try dsimp only at hSw); first | (go_simp; done) | (go_simp; with_reducible rfl))
        try simp only [Act.put, List.setIfInBounds_toArray, List.set_cons_zero, List.set_cons_succ, List.getElem_toArray, List.getElem_cons_zero, List.getElem_cons_succ]
        refine wpAnyH_take (i := 1) (v := .bool true) rfl (by kernel_rfl) (by kernel_rfl) (by kernel_rfl) (fun _ _ _ h => h) (Or.inl ⟨by rfl, ?_⟩) (by assumption) ?_
        · (intro w hSw; (try dsimp only at hSw); first | (go_simp; done) | (go_simp; omega) | (go_simp; trivial))
        try simp only [Act.put, List.setIfInBounds_toArray, List.set_cons_zero, List.set_cons_succ, List.getElem_toArray, List.getElem_cons_zero, List.getElem_cons_succ]
        refine wpAnyH_take (i := 2) (v := ?_) rfl (by kernel_rfl) (by kernel_rfl) (by kernel_rfl) (fun _ _ _ h => h) (Or.inl ⟨by rfl, ?_⟩) (by assumption) ?_
        rotate_left
        · (intro w hSw; (try dsimp only at hSw); first | (go_simp; done) | (go_simp; with_reducible rfl))
        try simp only [Act.put, List.setIfInBounds_toArray, List.set_cons_zero, List.set_cons_succ, List.getElem_toArray, List.getElem_cons_zero, List.getElem_cons_succ]
        refine wpAnyH_take (i := 3) (v := ?_) rfl (by kernel_rfl) (by kernel_rfl) (by kernel_rfl) (fun _ _ _ h => h) (Or.inl ⟨by rfl, ?_⟩) (by assumption) ?_
        rotate_left
        · (intro w hSw; (try dsimp only at hSw); first | (go_simp; done) | (go_simp; with_reducible rfl))
        try simp only [Act.put, List.setIfInBounds_toArray, List.set_cons_zero, List.set_cons_succ, List.getElem_toArray, List.getElem_cons_zero, List.getElem_cons_succ]
        refine wpAnyH_take (i := 4) (v := ?_) rfl (by kernel_rfl) (by kernel_rfl) (by kernel_rfl) (fun _ _ _ h => h) (Or.inl ⟨by rfl, ?_⟩) (by assumption) ?_
        rotate_left
        · (intro w hSw; (try dsimp only at hSw); first | (go_simp; done) | (go_simp; with_reducible rfl))
        try simp only [Act.put, List.setIfInBounds_toArray, List.set_cons_zero, List.set_cons_succ, List.getElem_toArray, List.getElem_cons_zero, List.getElem_cons_succ]
        refine wpAnyH_take (i := 5) (v := ?_) rfl (by kernel_rfl) (by kernel_rfl) (by kernel_rfl) (fun _ _ _ h => h) (Or.inl ⟨by rfl, ?_⟩) (by assumption) ?_
        rotate_left
        · (intro w hSw; (try dsimp only at hSw); first | (go_simp; done) | (go_simp; with_reducible rfl))
        try simp only [Act.put, List.setIfInBounds_toArray, List.set_cons_zero, List.set_cons_succ, List.getElem_toArray, List.getElem_cons_zero, List.getElem_cons_succ]
        refine wpAnyH_take (i := 6) (v := .int .i64 (m : Int)) rfl (by kernel_rfl) (by kernel_rfl) (by kernel_rfl) (fun _ _ _ h => h) (Or.inl ⟨by rfl, ?_⟩) (by assumption) ?_
        · (intro w hSw; (try dsimp only at hSw); first | (go_simp; done) | (go_simp; omega) | (go_simp; rw [IntKind.wrap_i64]; omega))
        try simp only [Act.put, List.setIfInBounds_toArray, List.set_cons_zero, List.set_cons_succ, List.getElem_toArray, List.getElem_cons_zero, List.getElem_cons_succ]
        refine wpAnyH_take (i := 7) (v := ?_) rfl (by kernel_rfl) (by kernel_rfl) (by kernel_rfl) (fun _ _ _ h => h) (Or.inl ⟨by rfl, ?_⟩) (by assumption) ?_
        rotate_left
        · (intro w hSw; (try dsimp only at hSw); first | (go_simp; done) | (go_simp; with_reducible rfl))
        try simp only [Act.put, List.setIfInBounds_toArray, List.set_cons_zero, List.set_cons_succ, List.getElem_toArray, List.getElem_cons_zero, List.getElem_cons_succ]
        refine wpAnyH_take (i := 8) (v := ?_) rfl (by kernel_rfl) (by kernel_rfl) (by kernel_rfl) (fun _ _ _ h => h) (Or.inl ⟨by rfl, ?_⟩) (by assumption) ?_
        rotate_left
        · (intro w hSw; (try dsimp only at hSw); first | (go_simp; done) | (go_simp; with_reducible rfl))
        try simp only [Act.put, List.setIfInBounds_toArray, List.set_cons_zero, List.set_cons_succ, List.getElem_toArray, List.getElem_cons_zero, List.getElem_cons_succ]
        refine wpAnyH_ready (rs := [9]) (by kernel_rfl) (by simp) ?_
        refine AllReadyH.cons rfl (fun K hK => ?_) AllReadyH.nil
        go_simp
        refine (HA.out wr.drew).mono ?_; rintro e w4 ⟨rfl, hb4⟩; have B4 : Below wr.heap.size wr w4 := ((Below.refl _ _).drew).trans hb4; have y0 := (B4.cell (p := ⟨w.heap.size, 0, Option.none⟩) hlo).trans q0; have y1 := (B4.cell (p := ⟨w.heap.size, 1, Option.none⟩) hlo).trans q1; have y2 := (B4.cell (p := ⟨w.heap.size, 2, Option.none⟩) hlo).trans q2; have y3 := (B4.cell (p := ⟨w.heap.size, 3, Option.none⟩) hlo).trans q3; have y4 := (B4.cell (p := ⟨w.heap.size, 4, Option.none⟩) hlo).trans q4; have z0 := (B4.cell (p := ⟨b, m * 5, Option.none⟩) hb).trans k0; have z1 := (B4.cell (p := ⟨b, m * 5 + 1, Option.none⟩) hb).trans k1; have z2 := (B4.cell (p := ⟨b, m * 5 + 2, Option.none⟩) hb).trans k2; have z3 := (B4.cell (p := ⟨b, m * 5 + 3, Option.none⟩) hb).trans k3; have z4 := (B4.cell (p := ⟨b, m * 5 + 4, Option.none⟩) hb).trans k4; clear hb4
        refine hK.out _ _ (⟨y0, y1, y2, y3, y4, z0, z1, z2, z3, z4⟩) (fun hHeld => ?_)
        clear hK K
        try simp only [Act.put, List.setIfInBounds_toArray, List.set_cons_zero, List.set_cons_succ, List.getElem_toArray, List.getElem_cons_zero, List.getElem_cons_succ]
        refine wpAnyH_take (i := 10) (v := ?_) rfl (by kernel_rfl) (by kernel_rfl) (by kernel_rfl) (fun _ _ _ h => h) (Or.inl ⟨by rfl, ?_⟩) (by assumption) ?_
        rotate_left
        · (intro w hSw; (try dsimp only at hSw); first | (go_simp; done) | (go_simp; with_reducible rfl))
        try simp only [Act.put, List.setIfInBounds_toArray, List.set_cons_zero, List.set_cons_succ, List.getElem_toArray, List.getElem_cons_zero, List.getElem_cons_succ]
        refine wpAnyH_done (by kernel_rfl) ?_ _
        go_wp2_with fail
        clear q0 q1 q2 q3 q4 k0 k1 k2 k3 k4 z0 z1 z2 z3 z4 HA hHeld hbw hlo ha
        by_cases hck : c = m + 1
        · subst hck
          obtain rfl : n = m + 1 := by omega
          obtain ⟨i0, hi0, hz0, hz1, hz2⟩ := info_parts co_info
          have HI0 := Lib.hid hi0
          have HI1 := Lib.hid hz0
          have HI2 := Lib.hid hz1
          have HI3 := Lib.hid hz2
          have hW := Lib.hid (bel_trans hb3.out B4)
          have hOW := Lib.hid (OrdAt.carry hO.out B4)
          have hrW := own_keep hrow.out hW.out
          have hrd := RdS.ofOwn hrW
          have RD1 : Hid (∀ W', Below w4.heap.size w4 W' → RdS W' w4.heap.size (some ⟨b, 0, Option.none⟩) (m + 1) 5 (((rowD os D).take (m + 1)).flatMap co1)) := Lib.hid (fun W' hb => by
            have := (hrd.head (k := m + 1) (Nat.le_refl _)).carry hb
            rw [flat_take5] at this
            exact this)
          have RD2 : Hid (∀ W', Below w4.heap.size w4 W' → RdS W' w4.heap.size (some ⟨b, 0, Option.none⟩) (0) 5 (((rowD os D).drop (m + 1)).flatMap co1)) := Lib.hid (fun W' hb => by
            rw [show (rowD os D).drop (m + 1) = [] from List.drop_eq_nil_of_le (by rw [HN.out]; omega)]
            exact RdS.nothing _ _ _ _)
          have OW0 := Lib.hid (fun W' (h : w4.heap.size ≤ W'.heap.size) => own_empty W' 37 w4.heap.size 5 h)
          have KX := Lib.hid (fun W' (hb : Below w4.heap.size w4 W') => (OrdAt.carry hOW.out hb).cells)
          have HPUT : Hid (∀ (W' : World) (v : Value), W'.ownsRow w4.heap.size 37 5 v (m + 1 + 1 + (0)) ((((rowD os D).take (m + 1)).flatMap co1 ++ [.int .i64 oi, .int .i64 oo, .int .i64 os, .int .i64 on, .int .i64 ou]) ++ ((rowD os D).drop (m + 1)).flatMap co1) → W'.ownsRow B 37 5 v (putC ⟨oi, oo, os, on, ou⟩ (rowD os D)).length ((putC ⟨oi, oo, os, on, ou⟩ (rowD os D)).flatMap co1)) := Lib.hid (fun W' v ho => by
            obtain ⟨f1, f2⟩ := put_flat HCUT.out
            rw [f1, f2, HN.out]
            rw [show 0 = m + 1 - (m + 1) by omega] at ho
            exact own_wider ho (Nat.le_trans HB.out hW.out.size))
          have hgw := (HL.out w (Below.refl _ _)).there
          have HGR : Hid (¬ w.heap.size = g) := Lib.hid (by omega)
          clear hi0 hz0 hz1 hz2 hrW hrd hO hb3 B4 HSo
          obtain ⟨r, hr⟩ : ∃ r, w.heap.size = r := ⟨_, rfl⟩
          rw [hr] at KX hOW HGR y0 y1 y2 y3 y4 ⊢
          have q1 : ((m : Int) + 1) ≤ ((m + 1 : Nat) : Int) := by omega
          have q2 : ((m + 1 : Nat) : Int) ≤ ((m + 1 : Nat) : Int) := by omega
          have q5 : m + 1 ≤ m + 1 := (Nat.le_refl _)
          have q9 : ((m : Int) + 1) ≤ ((m + 1 : Nat) : Int) := by omega
          have q8 : (0 : Int) ≤ ((m : Int) + 1) := by omega
          have q7 : (((m : Int) + 1)).toNat = m + 1 := by omega
          have hlo : r < w4.heap.size := Box.there hOW.out
          go_region_held3 (fun w' => World.cell? w' ⟨r, 0, Option.none⟩ = some (.int .i64 oi) ∧ World.cell? w' ⟨r, 1, Option.none⟩ = some (.int .i64 oo) ∧ World.cell? w' ⟨r, 2, Option.none⟩ = some (.int .i64 os) ∧ World.cell? w' ⟨r, 3, Option.none⟩ = some (.int .i64 on) ∧ World.cell? w' ⟨r, 4, Option.none⟩ = some (.int .i64 ou)) (first | exact ⟨y0, y1, y2, y3, y4⟩ | exact KX.out _ HB7.out | exact KX.out _ HB3.out | exact KX.out _ (bel_new w4 _).drew | exact KX.out _ (bel_alloc (bel_new w4 _) _).drew | exact KX.out _ (bel_alloc HB3.out _)) ((first
            | (refine step_appendS rfl (.tmp 56) (.tmp 59) _ rfl w4.heap.size 37 i0 _ 5 40 Try.underlying27 HI0.out HI1.out HI2.out HI3.out rfl (by omega) (.slice (some ⟨_, 0, Option.none⟩) 0 0) 0 [] rfl (by first | exact (OW0.out w4 (Nat.le_refl _)).drew | exact (own_alloc (OW0.out w4 (Nat.le_refl _)) _).drew | exact (own_empty_at (w4.alloc _) _ _ _ _ (by simp) (by simp)).drew) (some ⟨b, 0, Option.none⟩) (m + 1) (m + 1) (by intro h; first | (cases h; done) | exact hc0) (((rowD os D).take (m + 1)).flatMap co1) rfl (RD1.out _ (by first | exact (bel_new w4 _).drew | exact (bel_alloc (bel_new w4 _) _).drew)) (cos_one _) (by simp only [maxLen]; omega) (by omega) (by simp <;> omega) ?_; intro v3 w3 hown3 hgr3 _; rw [Nat.zero_add, List.nil_append] at hown3; obtain ⟨A3, c3, rfl⟩ := own_slice hown3; have HO3 := Lib.hid hown3; have hb3 : Below w4.heap.size w4 w3 := (by first | exact (bel_new w4 _).drew.grown hgr3 (by simp <;> omega) (by simp [Value.ownBlock] <;> omega) | exact (bel_alloc (bel_new w4 _) _).drew.grown hgr3 (by simp <;> omega) (by simp [Value.ownBlock] <;> omega)); (try (have HX3 := Lib.hid (cells_grown (l := [.int .i64 oi, .int .i64 oo, .int .i64 os, .int .i64 on, .int .i64 ou]) (by first | exact cells_drew (cells_new (w4.alloc (.cells #[] 37)) [.int .i64 oi, .int .i64 oo, .int .i64 os, .int .i64 on, .int .i64 ou] _ (g := w4.heap.size + 1) (by simp)) | exact cells_drew (cells_new2 w4 [.int .i64 oi, .int .i64 oo, .int .i64 os, .int .i64 on, .int .i64 ou] _ _)) hgr3 (by simp)))); have HB3 := Lib.hid hb3; clear hown3 hgr3 hb3)
            | (refine step_append_at rfl (.tmp 60) (.tmp 62) _ rfl w4.heap.size 37 i0 _ 5 40 Try.underlying27 HI0.out HI1.out HI2.out HI3.out rfl (by omega) (.slice A3 (m + 1) c3) (m + 1) _ rfl (by first | exact HO3.out | exact own_alloc HO3.out _) ⟨_, 0, Option.none⟩ 1 1 [.int .i64 oi, .int .i64 oo, .int .i64 os, .int .i64 on, .int .i64 ou] rfl rfl (by first | exact cells_new _ _ _ rfl | exact HX3.out) (co1_one ⟨oi, oo, os, on, ou⟩) (by simp only [maxLen]; omega) (by omega) (by have := HB3.out.size; simp; omega) ?_; intro v7 w7 hown7 hgr7 _; obtain ⟨A7, c7, rfl⟩ := own_slice hown7; have hb7 : Below w4.heap.size w4 w7 := (by first | exact (bel_alloc HB3.out _).grown hgr7 (by have := HB3.out.size; simp; omega) (fun k hk => (HO3.out.lt k hk).1) | exact HB3.out.grown hgr7 HB3.out.size (fun k hk => (HO3.out.lt k hk).1)); have HB7 := Lib.hid hb7; have HO7 := Lib.hid hown7; clear hown7 hgr7 hb7)
            ))
          all_goals
            have hOW0 := hOW
            replace hOW := Lib.hid (OrdAt.carry hOW.out HB7.out)
            obtain ⟨s0, s1, s2, s3, s4⟩ := hOW.out.cells
            clear y0 y1 y2 y3 y4 KX
            go_wp2_with fail
            go_region_held3 (fun w' => World.cell? w' ⟨r, 2, Option.none⟩ = some (.int .i64 os)) (first | exact s2 | exact t2 | exact x2) ((first
              | (refine step_appendS rfl (.tmp 67) (.tmp 70) _ rfl w4.heap.size 37 i0 _ 5 40 Try.underlying27 HI0.out HI1.out HI2.out HI3.out rfl (by omega) (.slice A7 (m + 1 + 1) c7) (m + 1 + 1) _ rfl (by first | exact HO7.out | exact HO7.out.drew) (some ⟨b, 0, Option.none⟩) (0) (0) (by intro h; first | (cases h; done) | rfl | omega) (((rowD os D).drop (m + 1)).flatMap co1) rfl (RD2.out _ (by first | exact HB7.out | exact HB7.out.drew)) (cos_one _) (by simp only [maxLen]; omega) (by omega) (by first | exact HB7.out.size | exact HB7.out.drew.size) ?_; intro v8 w8 hown8 hgr8 _; obtain ⟨A8, c8, rfl⟩ := own_slice hown8; have hb8 : Below w4.heap.size w4 w8 := (by first | exact HB7.out.grown hgr8 HB7.out.size (fun k hk => (HO7.out.lt k hk).1) | exact HB7.out.drew.grown hgr8 HB7.out.size (fun k hk => (HO7.out.lt k hk).1)); have t2 : w8.cell? ⟨r, 2, Option.none⟩ = some (.int .i64 os) := (OrdAt.carry hOW0.out hb8).cells.2.2.1; have HB8 := Lib.hid hb8; have HO8 := Lib.hid (HPUT.out w8 _ hown8); clear hown8 hgr8 hb8)
              | (go_at_call 34; refine (rput_any (HL.out _ (bel_trans hW.out (by first | exact HB8.out | exact HB8.out.drew))) hsi (l := putC ⟨oi, oo, os, on, ou⟩ (rowD os D)) (by first | exact HO8.out | exact HO8.out.drew)).mono ?_; rintro e w9 ⟨rfl, HP9, hc9⟩; have HC9 := Lib.hid ((Chg.of_below (bel_trans hW.out (by first | exact HB8.out | exact HB8.out.drew)) (fun j => j = g)).then hc9 (fun _ _ h => h)); replace HP9 := Lib.hid HP9; have x2 : w9.cell? ⟨r, 2, Option.none⟩ = some (.int .i64 os) := hc9.cell (by first | exact t2 | exact (show _ from t2)) HGR.out; clear hc9)))
            all_goals
              go_wp2_with fail
              go_ret
              exact ⟨rfl, HP9.out, HC9.out⟩
        · skip
          obtain ⟨i0, hi0, hz0, hz1, hz2⟩ := info_parts co_info
          have HI0 := Lib.hid hi0
          have HI1 := Lib.hid hz0
          have HI2 := Lib.hid hz1
          have HI3 := Lib.hid hz2
          have hW := Lib.hid (bel_trans hb3.out B4)
          have hOW := Lib.hid (OrdAt.carry hO.out B4)
          have hrW := own_keep hrow.out hW.out
          have hrd := RdS.ofOwn hrW
          have RD1 : Hid (∀ W', Below w4.heap.size w4 W' → RdS W' w4.heap.size (some ⟨b, 0, Option.none⟩) (m + 1) 5 (((rowD os D).take (m + 1)).flatMap co1)) := Lib.hid (fun W' hb => by
            have := (hrd.head (k := m + 1) hk).carry hb
            rw [flat_take5] at this
            exact this)
          have RD2 : Hid (∀ W', Below w4.heap.size w4 W' → RdS W' w4.heap.size (some ⟨b, (m + 1) * 5, Option.none⟩) (n - (m + 1)) 5 (((rowD os D).drop (m + 1)).flatMap co1)) := Lib.hid (fun W' hb => by
            have := (hrd.tail (k := m + 1) hk).carry hb
            rw [flat_drop5, Nat.zero_add] at this
            exact this)
          have OW0 := Lib.hid (fun W' (h : w4.heap.size ≤ W'.heap.size) => own_empty W' 37 w4.heap.size 5 h)
          have KX := Lib.hid (fun W' (hb : Below w4.heap.size w4 W') => (OrdAt.carry hOW.out hb).cells)
          have HPUT : Hid (∀ (W' : World) (v : Value), W'.ownsRow w4.heap.size 37 5 v (m + 1 + 1 + (n - (m + 1))) ((((rowD os D).take (m + 1)).flatMap co1 ++ [.int .i64 oi, .int .i64 oo, .int .i64 os, .int .i64 on, .int .i64 ou]) ++ ((rowD os D).drop (m + 1)).flatMap co1) → W'.ownsRow B 37 5 v (putC ⟨oi, oo, os, on, ou⟩ (rowD os D)).length ((putC ⟨oi, oo, os, on, ou⟩ (rowD os D)).flatMap co1)) := Lib.hid (fun W' v ho => by
            obtain ⟨f1, f2⟩ := put_flat HCUT.out
            rw [f1, f2, HN.out]
            rw [show n - (m + 1) = n - (m + 1) by omega] at ho
            exact own_wider ho (Nat.le_trans HB.out hW.out.size))
          have hgw := (HL.out w (Below.refl _ _)).there
          have HGR : Hid (¬ w.heap.size = g) := Lib.hid (by omega)
          clear hi0 hz0 hz1 hz2 hrW hrd hO hb3 B4 HSo
          obtain ⟨r, hr⟩ : ∃ r, w.heap.size = r := ⟨_, rfl⟩
          rw [hr] at KX hOW HGR y0 y1 y2 y3 y4 ⊢
          have q1 : ((m : Int) + 1) ≤ (n : Int) := by omega
          have q2 : (n : Int) ≤ (c : Int) := by omega
          have q5 : m + 1 ≤ n := hk
          have q9 : ((m : Int) + 1) ≤ (c : Int) := by omega
          have q8 : (0 : Int) ≤ ((m : Int) + 1) := by omega
          have q7 : (((m : Int) + 1)).toNat = m + 1 := by omega
          have hlo : r < w4.heap.size := Box.there hOW.out
          go_region_held3 (fun w' => World.cell? w' ⟨r, 0, Option.none⟩ = some (.int .i64 oi) ∧ World.cell? w' ⟨r, 1, Option.none⟩ = some (.int .i64 oo) ∧ World.cell? w' ⟨r, 2, Option.none⟩ = some (.int .i64 os) ∧ World.cell? w' ⟨r, 3, Option.none⟩ = some (.int .i64 on) ∧ World.cell? w' ⟨r, 4, Option.none⟩ = some (.int .i64 ou)) (first | exact ⟨y0, y1, y2, y3, y4⟩ | exact KX.out _ HB7.out | exact KX.out _ HB3.out | exact KX.out _ (bel_new w4 _).drew | exact KX.out _ (bel_alloc (bel_new w4 _) _).drew | exact KX.out _ (bel_alloc HB3.out _)) ((first
            | (refine step_appendS rfl (.tmp 56) (.tmp 59) _ rfl w4.heap.size 37 i0 _ 5 40 Try.underlying27 HI0.out HI1.out HI2.out HI3.out rfl (by omega) (.slice (some ⟨_, 0, Option.none⟩) 0 0) 0 [] rfl (by first | exact (OW0.out w4 (Nat.le_refl _)).drew | exact (own_alloc (OW0.out w4 (Nat.le_refl _)) _).drew | exact (own_empty_at (w4.alloc _) _ _ _ _ (by simp) (by simp)).drew) (some ⟨b, 0, Option.none⟩) (m + 1) c (by intro h; first | (cases h; done) | exact hc0) (((rowD os D).take (m + 1)).flatMap co1) rfl (RD1.out _ (by first | exact (bel_new w4 _).drew | exact (bel_alloc (bel_new w4 _) _).drew)) (cos_one _) (by simp only [maxLen]; omega) (by omega) (by simp <;> omega) ?_; intro v3 w3 hown3 hgr3 _; rw [Nat.zero_add, List.nil_append] at hown3; obtain ⟨A3, c3, rfl⟩ := own_slice hown3; have HO3 := Lib.hid hown3; have hb3 : Below w4.heap.size w4 w3 := (by first | exact (bel_new w4 _).drew.grown hgr3 (by simp <;> omega) (by simp [Value.ownBlock] <;> omega) | exact (bel_alloc (bel_new w4 _) _).drew.grown hgr3 (by simp <;> omega) (by simp [Value.ownBlock] <;> omega)); (try (have HX3 := Lib.hid (cells_grown (l := [.int .i64 oi, .int .i64 oo, .int .i64 os, .int .i64 on, .int .i64 ou]) (by first | exact cells_drew (cells_new (w4.alloc (.cells #[] 37)) [.int .i64 oi, .int .i64 oo, .int .i64 os, .int .i64 on, .int .i64 ou] _ (g := w4.heap.size + 1) (by simp)) | exact cells_drew (cells_new2 w4 [.int .i64 oi, .int .i64 oo, .int .i64 os, .int .i64 on, .int .i64 ou] _ _)) hgr3 (by simp)))); have HB3 := Lib.hid hb3; clear hown3 hgr3 hb3)
            | (refine step_append_at rfl (.tmp 60) (.tmp 62) _ rfl w4.heap.size 37 i0 _ 5 40 Try.underlying27 HI0.out HI1.out HI2.out HI3.out rfl (by omega) (.slice A3 (m + 1) c3) (m + 1) _ rfl (by first | exact HO3.out | exact own_alloc HO3.out _) ⟨_, 0, Option.none⟩ 1 1 [.int .i64 oi, .int .i64 oo, .int .i64 os, .int .i64 on, .int .i64 ou] rfl rfl (by first | exact cells_new _ _ _ rfl | exact HX3.out) (co1_one ⟨oi, oo, os, on, ou⟩) (by simp only [maxLen]; omega) (by omega) (by have := HB3.out.size; simp; omega) ?_; intro v7 w7 hown7 hgr7 _; obtain ⟨A7, c7, rfl⟩ := own_slice hown7; have hb7 : Below w4.heap.size w4 w7 := (by first | exact (bel_alloc HB3.out _).grown hgr7 (by have := HB3.out.size; simp; omega) (fun k hk => (HO3.out.lt k hk).1) | exact HB3.out.grown hgr7 HB3.out.size (fun k hk => (HO3.out.lt k hk).1)); have HB7 := Lib.hid hb7; have HO7 := Lib.hid hown7; clear hown7 hgr7 hb7)
            ))
          all_goals
            have hOW0 := hOW
            replace hOW := Lib.hid (OrdAt.carry hOW.out HB7.out)
            obtain ⟨s0, s1, s2, s3, s4⟩ := hOW.out.cells
            clear y0 y1 y2 y3 y4 KX
            go_wp2_with fail
            go_region_held3 (fun w' => World.cell? w' ⟨r, 2, Option.none⟩ = some (.int .i64 os)) (first | exact s2 | exact t2 | exact x2) ((first
              | (refine step_appendS rfl (.tmp 67) (.tmp 70) _ rfl w4.heap.size 37 i0 _ 5 40 Try.underlying27 HI0.out HI1.out HI2.out HI3.out rfl (by omega) (.slice A7 (m + 1 + 1) c7) (m + 1 + 1) _ rfl (by first | exact HO7.out | exact HO7.out.drew) (some ⟨b, (m + 1) * 5, Option.none⟩) (n - (m + 1)) (c - (m + 1)) (by intro h; first | (cases h; done) | rfl | omega) (((rowD os D).drop (m + 1)).flatMap co1) rfl (RD2.out _ (by first | exact HB7.out | exact HB7.out.drew)) (cos_one _) (by simp only [maxLen]; omega) (by omega) (by first | exact HB7.out.size | exact HB7.out.drew.size) ?_; intro v8 w8 hown8 hgr8 _; obtain ⟨A8, c8, rfl⟩ := own_slice hown8; have hb8 : Below w4.heap.size w4 w8 := (by first | exact HB7.out.grown hgr8 HB7.out.size (fun k hk => (HO7.out.lt k hk).1) | exact HB7.out.drew.grown hgr8 HB7.out.size (fun k hk => (HO7.out.lt k hk).1)); have t2 : w8.cell? ⟨r, 2, Option.none⟩ = some (.int .i64 os) := (OrdAt.carry hOW0.out hb8).cells.2.2.1; have HB8 := Lib.hid hb8; have HO8 := Lib.hid (HPUT.out w8 _ hown8); clear hown8 hgr8 hb8)
              | (go_at_call 34; refine (rput_any (HL.out _ (bel_trans hW.out (by first | exact HB8.out | exact HB8.out.drew))) hsi (l := putC ⟨oi, oo, os, on, ou⟩ (rowD os D)) (by first | exact HO8.out | exact HO8.out.drew)).mono ?_; rintro e w9 ⟨rfl, HP9, hc9⟩; have HC9 := Lib.hid ((Chg.of_below (bel_trans hW.out (by first | exact HB8.out | exact HB8.out.drew)) (fun j => j = g)).then hc9 (fun _ _ h => h)); replace HP9 := Lib.hid HP9; have x2 : w9.cell? ⟨r, 2, Option.none⟩ = some (.int .i64 os) := hc9.cell (by first | exact t2 | exact (show _ from t2)) HGR.out; clear hc9)))
            all_goals
              go_wp2_with fail
              go_ret
              exact ⟨rfl, HP9.out, HC9.out⟩
end
end Go.Proofs.Ytekppjigckjgiaa

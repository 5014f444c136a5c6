/- straddlelaw11.OrderAny returns true. -/
import Derived.Test.YtegfionpeimecaaDoorOrdKnown
import Derived.Test.YtegfionpeimecaaDoorOrdRefChk
import Derived.Test.YtegfionpeimecaaDoorOrdRefText
import Derived.Test.YtegfionpeimecaaDoorGrdOf
import Derived.Test.YtegfionpeimecaaDoorGrdRefChk
import Derived.Test.YtegfionpeimecaaDoorAtTell
import Derived.Test.YtegfionpeimecaaDoorOpenOrd
import Derived.Deep.RegionHeld3
set_option linter.unusedSimpArgs false
namespace Go.Proofs.YtegfionpeimecaaDoor
open Go.RowKit Go.Mem1 Go.GridMath Go.OrdMath

theorem wrong_field (A : Option Addr) (n c : Nat) (x : Int) (w : World) : (Instr.field 29 (.agg #[.slice A n c, .int .i64 x]) 1).run Tryd.prog w = .ok (.int .i64 x) w := by kernel_rfl
theorem ErrType.on {w w' : World} (h : ErrType w) (hb : Below w.heap.size w w') : ErrType w' := (hb.cell (p := ⟨0, 0, none⟩) h.lt).trans h
/-- Whatever is known of the order's box. -/
def OBox (W1 : World) (g : Nat) (o : Ord) : Prop := ∀ w', Below W1.heap.size W1 w' → w'.cell? ⟨g, 0, none⟩ = some (.int .i64 o.id) ∧ w'.cell? ⟨g, 1, none⟩ = some (.int .i64 o.own) ∧ w'.cell? ⟨g, 2, none⟩ = some (.int .i64 o.sd) ∧ w'.cell? ⟨g, 3, none⟩ = some (.int .i64 o.pr) ∧ w'.cell? ⟨g, 4, none⟩ = some (.int .i64 o.q) ∧ w'.cell? ⟨g, 5, none⟩ = some (.bool o.cu) ∧ w'.cell? ⟨g, 6, none⟩ = some (.int .i64 o.lf)
theorem OBox.of {W1 : World} {g : Nat} {o : Ord} (hx : Box W1 g 23 #[.int .i64 o.id, .int .i64 o.own, .int .i64 o.sd, .int .i64 o.pr, .int .i64 o.q, .bool o.cu, .int .i64 o.lf]) : OBox W1 g o := fun w' hb => by
  have h := hx.kept_below hb hx.there
  exact ⟨(h.reads 0).trans rfl, (h.reads 1).trans rfl, (h.reads 2).trans rfl, (h.reads 3).trans rfl, (h.reads 4).trans rfl, (h.reads 5).trans rfl, (h.reads 6).trans rfl⟩
set_option maxRecDepth 100000 in
set_option maxHeartbeats 2000000 in
theorem oany_long (o : Ord) (A : Option Addr) (n c : Nat) (pr : Int) (w : World) (hn : 8 < n) :
    Calls Tryd.prog 3 #[ordV o, .slice A n c, .int .i64 pr] w fun e w' => e = .returned (.bool true) ∧ Below w.heap.size w w' := by
  obtain ⟨i, ow, s, p, q, cu, lf⟩ := o
  have HK := Lib.hid (fun w' => oknown_ok w')
  have t8 : decide ((8 : Int) < (n : Int)) = true := by simp; omega
  have WF := wrong_field
  go_enter Tryd.func3, Tryd.ntmps3
  go_wp2_with (go_at_call 7; refine (HK.out _).mono ?_; rintro e w1 ⟨rfl, B1⟩; replace B1 := Lib.hid B1)
  go_ret
  exact ⟨rfl, bel_trans (bel_new _ _) B1.out⟩
set_option maxRecDepth 100000 in
set_option maxHeartbeats 2000000 in
theorem oany_bad (o : Ord) (A : Option Addr) (n c : Nat) (l : List Stp) (pr : Int) (w : World) (h : TabAt w w.heap.size A n l) (hn : n ≤ 8) (k x : Nat) (hc : chk l = some (k, (x : Int))) :
    Calls Tryd.prog 3 #[ordV o, .slice A n c, .int .i64 pr] w fun e w' => e = .returned (.bool true) ∧ Below w.heap.size w w' := by
  obtain ⟨i, ow, s, p, q, cu, lf⟩ := o
  have HK := Lib.hid (fun w' => oknown_ok w')
  have t8 : decide ((8 : Int) < (n : Int)) = false := by simp; omega
  have hx' : ((x : Int) != 0) = true := by have := chk_bound hc; simp; omega
  have HC := Lib.hid hc
  have H := Lib.hid h
  clear hc h
  obtain ⟨W1, hW1⟩ : ∃ W1, w.alloc (.cells #[.int .i64 i, .int .i64 ow, .int .i64 s, .int .i64 p, .int .i64 q, .bool cu, .int .i64 lf] 23) = W1 := ⟨_, rfl⟩
  have B1 : Below w.heap.size w W1 := by rw [← hW1]; exact bel_new _ _
  have hx : Box W1 w.heap.size 23 #[.int .i64 i, .int .i64 ow, .int .i64 s, .int .i64 p, .int .i64 q, .bool cu, .int .i64 lf] := by rw [← hW1]; exact Box.fresh _ _ _ rfl
  have HB := Lib.hid B1
  clear B1 hx
  have WF := wrong_field
  go_enter Tryd.func3, Tryd.ntmps3
  go_wp2_with ((first
    | (go_at_call 7; refine (HK.out _).mono ?_; rintro e w1 ⟨rfl, B1⟩; replace B1 := Lib.hid (bel_trans HB.out B1))
    | (go_at_call 9; refine (of_any A n c l w1 ((H.out.carry B1.out).wider B1.out.size) (by omega)).mono ?_; rintro e w2 ⟨A1, c1, rfl, T2, B2⟩; replace B2 := Lib.hid (bel_trans B1.out B2); replace T2 := Lib.hid T2)
    | (go_at_call 8; refine (rchk_any A1 n c1 l w2 T2.out).mono ?_; intro e w3 hch; unfold RChk at hch; rw [HC.out] at hch; obtain ⟨hb3, A3, n3, c3, rfl, hP⟩ := hch; have B3 := Lib.hid (bel_trans B2.out hb3); clear hb3 hP)))
  go_ret
  exact ⟨rfl, by first | exact B3.out | exact bel_alloc B3.out _⟩
/-- Check at the law: nothing wrong, or a Fault. -/
theorem chk_none' {o : Ord} {A : Option Addr} {n c : Nat} {l : List Stp} {w : World} (hK : chkO o (onT l o.pr) = none) (h : TabAt w w.heap.size A n l) (hc : chk l = none) : Calls Tryd.prog 11 #[ordV o, .slice A n c] w fun e w' => e = .returned .nilIface ∧ Below w.heap.size w w' :=
  (ocheck_any o A n c l w h hc).mono fun e w' hv => by unfold OChk at hv; rw [hK] at hv; exact hv
theorem chk_some' {o : Ord} {A : Option Addr} {n c : Nat} {l : List Stp} {w : World} {k x : Nat} (hK : chkO o (onT l o.pr) = some (k, x)) (h : TabAt w w.heap.size A n l) (hc : chk l = none) : Calls Tryd.prog 11 #[ordV o, .slice A n c] w (fun e w' => ∃ b, (e = .returned (.iface 57 (.pointer (some ⟨b, 0, none⟩))) ∧ Hid (IsErr w' w'.heap.size [(ordB, (k : Int))] (x : Int) (.iface 57 (.pointer (some ⟨b, 0, none⟩))))) ∧ Below w.heap.size w w') :=
  (ocheck_any o A n c l w h hc).mono fun e w' hv => by
    unfold OChk at hv; rw [hK] at hv
    obtain ⟨h1, b, h2, h3⟩ := hv
    exact ⟨b, ⟨h2, h3⟩, h1⟩
theorem rchk_none' {o : Ord} {A : Option Addr} {n c : Nat} {l : List Stp} {w : World} (hK : chkO o (onT l o.pr) = none) (h : TabAt w w.heap.size A n l) (hc : chk l = none) : Calls Tryd.prog 12 #[ordV o, .slice A n c] w fun e w' => e = .returned (.agg #[.slice none 0 0, .int .i64 0]) ∧ Below w.heap.size w w' :=
  (rocheck_any o A n c l w h hc).mono fun e w' hv => by unfold ROChk at hv; rw [hK] at hv; exact hv
theorem rchk_some' {o : Ord} {A : Option Addr} {n c : Nat} {l : List Stp} {w : World} {k x : Nat} (hK : chkO o (onT l o.pr) = some (k, x)) (h : TabAt w w.heap.size A n l) (hc : chk l = none) : Calls Tryd.prog 12 #[ordV o, .slice A n c] w (fun e w' => ∃ b, (e = .returned (.agg #[.slice (some ⟨b, 0, none⟩) 1 1, .int .i64 (x : Int)]) ∧ Hid (PartsAt w' w'.heap.size (some ⟨b, 0, none⟩) 1 [(ordB, (k : Int))])) ∧ Below w.heap.size w w') :=
  (rocheck_any o A n c l w h hc).mono fun e w' hv => by
    unfold ROChk at hv; rw [hK] at hv
    obtain ⟨b, h1, h2, h3, h4, h5⟩ := hv
    refine ⟨b, ⟨h1, rfl, fun i y hi => ?_⟩, h5⟩
    match i, hi with
    | 0, hi =>
      injection hi with hi
      subst hi
      exact ⟨b, 0, rfl, h2, by simpa [ordB, ordW] using h3, by simpa using h4⟩
set_option maxRecDepth 100000 in
set_option maxHeartbeats 8000000 in
theorem oany_good (o : Ord) (A : Option Addr) (n c : Nat) (l : List Stp) (pr : Int) (w : World) (hg : ErrType w) (ht : Tab w) (ho : OkO o) (h : TabAt w w.heap.size A n l) (hn : n ≤ 8) (hc : chk l = none) :
    Calls Tryd.prog 3 #[ordV o, .slice A n c, .int .i64 pr] w fun e w' => e = .returned (.bool true) ∧ Below w.heap.size w w' := by
  obtain ⟨i, ow, s, p, q, cu, lf⟩ := o
  have HK := Lib.hid (fun w' => oknown_ok w')
  have t8 : decide ((8 : Int) < (n : Int)) = false := by simp; omega
  have HC := Lib.hid hc
  have H := Lib.hid h
  clear h
  obtain ⟨W1, hW1⟩ : ∃ W1, w.alloc (.cells #[.int .i64 i, .int .i64 ow, .int .i64 s, .int .i64 p, .int .i64 q, .bool cu, .int .i64 lf] 23) = W1 := ⟨_, rfl⟩
  have B1 : Below w.heap.size w W1 := by rw [← hW1]; exact bel_new _ _
  have hx : Box W1 w.heap.size 23 #[.int .i64 i, .int .i64 ow, .int .i64 s, .int .i64 p, .int .i64 q, .bool cu, .int .i64 lf] := by rw [← hW1]; exact Box.fresh _ _ _ rfl
  have HB := Lib.hid B1
  have KX := Lib.hid (OBox.of (o := ⟨i, ow, s, p, q, cu, lf⟩) hx)
  clear B1 hx
  have WF := wrong_field
  go_enter Tryd.func3, Tryd.ntmps3
  go_wp2_with ((first
    | (go_at_call 7; refine (HK.out _).mono ?_; rintro e w1 ⟨rfl, K1⟩; replace K1 := Lib.hid K1; have B1 := Lib.hid (bel_trans HB.out K1.out))
    | (go_at_call 9; refine (of_any A n c l w1 ((H.out.carry B1.out).wider B1.out.size) (by omega)).mono ?_; rintro e w2 ⟨A1, c1, rfl, T2, B2⟩; have K2 := Lib.hid (bel_trans K1.out B2); replace B2 := Lib.hid (bel_trans B1.out B2); replace T2 := Lib.hid T2)
    | (go_at_call 8; refine (rchk_any A1 n c1 l w2 T2.out).mono ?_; intro e w3 hch; unfold RChk at hch; rw [HC.out] at hch; obtain ⟨hb3, rfl⟩ := hch; have K3 := Lib.hid (bel_trans K2.out hb3); have B3 := Lib.hid (bel_trans B2.out hb3); clear hb3)))
  have hb := Lib.hid (K3.out.drew)
  have hS := KX.out w3.drew hb.out
  have HG := Lib.hid hg
  clear hW1 HK K1 K2 K3 B1 B2 B3 T2 hc hg
  obtain ⟨KO, hKO⟩ : ∃ KO, chkO ⟨i, ow, s, p, q, cu, lf⟩ (onT l p) = KO := ⟨_, rfl⟩
  cases KO with
  | none =>
      have HKO := Lib.hid hKO
      clear hKO
      refine wp_region_held_drew (S := (fun w' => w'.cell? ⟨w.heap.size, 0, none⟩ = some (.int .i64 i) ∧ w'.cell? ⟨w.heap.size, 1, none⟩ = some (.int .i64 ow) ∧ w'.cell? ⟨w.heap.size, 2, none⟩ = some (.int .i64 s) ∧ w'.cell? ⟨w.heap.size, 3, none⟩ = some (.int .i64 p) ∧ w'.cell? ⟨w.heap.size, 4, none⟩ = some (.int .i64 q) ∧ w'.cell? ⟨w.heap.size, 5, none⟩ = some (.bool cu) ∧ w'.cell? ⟨w.heap.size, 6, none⟩ = some (.int .i64 lf))) (by kernel_rfl) (hS) (fun hHeld => ?_)
      refine wpAnyH_take (i := 0) (v := ?_) rfl (by kernel_rfl) (by kernel_rfl) (by kernel_rfl) (fun _ _ _ h => h) (Or.inl ⟨by rfl, ?_⟩) (by assumption) ?_
      rotate_left
      · (intro w hSw; (try dsimp only at hSw); first | (go_simp; done) | (go_simp; with_reducible rfl))
      try simp only [Act.put, List.setIfInBounds_toArray, List.set_cons_zero, List.set_cons_succ, List.getElem_toArray, List.getElem_cons_zero, List.getElem_cons_succ]
      refine wpAnyH_take (i := 1) (v := ?_) rfl (by kernel_rfl) (by kernel_rfl) (by kernel_rfl) (fun _ _ _ h => h) (Or.inl ⟨by rfl, ?_⟩) (by assumption) ?_
      rotate_left
      · (intro w hSw; (try dsimp only at hSw); first | (go_simp; done) | (go_simp; with_reducible rfl))
      try simp only [Act.put, List.setIfInBounds_toArray, List.set_cons_zero, List.set_cons_succ, List.getElem_toArray, List.getElem_cons_zero, List.getElem_cons_succ]
      refine wpAnyH_take (i := 3) (v := ?_) rfl (by kernel_rfl) (by kernel_rfl) (by kernel_rfl) (fun _ _ _ h => h) (Or.inl ⟨by rfl, ?_⟩) (by assumption) ?_
      rotate_left
      · (intro w hSw; (try dsimp only at hSw); first | (go_simp; done) | (go_simp; with_reducible rfl))
      try simp only [Act.put, List.setIfInBounds_toArray, List.set_cons_zero, List.set_cons_succ, List.getElem_toArray, List.getElem_cons_zero, List.getElem_cons_succ]
      refine wpAnyH_take (i := 5) (v := ?_) rfl (by kernel_rfl) (by kernel_rfl) (by kernel_rfl) (fun _ _ _ h => h) (Or.inl ⟨by rfl, ?_⟩) (by assumption) ?_
      rotate_left
      · (intro w hSw; (try dsimp only at hSw); first | (go_simp; done) | (go_simp; with_reducible rfl))
      try simp only [Act.put, List.setIfInBounds_toArray, List.set_cons_zero, List.set_cons_succ, List.getElem_toArray, List.getElem_cons_zero, List.getElem_cons_succ]
      refine wpAnyH_ready (rs := [2]) (by kernel_rfl) (by simp) ?_
      refine AllReadyH.cons rfl (fun K hK => ?_) AllReadyH.nil
      go_simp
      refine (chk_none' HKO.out ((H.out.carry (bel_trans HB.out hb.out)).wider (bel_trans HB.out hb.out).size) HC.out).mono ?_; rintro e w5 ⟨rfl, h2⟩; replace hb := Lib.hid (bel_trans hb.out h2); clear h2; dsimp only
      refine hK.out _ _ (KX.out _ hb.out) (fun hHeld => ?_)
      clear hK K
      try simp only [Act.put, List.setIfInBounds_toArray, List.set_cons_zero, List.set_cons_succ, List.getElem_toArray, List.getElem_cons_zero, List.getElem_cons_succ]
      refine wpAnyH_ready (rs := [4]) (by kernel_rfl) (by simp) ?_
      refine AllReadyH.cons rfl (fun K hK => ?_) AllReadyH.nil
      go_simp
      refine (oof_any ⟨i, ow, s, p, q, cu, lf⟩ _).mono ?_; rintro e w5 ⟨rfl, h2⟩; replace hb := Lib.hid (bel_trans hb.out h2); clear h2; dsimp only
      refine hK.out _ _ (KX.out _ hb.out) (fun hHeld => ?_)
      clear hK K
      try simp only [Act.put, List.setIfInBounds_toArray, List.set_cons_zero, List.set_cons_succ, List.getElem_toArray, List.getElem_cons_zero, List.getElem_cons_succ]
      refine wpAnyH_ready (rs := [6]) (by kernel_rfl) (by simp) ?_
      refine AllReadyH.cons rfl (fun K hK => ?_) AllReadyH.nil
      go_simp
      refine (of_any A n c l _ ((H.out.carry (bel_trans HB.out hb.out)).wider (bel_trans HB.out hb.out).size) (by omega)).mono ?_; rintro e w5 ⟨A5, c5, rfl, hT5, h2⟩; replace hT5 := Lib.hid hT5; replace hb := Lib.hid (bel_trans hb.out h2); clear h2; dsimp only
      refine hK.out _ _ (KX.out _ hb.out) (fun hHeld => ?_)
      clear hK K
      try simp only [Act.put, List.setIfInBounds_toArray, List.set_cons_zero, List.set_cons_succ, List.getElem_toArray, List.getElem_cons_zero, List.getElem_cons_succ]
      refine wpAnyH_ready (rs := [7]) (by kernel_rfl) (by simp) ?_
      refine AllReadyH.cons rfl (fun K hK => ?_) AllReadyH.nil
      go_simp
      refine (rchk_none' HKO.out hT5.out HC.out).mono ?_; rintro e w5 ⟨rfl, h2⟩; replace hb := Lib.hid (bel_trans hb.out h2); clear h2; dsimp only
      refine hK.out _ _ (KX.out _ hb.out) (fun hHeld => ?_)
      clear hK K
      try simp only [Act.put, List.setIfInBounds_toArray, List.set_cons_zero, List.set_cons_succ, List.getElem_toArray, List.getElem_cons_zero, List.getElem_cons_succ]
      refine wpAnyH_ready (rs := [8]) (by kernel_rfl) (by simp) ?_
      refine AllReadyH.cons rfl (fun K hK => ?_) AllReadyH.nil
      go_simp
      refine (tells_nil none 0 0 _).mono ?_; rintro e w5 ⟨rfl, h2⟩; replace hb := Lib.hid (bel_trans hb.out h2); clear h2; dsimp only
      refine hK.out _ _ (KX.out _ hb.out) (fun hHeld => ?_)
      clear hK K
      try simp only [Act.put, List.setIfInBounds_toArray, List.set_cons_zero, List.set_cons_succ, List.getElem_toArray, List.getElem_cons_zero, List.getElem_cons_succ]
      refine wpAnyH_take (i := 9) (v := ?_) rfl (by kernel_rfl) (by kernel_rfl) (by kernel_rfl) (fun _ _ _ h => h) (Or.inl ⟨by rfl, ?_⟩) (by assumption) ?_
      rotate_left
      · (intro w hSw; (try dsimp only at hSw); first | (go_simp; done) | (go_simp; with_reducible rfl))
      try simp only [Act.put, List.setIfInBounds_toArray, List.set_cons_zero, List.set_cons_succ, List.getElem_toArray, List.getElem_cons_zero, List.getElem_cons_succ]
      refine wpAnyH_take (i := 10) (v := ?_) rfl (by kernel_rfl) (by kernel_rfl) (by kernel_rfl) (fun _ _ _ h => h) (Or.inl ⟨by rfl, ?_⟩) (by assumption) ?_
      rotate_left
      · (intro w hSw; (try dsimp only at hSw); first | (go_simp; done) | (go_simp; with_reducible rfl))
      try simp only [Act.put, List.setIfInBounds_toArray, List.set_cons_zero, List.set_cons_succ, List.getElem_toArray, List.getElem_cons_zero, List.getElem_cons_succ]
      refine wpAnyH_take (i := 11) (v := ?_) rfl (by kernel_rfl) (by kernel_rfl) (by kernel_rfl) (fun _ _ _ h => h) (Or.inl ⟨by rfl, ?_⟩) (by assumption) ?_
      rotate_left
      · (intro w hSw; (try dsimp only at hSw); first | (go_simp; done) | (go_simp; with_reducible rfl))
      try simp only [Act.put, List.setIfInBounds_toArray, List.set_cons_zero, List.set_cons_succ, List.getElem_toArray, List.getElem_cons_zero, List.getElem_cons_succ]
      refine wpAnyH_take (i := 12) (v := ?_) rfl (by kernel_rfl) (by kernel_rfl) (by kernel_rfl) (fun _ _ _ h => h) (Or.inl ⟨by rfl, ?_⟩) (by assumption) ?_
      rotate_left
      · (intro w hSw; (try dsimp only at hSw); first | (go_simp; done) | (go_simp; with_reducible rfl))
      try simp only [Act.put, List.setIfInBounds_toArray, List.set_cons_zero, List.set_cons_succ, List.getElem_toArray, List.getElem_cons_zero, List.getElem_cons_succ]
      refine wpAnyH_take (i := 14) (v := ?_) rfl (by kernel_rfl) (by kernel_rfl) (by kernel_rfl) (fun _ _ _ h => h) (Or.inl ⟨by rfl, ?_⟩) (by assumption) ?_
      rotate_left
      · (intro w hSw; (try dsimp only at hSw); first | (go_simp; done) | (go_simp; with_reducible rfl))
      try simp only [Act.put, List.setIfInBounds_toArray, List.set_cons_zero, List.set_cons_succ, List.getElem_toArray, List.getElem_cons_zero, List.getElem_cons_succ]
      refine wpAnyH_take (i := 15) (v := ?_) rfl (by kernel_rfl) (by kernel_rfl) (by kernel_rfl) (fun _ _ _ h => h) (Or.inl ⟨by rfl, ?_⟩) (by assumption) ?_
      rotate_left
      · (intro w hSw; (try dsimp only at hSw); first | (go_simp; done) | (go_simp; with_reducible rfl))
      try simp only [Act.put, List.setIfInBounds_toArray, List.set_cons_zero, List.set_cons_succ, List.getElem_toArray, List.getElem_cons_zero, List.getElem_cons_succ]
      refine wpAnyH_ready (rs := [13]) (by kernel_rfl) (by simp) ?_
      refine AllReadyH.cons rfl (fun K hK => ?_) AllReadyH.nil
      go_simp
      refine (opp_any s _).mono ?_; rintro e w5 ⟨rfl, rfl⟩; dsimp only
      refine hK.out _ _ (KX.out _ hb.out) (fun hHeld => ?_)
      clear hK K
      try simp only [Act.put, List.setIfInBounds_toArray, List.set_cons_zero, List.set_cons_succ, List.getElem_toArray, List.getElem_cons_zero, List.getElem_cons_succ]
      refine wpAnyH_ready (rs := [16]) (by kernel_rfl) (by simp) ?_
      refine AllReadyH.cons rfl (fun K hK => ?_) AllReadyH.nil
      go_simp
      refine (ropp_any s _).mono ?_; rintro e w5 ⟨rfl, rfl⟩; dsimp only
      refine hK.out _ _ (KX.out _ hb.out) (fun hHeld => ?_)
      clear hK K
      try simp only [Act.put, List.setIfInBounds_toArray, List.set_cons_zero, List.set_cons_succ, List.getElem_toArray, List.getElem_cons_zero, List.getElem_cons_succ]
      refine wpAnyH_take (i := 17) (v := ?_) rfl (by kernel_rfl) (by kernel_rfl) (by kernel_rfl) (fun _ _ _ h => h) (Or.inl ⟨by rfl, ?_⟩) (by assumption) ?_
      rotate_left
      · (intro w hSw; (try dsimp only at hSw); first | (go_simp; done) | (go_simp; with_reducible rfl))
      try simp only [Act.put, List.setIfInBounds_toArray, List.set_cons_zero, List.set_cons_succ, List.getElem_toArray, List.getElem_cons_zero, List.getElem_cons_succ]
      refine wpAnyH_take (i := 18) (v := ?_) rfl (by kernel_rfl) (by kernel_rfl) (by kernel_rfl) (fun _ _ _ h => h) (Or.inl ⟨by rfl, ?_⟩) (by assumption) ?_
      rotate_left
      · (intro w hSw; (try dsimp only at hSw); first | (go_simp; done) | (go_simp; with_reducible rfl))
      try simp only [Act.put, List.setIfInBounds_toArray, List.set_cons_zero, List.set_cons_succ, List.getElem_toArray, List.getElem_cons_zero, List.getElem_cons_succ]
      refine wpAnyH_done (by kernel_rfl) ?_ _
      obtain ⟨k0, k1, k2, k3, k4, k5, k6⟩ := KX.out _ hb.out
      have Bfin := Lib.hid (bel_trans HB.out hb.out)
      by_cases hs : s = 1 ∨ s = 2
      · have hTab : Tab W1 := ht.keep HB.out
        have M1 := Lib.hid (fun w' => takes_any ⟨i, ow, s, p, q, cu, lf⟩ pr w')
        have M2 := Lib.hid (fun w' => rtakes_any ⟨i, ow, s, p, q, cu, lf⟩ pr w' hs)
        have M3 := Lib.hid (fun w' (hb : Below W1.heap.size W1 w') => otext_any numTFull ⟨i, ow, s, p, q, cu, lf⟩ w' (hTab.keep hb) ho.1 ho.2.1 ho.2.2.1 ho.2.2.2)
        have M4 := Lib.hid (fun w' => rotext_any ⟨i, ow, s, p, q, cu, lf⟩ w' hs ho.1 ho.2.1 ho.2.2.1 ho.2.2.2)
        generalize takesB ⟨i, ow, s, p, q, cu, lf⟩ pr = TK at *
        generalize textO dtx ⟨i, ow, s, p, q, cu, lf⟩ = TX at *
        have bb : (TK == TK) = true := by simp
        have xx : (TX.toList == TX.toList) = true := by simp
        rcases (show (s != 1) = false ∨ ((s != 1) = true ∧ (s != 2) = false) by rcases hs with rfl | rfl <;> simp) with t2 | ⟨t2, t3⟩
        all_goals
          clear hs
          go_wp2_with fail
          replace hb := Lib.hid (hb.out.drew)
          have hS2 := KX.out _ hb.out
          clear k0 k1 k2 k3 k4 k5 k6 Bfin
          refine wp_region_held_drew (S := (fun w' => w'.cell? ⟨w.heap.size, 0, none⟩ = some (.int .i64 i) ∧ w'.cell? ⟨w.heap.size, 1, none⟩ = some (.int .i64 ow) ∧ w'.cell? ⟨w.heap.size, 2, none⟩ = some (.int .i64 s) ∧ w'.cell? ⟨w.heap.size, 3, none⟩ = some (.int .i64 p) ∧ w'.cell? ⟨w.heap.size, 4, none⟩ = some (.int .i64 q) ∧ w'.cell? ⟨w.heap.size, 5, none⟩ = some (.bool cu) ∧ w'.cell? ⟨w.heap.size, 6, none⟩ = some (.int .i64 lf))) (by kernel_rfl) (hS2) (fun hHeld => ?_)
          refine wpAnyH_take (i := 0) (v := ?_) rfl (by kernel_rfl) (by kernel_rfl) (by kernel_rfl) (fun _ _ _ h => h) (Or.inl ⟨by rfl, ?_⟩) (by assumption) ?_
          rotate_left
          · (intro w hSw; (try dsimp only at hSw); first | (go_simp; done) | (go_simp; with_reducible rfl))
          try simp only [Act.put, List.setIfInBounds_toArray, List.set_cons_zero, List.set_cons_succ, List.getElem_toArray, List.getElem_cons_zero, List.getElem_cons_succ]
          refine wpAnyH_take (i := 1) (v := ?_) rfl (by kernel_rfl) (by kernel_rfl) (by kernel_rfl) (fun _ _ _ h => h) (Or.inl ⟨by rfl, ?_⟩) (by assumption) ?_
          rotate_left
          · (intro w hSw; (try dsimp only at hSw); first | (go_simp; done) | (go_simp; with_reducible rfl))
          try simp only [Act.put, List.setIfInBounds_toArray, List.set_cons_zero, List.set_cons_succ, List.getElem_toArray, List.getElem_cons_zero, List.getElem_cons_succ]
          refine wpAnyH_take (i := 3) (v := ?_) rfl (by kernel_rfl) (by kernel_rfl) (by kernel_rfl) (fun _ _ _ h => h) (Or.inl ⟨by rfl, ?_⟩) (by assumption) ?_
          rotate_left
          · (intro w hSw; (try dsimp only at hSw); first | (go_simp; done) | (go_simp; with_reducible rfl))
          try simp only [Act.put, List.setIfInBounds_toArray, List.set_cons_zero, List.set_cons_succ, List.getElem_toArray, List.getElem_cons_zero, List.getElem_cons_succ]
          refine wpAnyH_take (i := 5) (v := ?_) rfl (by kernel_rfl) (by kernel_rfl) (by kernel_rfl) (fun _ _ _ h => h) (Or.inl ⟨by rfl, ?_⟩) (by assumption) ?_
          rotate_left
          · (intro w hSw; (try dsimp only at hSw); first | (go_simp; done) | (go_simp; with_reducible rfl))
          try simp only [Act.put, List.setIfInBounds_toArray, List.set_cons_zero, List.set_cons_succ, List.getElem_toArray, List.getElem_cons_zero, List.getElem_cons_succ]
          refine wpAnyH_ready (rs := [2]) (by kernel_rfl) (by simp) ?_
          refine AllReadyH.cons rfl (fun K hK => ?_) AllReadyH.nil
          go_simp
          refine (M1.out _).mono ?_; rintro e w5 ⟨rfl, h2⟩; replace hb := Lib.hid (bel_trans hb.out h2); clear h2; dsimp only
          refine hK.out _ _ (KX.out _ hb.out) (fun hHeld => ?_)
          clear hK K
          try simp only [Act.put, List.setIfInBounds_toArray, List.set_cons_zero, List.set_cons_succ, List.getElem_toArray, List.getElem_cons_zero, List.getElem_cons_succ]
          refine wpAnyH_ready (rs := [4]) (by kernel_rfl) (by simp) ?_
          refine AllReadyH.cons rfl (fun K hK => ?_) AllReadyH.nil
          go_simp
          refine (oof_any ⟨i, ow, s, p, q, cu, lf⟩ _).mono ?_; rintro e w5 ⟨rfl, h2⟩; replace hb := Lib.hid (bel_trans hb.out h2); clear h2; dsimp only
          refine hK.out _ _ (KX.out _ hb.out) (fun hHeld => ?_)
          clear hK K
          try simp only [Act.put, List.setIfInBounds_toArray, List.set_cons_zero, List.set_cons_succ, List.getElem_toArray, List.getElem_cons_zero, List.getElem_cons_succ]
          refine wpAnyH_ready (rs := [6]) (by kernel_rfl) (by simp) ?_
          refine AllReadyH.cons rfl (fun K hK => ?_) AllReadyH.nil
          go_simp
          refine (M2.out _).mono ?_; rintro e w5 ⟨rfl, h2⟩; replace hb := Lib.hid (bel_trans hb.out h2); clear h2; dsimp only
          refine hK.out _ _ (KX.out _ hb.out) (fun hHeld => ?_)
          clear hK K
          try simp only [Act.put, List.setIfInBounds_toArray, List.set_cons_zero, List.set_cons_succ, List.getElem_toArray, List.getElem_cons_zero, List.getElem_cons_succ]
          refine wpAnyH_take (i := 7) (v := ?_) rfl (by kernel_rfl) (by kernel_rfl) (by kernel_rfl) (fun _ _ _ h => h) (Or.inl ⟨by rfl, ?_⟩) (by assumption) ?_
          rotate_left
          · (intro w hSw; (try dsimp only at hSw); first | (go_simp; done) | (go_simp; with_reducible rfl))
          try simp only [Act.put, List.setIfInBounds_toArray, List.set_cons_zero, List.set_cons_succ, List.getElem_toArray, List.getElem_cons_zero, List.getElem_cons_succ]
          refine wpAnyH_take (i := 8) (v := ?_) rfl (by kernel_rfl) (by kernel_rfl) (by kernel_rfl) (fun _ _ _ h => h) (Or.inl ⟨by rfl, ?_⟩) (by assumption) ?_
          rotate_left
          · (intro w hSw; (try dsimp only at hSw); first | (go_simp; done) | (go_simp; with_reducible rfl))
          try simp only [Act.put, List.setIfInBounds_toArray, List.set_cons_zero, List.set_cons_succ, List.getElem_toArray, List.getElem_cons_zero, List.getElem_cons_succ]
          refine wpAnyH_take (i := 9) (v := ?_) rfl (by kernel_rfl) (by kernel_rfl) (by kernel_rfl) (fun _ _ _ h => h) (Or.inl ⟨by rfl, ?_⟩) (by assumption) ?_
          rotate_left
          · (intro w hSw; (try dsimp only at hSw); first | (go_simp; done) | (go_simp; with_reducible rfl))
          try simp only [Act.put, List.setIfInBounds_toArray, List.set_cons_zero, List.set_cons_succ, List.getElem_toArray, List.getElem_cons_zero, List.getElem_cons_succ]
          refine wpAnyH_take (i := 11) (v := ?_) rfl (by kernel_rfl) (by kernel_rfl) (by kernel_rfl) (fun _ _ _ h => h) (Or.inl ⟨by rfl, ?_⟩) (by assumption) ?_
          rotate_left
          · (intro w hSw; (try dsimp only at hSw); first | (go_simp; done) | (go_simp; with_reducible rfl))
          try simp only [Act.put, List.setIfInBounds_toArray, List.set_cons_zero, List.set_cons_succ, List.getElem_toArray, List.getElem_cons_zero, List.getElem_cons_succ]
          refine wpAnyH_ready (rs := [10]) (by kernel_rfl) (by simp) ?_
          refine AllReadyH.cons rfl (fun K hK => ?_) AllReadyH.nil
          go_simp
          refine (M3.out _ hb.out).mono ?_; rintro e w5 ⟨rfl, h2⟩; replace hb := Lib.hid (bel_trans hb.out h2); clear h2; dsimp only
          refine hK.out _ _ (KX.out _ hb.out) (fun hHeld => ?_)
          clear hK K
          try simp only [Act.put, List.setIfInBounds_toArray, List.set_cons_zero, List.set_cons_succ, List.getElem_toArray, List.getElem_cons_zero, List.getElem_cons_succ]
          refine wpAnyH_ready (rs := [12]) (by kernel_rfl) (by simp) ?_
          refine AllReadyH.cons rfl (fun K hK => ?_) AllReadyH.nil
          go_simp
          refine (oof_any ⟨i, ow, s, p, q, cu, lf⟩ _).mono ?_; rintro e w5 ⟨rfl, h2⟩; replace hb := Lib.hid (bel_trans hb.out h2); clear h2; dsimp only
          refine hK.out _ _ (KX.out _ hb.out) (fun hHeld => ?_)
          clear hK K
          try simp only [Act.put, List.setIfInBounds_toArray, List.set_cons_zero, List.set_cons_succ, List.getElem_toArray, List.getElem_cons_zero, List.getElem_cons_succ]
          refine wpAnyH_ready (rs := [13]) (by kernel_rfl) (by simp) ?_
          refine AllReadyH.cons rfl (fun K hK => ?_) AllReadyH.nil
          go_simp
          refine (M4.out _).mono ?_; rintro e w5 ⟨rfl, h2⟩; replace hb := Lib.hid (bel_trans hb.out h2); clear h2; dsimp only
          refine hK.out _ _ (KX.out _ hb.out) (fun hHeld => ?_)
          clear hK K
          try simp only [Act.put, List.setIfInBounds_toArray, List.set_cons_zero, List.set_cons_succ, List.getElem_toArray, List.getElem_cons_zero, List.getElem_cons_succ]
          refine wpAnyH_take (i := 14) (v := ?_) rfl (by kernel_rfl) (by kernel_rfl) (by kernel_rfl) (fun _ _ _ h => h) (Or.inl ⟨by rfl, ?_⟩) (by assumption) ?_
          rotate_left
          · (intro w hSw; (try dsimp only at hSw); first | (go_simp; done) | (go_simp; with_reducible rfl))
          try simp only [Act.put, List.setIfInBounds_toArray, List.set_cons_zero, List.set_cons_succ, List.getElem_toArray, List.getElem_cons_zero, List.getElem_cons_succ]
          refine wpAnyH_take (i := 15) (v := ?_) rfl (by kernel_rfl) (by kernel_rfl) (by kernel_rfl) (fun _ _ _ h => h) (Or.inl ⟨by rfl, ?_⟩) (by assumption) ?_
          rotate_left
          · (intro w hSw; (try dsimp only at hSw); first | (go_simp; done) | (go_simp; with_reducible rfl))
          try simp only [Act.put, List.setIfInBounds_toArray, List.set_cons_zero, List.set_cons_succ, List.getElem_toArray, List.getElem_cons_zero, List.getElem_cons_succ]
          refine wpAnyH_take (i := 16) (v := ?_) rfl (by kernel_rfl) (by kernel_rfl) (by kernel_rfl) (fun _ _ _ h => h) (Or.inl ⟨by rfl, ?_⟩) (by assumption) ?_
          rotate_left
          · (intro w hSw; (try dsimp only at hSw); first | (go_simp; done) | (go_simp; with_reducible rfl))
          try simp only [Act.put, List.setIfInBounds_toArray, List.set_cons_zero, List.set_cons_succ, List.getElem_toArray, List.getElem_cons_zero, List.getElem_cons_succ]
          refine wpAnyH_done (by kernel_rfl) ?_ _
          have Bfin := Lib.hid (bel_trans HB.out hb.out)
          go_wp2_with fail
          go_ret
          exact ⟨rfl, Bfin.out⟩
      · have t2 : (s != 1) = true := by simp; omega
        have t3 : (s != 2) = true := by simp; omega
        go_wp2_with fail
        go_ret
        exact ⟨rfl, Bfin.out⟩
  | some kx =>
      obtain ⟨k, x⟩ := kx
      have hbd := chkO_bd hKO
      have HKO := Lib.hid hKO
      clear hKO
      refine wp_region_held_drew (S := (fun w' => w'.cell? ⟨w.heap.size, 0, none⟩ = some (.int .i64 i) ∧ w'.cell? ⟨w.heap.size, 1, none⟩ = some (.int .i64 ow) ∧ w'.cell? ⟨w.heap.size, 2, none⟩ = some (.int .i64 s) ∧ w'.cell? ⟨w.heap.size, 3, none⟩ = some (.int .i64 p) ∧ w'.cell? ⟨w.heap.size, 4, none⟩ = some (.int .i64 q) ∧ w'.cell? ⟨w.heap.size, 5, none⟩ = some (.bool cu) ∧ w'.cell? ⟨w.heap.size, 6, none⟩ = some (.int .i64 lf))) (by kernel_rfl) (hS) (fun hHeld => ?_)
      refine wpAnyH_take (i := 0) (v := ?_) rfl (by kernel_rfl) (by kernel_rfl) (by kernel_rfl) (fun _ _ _ h => h) (Or.inl ⟨by rfl, ?_⟩) (by assumption) ?_
      rotate_left
      · (intro w hSw; (try dsimp only at hSw); first | (go_simp; done) | (go_simp; with_reducible rfl))
      try simp only [Act.put, List.setIfInBounds_toArray, List.set_cons_zero, List.set_cons_succ, List.getElem_toArray, List.getElem_cons_zero, List.getElem_cons_succ]
      refine wpAnyH_take (i := 1) (v := ?_) rfl (by kernel_rfl) (by kernel_rfl) (by kernel_rfl) (fun _ _ _ h => h) (Or.inl ⟨by rfl, ?_⟩) (by assumption) ?_
      rotate_left
      · (intro w hSw; (try dsimp only at hSw); first | (go_simp; done) | (go_simp; with_reducible rfl))
      try simp only [Act.put, List.setIfInBounds_toArray, List.set_cons_zero, List.set_cons_succ, List.getElem_toArray, List.getElem_cons_zero, List.getElem_cons_succ]
      refine wpAnyH_take (i := 3) (v := ?_) rfl (by kernel_rfl) (by kernel_rfl) (by kernel_rfl) (fun _ _ _ h => h) (Or.inl ⟨by rfl, ?_⟩) (by assumption) ?_
      rotate_left
      · (intro w hSw; (try dsimp only at hSw); first | (go_simp; done) | (go_simp; with_reducible rfl))
      try simp only [Act.put, List.setIfInBounds_toArray, List.set_cons_zero, List.set_cons_succ, List.getElem_toArray, List.getElem_cons_zero, List.getElem_cons_succ]
      refine wpAnyH_take (i := 5) (v := ?_) rfl (by kernel_rfl) (by kernel_rfl) (by kernel_rfl) (fun _ _ _ h => h) (Or.inl ⟨by rfl, ?_⟩) (by assumption) ?_
      rotate_left
      · (intro w hSw; (try dsimp only at hSw); first | (go_simp; done) | (go_simp; with_reducible rfl))
      try simp only [Act.put, List.setIfInBounds_toArray, List.set_cons_zero, List.set_cons_succ, List.getElem_toArray, List.getElem_cons_zero, List.getElem_cons_succ]
      refine wpAnyH_ready (rs := [2]) (by kernel_rfl) (by simp) ?_
      refine AllReadyH.cons rfl (fun K hK => ?_) AllReadyH.nil
      go_simp
      refine (chk_some' HKO.out ((H.out.carry (bel_trans HB.out hb.out)).wider (bel_trans HB.out hb.out).size) HC.out).mono ?_; rintro e wC ⟨b, ⟨rfl, hE⟩, h2⟩; replace hb := Lib.hid (bel_trans hb.out h2); have hbC : Hid (Below wC.heap.size wC wC) := Lib.hid (Below.refl _ _); clear h2; dsimp only
      refine hK.out _ _ (KX.out _ hb.out) (fun hHeld => ?_)
      clear hK K
      try simp only [Act.put, List.setIfInBounds_toArray, List.set_cons_zero, List.set_cons_succ, List.getElem_toArray, List.getElem_cons_zero, List.getElem_cons_succ]
      refine wpAnyH_ready (rs := [4]) (by kernel_rfl) (by simp) ?_
      refine AllReadyH.cons rfl (fun K hK => ?_) AllReadyH.nil
      go_simp
      refine (oof_any ⟨i, ow, s, p, q, cu, lf⟩ _).mono ?_; rintro e w5 ⟨rfl, h2⟩; replace hb := Lib.hid (bel_trans hb.out h2); replace hbC := Lib.hid (bel_trans hbC.out h2); clear h2; dsimp only
      refine hK.out _ _ (KX.out _ hb.out) (fun hHeld => ?_)
      clear hK K
      try simp only [Act.put, List.setIfInBounds_toArray, List.set_cons_zero, List.set_cons_succ, List.getElem_toArray, List.getElem_cons_zero, List.getElem_cons_succ]
      refine wpAnyH_ready (rs := [6]) (by kernel_rfl) (by simp) ?_
      refine AllReadyH.cons rfl (fun K hK => ?_) AllReadyH.nil
      go_simp
      refine (of_any A n c l _ ((H.out.carry (bel_trans HB.out hb.out)).wider (bel_trans HB.out hb.out).size) (by omega)).mono ?_; rintro e w5 ⟨A5, c5, rfl, hT5, h2⟩; replace hT5 := Lib.hid hT5; replace hb := Lib.hid (bel_trans hb.out h2); replace hbC := Lib.hid (bel_trans hbC.out h2); clear h2; dsimp only
      refine hK.out _ _ (KX.out _ hb.out) (fun hHeld => ?_)
      clear hK K
      try simp only [Act.put, List.setIfInBounds_toArray, List.set_cons_zero, List.set_cons_succ, List.getElem_toArray, List.getElem_cons_zero, List.getElem_cons_succ]
      refine wpAnyH_ready (rs := [7]) (by kernel_rfl) (by simp) ?_
      refine AllReadyH.cons rfl (fun K hK => ?_) AllReadyH.nil
      go_simp
      refine (rchk_some' HKO.out hT5.out HC.out).mono ?_; rintro e w5 ⟨b1, ⟨rfl, hP⟩, h2⟩; replace hb := Lib.hid (bel_trans hb.out h2); replace hbC := Lib.hid (bel_trans hbC.out h2); clear h2; dsimp only
      refine hK.out _ _ (KX.out _ hb.out) (fun hHeld => ?_)
      clear hK K
      try simp only [Act.put, List.setIfInBounds_toArray, List.set_cons_zero, List.set_cons_succ, List.getElem_toArray, List.getElem_cons_zero, List.getElem_cons_succ]
      refine wpAnyH_ready (rs := [8]) (by kernel_rfl) (by simp) ?_
      refine AllReadyH.cons rfl (fun K hK => ?_) AllReadyH.nil
      go_simp
      refine (tells_one ordB k x (some ⟨b1, 0, none⟩) 1 1 b _ (HG.out.on (bel_trans HB.out hb.out)) ((hE.out.carry hbC.out).wider hbC.out.size) hP.out (by decide) (by omega) (by omega) (by omega)).mono ?_; rintro e w5 ⟨rfl, h2⟩; replace hb := Lib.hid (bel_trans hb.out h2); clear h2; dsimp only
      refine hK.out _ _ (KX.out _ hb.out) (fun hHeld => ?_)
      clear hK K
      try simp only [Act.put, List.setIfInBounds_toArray, List.set_cons_zero, List.set_cons_succ, List.getElem_toArray, List.getElem_cons_zero, List.getElem_cons_succ]
      refine wpAnyH_take (i := 9) (v := ?_) rfl (by kernel_rfl) (by kernel_rfl) (by kernel_rfl) (fun _ _ _ h => h) (Or.inl ⟨by rfl, ?_⟩) (by assumption) ?_
      rotate_left
      · (intro w hSw; (try dsimp only at hSw); first | (go_simp; done) | (go_simp; with_reducible rfl))
      try simp only [Act.put, List.setIfInBounds_toArray, List.set_cons_zero, List.set_cons_succ, List.getElem_toArray, List.getElem_cons_zero, List.getElem_cons_succ]
      refine wpAnyH_take (i := 10) (v := ?_) rfl (by kernel_rfl) (by kernel_rfl) (by kernel_rfl) (fun _ _ _ h => h) (Or.inl ⟨by rfl, ?_⟩) (by assumption) ?_
      rotate_left
      · (intro w hSw; (try dsimp only at hSw); first | (go_simp; done) | (go_simp; with_reducible rfl))
      try simp only [Act.put, List.setIfInBounds_toArray, List.set_cons_zero, List.set_cons_succ, List.getElem_toArray, List.getElem_cons_zero, List.getElem_cons_succ]
      refine wpAnyH_take (i := 11) (v := ?_) rfl (by kernel_rfl) (by kernel_rfl) (by kernel_rfl) (fun _ _ _ h => h) (Or.inl ⟨by rfl, ?_⟩) (by assumption) ?_
      rotate_left
      · (intro w hSw; (try dsimp only at hSw); first | (go_simp; done) | (go_simp; with_reducible rfl))
      try simp only [Act.put, List.setIfInBounds_toArray, List.set_cons_zero, List.set_cons_succ, List.getElem_toArray, List.getElem_cons_zero, List.getElem_cons_succ]
      refine wpAnyH_take (i := 12) (v := ?_) rfl (by kernel_rfl) (by kernel_rfl) (by kernel_rfl) (fun _ _ _ h => h) (Or.inl ⟨by rfl, ?_⟩) (by assumption) ?_
      rotate_left
      · (intro w hSw; (try dsimp only at hSw); first | (go_simp; done) | (go_simp; with_reducible rfl))
      try simp only [Act.put, List.setIfInBounds_toArray, List.set_cons_zero, List.set_cons_succ, List.getElem_toArray, List.getElem_cons_zero, List.getElem_cons_succ]
      refine wpAnyH_take (i := 14) (v := ?_) rfl (by kernel_rfl) (by kernel_rfl) (by kernel_rfl) (fun _ _ _ h => h) (Or.inl ⟨by rfl, ?_⟩) (by assumption) ?_
      rotate_left
      · (intro w hSw; (try dsimp only at hSw); first | (go_simp; done) | (go_simp; with_reducible rfl))
      try simp only [Act.put, List.setIfInBounds_toArray, List.set_cons_zero, List.set_cons_succ, List.getElem_toArray, List.getElem_cons_zero, List.getElem_cons_succ]
      refine wpAnyH_take (i := 15) (v := ?_) rfl (by kernel_rfl) (by kernel_rfl) (by kernel_rfl) (fun _ _ _ h => h) (Or.inl ⟨by rfl, ?_⟩) (by assumption) ?_
      rotate_left
      · (intro w hSw; (try dsimp only at hSw); first | (go_simp; done) | (go_simp; with_reducible rfl))
      try simp only [Act.put, List.setIfInBounds_toArray, List.set_cons_zero, List.set_cons_succ, List.getElem_toArray, List.getElem_cons_zero, List.getElem_cons_succ]
      refine wpAnyH_ready (rs := [13]) (by kernel_rfl) (by simp) ?_
      refine AllReadyH.cons rfl (fun K hK => ?_) AllReadyH.nil
      go_simp
      refine (opp_any s _).mono ?_; rintro e w5 ⟨rfl, rfl⟩; dsimp only
      refine hK.out _ _ (KX.out _ hb.out) (fun hHeld => ?_)
      clear hK K
      try simp only [Act.put, List.setIfInBounds_toArray, List.set_cons_zero, List.set_cons_succ, List.getElem_toArray, List.getElem_cons_zero, List.getElem_cons_succ]
      refine wpAnyH_ready (rs := [16]) (by kernel_rfl) (by simp) ?_
      refine AllReadyH.cons rfl (fun K hK => ?_) AllReadyH.nil
      go_simp
      refine (ropp_any s _).mono ?_; rintro e w5 ⟨rfl, rfl⟩; dsimp only
      refine hK.out _ _ (KX.out _ hb.out) (fun hHeld => ?_)
      clear hK K
      try simp only [Act.put, List.setIfInBounds_toArray, List.set_cons_zero, List.set_cons_succ, List.getElem_toArray, List.getElem_cons_zero, List.getElem_cons_succ]
      refine wpAnyH_take (i := 17) (v := ?_) rfl (by kernel_rfl) (by kernel_rfl) (by kernel_rfl) (fun _ _ _ h => h) (Or.inl ⟨by rfl, ?_⟩) (by assumption) ?_
      rotate_left
      · (intro w hSw; (try dsimp only at hSw); first | (go_simp; done) | (go_simp; with_reducible rfl))
      try simp only [Act.put, List.setIfInBounds_toArray, List.set_cons_zero, List.set_cons_succ, List.getElem_toArray, List.getElem_cons_zero, List.getElem_cons_succ]
      refine wpAnyH_take (i := 18) (v := ?_) rfl (by kernel_rfl) (by kernel_rfl) (by kernel_rfl) (fun _ _ _ h => h) (Or.inl ⟨by rfl, ?_⟩) (by assumption) ?_
      rotate_left
      · (intro w hSw; (try dsimp only at hSw); first | (go_simp; done) | (go_simp; with_reducible rfl))
      try simp only [Act.put, List.setIfInBounds_toArray, List.set_cons_zero, List.set_cons_succ, List.getElem_toArray, List.getElem_cons_zero, List.getElem_cons_succ]
      refine wpAnyH_done (by kernel_rfl) ?_ _
      obtain ⟨k0, k1, k2, k3, k4, k5, k6⟩ := KX.out _ hb.out
      have Bfin := Lib.hid (bel_trans HB.out hb.out)
      by_cases hs : s = 1 ∨ s = 2
      · have hTab : Tab W1 := ht.keep HB.out
        have M1 := Lib.hid (fun w' => takes_any ⟨i, ow, s, p, q, cu, lf⟩ pr w')
        have M2 := Lib.hid (fun w' => rtakes_any ⟨i, ow, s, p, q, cu, lf⟩ pr w' hs)
        have M3 := Lib.hid (fun w' (hb : Below W1.heap.size W1 w') => otext_any numTFull ⟨i, ow, s, p, q, cu, lf⟩ w' (hTab.keep hb) ho.1 ho.2.1 ho.2.2.1 ho.2.2.2)
        have M4 := Lib.hid (fun w' => rotext_any ⟨i, ow, s, p, q, cu, lf⟩ w' hs ho.1 ho.2.1 ho.2.2.1 ho.2.2.2)
        generalize takesB ⟨i, ow, s, p, q, cu, lf⟩ pr = TK at *
        generalize textO dtx ⟨i, ow, s, p, q, cu, lf⟩ = TX at *
        have bb : (TK == TK) = true := by simp
        have xx : (TX.toList == TX.toList) = true := by simp
        rcases (show (s != 1) = false ∨ ((s != 1) = true ∧ (s != 2) = false) by rcases hs with rfl | rfl <;> simp) with t2 | ⟨t2, t3⟩
        all_goals
          clear hs
          go_wp2_with fail
          replace hb := Lib.hid (hb.out.drew)
          have hS2 := KX.out _ hb.out
          clear k0 k1 k2 k3 k4 k5 k6 Bfin
          refine wp_region_held_drew (S := (fun w' => w'.cell? ⟨w.heap.size, 0, none⟩ = some (.int .i64 i) ∧ w'.cell? ⟨w.heap.size, 1, none⟩ = some (.int .i64 ow) ∧ w'.cell? ⟨w.heap.size, 2, none⟩ = some (.int .i64 s) ∧ w'.cell? ⟨w.heap.size, 3, none⟩ = some (.int .i64 p) ∧ w'.cell? ⟨w.heap.size, 4, none⟩ = some (.int .i64 q) ∧ w'.cell? ⟨w.heap.size, 5, none⟩ = some (.bool cu) ∧ w'.cell? ⟨w.heap.size, 6, none⟩ = some (.int .i64 lf))) (by kernel_rfl) (hS2) (fun hHeld => ?_)
          refine wpAnyH_take (i := 0) (v := ?_) rfl (by kernel_rfl) (by kernel_rfl) (by kernel_rfl) (fun _ _ _ h => h) (Or.inl ⟨by rfl, ?_⟩) (by assumption) ?_
          rotate_left
          · (intro w hSw; (try dsimp only at hSw); first | (go_simp; done) | (go_simp; with_reducible rfl))
          try simp only [Act.put, List.setIfInBounds_toArray, List.set_cons_zero, List.set_cons_succ, List.getElem_toArray, List.getElem_cons_zero, List.getElem_cons_succ]
          refine wpAnyH_take (i := 1) (v := ?_) rfl (by kernel_rfl) (by kernel_rfl) (by kernel_rfl) (fun _ _ _ h => h) (Or.inl ⟨by rfl, ?_⟩) (by assumption) ?_
          rotate_left
          · (intro w hSw; (try dsimp only at hSw); first | (go_simp; done) | (go_simp; with_reducible rfl))
          try simp only [Act.put, List.setIfInBounds_toArray, List.set_cons_zero, List.set_cons_succ, List.getElem_toArray, List.getElem_cons_zero, List.getElem_cons_succ]
          refine wpAnyH_take (i := 3) (v := ?_) rfl (by kernel_rfl) (by kernel_rfl) (by kernel_rfl) (fun _ _ _ h => h) (Or.inl ⟨by rfl, ?_⟩) (by assumption) ?_
          rotate_left
          · (intro w hSw; (try dsimp only at hSw); first | (go_simp; done) | (go_simp; with_reducible rfl))
          try simp only [Act.put, List.setIfInBounds_toArray, List.set_cons_zero, List.set_cons_succ, List.getElem_toArray, List.getElem_cons_zero, List.getElem_cons_succ]
          refine wpAnyH_take (i := 5) (v := ?_) rfl (by kernel_rfl) (by kernel_rfl) (by kernel_rfl) (fun _ _ _ h => h) (Or.inl ⟨by rfl, ?_⟩) (by assumption) ?_
          rotate_left
          · (intro w hSw; (try dsimp only at hSw); first | (go_simp; done) | (go_simp; with_reducible rfl))
          try simp only [Act.put, List.setIfInBounds_toArray, List.set_cons_zero, List.set_cons_succ, List.getElem_toArray, List.getElem_cons_zero, List.getElem_cons_succ]
          refine wpAnyH_ready (rs := [2]) (by kernel_rfl) (by simp) ?_
          refine AllReadyH.cons rfl (fun K hK => ?_) AllReadyH.nil
          go_simp
          refine (M1.out _).mono ?_; rintro e w5 ⟨rfl, h2⟩; replace hb := Lib.hid (bel_trans hb.out h2); clear h2; dsimp only
          refine hK.out _ _ (KX.out _ hb.out) (fun hHeld => ?_)
          clear hK K
          try simp only [Act.put, List.setIfInBounds_toArray, List.set_cons_zero, List.set_cons_succ, List.getElem_toArray, List.getElem_cons_zero, List.getElem_cons_succ]
          refine wpAnyH_ready (rs := [4]) (by kernel_rfl) (by simp) ?_
          refine AllReadyH.cons rfl (fun K hK => ?_) AllReadyH.nil
          go_simp
          refine (oof_any ⟨i, ow, s, p, q, cu, lf⟩ _).mono ?_; rintro e w5 ⟨rfl, h2⟩; replace hb := Lib.hid (bel_trans hb.out h2); clear h2; dsimp only
          refine hK.out _ _ (KX.out _ hb.out) (fun hHeld => ?_)
          clear hK K
          try simp only [Act.put, List.setIfInBounds_toArray, List.set_cons_zero, List.set_cons_succ, List.getElem_toArray, List.getElem_cons_zero, List.getElem_cons_succ]
          refine wpAnyH_ready (rs := [6]) (by kernel_rfl) (by simp) ?_
          refine AllReadyH.cons rfl (fun K hK => ?_) AllReadyH.nil
          go_simp
          refine (M2.out _).mono ?_; rintro e w5 ⟨rfl, h2⟩; replace hb := Lib.hid (bel_trans hb.out h2); clear h2; dsimp only
          refine hK.out _ _ (KX.out _ hb.out) (fun hHeld => ?_)
          clear hK K
          try simp only [Act.put, List.setIfInBounds_toArray, List.set_cons_zero, List.set_cons_succ, List.getElem_toArray, List.getElem_cons_zero, List.getElem_cons_succ]
          refine wpAnyH_take (i := 7) (v := ?_) rfl (by kernel_rfl) (by kernel_rfl) (by kernel_rfl) (fun _ _ _ h => h) (Or.inl ⟨by rfl, ?_⟩) (by assumption) ?_
          rotate_left
          · (intro w hSw; (try dsimp only at hSw); first | (go_simp; done) | (go_simp; with_reducible rfl))
          try simp only [Act.put, List.setIfInBounds_toArray, List.set_cons_zero, List.set_cons_succ, List.getElem_toArray, List.getElem_cons_zero, List.getElem_cons_succ]
          refine wpAnyH_take (i := 8) (v := ?_) rfl (by kernel_rfl) (by kernel_rfl) (by kernel_rfl) (fun _ _ _ h => h) (Or.inl ⟨by rfl, ?_⟩) (by assumption) ?_
          rotate_left
          · (intro w hSw; (try dsimp only at hSw); first | (go_simp; done) | (go_simp; with_reducible rfl))
          try simp only [Act.put, List.setIfInBounds_toArray, List.set_cons_zero, List.set_cons_succ, List.getElem_toArray, List.getElem_cons_zero, List.getElem_cons_succ]
          refine wpAnyH_take (i := 9) (v := ?_) rfl (by kernel_rfl) (by kernel_rfl) (by kernel_rfl) (fun _ _ _ h => h) (Or.inl ⟨by rfl, ?_⟩) (by assumption) ?_
          rotate_left
          · (intro w hSw; (try dsimp only at hSw); first | (go_simp; done) | (go_simp; with_reducible rfl))
          try simp only [Act.put, List.setIfInBounds_toArray, List.set_cons_zero, List.set_cons_succ, List.getElem_toArray, List.getElem_cons_zero, List.getElem_cons_succ]
          refine wpAnyH_take (i := 11) (v := ?_) rfl (by kernel_rfl) (by kernel_rfl) (by kernel_rfl) (fun _ _ _ h => h) (Or.inl ⟨by rfl, ?_⟩) (by assumption) ?_
          rotate_left
          · (intro w hSw; (try dsimp only at hSw); first | (go_simp; done) | (go_simp; with_reducible rfl))
          try simp only [Act.put, List.setIfInBounds_toArray, List.set_cons_zero, List.set_cons_succ, List.getElem_toArray, List.getElem_cons_zero, List.getElem_cons_succ]
          refine wpAnyH_ready (rs := [10]) (by kernel_rfl) (by simp) ?_
          refine AllReadyH.cons rfl (fun K hK => ?_) AllReadyH.nil
          go_simp
          refine (M3.out _ hb.out).mono ?_; rintro e w5 ⟨rfl, h2⟩; replace hb := Lib.hid (bel_trans hb.out h2); clear h2; dsimp only
          refine hK.out _ _ (KX.out _ hb.out) (fun hHeld => ?_)
          clear hK K
          try simp only [Act.put, List.setIfInBounds_toArray, List.set_cons_zero, List.set_cons_succ, List.getElem_toArray, List.getElem_cons_zero, List.getElem_cons_succ]
          refine wpAnyH_ready (rs := [12]) (by kernel_rfl) (by simp) ?_
          refine AllReadyH.cons rfl (fun K hK => ?_) AllReadyH.nil
          go_simp
          refine (oof_any ⟨i, ow, s, p, q, cu, lf⟩ _).mono ?_; rintro e w5 ⟨rfl, h2⟩; replace hb := Lib.hid (bel_trans hb.out h2); clear h2; dsimp only
          refine hK.out _ _ (KX.out _ hb.out) (fun hHeld => ?_)
          clear hK K
          try simp only [Act.put, List.setIfInBounds_toArray, List.set_cons_zero, List.set_cons_succ, List.getElem_toArray, List.getElem_cons_zero, List.getElem_cons_succ]
          refine wpAnyH_ready (rs := [13]) (by kernel_rfl) (by simp) ?_
          refine AllReadyH.cons rfl (fun K hK => ?_) AllReadyH.nil
          go_simp
          refine (M4.out _).mono ?_; rintro e w5 ⟨rfl, h2⟩; replace hb := Lib.hid (bel_trans hb.out h2); clear h2; dsimp only
          refine hK.out _ _ (KX.out _ hb.out) (fun hHeld => ?_)
          clear hK K
          try simp only [Act.put, List.setIfInBounds_toArray, List.set_cons_zero, List.set_cons_succ, List.getElem_toArray, List.getElem_cons_zero, List.getElem_cons_succ]
          refine wpAnyH_take (i := 14) (v := ?_) rfl (by kernel_rfl) (by kernel_rfl) (by kernel_rfl) (fun _ _ _ h => h) (Or.inl ⟨by rfl, ?_⟩) (by assumption) ?_
          rotate_left
          · (intro w hSw; (try dsimp only at hSw); first | (go_simp; done) | (go_simp; with_reducible rfl))
          try simp only [Act.put, List.setIfInBounds_toArray, List.set_cons_zero, List.set_cons_succ, List.getElem_toArray, List.getElem_cons_zero, List.getElem_cons_succ]
          refine wpAnyH_take (i := 15) (v := ?_) rfl (by kernel_rfl) (by kernel_rfl) (by kernel_rfl) (fun _ _ _ h => h) (Or.inl ⟨by rfl, ?_⟩) (by assumption) ?_
          rotate_left
          · (intro w hSw; (try dsimp only at hSw); first | (go_simp; done) | (go_simp; with_reducible rfl))
          try simp only [Act.put, List.setIfInBounds_toArray, List.set_cons_zero, List.set_cons_succ, List.getElem_toArray, List.getElem_cons_zero, List.getElem_cons_succ]
          refine wpAnyH_take (i := 16) (v := ?_) rfl (by kernel_rfl) (by kernel_rfl) (by kernel_rfl) (fun _ _ _ h => h) (Or.inl ⟨by rfl, ?_⟩) (by assumption) ?_
          rotate_left
          · (intro w hSw; (try dsimp only at hSw); first | (go_simp; done) | (go_simp; with_reducible rfl))
          try simp only [Act.put, List.setIfInBounds_toArray, List.set_cons_zero, List.set_cons_succ, List.getElem_toArray, List.getElem_cons_zero, List.getElem_cons_succ]
          refine wpAnyH_done (by kernel_rfl) ?_ _
          have Bfin := Lib.hid (bel_trans HB.out hb.out)
          go_wp2_with fail
          go_ret
          exact ⟨rfl, Bfin.out⟩
      · have t2 : (s != 1) = true := by simp; omega
        have t3 : (s != 2) = true := by simp; omega
        go_wp2_with fail
        go_ret
        exact ⟨rfl, Bfin.out⟩
theorem oany_ok (o : Ord) (A : Option Addr) (n c : Nat) (l : List Stp) (pr : Int) (w : World) (hg : ErrType w) (ht : Tab w) (ho : OkO o) (h : TabAt w w.heap.size A n l) :
    Calls Tryd.prog 3 #[ordV o, .slice A n c, .int .i64 pr] w fun e w' => e = .returned (.bool true) ∧ Below w.heap.size w w' := by
  by_cases hn : 8 < n
  · exact oany_long o A n c pr w hn
  · cases hc : chk l with
    | none => exact oany_good o A n c l pr w hg ht ho h (by omega) hc
    | some kx =>
      obtain ⟨k, x⟩ := kx
      have hx := (chk_bound hc).2
      obtain ⟨y, rfl⟩ := Int.eq_ofNat_of_zero_le (show 0 ≤ x by omega)
      exact oany_bad o A n c l pr w h (by omega) k y hc
end Go.Proofs.YtegfionpeimecaaDoor

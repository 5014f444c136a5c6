/- at, keep; the writes into a switch's maps. -/
import Derived.Test.YtekeciciajbnnaaKilDel
import Derived.Deep.RegionHeld3
import Derived.Deep.RegionLaw
set_option linter.unusedSimpArgs false
namespace Go.Proofs.Ytekeciciajbnnaa
open Go.RowKit Go.Mem1 Go.MapRow Go.KilMath

/-- A maker's last time, or what is told where it has none. -/
def lastOr (o : Option Int) (now : Int) : Int := match o with
  | none => now
  | some l => max now l
theorem times_slice {w : World} {B : Nat} {v : Value} {ts : List Int} (h : Times w B v ts) : ∃ A n c, v = .slice A n c := by
  obtain ⟨A, c, e⟩ := own_slice h
  exact ⟨A, _, c, e⟩
section
variable {w w' : World} {B g : Nat} {f win : Int} {m1 m2 : Option Nat} {L : RL} {O : OL} {T : Int → List Int} {D : Int → Prop}
set_option maxHeartbeats 1000000 in
theorem at_any (h : SwAt w B g f win m1 m2 L O T D) {k : Int} (hk : OkI k) (hd : D k) (now : Int) :
    Calls Try.prog 12 #[.pointer (some ⟨g, 0, none⟩), .int .i64 k, .int .i64 now] w fun e w' => e = .returned (.tuple #[rowV ((fget L k).getD (.slice none 0 0, 0)), .int .i64 (lastOr ((fget L k).map (·.2)) now)]) ∧ Below w.heap.size w w' := by
  have BW : Below w.heap.size w (w.alloc (.cells #[.slice none 0 0, .int .i64 0] 40)) := bel_new _ _
  have LK := (h.carry BW).lookR hk
  have c2 : ∀ o, (w.alloc o).cell? ⟨g, 2, none⟩ = some (.map m1) := fun o => ((h.carry (bel_new w o)).box.reads 2).trans rfl
  cases hf : fget L k with
  | none =>
    rw [hf] at LK
    dsimp only [Option.getD, Option.isSome, rowV, Option.map, lastOr] at LK ⊢
    clear h hk hf BW
    go_enter Try.func12, Try.ntmps12
    go_wp2_with (at_lookup; refine wpList_lookup_run rfl _ _ _ _ rfl (.map m1) (.int .i64 k) _ rfl rfl LK ?_)
    refine bodyPost_ret (v := .tuple #[.agg #[.slice none 0 0, .int .i64 0], .int .i64 now]) (by simp [results, Try.results12, go_sem]) rfl ⟨rfl, bel_alloc (bel_new _ _) _⟩
  | some r =>
    obtain ⟨v, l⟩ := r
    obtain ⟨A, n, c, rfl⟩ := times_slice (h.own k v l hd hf).1
    rw [hf] at LK
    dsimp only [Option.getD, Option.isSome, rowV, Option.map, lastOr] at LK ⊢
    clear h hk hf BW
    go_enter Try.func12, Try.ntmps12
    go_wp2_with (at_lookup; refine wpList_lookup_run rfl _ _ _ _ rfl (.map m1) (.int .i64 k) _ rfl rfl LK ?_)
    refine bodyPost_ret (v := .tuple #[.agg #[.slice A n c, .int .i64 l], .int .i64 (max now l)]) (by simp [results, Try.results12, go_sem]) rfl ⟨rfl, bel_alloc (bel_new _ _) _⟩
theorem chg_turned {b : Nat} (h : Turned w w' b) : Chg (fun j => j = b) w w' := by
  obtain ⟨es, c, es', c', hb, rfl⟩ := h
  exact ⟨rfl, rfl, rfl, by simp, fun k _ hn => (MapKept.heap_set hb).2 k hn⟩
/-- A row of times that no other maker has. -/
def Free1 (L : RL) (k : Int) (v : Value) : Prop := ∀ k' v' l' j, k' ≠ k → fget L k' = some (v', l') → v'.ownBlock = some j → v.ownBlock ≠ some j
theorem free1_nil (L : RL) (k : Int) : Free1 L k (.slice none 0 0) := fun _ _ _ _ _ _ _ e => by cases e
/-- A maker's row put in the place of its last one. -/
theorem SwAt.putR {b : Nat} {k : Int} (h : SwAt w B g f win (some b) m2 L O T (fun j => j ≠ k)) (hk : OkI k) {v : Value} {ts : List Int} {l : Int} (ht : Times w B v ts) (hg : Tms ts l) (hl : 0 ≤ l) (hl2 : l ≤ 1099511627776) (hF : Free1 L k v) :
    ∃ w', (Instr.mapUpdate 34 (.map (some b)) (.int .i64 k) (.agg #[v, .int .i64 l])).run Try.prog w = .ok () w' ∧ SwAt w' B g f win (some b) m2 (fput L k (v, l)) O (upd T k ts) (fun _ => True) ∧ Chg (fun j => j = b) w w' := by
  rcases h.rows with ⟨h1, _⟩ | ⟨b', h1, h2, h3⟩
  · cases h1
  · injection h1 with h1
    subst h1
    obtain ⟨w', h4, h5, h6⟩ := h3.store keyI idV_inj Try.underlying34 (okI_key hk) ((v, l) : Rw)
    have hc := chg_turned h6
    have hne : ∀ v' ts' j, Times w B v' ts' → v'.ownBlock = some j → ¬ j = b := fun v' ts' j ho hj e => (h.off_times ho hj).2.1 (by rw [e])
    refine ⟨w', h4, ⟨h.box.kept hc (fun e => h.map_ne.1 (by rw [e])), h.low, .inr ⟨b, rfl, h2, h5⟩, ?_, h.two, fun k' v' l' _ hk' => ?_, fun k1 k2 v1 v2 l1 l2 j _ _ hkk e1 e2 e3 => ?_, fun k' hk' => ?_, h.fits⟩, hc⟩
    · rcases h.offs with h7 | ⟨b2, h7, h8, h9⟩
      · exact .inl h7
      · exact .inr ⟨b2, h7, h8, h9.of_block (hc.block _ h9.lt (fun e => h.two b rfl (by rw [h7, e])))⟩
    · by_cases e : k' = k
      · subst e
        rw [fget_put_same] at hk'
        injection hk' with hk'
        injection hk' with e1 e2
        subst e1; subst e2
        rw [upd_same]
        exact ⟨times_chg ht hc (fun j hj => hne _ _ j ht hj), hg, hl, hl2⟩
      · rw [fget_put_other L _ e] at hk'
        rw [upd_other T _ e]
        obtain ⟨h7, h8⟩ := h.own k' v' l' e hk'
        exact ⟨times_chg h7 hc (fun j hj => hne _ _ j h7 hj), h8⟩
    · by_cases e4 : k1 = k
      · subst e4
        rw [fget_put_same] at e1
        rw [fget_put_other L _ (Ne.symm hkk)] at e2
        injection e1 with e1
        injection e1 with e1 _
        subst e1
        exact fun e5 => hF k2 v2 l2 j (Ne.symm hkk) e2 e5 e3
      · rw [fget_put_other L _ e4] at e1
        by_cases e5 : k2 = k
        · subst e5
          rw [fget_put_same] at e2
          injection e2 with e2
          injection e2 with e2 _
          subst e2
          exact hF k1 v1 l1 j e4 e1 e3
        · rw [fget_put_other L _ e5] at e2
          exact h.lone k1 k2 v1 v2 l1 l2 j e4 e5 hkk e1 e2 e3
    · by_cases e : k' = k
      · subst e
        rw [fget_put_same] at hk'
        cases hk'
      · rw [fget_put_other L _ e] at hk'
        rw [upd_other T _ e]
        exact h.bare k' hk'
theorem SwAt.putO {b : Nat} (h : SwAt w B g f win m1 (some b) L O T D) {k : Int} (hk : OkI k) :
    ∃ w', (Instr.mapUpdate 35 (.map (some b)) (.int .i64 k) (.agg #[])).run Try.prog w = .ok () w' ∧ SwAt w' B g f win m1 (some b) L (fput O k ()) T D ∧ Chg (fun j => j = b) w w' := by
  rcases h.offs with ⟨h1, _⟩ | ⟨b', h1, h2, h3⟩
  · cases h1
  · injection h1 with h1
    subst h1
    obtain ⟨w', h4, h5, h6⟩ := h3.store keyI idV_inj Try.underlying35 (okI_key hk) ()
    have hc := chg_turned h6
    refine ⟨w', h4, ⟨h.box.kept hc (fun e => h.map_ne.2 (by rw [e])), h.low, ?_, .inr ⟨b, rfl, h2, h5⟩, h.two, fun k' v' l' hd hk' => ?_, h.lone, h.bare, h.fits⟩, hc⟩
    · rcases h.rows with h7 | ⟨b2, h7, h8, h9⟩
      · exact .inl h7
      · exact .inr ⟨b2, h7, h8, h9.of_block (hc.block _ h9.lt (fun e => h.two b2 h7 (by rw [e])))⟩
    · obtain ⟨h7, h8⟩ := h.own k' v' l' hd hk'
      exact ⟨times_chg h7 hc (fun j hj e => (h.off_times h7 hj).2.2 (by rw [e])), h8⟩
theorem SwAt.delO {b : Nat} (h : SwAt w B g f win m1 (some b) L O T D) {k : Int} (hk : OkI k) :
    ∃ w', (∀ ty, (Builtin.delete_ #[35, 3] ty #[.map (some b), .int .i64 k]).run Try.prog w = .ok (.tuple #[]) w') ∧ SwAt w' B g f win m1 (some b) L (fdel O k) T D ∧ Chg (fun j => j = b) w w' := by
  rcases h.offs with ⟨h1, _⟩ | ⟨b', h1, h2, h3⟩
  · cases h1
  · injection h1 with h1
    subst h1
    obtain ⟨w', h4, h5, h6⟩ := h3.drop keyI idV_inj Try.underlying35 (okI_key hk)
    have hc := chg_turned h6
    refine ⟨w', h4, ⟨h.box.kept hc (fun e => h.map_ne.2 (by rw [e])), h.low, ?_, .inr ⟨b, rfl, h2, h5⟩, h.two, fun k' v' l' hd hk' => ?_, h.lone, h.bare, h.fits⟩, hc⟩
    · rcases h.rows with h7 | ⟨b2, h7, h8, h9⟩
      · exact .inl h7
      · exact .inr ⟨b2, h7, h8, h9.of_block (hc.block _ h9.lt (fun e => h.two b2 h7 (by rw [e])))⟩
    · obtain ⟨h7, h8⟩ := h.own k' v' l' hd hk'
      exact ⟨times_chg h7 hc (fun j hj e => (h.off_times h7 hj).2.2 (by rw [e])), h8⟩
/-- A map made, and set in the switch. -/
theorem SwAt.newR (h : SwAt w B g f win none m2 L O T D) : SwAt ((w.setCell ⟨g, 2, none⟩ (.map (some w.heap.size))).alloc (.map #[] 0)) B g f win (some w.heap.size) m2 L O T D ∧ Chg (fun j => j = g) w ((w.setCell ⟨g, 2, none⟩ (.map (some w.heap.size))).alloc (.map #[] 0)) := by
  have hx := h.box.wrote 2 (.map (some w.heap.size))
  have hc : Chg (fun j => j = g) w (w.setCell ⟨g, 2, none⟩ (.map (some w.heap.size))) := Chg.setCell (S := fun j => j = g) (Chg.refl _ _) (p := ⟨g, 2, none⟩) (fun _ => rfl) _
  have hs : (w.setCell ⟨g, 2, none⟩ (.map (some w.heap.size))).heap.size = w.heap.size := by simp [World.setCell]
  have hlt := h.base
  generalize w.setCell ⟨g, 2, none⟩ (.map (some w.heap.size)) = W at hx hc hs ⊢
  have hb : Below W.heap.size W (W.alloc (.map #[] 0)) := bel_new _ _
  have hc2 := hc.below hb
  have m : MapIs Try.prog 3 idV rowV (W.alloc (.map #[] 0)) w.heap.size [] := MapIs.made W _ _ _ _ hs.symm
  have hL : L = [] := by
    rcases h.rows with ⟨_, h1⟩ | ⟨b, h1, _⟩
    · exact h1
    · cases h1
  subst hL
  refine ⟨⟨hx.kept_below hb hx.there, h.low, .inr ⟨_, rfl, by omega, m⟩, ?_, ?_, fun k' v' l' hd hk' => (by cases hk'), fun k1 k2 v1 v2 l1 l2 j _ _ _ e1 => (by cases e1), h.bare, h.fits⟩, hc2⟩
  · rcases h.offs with h7 | ⟨b2, h7, h8, h9⟩
    · exact .inl h7
    · exact .inr ⟨b2, h7, h8, h9.of_block (hc2.block _ h9.lt (fun e => h.map_ne.2 (by rw [h7, e])))⟩
  · intro b hb' e
    injection hb' with hb'
    rcases h.offs with ⟨h7, _⟩ | ⟨b2, h7, h8, h9⟩
    · rw [h7] at e; cases e
    · rw [h7] at e
      injection e with e
      have := h9.lt
      omega
theorem SwAt.newO (h : SwAt w B g f win m1 none L O T D) : SwAt ((w.setCell ⟨g, 3, none⟩ (.map (some w.heap.size))).alloc (.map #[] 0)) B g f win m1 (some w.heap.size) L O T D ∧ Chg (fun j => j = g) w ((w.setCell ⟨g, 3, none⟩ (.map (some w.heap.size))).alloc (.map #[] 0)) := by
  have hx := h.box.wrote 3 (.map (some w.heap.size))
  have hc : Chg (fun j => j = g) w (w.setCell ⟨g, 3, none⟩ (.map (some w.heap.size))) := Chg.setCell (S := fun j => j = g) (Chg.refl _ _) (p := ⟨g, 3, none⟩) (fun _ => rfl) _
  have hs : (w.setCell ⟨g, 3, none⟩ (.map (some w.heap.size))).heap.size = w.heap.size := by simp [World.setCell]
  have hlt := h.base
  generalize w.setCell ⟨g, 3, none⟩ (.map (some w.heap.size)) = W at hx hc hs ⊢
  have hb : Below W.heap.size W (W.alloc (.map #[] 0)) := bel_new _ _
  have hc2 := hc.below hb
  have m : MapIs Try.prog 3 idV onV (W.alloc (.map #[] 0)) w.heap.size [] := MapIs.made W _ _ _ _ hs.symm
  have hO : O = [] := by
    rcases h.offs with ⟨_, h1⟩ | ⟨b, h1, _⟩
    · exact h1
    · cases h1
  subst hO
  refine ⟨⟨hx.kept_below hb hx.there, h.low, ?_, .inr ⟨_, rfl, by omega, m⟩, ?_, fun k' v' l' hd hk' => ?_, h.lone, h.bare, h.fits⟩, hc2⟩
  · rcases h.rows with h7 | ⟨b2, h7, h8, h9⟩
    · exact .inl h7
    · exact .inr ⟨b2, h7, h8, h9.of_block (hc2.block _ h9.lt (fun e => h.map_ne.1 (by rw [h7, e])))⟩
  · intro b hb' e
    injection e with e
    rcases h.rows with ⟨h7, _⟩ | ⟨b2, h7, h8, h9⟩
    · rw [h7] at hb'; cases hb'
    · rw [h7] at hb'
      injection hb' with hb'
      have := h9.lt
      omega
  · obtain ⟨h7, h8⟩ := h.own k' v' l' hd hk'
    exact ⟨times_chg h7 hc2 (fun j hj e => (h.off_times h7 hj).1 e), h8⟩
/-- Is a map nil? -/
theorem mapR_not (b : Nat) (w : World) : (binOp BinOp.eql 34 (.map (some b)) (.map none)).run Try.prog w = .ok (.bool false) w := by kernel_rfl
theorem mapR_nil (w : World) : (binOp BinOp.eql 34 (.map none) (.map none)).run Try.prog w = .ok (.bool true) w := by kernel_rfl
theorem mapO_not (b : Nat) (w : World) : (binOp BinOp.eql 35 (.map (some b)) (.map none)).run Try.prog w = .ok (.bool false) w := by kernel_rfl
theorem mapO_nil (w : World) : (binOp BinOp.eql 35 (.map none) (.map none)).run Try.prog w = .ok (.bool true) w := by kernel_rfl
/-- What keep leaves. -/
def Kept (w : World) (B g : Nat) (f win : Int) (m2 : Option Nat) (L : RL) (O : OL) (T : Int → List Int) (e : Ending) (w' : World) : Prop :=
  e = .returned (.tuple #[]) ∧ ∃ m1, SwAt w' B g f win m1 m2 L O T (fun _ => True) ∧ Kp B w w'
theorem map_box {b B' : Nat} {t : TypeId} {cs : Array Value} {k : TypeId} {α β : Type} {ek : α → Value} {ev : β → Value} [DecidableEq α] {M : List (α × β)} (hx : Box w B' t cs) (hm : MapIs Try.prog k ek ev w b M) : B' ≠ b := by
  rintro rfl
  obtain ⟨es, c, h4, _⟩ := hm.block
  have hb : w.heap[B']? = some (.cells cs t (0, 0)) := hx
  rw [h4] at hb
  cases hb
set_option maxRecDepth 100000 in
set_option maxHeartbeats 2000000 in
theorem keep_some {b : Nat} {k : Int} (h : SwAt w B g f win (some b) m2 L O T (fun j => j ≠ k)) (hk : OkI k) {v : Value} {ts : List Int} {l : Int} (ht : Times w B v ts) (hg : Tms ts l) (hl : 0 ≤ l) (hl2 : l ≤ 1099511627776) (hF : Free1 L k v) :
    Calls Try.prog 15 #[.pointer (some ⟨g, 0, none⟩), .int .i64 k, .agg #[v, .int .i64 l]] w (Kept w B g f win m2 (fput L k (v, l)) O (upd T k ts)) := by
  obtain ⟨A, n, c, rfl⟩ := times_slice ht
  obtain ⟨W1, hW1⟩ : ∃ W1, w.alloc (.cells #[.slice A n c, .int .i64 l] 40) = W1 := ⟨_, rfl⟩
  have BW : Below w.heap.size w W1 := by rw [← hW1]; exact bel_new _ _
  have X5 : Box W1 w.heap.size 40 #[.slice A n c, .int .i64 l] := by rw [← hW1]; exact Box.fresh w _ _ rfl
  have D1 := h.carry BW
  have BD : Below w.heap.size w W1.drew := BW.drew
  obtain ⟨w2, hu, D2, C2⟩ := (h.carry BD).putR hk (own_keep ht BD) hg hl hl2 hF
  have g2 : W1.cell? ⟨g, 2, none⟩ = some (.map (some b)) := (D1.box.reads 2).trans rfl
  have x0 : W1.cell? ⟨w.heap.size, 0, none⟩ = some (.slice A n c) := (X5.reads 0).trans rfl
  have x1 : W1.cell? ⟨w.heap.size, 1, none⟩ = some (.int .i64 l) := (X5.reads 1).trans rfl
  have KP : Kp B w w2 := (kp_below (Nat.le_of_lt h.base) BD).trans ((h.carry BD).kp (C2.mono (fun j _ e => .inr (.inl (by rw [e])))))
  have HD := Lib.hid D2
  have HK := Lib.hid KP
  clear h ht hg hl hl2 hF BW X5 D1 BD D2 C2 KP hk
  have MN := mapR_not b
  go_enter Try.func15, Try.ntmps15
  go_wp2_with fail
  go_region
  all_goals (go_wp2_with fail)
  all_goals (refine bodyPost_ret (v := .tuple #[]) (by simp [results, Try.results15, go_sem]) rfl ⟨rfl, _, HD.out, HK.out⟩)
set_option maxRecDepth 100000 in
set_option maxHeartbeats 2000000 in
theorem keep_none {k : Int} (h : SwAt w B g f win none m2 L O T (fun j => j ≠ k)) (hk : OkI k) {v : Value} {ts : List Int} {l : Int} (ht : Times w B v ts) (hg : Tms ts l) (hl : 0 ≤ l) (hl2 : l ≤ 1099511627776) (hF : Free1 L k v) :
    Calls Try.prog 15 #[.pointer (some ⟨g, 0, none⟩), .int .i64 k, .agg #[v, .int .i64 l]] w (Kept w B g f win m2 (fput L k (v, l)) O (upd T k ts)) := by
  obtain ⟨A, n, c, rfl⟩ := times_slice ht
  obtain ⟨W1, hW1⟩ : ∃ W1, w.alloc (.cells #[.slice A n c, .int .i64 l] 40) = W1 := ⟨_, rfl⟩
  have BW : Below w.heap.size w W1 := by rw [← hW1]; exact bel_new _ _
  have X5 : Box W1 w.heap.size 40 #[.slice A n c, .int .i64 l] := by rw [← hW1]; exact Box.fresh w _ _ rfl
  have D1 := h.carry BW
  have g2 : W1.cell? ⟨g, 2, none⟩ = some (.map none) := (D1.box.reads 2).trans rfl
  have gf2 := D1.box.unmarked 2
  have hgl := D1.there
  have hne : ¬ g = W1.heap.size := by omega
  obtain ⟨NW, CW⟩ := D1.newR
  obtain ⟨W2, hW2⟩ : ∃ W2, (W1.setCell ⟨g, 2, none⟩ (.map (some W1.heap.size))).alloc (.map #[] 0) = W2 := ⟨_, rfl⟩
  rw [hW2] at NW CW
  have B2 : Below W2.heap.size W2 W2.drew := (Below.refl _ _).drew
  have T2 : Times W2.drew B (.slice A n c) ts := own_keep (times_chg (own_keep ht BW) CW (fun j hj => (D1.off_times (own_keep ht BW) hj).1)) B2
  obtain ⟨w2, hu, D2, C2⟩ := (NW.carry B2).putR hk T2 hg hl hl2 hF
  have X6 := X5.kept CW (fun e => X5.apart D1.box (by decide) e)
  have z2 : W2.cell? ⟨g, 2, none⟩ = some (.map (some W1.heap.size)) := (NW.box.reads 2).trans rfl
  have y0 : W2.cell? ⟨w.heap.size, 0, none⟩ = some (.slice A n c) := (X6.reads 0).trans rfl
  have y1 : W2.cell? ⟨w.heap.size, 1, none⟩ = some (.int .i64 l) := (X6.reads 1).trans rfl
  have KP : Kp B w w2 := (kp_below (Nat.le_of_lt h.base) BW).trans ((D1.kp (CW.mono (fun j _ e => .inl e))).trans ((kp_below (Nat.le_of_lt NW.base) B2).trans ((NW.carry B2).kp (C2.mono (fun j _ e => .inr (.inl (by rw [e])))))))
  have HD := Lib.hid D2
  have HK := Lib.hid KP
  clear h ht hg hl hl2 hF BW X5 D1 D2 C2 KP hk NW CW T2 X6 B2
  have MN := mapR_nil
  have hmm := @run_makeMap Try.prog
  go_enter Try.func15, Try.ntmps15
  go_wp2_with fail
  go_region
  all_goals (go_wp2_with fail)
  all_goals (refine bodyPost_ret (v := .tuple #[]) (by simp [results, Try.results15, go_sem]) rfl ⟨rfl, _, HD.out, HK.out⟩)
theorem keep_any {k : Int} (h : SwAt w B g f win m1 m2 L O T (fun j => j ≠ k)) (hk : OkI k) {v : Value} {ts : List Int} {l : Int} (ht : Times w B v ts) (hg : Tms ts l) (hl : 0 ≤ l) (hl2 : l ≤ 1099511627776) (hF : Free1 L k v) :
    Calls Try.prog 15 #[.pointer (some ⟨g, 0, none⟩), .int .i64 k, .agg #[v, .int .i64 l]] w (Kept w B g f win m2 (fput L k (v, l)) O (upd T k ts)) := by
  cases m1 with
  | none => exact keep_none h hk ht hg hl hl2 hF
  | some b => exact keep_some h hk ht hg hl hl2 hF
end
end Go.Proofs.Ytekeciciajbnnaa

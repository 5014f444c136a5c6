/- Trip, Enable, Count. -/
import Derived.Test.YtekeciciajbnnaaKilKeep
set_option linter.unusedSimpArgs false
namespace Go.Proofs.Ytekeciciajbnnaa
open Go.RowKit Go.Mem1 Go.MapRow Go.KilMath

/-- The last times of two rows of rows are the same. -/
def SameLast (L L' : RL) : Prop := ∀ j, (fget L' j).map (·.2) = (fget L j).map (·.2)
theorem same_put {L : RL} {k : Int} {v v' : Value} {l : Int} (h : fget L k = some (v, l)) : SameLast L (fput L k (v', l)) := by
  intro j
  by_cases e : j = k
  · subst e; rw [fget_put_same, h]; rfl
  · rw [fget_put_other L _ e]
/-- What Trip leaves, of one that was on. -/
def Tripped (w : World) (B g : Nat) (f win : Int) (L : RL) (O : OL) (T : Int → List Int) (k : Int) (w' : World) : Prop :=
  ∃ m1 m2 L', SwAt w' B g f win m1 m2 L' (fput O k ()) (upd T k []) (fun _ => True) ∧ SameLast L L' ∧ Kp B w w'
/-- What is known where the maker is put off. -/
def TripK (w1 w2 : World) (B g : Nat) (f win : Int) (m1 : Option Nat) (b : Nat) (L : RL) (O : OL) (T : Int → List Int) (k : Int) (r : Option Rw) : Prop :=
  (Instr.mapUpdate 35 (.map (some b)) (.int .i64 k) (.agg #[])).run Try.prog w1 = .ok () w2 ∧ SwAt w2 B g f win m1 (some b) L (fput O k ()) T (fun _ => True) ∧ Kp B w1 w2 ∧
  (Instr.lookup 34 (.map m1) (.int .i64 k) true).run Try.prog w2 = .ok (.tuple #[rowV (r.getD (.slice none 0 0, 0)), .bool r.isSome]) w2 ∧ w2.cell? ⟨g, 2, none⟩ = some (.map m1)
section
variable {w w1 : World} {B g : Nat} {f win : Int} {m1 m2 : Option Nat} {L : RL} {O : OL} {T : Int → List Int}
theorem trip_facts {b : Nat} (h : SwAt w1 B g f win m1 (some b) L O T (fun _ => True)) {k : Int} (hk : OkI k) : ∃ w2, TripK w1 w2 B g f win m1 b L O T k (fget L k) := by
  obtain ⟨w2, hu, D2, C2⟩ := h.putO hk
  exact ⟨w2, hu, D2, h.kp (C2.mono (fun j _ e => .inr (.inr (.inl (by rw [e]))))), D2.lookR hk, (D2.box.reads 2).trans rfl⟩
theorem trip_keep (h : SwAt w B g f win m1 m2 L O T (fun _ => True)) {k : Int} (hk : OkI k) {v : Value} {l : Int} (hf : fget L k = some (v, l)) (o : Obj) :
    Calls Try.prog 15 #[.pointer (some ⟨g, 0, none⟩), .int .i64 k, .agg #[.slice none 0 0, .int .i64 l]] (w.alloc o) fun e w' => e = .returned (.tuple #[]) ∧ ∃ m1' L', SwAt w' B g f win m1' m2 L' O (upd T k []) (fun _ => True) ∧ SameLast L L' ∧ Kp B w w' := by
  obtain ⟨_, _, h3, h4⟩ := h.own k v l trivial hf
  have hc := h.carry (bel_new w o)
  refine (keep_any (hc.fewer (fun _ _ => trivial)) hk (ts := []) (show Times _ _ _ [] from World.ownsRow_nil _ _ _ _) (Tms.nil l) h3 h4 (free1_nil L k)).mono fun e w' ⟨h5, m1', h6, h7⟩ => ⟨h5, m1', _, h6, same_put hf, (kp_below (Nat.le_of_lt h.base) (bel_new w o)).trans h7⟩
/-- .. where a map is made first. -/
def TripN (w w1 : World) (B g : Nat) (f win : Int) (m1 : Option Nat) (L : RL) (O : OL) (T : Int → List Int) (k : Int) (r : Option Rw) : Prop :=
  ∃ W2, (w1.setCell ⟨g, 3, none⟩ (.map (some w1.heap.size))).alloc (.map #[] 0) = W2 ∧ w1.cell? ⟨g, 3, none⟩ = some (.map none) ∧ w1.frozen? ⟨g, 3, none⟩ = false ∧ ¬ g = w1.heap.size ∧ g < w1.heap.size ∧ W2.cell? ⟨g, 3, none⟩ = some (.map (some w1.heap.size)) ∧
  ∃ w2, (Instr.mapUpdate 35 (.map (some w1.heap.size)) (.int .i64 k) (.agg #[])).run Try.prog W2 = .ok () w2 ∧ SwAt w2 B g f win m1 (some w1.heap.size) L (fput O k ()) T (fun _ => True) ∧ Kp B w w2 ∧
  (Instr.lookup 34 (.map m1) (.int .i64 k) true).run Try.prog w2 = .ok (.tuple #[rowV (r.getD (.slice none 0 0, 0)), .bool r.isSome]) w2 ∧ w2.cell? ⟨g, 2, none⟩ = some (.map m1)
theorem trip_new (h : SwAt w1 B g f win m1 none L O T (fun _ => True)) (hB : B ≤ w.heap.size) (hb : Below w.heap.size w w1) {k : Int} (hk : OkI k) : TripN w w1 B g f win m1 L O T k (fget L k) := by
  obtain ⟨N, C⟩ := h.newO
  obtain ⟨w2, hu, hd, hk2, LK, c2⟩ := trip_facts N hk
  have := h.there
  exact ⟨_, rfl, (h.box.reads 3).trans rfl, h.box.unmarked 3, by omega, this, (N.box.reads 3).trans rfl, w2, hu, hd, ((kp_below hB hb).trans (h.kp (C.mono (fun j _ e => .inl e)))).trans hk2, LK, c2⟩
set_option maxRecDepth 100000 in
set_option maxHeartbeats 2000000 in
theorem trip_some {b : Nat} (h : SwAt w B g f win m1 (some b) L O T (fun _ => True)) {k : Int} (hk : OkI k) (ho : fget O k = none) :
    Calls Try.prog 11 #[.pointer (some ⟨g, 0, none⟩), .int .i64 k] w fun e w' => e = .returned (.bool true) ∧ Tripped w B g f win L O T k w' := by
  have HO := koff_at h hk
  rw [ho] at HO
  dsimp only [Option.isSome] at HO
  replace HO := Lib.hid HO
  have HB := Nat.le_of_lt h.base
  have HS := Lib.hid h
  have HF : Hid (∀ w1, Below w.heap.size w w1 → (∃ w2, TripK w1 w2 B g f win m1 b L O T k (fget L k)) ∧ w1.cell? ⟨g, 3, none⟩ = some (.map (some b))) := Lib.hid fun w1 hb => ⟨trip_facts (h.carry hb) hk, ((h.carry hb).box.reads 3).trans rfl⟩
  have MN := mapO_not b
  cases hf : fget L k with
  | none =>
    rw [hf] at HF
    have HT : T k = [] := h.bare k hf
    clear h hk
    go_enter Try.func11, Try.ntmps11
    go_wp2_with (first
      | (go_at_call 8; refine HO.out.mono ?_; rintro e w1 ⟨rfl, hb⟩; obtain ⟨⟨w2, hu, hd2, hk2, LK, c2⟩, c3⟩ := HF.out w1 hb; dsimp only [Option.getD, Option.isSome, rowV] at LK; replace hd2 := Lib.hid hd2; replace hk2 := Lib.hid hk2; replace hb := Lib.hid hb)
      | (at_mapUpdate; refine wpList_update_run rfl _ _ _ _ rfl (.map (some b)) (.int .i64 k) (.agg #[]) rfl rfl rfl hu ?_)
      | (at_lookup; refine wpList_lookup_run rfl _ _ _ _ rfl (.map m1) (.int .i64 k) _ rfl rfl LK ?_))
    go_ret
    refine ⟨rfl, _, _, L, by rw [upd_self T k [] HT]; exact hd2.out.carry (bel_new _ _), fun _ => rfl, ?_⟩
    exact ((kp_below HB hb.out).trans hk2.out).trans (kp_below (Nat.le_of_lt hd2.out.base) (bel_new _ _))
  | some r =>
    obtain ⟨v, l⟩ := r
    rw [hf] at HF
    obtain ⟨A, n, c, rfl⟩ := times_slice (h.own k v l trivial hf).1
    have HK : Hid (OkI k) := Lib.hid hk
    replace hf := Lib.hid hf
    clear h hk
    go_enter Try.func11, Try.ntmps11
    go_wp2_with (first
      | (go_at_call 8; refine HO.out.mono ?_; rintro e w1 ⟨rfl, hb⟩; obtain ⟨⟨w2, hu, hd2, hk2, LK, c2⟩, c3⟩ := HF.out w1 hb; dsimp only [Option.getD, Option.isSome, rowV] at LK; replace hd2 := Lib.hid hd2; replace hk2 := Lib.hid hk2; replace hb := Lib.hid hb)
      | (at_mapUpdate; refine wpList_update_run rfl _ _ _ _ rfl (.map (some b)) (.int .i64 k) (.agg #[]) rfl rfl rfl hu ?_)
      | (at_lookup; refine wpList_lookup_run rfl _ _ _ _ rfl (.map m1) (.int .i64 k) _ rfl rfl LK ?_)
      | (go_at_call 15; refine (trip_keep hd2.out HK.out hf.out _).mono ?_; rintro e w4 ⟨rfl, m1', L', hd4, hs4, hk4⟩; replace hd4 := Lib.hid hd4; replace hk4 := Lib.hid hk4; replace hs4 := Lib.hid hs4))
    go_ret
    exact ⟨rfl, _, _, _, hd4.out, hs4.out, ((kp_below HB hb.out).trans hk2.out).trans hk4.out⟩
set_option maxRecDepth 100000 in
set_option maxHeartbeats 2000000 in
theorem trip_none (h : SwAt w B g f win m1 none L O T (fun _ => True)) {k : Int} (hk : OkI k) (ho : fget O k = none) :
    Calls Try.prog 11 #[.pointer (some ⟨g, 0, none⟩), .int .i64 k] w fun e w' => e = .returned (.bool true) ∧ Tripped w B g f win L O T k w' := by
  have HO := koff_at h hk
  rw [ho] at HO
  dsimp only [Option.isSome] at HO
  replace HO := Lib.hid HO
  have HB := Nat.le_of_lt h.base
  have HS := Lib.hid h
  have HF : Hid (∀ w1, Below w.heap.size w w1 → TripN w w1 B g f win m1 L O T k (fget L k)) := Lib.hid fun w1 hb => trip_new (h.carry hb) HB hb hk
  have MN := mapO_nil
  have hmm := @run_makeMap Try.prog
  cases hf : fget L k with
  | none =>
    rw [hf] at HF
    have HT : T k = [] := h.bare k hf
    clear h hk
    go_enter Try.func11, Try.ntmps11
    go_wp2_with (first
      | (go_at_call 8; refine HO.out.mono ?_; rintro e w1 ⟨rfl, hb⟩; obtain ⟨W2, hW2, c3, f3, n3, hgl, z3, w2, hu, hd2, hk2, LK, c2⟩ := HF.out w1 hb; dsimp only [Option.getD, Option.isSome, rowV] at LK; replace hd2 := Lib.hid hd2; replace hk2 := Lib.hid hk2; replace hb := Lib.hid hb)
      | (at_mapUpdate; refine wpList_update_run rfl _ _ _ _ rfl (.map (some w1.heap.size)) (.int .i64 k) (.agg #[]) rfl rfl rfl hu ?_)
      | (at_lookup; refine wpList_lookup_run rfl _ _ _ _ rfl (.map m1) (.int .i64 k) _ rfl rfl LK ?_))
    go_ret
    refine ⟨rfl, _, _, L, by rw [upd_self T k [] HT]; exact hd2.out.carry (bel_new _ _), fun _ => rfl, ?_⟩
    exact hk2.out.trans (kp_below (Nat.le_of_lt hd2.out.base) (bel_new _ _))
  | some r =>
    obtain ⟨v, l⟩ := r
    rw [hf] at HF
    obtain ⟨A, n, c, rfl⟩ := times_slice (h.own k v l trivial hf).1
    have HK : Hid (OkI k) := Lib.hid hk
    replace hf := Lib.hid hf
    clear h hk
    go_enter Try.func11, Try.ntmps11
    go_wp2_with (first
      | (go_at_call 8; refine HO.out.mono ?_; rintro e w1 ⟨rfl, hb⟩; obtain ⟨W2, hW2, c3, f3, n3, hgl, z3, w2, hu, hd2, hk2, LK, c2⟩ := HF.out w1 hb; dsimp only [Option.getD, Option.isSome, rowV] at LK; replace hd2 := Lib.hid hd2; replace hk2 := Lib.hid hk2; replace hb := Lib.hid hb)
      | (at_mapUpdate; refine wpList_update_run rfl _ _ _ _ rfl (.map (some w1.heap.size)) (.int .i64 k) (.agg #[]) rfl rfl rfl hu ?_)
      | (at_lookup; refine wpList_lookup_run rfl _ _ _ _ rfl (.map m1) (.int .i64 k) _ rfl rfl LK ?_)
      | (go_at_call 15; refine (trip_keep hd2.out HK.out hf.out _).mono ?_; rintro e w4 ⟨rfl, m1', L', hd4, hs4, hk4⟩; replace hd4 := Lib.hid hd4; replace hk4 := Lib.hid hk4; replace hs4 := Lib.hid hs4))
    go_ret
    exact ⟨rfl, _, _, _, hd4.out, hs4.out, hk2.out.trans hk4.out⟩
set_option maxHeartbeats 1000000 in
theorem trip_no {D : Int → Prop} (h : SwAt w B g f win m1 m2 L O T D) {k : Int} (hk : OkI k) (ho : (fget O k).isSome = true) :
    Calls Try.prog 11 #[.pointer (some ⟨g, 0, none⟩), .int .i64 k] w fun e w' => e = .returned (.bool false) ∧ Below w.heap.size w w' := by
  have HO := koff_at h hk
  rw [ho] at HO
  replace HO := Lib.hid HO
  clear h hk ho
  go_enter Try.func11, Try.ntmps11
  go_wp2_with (go_at_call 8; refine HO.out.mono ?_; rintro e w1 ⟨rfl, hb⟩; replace hb := Lib.hid hb)
  go_ret
  exact ⟨rfl, hb.out⟩
theorem trip_on (h : SwAt w B g f win m1 m2 L O T (fun _ => True)) {k : Int} (hk : OkI k) (ho : fget O k = none) :
    Calls Try.prog 11 #[.pointer (some ⟨g, 0, none⟩), .int .i64 k] w fun e w' => e = .returned (.bool true) ∧ Tripped w B g f win L O T k w' := by
  cases m2 with
  | none => exact trip_none h hk ho
  | some b => exact trip_some h hk ho
set_option maxHeartbeats 1000000 in
theorem enable_no {D : Int → Prop} (h : SwAt w B g f win m1 m2 L O T D) {k : Int} (hk : OkI k) (ho : fget O k = none) :
    Calls Try.prog 10 #[.pointer (some ⟨g, 0, none⟩), .int .i64 k] w fun e w' => e = .returned (.bool false) ∧ Below w.heap.size w w' := by
  have HO := koff_at h hk
  rw [ho] at HO
  dsimp only [Option.isSome] at HO
  replace HO := Lib.hid HO
  clear h hk ho
  go_enter Try.func10, Try.ntmps10
  go_wp2_with (go_at_call 8; refine HO.out.mono ?_; rintro e w1 ⟨rfl, hb⟩; replace hb := Lib.hid hb)
  go_ret
  exact ⟨rfl, hb.out⟩
set_option maxHeartbeats 1000000 in
theorem enable_yes {D : Int → Prop} (h : SwAt w B g f win m1 m2 L O T D) {k : Int} (hk : OkI k) (ho : (fget O k).isSome = true) :
    Calls Try.prog 10 #[.pointer (some ⟨g, 0, none⟩), .int .i64 k] w fun e w' => e = .returned (.bool true) ∧ SwAt w' B g f win m1 m2 L (fdel O k) T D ∧ Kp B w w' := by
  have HO := koff_at h hk
  rw [ho] at HO
  replace HO := Lib.hid HO
  obtain ⟨b, rfl⟩ : ∃ b, m2 = some b := by
    rcases h.offs with ⟨_, h1⟩ | ⟨b, h1, _⟩
    · subst h1; cases ho
    · exact ⟨b, h1⟩
  have HF : Hid (∀ w1, Below w.heap.size w w1 → (∃ w2, (∀ ty, (Builtin.delete_ #[35, 3] ty #[.map (some b), .int .i64 k]).run Try.prog w1 = .ok (.tuple #[]) w2) ∧ SwAt w2 B g f win m1 (some b) L (fdel O k) T D ∧ Kp B w w2) ∧ w1.cell? ⟨g, 3, none⟩ = some (.map (some b))) := Lib.hid fun w1 hb => by
    obtain ⟨w2, h1, h2, h3⟩ := (h.carry hb).delO hk
    exact ⟨⟨w2, h1, h2, (kp_below (Nat.le_of_lt h.base) hb).trans ((h.carry hb).kp (h3.mono (fun j _ e => .inr (.inr (.inl (by rw [e]))))))⟩, ((h.carry hb).box.reads 3).trans rfl⟩
  clear h hk ho
  go_enter Try.func10, Try.ntmps10
  go_wp2_with (first
    | (go_at_call 8; refine HO.out.mono ?_; rintro e w1 ⟨rfl, hb⟩; obtain ⟨⟨w2, hu, hd2, hk2⟩, c3⟩ := HF.out w1 hb; replace hd2 := Lib.hid hd2; replace hk2 := Lib.hid hk2)
    | (at_delete; refine wpList_delete_run rfl _ _ _ _ rfl (.map (some b)) (.int .i64 k) rfl rfl hu ?_))
  go_ret
  exact ⟨rfl, hd2.out, hk2.out⟩
end
end Go.Proofs.Ytekeciciajbnnaa

/- A switch in the document's words: Fill, Off, Count, Trip, Enable; known. -/
import Derived.Test.YtekeciciajbnnaaKilFill
set_option linter.unusedSimpArgs false
namespace Go.Proofs.Ytekeciciajbnnaa
open Go.RowKit Go.Mem1 Go.MapRow Go.KilMath

section
variable {w : World} {B g : Nat} {f win : Int} {T : Int → List Int} {last : Int → Option Int} {off : Int → Bool}
theorem ks_off (h : Sv w B g f win T last off) {k : Int} (hk : OkI k) :
    Calls Try.prog 8 #[.pointer (some ⟨g, 0, none⟩), .int .i64 k] w fun e w' => e = .returned (.bool (off k)) ∧ Sv w' B g f win T last off ∧ Kp B w w' := by
  have hB := Nat.le_of_lt h.base
  have h0 := h
  obtain ⟨m1, m2, L, O, h1, h2, h3⟩ := h
  rw [h3 k]
  exact (koff_at h1 hk).mono fun e w' ⟨a, b⟩ => ⟨a, h0.carry b, kp_below hB b⟩
theorem ks_count (h : Sv w B g f win T last off) {k : Int} (hk : OkI k) {now : Int} (hn : 0 ≤ now) (hn2 : now ≤ 1099511627776) :
    Calls Try.prog 9 #[.pointer (some ⟨g, 0, none⟩), .int .i64 k, .int .i64 now] w fun e w' => e = .returned (.int .i64 (((T k).length : Int) - pastN (T k) (lastOr (last k) now) win)) ∧ Sv w' B g f win T last off ∧ Kp B w w' := by
  have hB := Nat.le_of_lt h.base
  have h0 := h
  obtain ⟨m1, m2, L, O, h1, h2, h3⟩ := h
  rw [h2 k]
  exact (kcount_any h1 hk hn hn2).mono fun e w' ⟨a, b⟩ => ⟨a, h0.carry b, kp_below hB b⟩
theorem ks_fill_no (h : Sv w B g f win T last off) {k : Int} (hk : OkI k) (ho : off k = true) (now : Int) :
    Calls Try.prog 7 #[.pointer (some ⟨g, 0, none⟩), .int .i64 k, .int .i64 now] w fun e w' => e = .returned (.bool false) ∧ Sv w' B g f win T last off ∧ Kp B w w' := by
  have hB := Nat.le_of_lt h.base
  have h0 := h
  obtain ⟨m1, m2, L, O, h1, h2, h3⟩ := h
  exact (fill_no h1 hk (by rw [← h3 k]; exact ho) now).mono fun e w' ⟨a, b⟩ => ⟨a, h0.carry b, kp_below hB b⟩
theorem isSome_false {α : Type} {o : Option α} (h : o.isSome = false) : o = none := by cases o with | none => rfl | some _ => cases h
theorem ks_fill (h : Sv w B g f win T last off) {k : Int} (hk : OkI k) (ho : off k = false) {now : Int} (hn : 0 ≤ now) (hn2 : now ≤ 1099511627776) (hl : (T k).length < 1000) {t : Int} (ht : lastOr (last k) now = t) {ts : List Int} (hts : fillT (T k) t win = ts) (hlt : (ts.length : Int) < f) :
    Calls Try.prog 7 #[.pointer (some ⟨g, 0, none⟩), .int .i64 k, .int .i64 now] w fun e w' => e = .returned (.bool false) ∧ Sv w' B g f win (upd T k ts) (upd last k (some t)) off ∧ Kp B w w' := by
  obtain ⟨m1, m2, L, O, h1, h2, h3⟩ := h
  rw [h2 k] at ht
  refine (fill_on h1 hk (isSome_false (by rw [← h3 k]; exact ho)) hn hn2 ht hl).mono ?_
  rintro e w' (⟨_, h5, m1', v, h6, h7⟩ | ⟨h4, _⟩)
  · rw [hts] at h6
    refine ⟨h5, ⟨_, _, _, _, h6, fun j => ?_, h3⟩, h7⟩
    by_cases e : j = k
    · subst e; rw [upd_same, fget_put_same]; rfl
    · rw [upd_other last _ e, fget_put_other L _ e]; exact h2 j
  · rw [hts] at h4
    omega
theorem ks_fill_off (h : Sv w B g f win T last off) {k : Int} (hk : OkI k) (ho : off k = false) {now : Int} (hn : 0 ≤ now) (hn2 : now ≤ 1099511627776) (hl : (T k).length < 1000) {t : Int} (ht : lastOr (last k) now = t) {ts : List Int} (hts : fillT (T k) t win = ts) (hlt : f ≤ (ts.length : Int)) :
    Calls Try.prog 7 #[.pointer (some ⟨g, 0, none⟩), .int .i64 k, .int .i64 now] w fun e w' => e = .returned (.bool true) ∧ Sv w' B g f win (upd T k []) (upd last k (some t)) (upd off k true) ∧ Kp B w w' := by
  obtain ⟨m1, m2, L, O, h1, h2, h3⟩ := h
  rw [h2 k] at ht
  refine (fill_on h1 hk (isSome_false (by rw [← h3 k]; exact ho)) hn hn2 ht hl).mono ?_
  rintro e w' (⟨h4, _⟩ | ⟨_, h5, m1', m2', v, L', h6, h7, h8⟩)
  · rw [hts] at h4
    omega
  · refine ⟨h5, ⟨_, _, _, _, h6, fun j => ?_, fun j => ?_⟩, h8⟩
    · rw [h7 j]
      by_cases e : j = k
      · subst e; rw [upd_same, fget_put_same]; rfl
      · rw [upd_other last _ e, fget_put_other L _ e]; exact h2 j
    · rw [fget_put_some]
      by_cases e : j = k
      · subst e; rw [upd_same]; simp
      · rw [upd_other off _ e, h3 j]; simp [e]
theorem ks_trip (h : Sv w B g f win T last off) {k : Int} (hk : OkI k) (ho : off k = false) :
    Calls Try.prog 11 #[.pointer (some ⟨g, 0, none⟩), .int .i64 k] w fun e w' => e = .returned (.bool true) ∧ Sv w' B g f win (upd T k []) last (upd off k true) ∧ Kp B w w' := by
  obtain ⟨m1, m2, L, O, h1, h2, h3⟩ := h
  refine (trip_on h1 hk (isSome_false (by rw [← h3 k]; exact ho))).mono ?_
  rintro e w' ⟨rfl, m1', m2', L', h6, h7, h8⟩
  refine ⟨rfl, ⟨_, _, _, _, h6, fun j => by rw [h7 j]; exact h2 j, fun j => ?_⟩, h8⟩
  rw [fget_put_some]
  by_cases e : j = k
  · subst e; rw [upd_same]; simp
  · rw [upd_other off _ e, h3 j]; simp [e]
theorem ks_trip_no (h : Sv w B g f win T last off) {k : Int} (hk : OkI k) (ho : off k = true) :
    Calls Try.prog 11 #[.pointer (some ⟨g, 0, none⟩), .int .i64 k] w fun e w' => e = .returned (.bool false) ∧ Sv w' B g f win T last off ∧ Kp B w w' := by
  have hB := Nat.le_of_lt h.base
  have h0 := h
  obtain ⟨m1, m2, L, O, h1, h2, h3⟩ := h
  exact (trip_no h1 hk (by rw [← h3 k]; exact ho)).mono fun e w' ⟨a, b⟩ => ⟨a, h0.carry b, kp_below hB b⟩
theorem ks_enable (h : Sv w B g f win T last off) {k : Int} (hk : OkI k) (ho : off k = true) :
    Calls Try.prog 10 #[.pointer (some ⟨g, 0, none⟩), .int .i64 k] w fun e w' => e = .returned (.bool true) ∧ Sv w' B g f win T last (upd off k false) ∧ Kp B w w' := by
  obtain ⟨m1, m2, L, O, h1, h2, h3⟩ := h
  refine (enable_yes h1 hk (by rw [← h3 k]; exact ho)).mono ?_
  rintro e w' ⟨rfl, h6, h8⟩
  refine ⟨rfl, ⟨_, _, _, _, h6, h2, fun j => ?_⟩, h8⟩
  by_cases e : j = k
  · subst e; rw [upd_same, fget_del_same]; rfl
  · rw [upd_other off _ e, fget_del_other O e]; exact h3 j
end
/-- known's state: what is told of makers 1 and 2. -/
def Kn (w0 : World) (g : Nat) (ts : List Int) (l : Option Int) (o o2 : Bool) (w : World) : Prop :=
  ∃ T last off, Sv w w0.heap.size g 2 10 T last off ∧ T 1 = ts ∧ last 1 = l ∧ off 1 = o ∧ off 2 = o2 ∧ Below w0.heap.size w0 w
section
variable {w0 w : World} {g : Nat} {ts : List Int} {l : Option Int} {o o2 : Bool}
theorem ok1 : OkI 1 := by unfold OkI; decide
theorem ok2 : OkI 2 := by unfold OkI; decide
theorem Kn.off1 (h : Kn w0 g ts l o o2 w) : Calls Try.prog 8 #[.pointer (some ⟨g, 0, none⟩), .int .i64 1] w fun e w' => e = .returned (.bool o) ∧ Kn w0 g ts l o o2 w' := by
  obtain ⟨T, la, of, h1, h2, h3, h4, h5, h6⟩ := h
  have := ks_off h1 ok1
  rw [h4] at this
  exact this.mono fun e w' ⟨a, b, c⟩ => ⟨a, T, la, of, b, h2, h3, h4, h5, h6.trans c.below⟩
theorem Kn.count1 (h : Kn w0 g ts l o o2 w) {now : Int} (hn : 0 ≤ now) (hn2 : now ≤ 1099511627776) {c : Int} (hc : (ts.length : Int) - pastN ts (lastOr l now) 10 = c) : Calls Try.prog 9 #[.pointer (some ⟨g, 0, none⟩), .int .i64 1, .int .i64 now] w fun e w' => e = .returned (.int .i64 c) ∧ Kn w0 g ts l o o2 w' := by
  obtain ⟨T, la, of, h1, h2, h3, h4, h5, h6⟩ := h
  have := ks_count h1 ok1 hn hn2
  rw [h2, h3, hc] at this
  exact this.mono fun e w' ⟨a, b, c⟩ => ⟨a, T, la, of, b, h2, h3, h4, h5, h6.trans c.below⟩
theorem Kn.fill (h : Kn w0 g ts l false o2 w) {now t : Int} (hn : 0 ≤ now) (hn2 : now ≤ 1099511627776) (hl : ts.length < 1000) (ht : lastOr l now = t) {ts' : List Int} (hts : fillT ts t 10 = ts') (hlt : (ts'.length : Int) < 2) : Calls Try.prog 7 #[.pointer (some ⟨g, 0, none⟩), .int .i64 1, .int .i64 now] w fun e w' => e = .returned (.bool false) ∧ Kn w0 g ts' (some t) false o2 w' := by
  obtain ⟨T, la, of, h1, h2, h3, h4, h5, h6⟩ := h
  subst h2; subst h3
  exact (ks_fill h1 ok1 h4 hn hn2 hl ht hts hlt).mono fun e w' ⟨a, b, c⟩ => ⟨a, _, _, _, b, upd_same _ _ _, upd_same _ _ _, h4, h5, h6.trans c.below⟩
theorem Kn.fillOff (h : Kn w0 g ts l false o2 w) {now t : Int} (hn : 0 ≤ now) (hn2 : now ≤ 1099511627776) (hl : ts.length < 1000) (ht : lastOr l now = t) (hlt : (2 : Int) ≤ (fillT ts t 10).length) : Calls Try.prog 7 #[.pointer (some ⟨g, 0, none⟩), .int .i64 1, .int .i64 now] w fun e w' => e = .returned (.bool true) ∧ Kn w0 g [] (some t) true o2 w' := by
  obtain ⟨T, la, of, h1, h2, h3, h4, h5, h6⟩ := h
  subst h2; subst h3
  exact (ks_fill_off h1 ok1 h4 hn hn2 hl ht rfl hlt).mono fun e w' ⟨a, b, c⟩ => ⟨a, _, _, _, b, upd_same _ _ _, upd_same _ _ _, upd_same _ _ _, by rw [upd_other of _ (by decide)]; exact h5, h6.trans c.below⟩
theorem Kn.fillNo (h : Kn w0 g ts l true o2 w) (now : Int) : Calls Try.prog 7 #[.pointer (some ⟨g, 0, none⟩), .int .i64 1, .int .i64 now] w fun e w' => e = .returned (.bool false) ∧ Kn w0 g ts l true o2 w' := by
  obtain ⟨T, la, of, h1, h2, h3, h4, h5, h6⟩ := h
  exact (ks_fill_no h1 ok1 h4 now).mono fun e w' ⟨a, b, c⟩ => ⟨a, T, la, of, b, h2, h3, h4, h5, h6.trans c.below⟩
theorem Kn.enable (h : Kn w0 g ts l true o2 w) : Calls Try.prog 10 #[.pointer (some ⟨g, 0, none⟩), .int .i64 1] w fun e w' => e = .returned (.bool true) ∧ Kn w0 g ts l false o2 w' := by
  obtain ⟨T, la, of, h1, h2, h3, h4, h5, h6⟩ := h
  exact (ks_enable h1 ok1 h4).mono fun e w' ⟨a, b, c⟩ => ⟨a, T, la, _, b, h2, h3, upd_same _ _ _, by rw [upd_other of _ (by decide)]; exact h5, h6.trans c.below⟩
theorem Kn.trip2 (h : Kn w0 g ts l o false w) : Calls Try.prog 11 #[.pointer (some ⟨g, 0, none⟩), .int .i64 2] w fun e w' => e = .returned (.bool true) ∧ Kn w0 g ts l o true w' := by
  obtain ⟨T, la, of, h1, h2, h3, h4, h5, h6⟩ := h
  exact (ks_trip h1 ok2 h5).mono fun e w' ⟨a, b, c⟩ => ⟨a, _, la, _, b, by rw [upd_other T _ (by decide)]; exact h2, h3, by rw [upd_other of _ (by decide)]; exact h4, upd_same _ _ _, h6.trans c.below⟩
theorem Kn.trip2No (h : Kn w0 g ts l o true w) : Calls Try.prog 11 #[.pointer (some ⟨g, 0, none⟩), .int .i64 2] w fun e w' => e = .returned (.bool false) ∧ Kn w0 g ts l o true w' := by
  obtain ⟨T, la, of, h1, h2, h3, h4, h5, h6⟩ := h
  exact (ks_trip_no h1 ok2 h5).mono fun e w' ⟨a, b, c⟩ => ⟨a, T, la, of, b, h2, h3, h4, h5, h6.trans c.below⟩
theorem Kn.s1 (h : Kn w0 g [] none false o2 w) : Calls Try.prog 7 #[.pointer (some ⟨g, 0, none⟩), .int .i64 1, .int .i64 5] w fun e w' => e = .returned (.bool false) ∧ Kn w0 g [5] (some 5) false o2 w' :=
  h.fill (now := 5) (t := 5) (ts' := [5]) (by decide) (by decide) (by decide) rfl (by decide) (by decide)
theorem Kn.s2 (h : Kn w0 g [5] (some 5) o o2 w) : Calls Try.prog 9 #[.pointer (some ⟨g, 0, none⟩), .int .i64 1, .int .i64 5] w fun e w' => e = .returned (.int .i64 1) ∧ Kn w0 g [5] (some 5) o o2 w' :=
  h.count1 (now := 5) (c := 1) (by decide) (by decide) (by decide)
theorem Kn.s3 (h : Kn w0 g [5] (some 5) false o2 w) : Calls Try.prog 7 #[.pointer (some ⟨g, 0, none⟩), .int .i64 1, .int .i64 14] w fun e w' => e = .returned (.bool true) ∧ Kn w0 g [] (some 14) true o2 w' :=
  h.fillOff (now := 14) (t := 14) (by decide) (by decide) (by decide) (by decide) (by decide)
theorem Kn.s4 (h : Kn w0 g [] (some 14) true o2 w) : Calls Try.prog 7 #[.pointer (some ⟨g, 0, none⟩), .int .i64 1, .int .i64 14] w fun e w' => e = .returned (.bool false) ∧ Kn w0 g [] (some 14) true o2 w' := h.fillNo 14
theorem Kn.s8 (h : Kn w0 g [] (some 14) o o2 w) : Calls Try.prog 9 #[.pointer (some ⟨g, 0, none⟩), .int .i64 1, .int .i64 14] w fun e w' => e = .returned (.int .i64 0) ∧ Kn w0 g [] (some 14) o o2 w' :=
  h.count1 (now := 14) (c := 0) (by decide) (by decide) (by decide)
theorem Kn.below (h : Kn w0 g ts l o o2 w) : Below w0.heap.size w0 w := by
  obtain ⟨T, la, of, h1, h2, h3, h4, h5, h6⟩ := h
  exact h6
end
theorem ptr_not (g : Nat) (w : World) : (binOp BinOp.eql 23 (.pointer (some ⟨g, 0, none⟩)) (.pointer none)).run Try.prog w = .ok (.bool false) w := by kernel_rfl
set_option maxRecDepth 100000 in
set_option maxHeartbeats 2000000 in
theorem kknown_ok (w : World) : Calls Try.prog 5 #[] w fun e w' => e = .returned (.bool true) ∧ Below w.heap.size w w' := by
  have N1 : Hid (Calls Try.prog 6 #[.int .i64 2, .int .i64 10] w fun e w' => e = .returned (.tuple #[.pointer (some ⟨w.heap.size, 0, none⟩), .int .i64 0]) ∧ Kn w w.heap.size [] none false false w') := Lib.hid ((knew_ok (by decide) (by decide) (by decide) (by decide) w).mono fun e w' ⟨a, b, c⟩ => ⟨a, _, _, _, b, rfl, rfl, rfl, rfl, c⟩)
  obtain ⟨g, hg⟩ : ∃ g, w.heap.size = g := ⟨_, rfl⟩
  rw [hg] at N1
  clear hg
  have PN := ptr_not g
  go_enter Try.func5, Try.ntmps5
  go_wp2_with (first
    | (go_at_call 6; (first
        | (with_reducible refine N1.out.mono ?_; rintro e w1 ⟨rfl, K⟩; replace K := Lib.hid K)
        | (with_reducible refine (knew_bad 1 _).mono ?_; rintro e w1 ⟨rfl, rfl⟩)))
    | (go_at_call 7; (first
        | (with_reducible refine K.out.s1.mono ?_; clear K; rintro e w2 ⟨rfl, K⟩; replace K := Lib.hid K)
        | (with_reducible refine K.out.s3.mono ?_; clear K; rintro e w2 ⟨rfl, K⟩; replace K := Lib.hid K)
        | (with_reducible refine K.out.s4.mono ?_; clear K; rintro e w2 ⟨rfl, K⟩; replace K := Lib.hid K)))
    | (go_at_call 9; (first
        | (with_reducible refine K.out.s2.mono ?_; clear K; rintro e w2 ⟨rfl, K⟩; replace K := Lib.hid K)
        | (with_reducible refine K.out.s8.mono ?_; clear K; rintro e w2 ⟨rfl, K⟩; replace K := Lib.hid K)))
    | (go_at_call 8; (first
        | (with_reducible refine K.out.off1.mono ?_; clear K; rintro e w2 ⟨rfl, K⟩; replace K := Lib.hid K)))
    | (go_at_call 10; (first
        | (with_reducible refine K.out.enable.mono ?_; clear K; rintro e w2 ⟨rfl, K⟩; replace K := Lib.hid K)))
    | (go_at_call 11; (first
        | (with_reducible refine K.out.trip2.mono ?_; clear K; rintro e w2 ⟨rfl, K⟩; replace K := Lib.hid K)
        | (with_reducible refine K.out.trip2No.mono ?_; clear K; rintro e w2 ⟨rfl, K⟩; replace K := Lib.hid K))))
  go_ret
  exact ⟨rfl, K.out.below⟩
end Go.Proofs.Ytekeciciajbnnaa

/- Contracts of the landed codec's Dec: fail, pass, Int, Raw, Left, Err; Of. -/
import Derived.Test.YtdgnkpbokoomkaaCodNum
namespace Go.Proofs.Ytdgnkpbokoomkaa
open Go.RowKit Go.Mem1 Go.CodMath

theorem Byt.cutAny {w : World} {B : Nat} {A : Option Addr} {n k : Nat} {l : List Nat} (h : Byt w B A n l) (hk : k ≤ n) : Byt w B (A.map fun x => x.add k) (n - k) (l.drop k) := by
  have hl := h.len
  rcases Nat.eq_zero_or_pos (n - k) with h0 | h0
  · rw [h0, List.drop_eq_nil_of_le (by omega)]
    exact Byt.empty _ _ _
  · obtain ⟨b, o, rfl, _, _⟩ := h.rd.cells (by omega)
    have := h.cut hk
    rw [Option.map_some, Addr.add_lit]
    exact this
theorem Byt.gone {w : World} {B : Nat} {A A' : Option Addr} {n k : Nat} {l : List Nat} (h : Byt w B A n l) (hk : n ≤ k) : Byt w B A' (n - k) (l.drop k) := by
  have hl := h.len
  rw [List.drop_eq_nil_of_le (by omega), show n - k = 0 by omega]
  exact Byt.empty _ _ _

/-- A Dec's state: what is left, where, what is wrong. -/
structure St where
  l : List Nat
  p : Nat
  e : Nat
/-- A Dec in block g. -/
def DecAt (w : World) (B g : Nat) (s : St) : Prop :=
  ∃ A n c, Box w g 58 #[.slice A n c, .int .i64 (s.p : Int), .int .i64 (s.e : Int)] ∧ Byt w w.heap.size A n s.l ∧ (A = none → c = 0) ∧ n ≤ c ∧ B ≤ g ∧ s.p + n ≤ 1000000
theorem DecAt.apart {w : World} {g n : Nat} {A : Option Addr} {l : List Nat} {x : Value} {p e : Int} (hb : Box w g 58 #[x, .int .i64 p, .int .i64 e]) (hx : ∀ k y, x ≠ .int k y) (h : Byt w w.heap.size A n l) :
    ∀ b o, A = some ⟨b, o, none⟩ → 0 < n → b ≠ g := by
  rintro b o rfl hn rfl
  obtain ⟨b', o', X, e1, _, _, _, hc⟩ := h.at_ hn
  injection e1 with e1; injection e1 with e1 e2; subst e1; subst e2
  rw [hb.reads] at hc
  match o, hc with
  | 0, hc => exact hx .u8 (X : Int) (by simpa using hc)
  | 1, hc => simp at hc
  | 2, hc => simp at hc
  | (k + 3), hc => simp at hc
theorem DecAt.drew {w : World} {B g : Nat} {s : St} (h : DecAt w B g s) : DecAt w.drew B g s := by
  obtain ⟨A, n, c, h1, h2, h3, h4, h5, h6⟩ := h
  exact ⟨A, n, c, h1, h2.drew, h3, h4, h5, h6⟩
theorem DecAt.there {w : World} {B g : Nat} {s : St} (h : DecAt w B g s) : B ≤ g ∧ g < w.heap.size := by
  obtain ⟨A, n, c, h1, h2, h3, h4, h5, h6⟩ := h
  exact ⟨h5, h1.there⟩
theorem DecAt.below {w w' : World} {B g : Nat} {s : St} (h : DecAt w B g s) (hb : Below w.heap.size w w') : DecAt w' B g s := by
  obtain ⟨A, n, c, h1, h2, h3, h4, h5, h6⟩ := h
  exact ⟨A, n, c, h1.kept_below hb h1.there, (h2.carry hb).wider hb.size, h3, h4, h5, h6⟩
def failSt (s : St) (x : Nat) : St := if s.e = 0 then ⟨[], s.p, x⟩ else s

def DecPost (w : World) (B g : Nat) (s : St) (w' : World) : Prop := DecAt w' B g s ∧ Chg (· = g) w w'
set_option maxHeartbeats 1000000 in
theorem fail_any (g B : Nat) (s : St) (x : Nat) (w : World) (h : DecAt w B g s) (_hx : x ≤ 100) :
    Calls Try.prog 22 #[.pointer (some ⟨g, 0, none⟩), .int .i64 (x : Int)] w fun e w' => e = .returned (.tuple #[]) ∧ DecPost w B g (failSt s x) w' := by
  have HD := Lib.hid h
  obtain ⟨A, n, c, hb, hy, hc0, hnc, hB, hp⟩ := h
  have c0 := hb.reads 0
  have c2 := hb.reads 2
  have f0 := hb.unmarked 0
  have f2 := hb.unmarked 2
  have hgl := hb.there
  simp at c0 c2
  by_cases he : s.e = 0
  · rw [he] at c2
    have hfin : DecPost w B g (failSt s x) ((w.setCell ⟨g, 0, none⟩ (.slice none 0 0)).setCell ⟨g, 2, none⟩ (.int .i64 (x : Int))) := by
      unfold failSt
      rw [if_pos he]
      refine ⟨⟨none, 0, 0, ?_, Byt.empty _ _ _, fun _ => rfl, Nat.le_refl _, hB, by simp; omega⟩, ?_⟩
      · simpa using (hb.wrote 0 (.slice none 0 0)).wrote 2 (.int .i64 (x : Int))
      · exact ((Chg.refl (· = g) w).setCell (fun _ => rfl) _).setCell (fun _ => rfl) _
    have HF := Lib.hid hfin
    have HE := Lib.hid he
    clear hfin hb hy he
    go_enter Try.func22, Try.ntmps22
    go_wp2_with fail
    go_end0
    exact ⟨rfl, HF.out⟩
  · have hne : ((s.e : Int) == 0) = false := by simp; omega
    have hfin : DecPost w B g (failSt s x) w := by
      unfold failSt
      rw [if_neg he]
      exact ⟨HD.out, Chg.refl _ _⟩
    have HF := Lib.hid hfin
    clear hfin hb hy he
    go_enter Try.func22, Try.ntmps22
    go_wp2_with fail
    go_end0
    exact ⟨rfl, HF.out⟩

theorem pass_end {w : World} {B g : Nat} {s : St} {A A' : Option Addr} {n c k c' : Nat} (hb : Box w g 58 #[.slice A n c, .int .i64 (s.p : Int), .int .i64 (s.e : Int)]) (hk : k ≤ n)
    (hy : Byt w w.heap.size A' (n - k) (s.l.drop k)) (hc : A' = none → c' = 0) (hnc : n - k ≤ c') (hB : B ≤ g) (hp : s.p + n ≤ 1000000) :
    DecPost w B g ⟨s.l.drop k, s.p + k, s.e⟩ ((w.setCell ⟨g, 0, none⟩ (.slice A' (n - k) c')).setCell ⟨g, 1, none⟩ (.int .i64 ((s.p : Int) + (k : Int)))) := by
  have hch : Chg (· = g) w ((w.setCell ⟨g, 0, none⟩ (.slice A' (n - k) c')).setCell ⟨g, 1, none⟩ (.int .i64 ((s.p : Int) + (k : Int)))) :=
    ((Chg.refl (· = g) w).setCell (fun _ => rfl) _).setCell (fun _ => rfl) _
  refine ⟨⟨A', n - k, c', ?_, hy.kept hch (DecAt.apart hb (fun _ _ h => by cases h) hy), hc, by omega, hB, by simp; omega⟩, hch⟩
  simpa using (hb.wrote 0 (.slice A' (n - k) c')).wrote 1 (.int .i64 ((s.p : Int) + (k : Int)))
set_option maxHeartbeats 1000000 in
theorem pass_any (g B : Nat) (s : St) (k : Nat) (w : World) (h : DecAt w B g s) (hk : k ≤ s.l.length) :
    Calls Try.prog 23 #[.pointer (some ⟨g, 0, none⟩), .int .i64 (k : Int)] w fun e w' => e = .returned (.tuple #[]) ∧ DecPost w B g ⟨s.l.drop k, s.p + k, s.e⟩ w' := by
  obtain ⟨A, n, c, hb, hy, hc0, hnc, hB, hp⟩ := h
  have c0 := hb.reads 0
  have c1 := hb.reads 1
  have f0 := hb.unmarked 0
  have f1 := hb.unmarked 1
  have hgl := hb.there
  simp at c0 c1
  have hl := hy.len
  have q1 : (0 : Int) ≤ (k : Int) := by omega
  have q2 : (k : Int) ≤ (n : Int) := by omega
  have q3 : (n : Int) ≤ (c : Int) := by omega
  have q4 : (k : Int) ≤ (c : Int) := by omega
  have hyy := Lib.hid hy
  have HL := Lib.hid hl
  have HC := Lib.hid hc0
  have HB := Lib.hid hb
  clear hl hb hy hc0
  have K1 := pass_end (k := k) (c' := c - k) HB.out (by omega) (hyy.out.cutAny (by omega)) (fun h => by
    have := HC.out (by cases A with
      | none => rfl
      | some a => cases h)
    omega) (by omega) hB hp
  have HK1 := Lib.hid K1
  clear K1
  by_cases hck : c = k
  · have K2 := pass_end (A' := A) (c' := 0) HB.out (show k ≤ n by omega) (hyy.out.gone (by omega)) (fun _ => rfl) (by omega) hB hp
    have HK2 := Lib.hid K2
    clear K2 HC HL hyy HK1
    go_enter Try.func23, Try.ntmps23
    go_wp2_with fail
    go_end0
    exact ⟨rfl, HK2.out⟩
  · clear HC HL hyy
    go_enter Try.func23, Try.ntmps23
    go_wp2_with fail
    go_end0
    exact ⟨rfl, HK1.out⟩

/-- What Int and Raw tell, and what is behind them. -/
def intVal (l : List Nat) : Int := if (num l).2.2 = 0 then unz (num l).1 else 0
def intSt (s : St) : St := if (num s.l).2.2 = 0 then ⟨s.l.drop (num s.l).2.1, s.p + (num s.l).2.1, s.e⟩ else failSt s (num s.l).2.2
def rawOk (l : List Nat) : Prop := (num l).2.2 = 0 ∧ 0 ≤ unz (num l).1 ∧ unz (num l).1 ≤ (l.length : Int) - ((num l).2.1 : Int)
instance (l : List Nat) : Decidable (rawOk l) := by unfold rawOk; infer_instance
def rawVal (l : List Nat) : List Nat := if rawOk l then (l.drop (num l).2.1).take (unz (num l).1).toNat else []
def rawSt (s : St) : St := if rawOk s.l then ⟨s.l.drop ((num s.l).2.1 + (unz (num s.l).1).toNat), s.p + ((num s.l).2.1 + (unz (num s.l).1).toNat), s.e⟩ else failSt s (if (num s.l).2.2 ≠ 0 then (num s.l).2.2 else if unz (num s.l).1 < 0 then 2 else 3)

set_option maxHeartbeats 1000000 in
theorem decInt_any (g B : Nat) (s : St) (w : World) (h : DecAt w B g s) :
    Calls Try.prog 14 #[.pointer (some ⟨g, 0, none⟩)] w fun e w' => e = .returned (.int .i64 (intVal s.l)) ∧ DecPost w B g (intSt s) w' := by
  have HD := Lib.hid h
  obtain ⟨A, n, c, hb, hy, hc0, hnc, hB, hp⟩ := h
  have c0 := hb.reads 0
  simp at c0
  have hl := hy.len
  have hbd := num_bd hy.bnd
  have hnum := number_any A n c s.l w w.heap.size (by omega) hy
  by_cases hok : (num s.l).2.2 = 0
  · have hv : intVal s.l = unz (num s.l).1 := if_pos hok
    have hs : intSt s = ⟨s.l.drop (num s.l).2.1, s.p + (num s.l).2.1, s.e⟩ := if_pos hok
    have hpa := pass_any g B s (num s.l).2.1 w HD.out hbd.2.1
    unfold NumRet at hnum
    rw [if_pos hok, hok] at hnum
    rw [hv, hs]
    generalize (num s.l).2.1 = k at *
    generalize unz (num s.l).1 = v at *
    have HN := Lib.hid hnum
    have HP := Lib.hid hpa
    clear hnum hpa hb hy hc0 hl hbd hv hs hok
    go_enter Try.func14, Try.ntmps14
    go_wp2_with fail
    refine HN.out.mono ?_
    rintro e w1 ⟨rfl, rfl⟩
    go_wp2_with fail
    refine HP.out.mono ?_
    rintro e w1 ⟨rfl, hw1⟩
    have HW := Lib.hid hw1
    clear hw1
    go_wp2_with fail
    go_ret
    exact ⟨rfl, HW.out⟩
  · have hv : intVal s.l = 0 := if_neg hok
    have hs : intSt s = failSt s (num s.l).2.2 := if_neg hok
    have hx : (num s.l).2.2 ≤ 100 := by
      rcases hbd.2.2.2 with h | h | h
      · omega
      · rw [h]; decide
      · rw [h]; decide
    have hfa := fail_any g B s (num s.l).2.2 w HD.out hx
    unfold NumRet at hnum
    rw [if_neg hok] at hnum
    rw [hv, hs]
    have hne : (((num s.l).2.2 : Int) != 0) = true := by simp; omega
    generalize (num s.l).2.2 = x at *
    generalize (num s.l).2.1 = k at *
    have HN := Lib.hid hnum
    have HP := Lib.hid hfa
    clear hnum hfa hb hy hc0 hl hbd hv hs hok
    go_enter Try.func14, Try.ntmps14
    go_wp2_with fail
    refine HN.out.mono ?_
    rintro e w1 ⟨rfl, rfl⟩
    go_wp2_with fail
    refine HP.out.mono ?_
    rintro e w1 ⟨rfl, hw1⟩
    have HW := Lib.hid hw1
    clear hw1
    go_wp2_with fail
    go_ret
    exact ⟨rfl, HW.out⟩

theorem decLeft_any (g B : Nat) (s : St) (w : World) (h : DecAt w B g s) :
    Calls Try.prog 15 #[.pointer (some ⟨g, 0, none⟩)] w fun e w' => e = .returned (.int .i64 (s.l.length : Int)) ∧ w = w' := by
  obtain ⟨A, n, c, hb, hy, hc0, hnc, hB, hp⟩ := h
  have c0 := hb.reads 0
  simp at c0
  rw [hy.len]
  clear hb hy hc0
  go_enter Try.func15, Try.ntmps15
  go_wp2_with fail
  go_ret
  exact ⟨rfl, rfl⟩

def RawPost (w : World) (B g : Nat) (s : St) (e : Ending) (w' : World) : Prop :=
  ∃ A n c, e = .returned (.slice A n c) ∧ Byt w' w'.heap.size A n (rawVal s.l) ∧ DecPost w B g (rawSt s) w'
theorem raw_bad {w w' : World} {B g : Nat} {s : St} {x : Nat} (hn : ¬ rawOk s.l) (hx : x = (if (num s.l).2.2 ≠ 0 then (num s.l).2.2 else if unz (num s.l).1 < 0 then 2 else 3)) (h : DecPost w B g (failSt s x) w') :
    RawPost w B g s (.returned (.slice none 0 0)) w' := by
  refine ⟨none, 0, 0, rfl, ?_, ?_⟩
  · unfold rawVal; rw [if_neg hn]; exact Byt.empty _ _ _
  · unfold rawSt; rw [if_neg hn, ← hx]; exact h

theorem pass_two (g B : Nat) (s : St) (k v : Nat) (w : World) (h : DecAt w B g s) (hk : k + v ≤ s.l.length) :
    Calls Try.prog 23 #[.pointer (some ⟨g, 0, none⟩), .int .i64 ((k : Int) + (v : Int))] w fun e w' => e = .returned (.tuple #[]) ∧ DecPost w B g ⟨s.l.drop (k + v), s.p + (k + v), s.e⟩ w' := by
  have := pass_any g B s (k + v) w h hk
  rw [Int.natCast_add] at this
  exact this
theorem raw_fin {w w1 w2 : World} {B g n1 c1 : Nat} {A1 : Option Addr} {l : List Nat} {s' : St} (hcl : Below w.heap.size w w1) (ho : w1.ownsRow w.heap.size 5 1 (.slice A1 n1 c1) n1 (l.map bv)) (hb : ∀ x ∈ l, x < 256)
    (hg : g < w.heap.size) (hp : DecPost w1 B g s' w2) : Byt w2 w2.heap.size A1 n1 l ∧ DecPost w B g s' w2 := by
  refine ⟨(Byt.ofOwn ho hb).kept hp.2 ?_, hp.1, ?_⟩
  · rintro b o rfl _ rfl
    have := (ho.lt b rfl).1
    omega
  · exact (Chg.of_below hcl (· = g)).trans hp.2 (fun _ _ h => h) (fun _ _ h => h)

set_option maxRecDepth 100000 in
set_option maxHeartbeats 1000000 in
theorem decRaw_any (g B : Nat) (s : St) (w : World) (h : DecAt w B g s) :
    Calls Try.prog 13 #[.pointer (some ⟨g, 0, none⟩)] w (RawPost w B g s) := by
  have HD := Lib.hid h
  obtain ⟨A, n, c, hb, hy, hc0, hnc, hB, hp⟩ := h
  have c0 := hb.reads 0
  simp at c0
  have hl := hy.len
  have hbd := num_bd hy.bnd
  have hub := unz_bd hbd.1
  have hnum := number_any A n c s.l w w.heap.size (by omega) hy
  by_cases hok : (num s.l).2.2 = 0
  · unfold NumRet at hnum
    rw [if_pos hok, hok] at hnum
    by_cases hneg : unz (num s.l).1 < 0
    · have hbad : ∀ w', DecPost w B g (failSt s 2) w' → RawPost w B g s (.returned (.slice none 0 0)) w' := fun w' h =>
        raw_bad (fun h => by have := h.2.1; omega) (by rw [if_neg (by simpa using hok), if_pos hneg]) h
      have hfa := fail_any g B s 2 w HD.out (by omega)
      generalize (num s.l).2.1 = k at *
      generalize unz (num s.l).1 = v at *
      have HN := Lib.hid hnum
      have HP := Lib.hid hfa
      have HBd := Lib.hid hbad
      clear hnum hfa hb hy hc0 hl hbd hok hbad
      go_enter Try.func13, Try.ntmps13
      go_wp2_with fail
      refine HN.out.mono ?_
      rintro e w1 ⟨rfl, rfl⟩
      go_wp2_with fail
      refine HP.out.mono ?_
      rintro e w1 ⟨rfl, hw1⟩
      have HW := Lib.hid hw1
      clear hw1
      go_wp2_with fail
      go_ret
      exact HBd.out _ HW.out
    · by_cases hlong : (s.l.length : Int) - ((num s.l).2.1 : Int) < unz (num s.l).1
      · have hbad : ∀ w', DecPost w B g (failSt s 3) w' → RawPost w B g s (.returned (.slice none 0 0)) w' := fun w' h =>
          raw_bad (fun h => by have := h.2.2; omega) (by rw [if_neg (by simpa using hok), if_neg hneg]) h
        have hfa := fail_any g B s 3 w HD.out (by omega)
        have hkl := hbd.2.1
        rw [hl] at hlong hkl
        generalize (num s.l).2.1 = k at *
        generalize unz (num s.l).1 = v at *
        have HN := Lib.hid hnum
        have HP := Lib.hid hfa
        have HBd := Lib.hid hbad
        clear hnum hfa hb hy hc0 hl hbd hok hbad
        go_enter Try.func13, Try.ntmps13
        go_wp2_with fail
        refine HN.out.mono ?_
        rintro e w1 ⟨rfl, rfl⟩
        go_wp2_with fail
        refine HP.out.mono ?_
        rintro e w1 ⟨rfl, hw1⟩
        have HW := Lib.hid hw1
        clear hw1
        go_wp2_with fail
        go_ret
        exact HBd.out _ HW.out
      · have hro : rawOk s.l := ⟨hok, by omega, by omega⟩
        have hs : rawSt s = ⟨s.l.drop ((num s.l).2.1 + (unz (num s.l).1).toNat), s.p + ((num s.l).2.1 + (unz (num s.l).1).toNat), s.e⟩ := if_pos hro
        have hv : rawVal s.l = (s.l.drop (num s.l).2.1).take (unz (num s.l).1).toNat := if_pos hro
        have hkl := hbd.2.1
        obtain ⟨v, hvv⟩ := Int.eq_ofNat_of_zero_le (show 0 ≤ unz (num s.l).1 by omega)
        rw [hvv] at hs hv hnum hlong
        rw [Int.toNat_natCast] at hs hv
        generalize (num s.l).2.1 = k at *
        unfold RawPost
        rw [hs, hv]
        have hkv : k + v ≤ n := by omega
        have hk0 : 0 ≤ (k : Int) := by omega
        have hkv0 : (k : Int) ≤ (k : Int) + (v : Int) := by omega
        have hkv1 : (k : Int) + (v : Int) ≤ (n : Int) := by omega
        have hkc : (k : Int) + (v : Int) ≤ (c : Int) := by omega
        have hlong2 : ¬ (n : Int) - (k : Int) < (v : Int) := by omega
        have hin : IntKind.i64.wrap (v : Int) = (v : Int) := by rw [IntKind.wrap_i64]; omega
        have hgl := hb.there
        by_cases hck : c = k
        · subst hck
          have hv0 : v = 0 := by omega
          have hcl := clone_any A 0 0 [] w (by omega) (fun _ => rfl) (Byt.empty _ _ _)
          have HCL := Lib.hid hcl
          have HV := Lib.hid hv0
          have HY := Lib.hid hy
          have HN := Lib.hid hnum
          have HL := Lib.hid hl
          have HC := Lib.hid hc0
          clear hnum hb hy hc0 hl hbd hok hro hs hv hvv hub hneg hlong hcl hv0
          go_enter Try.func13, Try.ntmps13
          go_wp2_with fail
          refine HN.out.mono ?_
          rintro e w1 ⟨rfl, rfl⟩
          go_wp2_with fail
          refine HCL.out.mono ?_
          rintro e w1 ⟨hb1, A1, c1, rfl, _, _, ho1⟩
          have HO := Lib.hid ho1
          clear ho1
          go_wp2_with fail
          refine (pass_two g B s _ v w1 (HD.out.below hb1) (by have := HL.out; omega)).mono ?_
          rintro e w2 ⟨rfl, hw2⟩
          have HW := Lib.hid hw2
          clear hw2
          go_wp2_with fail
          go_ret
          have hf := raw_fin hb1 HO.out (fun x hx => by cases hx) hgl HW.out
          exact ⟨A1, 0, c1, rfl, by rw [HV.out, List.take_zero]; exact hf.1, hf.2⟩
        · have hcl := clone_any (A.map fun x => x.add k) v (c - k) ((s.l.drop k).take v) w (by omega) (fun h => by
            have := hc0 (by cases A with
              | none => rfl
              | some a => cases h)
            omega) ((hy.cutAny (by omega)).head (by omega))
          have HCL := Lib.hid hcl
          have HY := Lib.hid hy
          have HN := Lib.hid hnum
          have HL := Lib.hid hl
          have HC := Lib.hid hc0
          clear hnum hb hy hc0 hl hbd hok hro hs hv hvv hub hneg hlong hcl
          go_enter Try.func13, Try.ntmps13
          go_wp2_with fail
          refine HN.out.mono ?_
          rintro e w1 ⟨rfl, rfl⟩
          go_wp2_with fail
          refine HCL.out.mono ?_
          rintro e w1 ⟨hb1, A1, c1, rfl, _, _, ho1⟩
          have HO := Lib.hid ho1
          clear ho1
          go_wp2_with fail
          refine (pass_two g B s _ v w1 (HD.out.below hb1) (by have := HL.out; omega)).mono ?_
          rintro e w2 ⟨rfl, hw2⟩
          have HW := Lib.hid hw2
          clear hw2
          go_wp2_with fail
          go_ret
          have hf := raw_fin hb1 HO.out (fun x hx => HY.out.bnd x (List.mem_of_mem_drop (List.mem_of_mem_take hx))) hgl HW.out
          exact ⟨A1, v, c1, rfl, hf.1, hf.2⟩
  · have hbad : ∀ w', DecPost w B g (failSt s (num s.l).2.2) w' → RawPost w B g s (.returned (.slice none 0 0)) w' := fun w' h =>
      raw_bad (fun h => hok h.1) (by rw [if_pos (by simpa using hok)]) h
    have hx : (num s.l).2.2 ≤ 100 := by
      rcases hbd.2.2.2 with h | h | h
      · omega
      · rw [h]; decide
      · rw [h]; decide
    have hfa := fail_any g B s (num s.l).2.2 w HD.out hx
    unfold NumRet at hnum
    rw [if_neg hok] at hnum
    have hne : (((num s.l).2.2 : Int) != 0) = true := by simp; omega
    generalize (num s.l).2.2 = x at *
    generalize (num s.l).2.1 = k at *
    have HN := Lib.hid hnum
    have HP := Lib.hid hfa
    have HBd := Lib.hid hbad
    clear hnum hfa hb hy hc0 hl hbd hok hbad
    go_enter Try.func13, Try.ntmps13
    go_wp2_with fail
    refine HN.out.mono ?_
    rintro e w1 ⟨rfl, rfl⟩
    go_wp2_with fail
    refine HP.out.mono ?_
    rintro e w1 ⟨rfl, hw1⟩
    have HW := Lib.hid hw1
    clear hw1
    go_wp2_with fail
    go_ret
    exact HBd.out _ HW.out
end Go.Proofs.Ytdgnkpbokoomkaa

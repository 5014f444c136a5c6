/- What a chain of Faults that ends in an Errno says, whatever numbers in words are (Num): from the contract of strconv.Itoa. -/
import Derived.Test.YtpkkhmbcbcaelaaDoorErr
import Derived.Test.YtpkkhmbcbcaelaaDoorTxt
import Derived.Deep.RegionHeld3
namespace Go.Proofs.YtpkkhmbcbcaelaaDoor
open Go.RowKit Go.Mem1

/-- Numbers in words: what strconv.Itoa and the reference's Text make of those numbers that are ok, in the worlds that keep what they read. -/
structure Num (tx : Int → ByteArray) (ok : Int → Prop) (Keep : World → Prop) : Prop where
  itoa : ∀ (k : Int) (w : World), ok k → Keep w → Calls Tryd.prog 58 #[.int .i64 k] w fun r w' => r = .returned (.string (tx k)) ∧ Below w.heap.size w w'
  text : ∀ (k : Int) (w : World), ok k → Calls Tryd.prog 27 #[.int .i64 k] w fun r w' => r = .returned (.string (tx k)) ∧ Below w.heap.size w w'
  keep : ∀ (w w' : World), Keep w → Below w.heap.size w w' → Keep w'
  size : ∀ (k : Int), ok k → (tx k).size ≤ 30
/-- Below 100 nothing is read. -/
theorem numSmall : Num (fun k => txt k.toNat) (fun k => 0 ≤ k ∧ k < 100) (fun _ => True) where
  itoa := fun k w hk _ => by
    obtain ⟨p, rfl⟩ := Int.eq_ofNat_of_zero_le hk.1
    exact (itoa_any p w (by have := hk.2; omega)).mono fun _ _ h => ⟨h.1, by rw [← h.2]; exact Below.refl _ _⟩
  text := fun k w hk => by
    obtain ⟨p, rfl⟩ := Int.eq_ofNat_of_zero_le hk.1
    exact refText_any p w (by have := hk.2; omega)
  keep := fun _ _ _ _ => trivial
  size := fun k _ => Nat.le_trans (txt_size _) (by omega)

section
variable {tx : Int → ByteArray} {ok : Int → Prop} {Keep : World → Prop}
def errAll (tx : Int → ByteArray) : List (ByteArray × Int) → Nat → ByteArray
  | [], e => word e
  | (s, k) :: r, e => s ++ ⟨#[32]⟩ ++ tx k ++ ⟨#[58, 32]⟩ ++ errAll tx r e
/-- Parts whose words are short and whose numbers are ok. -/
def OkParts (ok : Int → Prop) (l : List (ByteArray × Int)) : Prop := ∀ x ∈ l, x.1.size ≤ 100 ∧ ok x.2
theorem errAll_size (N : Num tx ok Keep) : ∀ (l : List (ByteArray × Int)) (e : Nat), OkParts ok l → (errAll tx l e).size ≤ 133 * l.length + 5
  | [], e, _ => by have := word_size e; simpa [errAll] using this
  | (s, k) :: r, e, h => by
    have h1 := errAll_size N r e (fun x hx => h x (List.mem_cons_of_mem _ hx))
    have h2 := (h (s, k) (List.mem_cons_self ..)).1
    have h3 := N.size k (h (s, k) (List.mem_cons_self ..)).2
    have z1 : (⟨#[32]⟩ : ByteArray).size = 1 := rfl
    have z2 : (⟨#[58, 32]⟩ : ByteArray).size = 2 := rfl
    simp only [errAll, ByteArray.size_append, List.length_cons, z1, z2]
    simp only at h2
    omega

def SaidB (w : World) (t : ByteArray) (r : Ending) (w' : World) : Prop := r = .returned (.string t) ∧ Below w.heap.size w w'
set_option maxRecDepth 100000 in
set_option maxHeartbeats 2000000 in
theorem chain_all (N : Num tx ok Keep) (e : Nat) (he : e ≤ 14) : ∀ (l : List (ByteArray × Int)) (s : ByteArray) (k : Int) (b : Nat) (w : World), OkParts ok ((s, k) :: l) → l.length ≤ 4 → Keep w →
    IsErr w w.heap.size ((s, k) :: l) e (.iface 73 (.pointer (some ⟨b, 0, none⟩))) →
    Calls Tryd.prog 56 #[.pointer (some ⟨b, 0, none⟩)] w (SaidB w (errAll tx ((s, k) :: l) e)) := by
  intro l
  induction l with
  | nil =>
    intro s k b w hsm _ hK h
    obtain ⟨b', u, e1, hlt, c0, c1, c2, hr⟩ := h
    injection e1 with _ e1; injection e1 with e1; injection e1 with e1; injection e1 with e1
    subst e1
    obtain ⟨hs, hk⟩ := hsm (s, k) (List.mem_cons_self ..)
    have hr' : u = .iface 25 (.int .i64 (e : Int)) := hr
    subst hr'
    simp only at hs hk
    have t1 := N.size k hk
    have t2 := word_size e
    have cI := N.itoa k w.drew hk (N.keep _ _ hK (Below.refl _ _).drew)
    have he' : errAll tx [(s, k)] e = s ++ ⟨#[32]⟩ ++ tx k ++ ⟨#[58, 32]⟩ ++ word e := rfl
    rw [he']
    generalize tx k = T at *
    have q1 : ¬ 9223372036854775807 < s.size + 1 := by omega
    have q2 : ¬ 9223372036854775807 < s.size + 1 + T.size := by omega
    have q3 : ¬ 9223372036854775807 < s.size + 1 + T.size + 2 := by omega
    have q4 : ¬ 9223372036854775807 < s.size + 1 + T.size + 2 + (word e).size := by omega
    have z1 : (⟨#[32]⟩ : ByteArray).size = 1 := rfl
    have z2 : (⟨#[58, 32]⟩ : ByteArray).size = 2 := rfl
    have mE := methodErrno
    have CI := Lib.hid cI
    clear he' hr hsm cI hK hk
    go_enter Tryd.func56, Tryd.ntmps56
    go_wp2_with fail
    go_region_held3 (fun w' => w'.cell? ⟨b, 0, none⟩ = some (.string s) ∧ w'.cell? ⟨b, 1, none⟩ = some (.int .i64 k) ∧ w'.cell? ⟨b, 2, none⟩ = some (.iface 25 (.int .i64 (e : Int))))
      (first | exact ⟨c0, c1, c2⟩ | exact ⟨k0, k1, k2⟩)
      ((first | (go_at_call 58; refine CI.out.mono ?_; rintro r w2 ⟨rfl, hb2⟩
                 have Bd : Below w.heap.size w w2 := ((Below.refl w.heap.size w).drew).trans hb2
                 have k0 := (Bd.cell (p := ⟨b, 0, none⟩) hlt).trans c0
                 have k1 := (Bd.cell (p := ⟨b, 1, none⟩) hlt).trans c1
                 have k2 := (Bd.cell (p := ⟨b, 2, none⟩) hlt).trans c2)
              | (go_at_call 55; refine (errno_any e w2 he).mono ?_; rintro r w3 ⟨rfl, rfl⟩)))
    all_goals
      go_wp2_with fail
      go_ret
      exact ⟨rfl, Bd⟩
  | cons x r ih =>
    obtain ⟨s2, k2'⟩ := x
    intro s k b w hsm hlen hK h
    obtain ⟨b', u, e1, hlt, c0, c1, c2, hr⟩ := h
    injection e1 with _ e1; injection e1 with e1; injection e1 with e1; injection e1 with e1
    subst e1
    obtain ⟨hs, hk⟩ := hsm (s, k) (List.mem_cons_self ..)
    have hsm2 : OkParts ok ((s2, k2') :: r) := fun x hx => hsm x (List.mem_cons_of_mem _ hx)
    have hr0 := hr
    obtain ⟨b2, u2, rfl, _⟩ := hr
    have hI := fun w' (hB : Below w.heap.size w w') => ih s2 k2' b2 w' hsm2 (by simp at hlen; omega) (N.keep _ _ hK hB) ((hr0.carry hB).wider hB.size)
    have hsz := errAll_size N ((s2, k2') :: r) e hsm2
    simp only at hs hk
    have t1 := N.size k hk
    have cI := N.itoa k w.drew hk (N.keep _ _ hK (Below.refl _ _).drew)
    have he' : errAll tx ((s, k) :: (s2, k2') :: r) e = s ++ ⟨#[32]⟩ ++ tx k ++ ⟨#[58, 32]⟩ ++ errAll tx ((s2, k2') :: r) e := rfl
    rw [he']
    generalize errAll tx ((s2, k2') :: r) e = V at *
    generalize tx k = T at *
    have hT : V.size ≤ 1000 := by simp at hsz hlen; omega
    have q1 : ¬ 9223372036854775807 < s.size + 1 := by omega
    have q2 : ¬ 9223372036854775807 < s.size + 1 + T.size := by omega
    have q3 : ¬ 9223372036854775807 < s.size + 1 + T.size + 2 := by omega
    have q4 : ¬ 9223372036854775807 < s.size + 1 + T.size + 2 + V.size := by omega
    have z1 : (⟨#[32]⟩ : ByteArray).size = 1 := rfl
    have z2 : (⟨#[58, 32]⟩ : ByteArray).size = 2 := rfl
    have mF := methodFault
    have HI := Lib.hid hI
    have CI := Lib.hid cI
    clear he' hr0 hsm hk hK hsm2 ih hI hsz cI
    go_enter Tryd.func56, Tryd.ntmps56
    go_wp2_with fail
    go_region_held3 (fun w' => w'.cell? ⟨b, 0, none⟩ = some (.string s) ∧ w'.cell? ⟨b, 1, none⟩ = some (.int .i64 k) ∧ w'.cell? ⟨b, 2, none⟩ = some (.iface 73 (.pointer (some ⟨b2, 0, none⟩))))
      (first | exact ⟨c0, c1, c2⟩ | exact ⟨k0, k1, k2⟩ | exact ⟨j0, j1, j2⟩)
      ((first | (go_at_call 58; refine CI.out.mono ?_; rintro r w2 ⟨rfl, hb2⟩
                 have Bd : Below w.heap.size w w2 := ((Below.refl w.heap.size w).drew).trans hb2
                 have k0 := (Bd.cell (p := ⟨b, 0, none⟩) hlt).trans c0
                 have k1 := (Bd.cell (p := ⟨b, 1, none⟩) hlt).trans c1
                 have k2 := (Bd.cell (p := ⟨b, 2, none⟩) hlt).trans c2)
              | (go_at_call 56; refine (HI.out w2 Bd).mono ?_; rintro r w3 ⟨rfl, hb3⟩
                 have Be := bel_trans Bd hb3
                 have j0 := (Be.cell (p := ⟨b, 0, none⟩) hlt).trans c0
                 have j1 := (Be.cell (p := ⟨b, 1, none⟩) hlt).trans c1
                 have j2 := (Be.cell (p := ⟨b, 2, none⟩) hlt).trans c2)))
    all_goals
      go_wp2_with fail
      go_ret
      exact ⟨rfl, Be⟩
end
end Go.Proofs.YtpkkhmbcbcaelaaDoor

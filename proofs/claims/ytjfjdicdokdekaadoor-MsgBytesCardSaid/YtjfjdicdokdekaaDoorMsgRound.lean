/- Plain mathematics: a message's bytes read again; cut; with a byte behind. -/
import Derived.Test.YtjfjdicdokdekaaDoorMsgDec
namespace Go.Proofs.YtjfjdicdokdekaaDoor
open Go.RowKit Go.Mem1 Go.CodMath

theorem mnum_ien {z : Int} (h : -9223372036854775808 ≤ z ∧ z ≤ 9223372036854775807) (r : List Nat) : num (ien z ++ r) = (zz z, (ien z).length, 0) := num_vint (zz_lt h.1 h.2) r
theorem mintVal {z : Int} (h : -9223372036854775808 ≤ z ∧ z ≤ 9223372036854775807) (r : List Nat) : intVal (ien z ++ r) = z := by
  unfold intVal; rw [mnum_ien h, if_pos rfl, unz_zz]
theorem mintSt {z : Int} (h : -9223372036854775808 ≤ z ∧ z ≤ 9223372036854775807) (r : List Nat) (p : Nat) : intSt ⟨ien z ++ r, p, 0⟩ = ⟨r, p + (ien z).length, 0⟩ := by
  unfold intSt; simp only [mnum_ien h]; rw [if_pos trivial, List.drop_left]
theorem ints_back : ∀ (zs : List Int) (r : List Nat) (p : Nat), (∀ z ∈ zs, -9223372036854775808 ≤ z ∧ z ≤ 9223372036854775807) →
    intsVal zs.length ⟨zs.flatMap ien ++ r, p, 0⟩ = zs ∧ ∃ q, intsSt zs.length ⟨zs.flatMap ien ++ r, p, 0⟩ = ⟨r, q, 0⟩
  | [], r, p, _ => ⟨rfl, p, rfl⟩
  | z :: zs, r, p, h => by
    have hz := h z (List.mem_cons_self ..)
    obtain ⟨h1, q, h2⟩ := ints_back zs r (p + (ien z).length) (fun y hy => h y (List.mem_cons_of_mem _ hy))
    rw [List.flatMap_cons, List.append_assoc, List.length_cons]
    refine ⟨?_, q, ?_⟩
    · rw [intsVal, mintSt hz, h1]
      simp only [mintVal hz]
    · rw [intsSt, mintSt hz, h2]
theorem rowVal_eq {s : St} {x : R5} (h : intsVal 5 s = x.l) : rowVal s = x := by
  have e : intsVal 5 s = [(rowVal s).p, (rowVal s).q, (rowVal s).r, (rowVal s).s, (rowVal s).t] := by simp only [intsVal, rowVal, intsSt]
  rw [e] at h
  generalize rowVal s = y at h
  obtain ⟨p, q, r, s, t⟩ := y
  obtain ⟨p', q', r', s', t'⟩ := x
  simp [R5.l] at h
  obtain ⟨rfl, rfl, rfl, rfl, rfl⟩ := h
  rfl
theorem rows_back : ∀ (rs : List R5) (r : List Nat) (p : Nat), (∀ x ∈ rs, x.ok) →
    rowsVal rs.length ⟨(rs.flatMap fun x => x.l.flatMap ien) ++ r, p, 0⟩ = rs ∧ ∃ q, rowsSt rs.length ⟨(rs.flatMap fun x => x.l.flatMap ien) ++ r, p, 0⟩ = ⟨r, q, 0⟩
  | [], r, p, _ => ⟨rfl, p, rfl⟩
  | x :: rs, r, p, h => by
    have hx := h x (List.mem_cons_self ..)
    obtain ⟨h1, q1, h2⟩ := ints_back x.l ((rs.flatMap fun x => x.l.flatMap ien) ++ r) p hx
    have h5 : x.l.length = 5 := rfl
    rw [h5] at h1 h2
    obtain ⟨h3, q, h4⟩ := rows_back rs r q1 (fun y hy => h y (List.mem_cons_of_mem _ hy))
    rw [List.flatMap_cons, List.append_assoc, List.length_cons]
    refine ⟨?_, q, ?_⟩
    · rw [rowsVal, h2, h3, rowVal_eq h1]
    · rw [rowsSt, h2, h4]
/-- The head of a message's bytes. -/
theorem head_back (h : Hd) (cnt : Int) (r : List Nat) (hok : h.ok) (hc : -9223372036854775808 ≤ cnt ∧ cnt ≤ 9223372036854775807) :
    ∃ q, headSt (h.l.flatMap ien ++ ien cnt ++ r) = ⟨r, q, 0⟩ ∧ rawKind (h.l.flatMap ien ++ ien cnt ++ r) = h.k ∧ headSeq (h.l.flatMap ien ++ ien cnt ++ r) = h.s ∧ headCount (h.l.flatMap ien ++ ien cnt ++ r) = cnt ∧
      (MsgMath.cut h.k = h.k → headOf (h.l.flatMap ien ++ ien cnt ++ r) = h) := by
  have e : h.l.flatMap ien ++ ien cnt ++ r = (h.l ++ [cnt]).flatMap ien ++ r := by simp
  rw [e]
  obtain ⟨h1, q, h2⟩ := ints_back (h.l ++ [cnt]) r 0 (fun z hz => by
    rcases List.mem_append.1 hz with hz | hz
    · exact hok z hz
    · simp at hz; subst hz; exact hc)
  have h9 : (h.l ++ [cnt]).length = 9 := rfl
  rw [h9] at h1 h2
  generalize (h.l ++ [cnt]).flatMap ien ++ r = l at h1 h2
  have e9 : intsVal 9 ⟨l, 0, 0⟩ = [intVal l, intVal (intsSt 1 ⟨l, 0, 0⟩).l, intVal (intsSt 2 ⟨l, 0, 0⟩).l, intVal (intsSt 3 ⟨l, 0, 0⟩).l, intVal (intsSt 4 ⟨l, 0, 0⟩).l, intVal (intsSt 5 ⟨l, 0, 0⟩).l, intVal (intsSt 6 ⟨l, 0, 0⟩).l, intVal (intsSt 7 ⟨l, 0, 0⟩).l, intVal (intsSt 8 ⟨l, 0, 0⟩).l] := by
    simp only [intsVal, intsSt]
  rw [e9] at h1
  simp only [Hd.l, List.cons_append, List.nil_append, List.cons.injEq, and_true] at h1
  obtain ⟨a0, a1, a2, a3, a4, a5, a6, a7, a8⟩ := h1
  refine ⟨q, h2, a0, a1, a8, fun hk => ?_⟩
  unfold headOf
  rw [a0, a1, a2, a3, a4, a5, a6, a7, hk]
theorem decOut_enc (h : Hd) (rs : List R5) (hok : h.ok) (hoks : ∀ x ∈ rs, x.ok) (hn : rs.length ≤ 1000) (hc : MsgMath.chk h.k h.s (rs.length : Int) = 0) : decOut (encOf h rs) = ⟨[], 0, h, rs⟩ := by
  obtain ⟨q, h1, h2, h3, h4, h5⟩ := head_back h (rs.length : Int) (rs.flatMap fun x => x.l.flatMap ien) hok ⟨by omega, by omega⟩
  obtain ⟨h6, q2, h7⟩ := rows_back rs [] q hoks
  rw [List.append_nil] at h6 h7
  have e : encOf h rs = h.l.flatMap ien ++ ien (rs.length : Int) ++ rs.flatMap fun x => x.l.flatMap ien := rfl
  rw [← e] at h1 h2 h3 h4 h5
  have hall : allSt (encOf h rs) = ⟨[], q2, 0⟩ := by unfold allSt; rw [h4, h1, Int.toNat_natCast, h7]
  unfold decOut
  rw [h2, h3, h4, hall, h1, if_neg (by simp), if_neg (by simp [hc]), if_neg (by simp), if_neg (by simp), h5 (MsgMath.cut_of_known (MsgMath.chk_ok hc).1), Int.toNat_natCast, h6]
/-- With bytes behind it: of another form. -/
theorem decOut_more (h : Hd) (rs : List R5) (m : List Nat) (hm : m ≠ []) (hok : h.ok) (hoks : ∀ x ∈ rs, x.ok) (hn : rs.length ≤ 1000) (hc : MsgMath.chk h.k h.s (rs.length : Int) = 0) : decOut (encOf h rs ++ m) = Out.bad [(msgBytes, h.k)] 2 := by
  obtain ⟨q, h1, h2, h3, h4, h5⟩ := head_back h (rs.length : Int) ((rs.flatMap fun x => x.l.flatMap ien) ++ m) hok ⟨by omega, by omega⟩
  obtain ⟨h6, q2, h7⟩ := rows_back rs m q hoks
  have e : encOf h rs ++ m = h.l.flatMap ien ++ ien (rs.length : Int) ++ ((rs.flatMap fun x => x.l.flatMap ien) ++ m) := by unfold encOf; simp
  rw [← e] at h1 h2 h3 h4 h5
  have hall : allSt (encOf h rs ++ m) = ⟨m, q2, 0⟩ := by unfold allSt; rw [h4, h1, Int.toNat_natCast, h7]
  unfold decOut
  rw [h2, h3, h4, hall, h1, if_neg (by simp), if_neg (by simp [hc]), if_neg (by simp), if_pos (by simpa using hm), MsgMath.cut_of_known (MsgMath.chk_ok hc).1]
end Go.Proofs.YtjfjdicdokdekaaDoor

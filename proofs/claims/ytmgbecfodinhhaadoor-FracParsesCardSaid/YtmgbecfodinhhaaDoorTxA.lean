/- Texts of fractions: lists of bytes alone (no program). -/
import Derived.Lib.ItoaNum
import Derived.Lib.ItoaMem
import Derived.Lib.Atoi
import Derived.Lib.AtoiAll
import Derived.Lib.AtoiTie
import Derived.Lib.IndexMore
namespace Go.Proofs.YtmgbecfodinhhaaDoor
open Go.Lib

theorem dec_val (c : Nat) (h : c < 10) : digitVal (UInt8.ofNat (48 + c)) = some c := by
  have e : (UInt8.ofNat (48 + c)).toNat = 48 + c := by simp; omega
  unfold digitVal
  rw [e, if_pos (by omega)]
  congr 1; omega

theorem decFrom_snoc (l : List UInt8) (c : UInt8) : ∀ acc n d, decFrom acc l = some n → digitVal c = some d → decFrom acc (l ++ [c]) = some (n * 10 + d) := by
  induction l with
  | nil => intro acc n d h hc; simp only [decFrom, Option.some.injEq] at h; subst h; simp [decFrom, hc]
  | cons a t ih =>
    intro acc n d h hc
    simp only [List.cons_append, decFrom] at h ⊢
    cases ha : digitVal a with
    | none => simp [ha] at h
    | some e => simp only [ha] at h ⊢; exact ih _ n d h hc

theorem decFrom_dec (u : Nat) : decFrom 0 (decDigits u) = some u := by
  induction u using Nat.strongRecOn with
  | _ u ih =>
    by_cases h : u < 10
    · rw [decDigits, dif_pos h]
      unfold decFrom
      rw [dec_val u h]
      simp [decFrom]
    · rw [decDigits, dif_neg h, decFrom_snoc _ _ 0 (u / 10) (u % 10) (ih _ (by omega)) (dec_val _ (by omega))]
      congr 1; omega

theorem dec_mem {u : Nat} {c : UInt8} (h : c ∈ decDigits u) : 48 ≤ c.toNat ∧ c.toNat ≤ 57 := by
  induction u using Nat.strongRecOn with
  | _ u ih =>
    by_cases hu : u < 10
    · rw [decDigits, dif_pos hu] at h
      obtain rfl := List.mem_singleton.1 h
      have e : (UInt8.ofNat (48 + u)).toNat = 48 + u := by simp; omega
      omega
    · rw [decDigits, dif_neg hu] at h
      rcases List.mem_append.1 h with h | h
      · exact ih _ (by omega) h
      · obtain rfl := List.mem_singleton.1 h
        have e : (UInt8.ofNat (48 + u % 10)).toNat = 48 + u % 10 := by simp; omega
        omega

theorem dec_ne (u : Nat) : decDigits u ≠ [] := by
  rw [decDigits]; split <;> simp

theorem dec_len_le (u : Nat) (k : Nat) (h : u < 10 ^ (k + 1)) : (decDigits u).length ≤ k + 1 := by
  induction k generalizing u with
  | zero => rw [decDigits, dif_pos (by simpa using h)]; simp
  | succ k ih =>
    by_cases hu : u < 10
    · rw [decDigits, dif_pos hu]; simp
    · rw [decDigits, dif_neg hu]
      have := ih (u / 10) (by rw [Nat.pow_succ] at h; omega)
      simp; omega

theorem dec_len10 (u : Nat) (h : u ≤ 1000000000) : (decDigits u).length ≤ 10 := dec_len_le u 9 (by omega)

theorem dec_no {u : Nat} {c : UInt8} (h : c.toNat < 48 ∨ 57 < c.toNat) : c ∉ decDigits u := fun hm => by have := dec_mem hm; omega

/-! ### Cut at one byte -/

theorem occ_one (s : List UInt8) (c : UInt8) (i : Nat) : occAt s [c] i = (s[i]? == some c) := by
  unfold occAt
  rw [← List.head?_drop]
  cases h : s.drop i with
  | nil => rfl
  | cons a t =>
    simp only [List.isPrefixOf, List.head?_cons, Bool.and_true]
    by_cases hac : c = a
    · subst hac; simp
    · rw [beq_eq_false_iff_ne.2 hac]
      symm
      rw [beq_eq_false_iff_ne]
      intro e
      exact hac (Option.some.inj e).symm

theorem index_hit (a b : List UInt8) (c : UInt8) (h : c ∉ a) : index (a ++ c :: b) [c] = a.length := by
  refine index_first (by simp) ?_ ?_
  · rw [occ_one]; simp
  · intro j hj
    rw [occ_one, List.getElem?_append_left hj]
    simp only [beq_eq_false_iff_ne, ne_eq]
    intro e
    exact h (List.mem_of_getElem? e)

theorem index_miss (a : List UInt8) (c : UInt8) (h : c ∉ a) : index a [c] = -1 := by
  refine index_none fun j _ => ?_
  rw [occ_one]
  simp only [beq_eq_false_iff_ne, ne_eq]
  intro e
  exact h (List.mem_of_getElem? e)

theorem cut_hit (a b : List UInt8) (c : UInt8) (h : c ∉ a) : cut (a ++ c :: b) [c] = (a, b, true) := by
  unfold cut
  rw [index_hit a b c h, if_pos (by omega)]
  simp

theorem cut_miss (a : List UInt8) (c : UInt8) (h : c ∉ a) : cut a [c] = (a, [], false) := by
  unfold cut
  rw [index_miss a c h, if_neg (by omega)]

theorem contains_hit (a b : List UInt8) (c : UInt8) (h : c ∉ a) : contains (a ++ c :: b) [c] = true := by
  unfold contains
  rw [index_hit a b c h]
  simp

theorem contains_miss (a : List UInt8) (c : UInt8) (h : c ∉ a) : contains a [c] = false := by
  unfold contains
  rw [index_miss a c h]
  simp

/-! ### What is printed -/

/-- A fraction that is not negative, printed. -/
def mixedS (n d : Nat) : List UInt8 :=
  if n % d = 0 then decDigits (n / d) else if n < d then decDigits (n % d) ++ 47 :: decDigits d else decDigits (n / d) ++ 32 :: (decDigits (n % d) ++ 47 :: decDigits d)

/-- A fraction printed. -/
def printS (n d : Int) : List UInt8 := if n < 0 then 45 :: mixedS n.natAbs d.natAbs else mixedS n.natAbs d.natAbs

theorem dec_head {u : Nat} {c : UInt8} {r l : List UInt8} (h : decDigits u ++ r = c :: l) : 48 ≤ c.toNat ∧ c.toNat ≤ 57 := by
  cases e : decDigits u with
  | nil => exact absurd e (dec_ne u)
  | cons a t =>
    rw [e] at h
    simp only [List.cons_append, List.cons.injEq] at h
    exact dec_mem (u := u) (by rw [e, ← h.1]; simp)

theorem mixed_head {n d : Nat} {c : UInt8} {l : List UInt8} (h : mixedS n d = c :: l) : 48 ≤ c.toNat ∧ c.toNat ≤ 57 := by
  unfold mixedS at h
  split at h
  · exact dec_head (r := []) (by simpa using h)
  · split at h <;> exact dec_head h

theorem mixed_no45 (n d : Nat) (l : List UInt8) : mixedS n d ≠ 45 :: l := fun h => by have := mixed_head h; simp at this

theorem dec47 (u : Nat) : (47 : UInt8) ∉ decDigits u := dec_no (by decide)
theorem dec32 (u : Nat) : (32 : UInt8) ∉ decDigits u := dec_no (by decide)

/-- Behind the sign: the part before the blank, the part behind it. -/
def splitS (l : List UInt8) : List UInt8 × List UInt8 :=
  if (cut l [32]).2.2 = true then ((cut l [32]).1, (cut l [32]).2.1) else if contains (cut l [32]).1 [47] = true then ([48], (cut l [32]).1) else ((cut l [32]).1, [48, 47, 49])

theorem split_whole (u : Nat) : splitS (decDigits u) = (decDigits u, [48, 47, 49]) := by
  unfold splitS
  rw [cut_miss _ _ (dec32 u), if_neg (by simp), contains_miss _ _ (dec47 u), if_neg (by simp)]

theorem split_part (u v : Nat) : splitS (decDigits u ++ 47 :: decDigits v) = ([48], decDigits u ++ 47 :: decDigits v) := by
  have h : (32 : UInt8) ∉ decDigits u ++ 47 :: decDigits v := by
    simp only [List.mem_append, List.mem_cons, not_or]
    exact ⟨dec32 u, by decide, dec32 v⟩
  unfold splitS
  rw [cut_miss _ _ h, if_neg (by simp), contains_hit _ _ _ (dec47 u), if_pos rfl]

theorem split_both (a u v : Nat) : splitS (decDigits a ++ 32 :: (decDigits u ++ 47 :: decDigits v)) = (decDigits a, decDigits u ++ 47 :: decDigits v) := by
  unfold splitS
  rw [cut_hit _ _ _ (dec32 a), if_pos rfl]

/-- The whole part, the numerator and the denominator that the text behind the sign spells. -/
def piecesS (l : List UInt8) : List UInt8 × List UInt8 × List UInt8 := ((splitS l).1, (cut (splitS l).2 [47]).1, (cut (splitS l).2 [47]).2.1)

theorem pieces_mixed (n d : Nat) (hd : 1 ≤ d) (hg : n % d = 0 → d = 1) :
    ∃ w u v : Nat, piecesS (mixedS n d) = (decDigits w, decDigits u, decDigits v) ∧ v = d ∧ w * d + u = n ∧ w ≤ n ∧ u ≤ n := by
  have hdm := Nat.div_add_mod n d
  rw [Nat.mul_comm] at hdm
  have hle : n / d ≤ n := Nat.div_le_self _ _
  have hlm : n % d ≤ n := Nat.mod_le _ _
  have e0 : ([48] : List UInt8) = decDigits 0 := by rw [decDigits, dif_pos (by omega)]; rfl
  have e1 : ([49] : List UInt8) = decDigits 1 := by rw [decDigits, dif_pos (by omega)]; rfl
  unfold piecesS mixedS
  by_cases h0 : n % d = 0
  · have := hg h0
    subst this
    rw [if_pos h0, split_whole]
    refine ⟨n, 0, 1, ?_, rfl, by omega, Nat.le_refl _, Nat.zero_le _⟩
    have e : ([48, 47, 49] : List UInt8) = decDigits 0 ++ 47 :: decDigits 1 := by rw [← e0, ← e1]; rfl
    simp only [e, cut_hit _ _ _ (dec47 0), Nat.div_one]
  · rw [if_neg h0]
    by_cases h1 : n < d
    · rw [if_pos h1, split_part]
      refine ⟨0, n % d, d, ?_, rfl, by rw [Nat.mod_eq_of_lt h1]; omega, Nat.zero_le _, hlm⟩
      simp only [cut_hit _ _ _ (dec47 _), e0]
    · rw [if_neg h1, split_both]
      refine ⟨n / d, n % d, d, ?_, rfl, hdm, hle, hlm⟩
      simp only [cut_hit _ _ _ (dec47 _)]

/-- The sign, and what stands behind it. -/
def signS (l : List UInt8) : Bool × List UInt8 := match l with
  | 45 :: r => (true, r)
  | _ => (false, l)

theorem sign_neg (l : List UInt8) : signS (45 :: l) = (true, l) := rfl
theorem sign_mixed (n d : Nat) : signS (mixedS n d) = (false, mixedS n d) := by
  unfold signS
  split
  · rename_i r h; exact absurd h (mixed_no45 _ _ _)
  · rfl

theorem sign_print (n d : Int) : signS (printS n d) = (decide (n < 0), mixedS n.natAbs d.natAbs) := by
  unfold printS
  by_cases h : n < 0
  · rw [if_pos h, sign_neg, decide_eq_true h]
  · rw [if_neg h, sign_mixed, decide_eq_false h]

/-! ### A number of the program, a number of the reference -/

/-- A number of the program: Atoi's, from 0 to 1000000000. -/
def partS (l : List UInt8) : Option Nat := match atoiAll l with
  | .ok v => if v < 0 ∨ 1000000000 < v then none else some v.toNat
  | _ => none

theorem part_dec {u : Nat} (h : u ≤ 1000000000) : partS (decDigits u) = some u := by
  have hl := dec_len10 u h
  unfold partS
  rw [atoiAll_short _ (by omega)]
  have : atoi (decDigits u) = some (u : Int) := by
    cases e : decDigits u with
    | nil => exact absurd e (dec_ne u)
    | cons a t =>
      have ha := dec_mem (u := u) (c := a) (by rw [e]; simp)
      unfold atoi
      have h45 : (a == 45) = false := by
        simp only [beq_eq_false_iff_ne, ne_eq]
        intro hh; subst hh; simp at ha
      have h43 : (a == 43) = false := by
        simp only [beq_eq_false_iff_ne, ne_eq]
        intro hh; subst hh; simp at ha
      simp only [h45, h43, decNat, List.isEmpty_cons, Bool.false_eq_true, if_false]
      rw [← e, decFrom_dec]
      rfl
  rw [this]
  simp only [NumEnd.ofOption]
  rw [if_neg (by omega)]
  simp

/-- A number of the reference: one to ten digits. -/
def digsS (l : List UInt8) : Option Nat := if l.length < 1 ∨ 10 < l.length then none else decFrom 0 l

theorem digs_dec {u : Nat} (h : u ≤ 1000000000) : digsS (decDigits u) = some u := by
  have hl := dec_len10 u h
  have h1 : 1 ≤ (decDigits u).length := List.length_pos_iff.2 (dec_ne u)
  unfold digsS
  rw [if_neg (by omega), decFrom_dec]

end Go.Proofs.YtmgbecfodinhhaaDoor

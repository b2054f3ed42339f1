/- Continued fractions: the mathematics (FracTerms, FracFromTerms). -/
import Derived.Test.YtjnfgjaiahnfgaaSmpA
namespace Go.Proofs.Ytjnfgjaiahnfgaa
set_option linter.unusedVariables false

/-- The terms of n / d (d at least 0; 0: none). -/
def cf : Nat → Int → Int → List Int
  | 0, _, _ => []
  | k + 1, n, d => if d ≤ 0 then [] else (n / d) :: cf k d (n % d)

theorem cf_zero {k : Nat} {n d : Int} (h : d ≤ 0) : cf k n d = [] := by
  cases k
  · rfl
  · unfold cf; rw [if_pos h]
theorem cf_pos {k : Nat} {n d : Int} (h : 0 < d) : cf (k + 1) n d = (n / d) :: cf k d (n % d) := by
  conv => lhs; unfold cf
  rw [if_neg (by omega)]

/-- The value of terms: numerator and denominator. -/
def ft : List Int → Int × Int
  | [] => (1, 0)
  | a :: l => (a * (ft l).1 + (ft l).2, (ft l).1)

theorem ft_cons (a : Int) (l : List Int) : ft (a :: l) = (a * (ft l).1 + (ft l).2, (ft l).1) := rfl

/-- The terms of a fraction in lowest terms give it back. -/
theorem ft_cf : ∀ (k : Nat) (n d : Int), 0 ≤ d → d ≤ k → (d = 0 → n = 1) → (0 < d → Int.gcd n d = 1) → (0 < d → 0 < n ∨ True) → ft (cf (k + 1) n d) = (n, d) := by
  intro k
  induction k with
  | zero =>
    intro n d h0 h1 h2 h3 h4
    have hd : d = 0 := by omega
    subst hd
    rw [cf_zero (Int.le_refl 0), h2 rfl]; rfl
  | succ k ih =>
    intro n d h0 h1 h2 h3 h4
    rcases Int.lt_or_eq_of_le h0 with hd | hd
    · rw [cf_pos hd, ft_cons]
      have e := Int.emod_add_mul_ediv n d
      have e1 := Int.emod_nonneg n (show d ≠ 0 by omega)
      have e2 := Int.emod_lt_of_pos n hd
      have hg := h3 hd
      have hg2 : Int.gcd d (n % d) = 1 := by
        have h5 := Int.gcd_add_mul_left_left d (n % d) (n / d)
        rw [e, hg] at h5
        rw [Int.gcd_comm]; exact h5.symm
      rw [ih d (n % d) e1 (by omega) (fun hz => ?_) (fun _ => hg2) (fun _ => .inr trivial)]
      · simp only [Prod.mk.injEq, and_true]
        have : n / d * d = d * (n / d) := Int.mul_comm _ _
        omega
      · rw [hz, Int.gcd_zero_right] at hg2
        omega
    · subst hd
      rw [cf_zero (Int.le_refl 0), h2 rfl]; rfl

/-- The terms behind the first are at least 1. -/
theorem cf_tail : ∀ (k : Nat) (n d : Int), 0 < d → d ≤ n → ∀ a ∈ cf k n d, 1 ≤ a := by
  intro k
  induction k with
  | zero => intro n d _ _ a ha; simp [cf] at ha
  | succ k ih =>
    intro n d hd hn a ha
    rw [cf_pos hd] at ha
    rcases List.mem_cons.1 ha with rfl | ha
    · have := Int.ediv_le_ediv hd hn
      rw [Int.ediv_self (by omega)] at this
      exact this
    · have e1 := Int.emod_nonneg n (show d ≠ 0 by omega)
      have e2 := Int.emod_lt_of_pos n hd
      rcases Int.lt_or_eq_of_le e1 with h | h
      · exact ih d (n % d) h (by omega) a ha
      · rw [← h, cf_zero (Int.le_refl 0)] at ha; simp at ha

/-- How many terms: two steps halve the denominator. -/
theorem cf_len : ∀ (j k : Nat) (n d : Int), d < 2 ^ j → (cf k n d).length ≤ 2 * j := by
  intro j
  induction j with
  | zero => intro k n d hd; rw [cf_zero (by omega)]; simp
  | succ j ih =>
    intro k n d hd
    rcases Int.lt_or_le 0 d with h | h
    · cases k with
      | zero => simp [cf]
      | succ k =>
        rw [cf_pos h]
        have e1 := Int.emod_nonneg n (show d ≠ 0 by omega)
        have e2 := Int.emod_lt_of_pos n h
        rcases Int.lt_or_le 0 (n % d) with h2 | h2
        · cases k with
          | zero => simp [cf]; omega
          | succ k =>
            rw [cf_pos h2]
            have f1 := Int.emod_nonneg d (show n % d ≠ 0 by omega)
            have f2 := Int.emod_lt_of_pos d h2
            have f3 := Int.emod_add_mul_ediv d (n % d)
            have hdiv : 1 ≤ d / (n % d) := by
              have := Int.ediv_le_ediv h2 (show n % d ≤ d by omega)
              rw [Int.ediv_self (by omega)] at this
              exact this
            have hm := Int.mul_le_mul_of_nonneg_left hdiv (show 0 ≤ n % d by omega)
            have hp : (2 : Int) ^ (j + 1) = 2 * 2 ^ j := by rw [Int.pow_succ]; omega
            have := ih k (n % d) (d % (n % d)) (by omega)
            simp; omega
        · rw [cf_zero h2]; simp; omega
    · rw [cf_zero h]; simp

/-- The terms are such as FromTerms takes: the last one, if it is not the first, is not 1. -/
theorem cf_last : ∀ (k : Nat) (n d : Int), 0 < d → d < n → d ≤ k → (cf k n d).getLast? ≠ some 1 := by
  intro k
  induction k with
  | zero => intro n d h0 _ h; omega
  | succ k ih =>
    intro n d h0 h1 hk
    rw [cf_pos h0]
    have e := Int.emod_add_mul_ediv n d
    have e1 := Int.emod_nonneg n (show d ≠ 0 by omega)
    have e2 := Int.emod_lt_of_pos n h0
    rcases Int.lt_or_eq_of_le e1 with h | h
    · have := ih d (n % d) h e2 (by omega)
      have hne : cf k d (n % d) ≠ [] := by
        cases k with
        | zero => omega
        | succ k => rw [cf_pos h]; simp
      rw [List.getLast?_cons]
      rw [List.getLast?_eq_some_getLast hne] at this ⊢
      simpa using this
    · rw [← h, cf_zero (Int.le_refl 0)]
      simp
      intro hc
      rw [hc] at e
      omega

theorem ft_gcd : ∀ l : List Int, Int.gcd (ft l).1 (ft l).2 = 1 := by
  intro l
  induction l with
  | nil => rfl
  | cons a l ih =>
    rw [ft_cons]
    simp only
    have h5 := Int.gcd_add_mul_left_left (ft l).1 (ft l).2 a
    rw [Int.add_comm, Int.mul_comm] at h5
    rw [h5, Int.gcd_comm]; exact ih

theorem ft_pos : ∀ l : List Int, (∀ a ∈ l, 1 ≤ a) → 1 ≤ (ft l).1 ∧ 0 ≤ (ft l).2 ∧ (ft l).2 ≤ (ft l).1 := by
  intro l
  induction l with
  | nil => intro _; exact ⟨by decide, by decide, by decide⟩
  | cons a l ih =>
    intro h
    obtain ⟨h1, h2, h3⟩ := ih fun b hb => h b (List.mem_cons_of_mem _ hb)
    rw [ft_cons]
    simp only
    have h4 := Int.mul_le_mul_of_nonneg_right (h a (List.mem_cons_self ..)) (show 0 ≤ (ft l).1 by omega)
    omega

theorem ft_lt : ∀ l : List Int, (∀ a ∈ l, 1 ≤ a) → l.getLast? ≠ some 1 → (ft l).2 < (ft l).1 := by
  intro l
  induction l with
  | nil => intro _ _; decide
  | cons a l ih =>
    intro h hl
    have hall : ∀ b ∈ l, 1 ≤ b := fun b hb => h b (List.mem_cons_of_mem _ hb)
    obtain ⟨h1, h2, h3⟩ := ft_pos l hall
    have ha := h a (List.mem_cons_self ..)
    rw [ft_cons]
    simp only
    cases l with
    | nil =>
      have : a ≠ 1 := fun e => hl (by simp [e])
      simp [ft]; omega
    | cons b l =>
      rw [List.getLast?_cons_cons] at hl
      have hb : 1 ≤ (ft (b :: l)).2 := by
        rw [ft_cons]; exact (ft_pos l fun c hc => hall c (List.mem_cons_of_mem _ hc)).1
      have h4 := Int.mul_le_mul_of_nonneg_right ha (show 0 ≤ (ft (b :: l)).1 by omega)
      omega

/-- Terms in front make the numerator no lesser. -/
theorem ft_app : ∀ p l : List Int, (∀ a ∈ p, 1 ≤ a) → (∀ a ∈ l, 1 ≤ a) → (ft l).1 ≤ (ft (p ++ l)).1 := by
  intro p l
  induction p with
  | nil => intro _ _; simp
  | cons a p ih =>
    intro h hl
    have hall : ∀ b ∈ p ++ l, 1 ≤ b := by
      intro b hb
      rcases List.mem_append.1 hb with hb | hb
      · exact h b (List.mem_cons_of_mem _ hb)
      · exact hl b hb
    obtain ⟨h1, h2, h3⟩ := ft_pos (p ++ l) hall
    have i := ih (fun b hb => h b (List.mem_cons_of_mem _ hb)) hl
    have h4 := Int.mul_le_mul_of_nonneg_right (h a (List.mem_cons_self ..)) (show 0 ≤ (ft (p ++ l)).1 by omega)
    rw [List.cons_append, ft_cons]
    simp only
    omega

/-- Where the program stops early the value is out of range. -/
theorem ft_out {p l : List Int} {a : Int} (ht : ∀ b ∈ (p ++ a :: l).tail, 1 ≤ b) (hl : l.getLast? ≠ some 1) (h : 1000000000 < (a.natAbs : Int) ∨ 1000000000 < (ft l).1) :
    1000000000 < ((ft (p ++ a :: l)).1.natAbs : Int) ∨ 1000000000 < (ft (p ++ a :: l)).2 := by
  cases p with
  | nil =>
    simp only [List.nil_append, List.tail_cons] at ht ⊢
    obtain ⟨h1, h2, h3⟩ := ft_pos l ht
    have h4 := ft_lt l ht hl
    rw [ft_cons]
    simp only
    rcases h with h | h
    · left
      rcases Int.lt_or_le 0 a with ha | ha
      · have := Int.mul_le_mul_of_nonneg_left h1 (show 0 ≤ a by omega)
        omega
      · have := Int.mul_le_mul_of_nonneg_right (show a ≤ -1000000001 by omega) (show 0 ≤ (ft l).1 by omega)
        omega
    · right; exact h
  | cons b p =>
    simp only [List.cons_append, List.tail_cons] at ht ⊢
    right
    rw [ft_cons]
    simp only
    have hal : ∀ c ∈ a :: l, 1 ≤ c := fun c hc => ht c (List.mem_append_right _ hc)
    have hpl : ∀ c ∈ p, 1 ≤ c := fun c hc => ht c (List.mem_append_left _ hc)
    have i := ft_app p (a :: l) hpl hal
    obtain ⟨h1, h2, h3⟩ := ft_pos l fun c hc => hal c (List.mem_cons_of_mem _ hc)
    have ha := hal a (List.mem_cons_self ..)
    rw [ft_cons] at i
    simp only at i
    rcases h with h | h
    · have := Int.mul_le_mul_of_nonneg_left h1 (show 0 ≤ a by omega)
      omega
    · have := Int.mul_le_mul_of_nonneg_right ha (show 0 ≤ (ft l).1 by omega)
      omega

/-- How large the parts can be: the digits of the reference's numbers. -/
theorem ft_size (B : Nat) (hB : 9223372036854775809 ≤ B) : ∀ l : List Int, (∀ a ∈ l, -9223372036854775808 ≤ a ∧ a ≤ 9223372036854775807) → (ft l).1.natAbs ≤ B ^ l.length ∧ (ft l).2.natAbs ≤ B ^ l.length := by
  intro l
  induction l with
  | nil => intro _; simp [ft]
  | cons a l ih =>
    intro h
    obtain ⟨h1, h2⟩ := ih fun b hb => h b (List.mem_cons_of_mem _ hb)
    have ha := h a (List.mem_cons_self ..)
    rw [ft_cons]
    simp only [List.length_cons]
    rw [Nat.pow_succ]
    generalize B ^ l.length = X at *
    have i0 := Nat.mul_le_mul_left X hB
    have i1 : (a * (ft l).1).natAbs ≤ 9223372036854775808 * X := by
      rw [Int.natAbs_mul]; exact Nat.mul_le_mul (by omega) h1
    have i2 := Int.natAbs_add_le (a * (ft l).1) (ft l).2
    exact ⟨by omega, by omega⟩

end Go.Proofs.Ytjnfgjaiahnfgaa

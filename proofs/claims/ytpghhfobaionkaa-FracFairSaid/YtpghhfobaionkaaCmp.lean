/- Comparisons of the program: cmp.Compare, sign, Mul64, (ratio).compare. -/
import Derived.Test.YtpghhfobaionkaaNew
import Derived.Shelf.Bits.Mul64
namespace Go.Proofs.Ytpghhfobaionkaa
open Go.RowKit

def cmpI (a b : Int) : Int := if a < b then -1 else if b < a then 1 else 0
theorem cmpI_lt {a b : Int} (h : a < b) : cmpI a b = -1 := by unfold cmpI; rw [if_pos h]
theorem cmpI_gt {a b : Int} (h : b < a) : cmpI a b = 1 := by unfold cmpI; rw [if_neg (by omega), if_pos h]
theorem cmpI_eq {a b : Int} (h : a = b) : cmpI a b = 0 := by unfold cmpI; rw [if_neg (by omega), if_neg (by omega)]
theorem cmpI_cases (a b : Int) : (a < b ∧ cmpI a b = -1) ∨ (b < a ∧ cmpI a b = 1) ∨ (a = b ∧ cmpI a b = 0) := by
  rcases Int.lt_trichotomy a b with h | h | h
  · exact .inl ⟨h, cmpI_lt h⟩
  · exact .inr (.inr ⟨h, cmpI_eq h⟩)
  · exact .inr (.inl ⟨h, cmpI_gt h⟩)

set_option maxRecDepth 100000 in
theorem compare_int (a b : Int) (w : World) :
    Calls Try.prog 29 #[.int .i64 a, .int .i64 b] w fun e w' => e = .returned (.int .i64 (cmpI a b)) ∧ w' = w := by
  rcases cmpI_cases a b with ⟨h, e⟩ | ⟨h, e⟩ | ⟨h, e⟩
  · rw [e]; clear e
    have h1 : (a != a) = false := by simp
    have h2 : (b != b) = false := by simp
    go_enter Try.func29, Try.ntmps29
    go_wp2
    go_ret
    exact ⟨rfl, rfl⟩
  · rw [e]; clear e
    have h1 : (a != a) = false := by simp
    have h2 : (b != b) = false := by simp
    have h3 : ¬ a < b := by omega
    go_enter Try.func29, Try.ntmps29
    go_wp2
    go_ret
    exact ⟨rfl, rfl⟩
  · rw [e]; clear e
    subst h
    have h1 : (a != a) = false := by simp
    have h3 : ¬ a < a := by omega
    go_enter Try.func29, Try.ntmps29
    go_wp2
    go_ret
    exact ⟨rfl, rfl⟩

/-- Comparison of two fractions by their cross products. -/
theorem ordQ_cross {n1 d1 n2 d2 : Int} (h1 : 0 < d1) (h2 : 0 < d2) : ordQ (qof n1 d1) (qof n2 d2) = cmpI (n1 * d2) (n2 * d1) := by
  have e : ∀ {a b c d : Int}, 0 < b → 0 < d → (qof a b < qof c d ↔ a * d < c * b) := fun {a b c d} hb hd => by
    unfold qof
    have hb' : (0 : Rat) < (b : Rat) := by exact_mod_cast hb
    have hd' : (0 : Rat) < (d : Rat) := by exact_mod_cast hd
    have k1 : (a : Rat) / (b : Rat) * ((b : Rat) * (d : Rat)) = ((a * d : Int) : Rat) := by rw [Rat.intCast_mul]; grind
    have k2 : (c : Rat) / (d : Rat) * ((b : Rat) * (d : Rat)) = ((c * b : Int) : Rat) := by rw [Rat.intCast_mul]; grind
    rw [← Rat.mul_lt_mul_right (Rat.mul_pos hb' hd'), k1, k2]
    exact Rat.intCast_lt_intCast
  unfold ordQ cmpI
  simp only [e h1 h2, e h2 h1]

theorem cmp_sign {n1 d1 n2 d2 : Int} (h1 : 0 < d1) (h2 : 0 < d2) (h : cmpI (cmpI n1 0) (cmpI n2 0) ≠ 0) : cmpI (n1 * d2) (n2 * d1) = cmpI (cmpI n1 0) (cmpI n2 0) := by
  rcases cmpI_cases n1 0 with ⟨a1, a2⟩ | ⟨a1, a2⟩ | ⟨a1, a2⟩ <;> rcases cmpI_cases n2 0 with ⟨b1, b2⟩ | ⟨b1, b2⟩ | ⟨b1, b2⟩ <;> rw [a2, b2] at h ⊢
  · exact absurd rfl h
  · exact cmpI_lt (Int.lt_trans (Int.mul_neg_of_neg_of_pos a1 h2) (Int.mul_pos b1 h1))
  · subst b1; rw [Int.zero_mul]; exact cmpI_lt (Int.mul_neg_of_neg_of_pos a1 h2)
  · exact cmpI_gt (Int.lt_trans (Int.mul_neg_of_neg_of_pos b1 h1) (Int.mul_pos a1 h2))
  · exact absurd rfl h
  · subst b1; rw [Int.zero_mul]; exact cmpI_gt (Int.mul_pos a1 h2)
  · subst a1; rw [Int.zero_mul]; exact cmpI_gt (Int.mul_neg_of_neg_of_pos b1 h1)
  · subst a1; rw [Int.zero_mul]; exact cmpI_lt (Int.mul_pos b1 h1)
  · exact absurd rfl h

theorem cmpI_neg (a b : Int) : cmpI (-a) (-b) = cmpI b a := by unfold cmpI; simp only [Int.neg_lt_neg_iff]
theorem cmpI_swap (a b : Int) : cmpI b a = -cmpI a b := by
  rcases cmpI_cases a b with ⟨h, e⟩ | ⟨h, e⟩ | ⟨h, e⟩
  · rw [e, cmpI_gt h]; rfl
  · rw [e, cmpI_lt h]
  · rw [e, cmpI_eq h.symm]; rfl

theorem cmp_abs {n1 d1 n2 d2 : Int} (h1 : 0 < d1) (h2 : 0 < d2) (h : cmpI (cmpI n1 0) (cmpI n2 0) = 0) :
    cmpI (n1 * d2) (n2 * d1) = cmpI ((n1.natAbs * d2.natAbs : Nat) : Int) ((n2.natAbs * d1.natAbs : Nat) : Int) * cmpI n1 0 := by
  have k1 : ((d1.natAbs : Nat) : Int) = d1 := by omega
  have k2 : ((d2.natAbs : Nat) : Int) = d2 := by omega
  rw [Int.natCast_mul, Int.natCast_mul, k1, k2]
  rcases cmpI_cases n1 0 with ⟨a1, a2⟩ | ⟨a1, a2⟩ | ⟨a1, a2⟩ <;> rcases cmpI_cases n2 0 with ⟨b1, b2⟩ | ⟨b1, b2⟩ | ⟨b1, b2⟩ <;> rw [a2, b2] at h
  · rw [a2, show ((n1.natAbs : Nat) : Int) = -n1 by omega, show ((n2.natAbs : Nat) : Int) = -n2 by omega, Int.neg_mul, Int.neg_mul, cmpI_neg, cmpI_swap]; omega
  · exact absurd h (by decide)
  · exact absurd h (by decide)
  · exact absurd h (by decide)
  · rw [a2, show ((n1.natAbs : Nat) : Int) = n1 by omega, show ((n2.natAbs : Nat) : Int) = n2 by omega, Int.mul_one]
  · exact absurd h (by decide)
  · exact absurd h (by decide)
  · exact absurd h (by decide)
  · rw [a2, a1, b1, Int.zero_mul, Int.zero_mul, cmpI_eq rfl, Int.mul_zero]

theorem cmp_hi {R S : Nat} (h : cmpI ((R / 18446744073709551616 : Nat) : Int) ((S / 18446744073709551616 : Nat) : Int) ≠ 0) : cmpI (R : Int) (S : Int) = cmpI ((R / 18446744073709551616 : Nat) : Int) ((S / 18446744073709551616 : Nat) : Int) := by
  rcases cmpI_cases ((R / 18446744073709551616 : Nat) : Int) ((S / 18446744073709551616 : Nat) : Int) with ⟨a, e⟩ | ⟨a, e⟩ | ⟨a, e⟩
  · rw [e, cmpI_lt (by omega)]
  · rw [e, cmpI_gt (by omega)]
  · exact absurd e h
theorem cmp_lo {R S : Nat} (h : cmpI ((R / 18446744073709551616 : Nat) : Int) ((S / 18446744073709551616 : Nat) : Int) = 0) : cmpI (R : Int) (S : Int) = cmpI ((R % 18446744073709551616 : Nat) : Int) ((S % 18446744073709551616 : Nat) : Int) := by
  have hq : R / 18446744073709551616 = S / 18446744073709551616 := by
    rcases cmpI_cases ((R / 18446744073709551616 : Nat) : Int) ((S / 18446744073709551616 : Nat) : Int) with ⟨a, e⟩ | ⟨a, e⟩ | ⟨a, e⟩
    · rw [e] at h; exact absurd h (by decide)
    · rw [e] at h; exact absurd h (by decide)
    · omega
  rcases cmpI_cases ((R % 18446744073709551616 : Nat) : Int) ((S % 18446744073709551616 : Nat) : Int) with ⟨a, e⟩ | ⟨a, e⟩ | ⟨a, e⟩
  · rw [e, cmpI_lt (by omega)]
  · rw [e, cmpI_gt (by omega)]
  · rw [e, cmpI_eq (by omega)]

theorem cmpI_bd (a b : Int) : -1 ≤ cmpI a b ∧ cmpI a b ≤ 1 := by rcases cmpI_cases a b with ⟨_, e⟩ | ⟨_, e⟩ | ⟨_, e⟩ <;> rw [e] <;> omega

theorem quiet_add_same {P : Program} {f : FuncId} {args : Array Value} {w : World} {a n : Nat} {v : Value}
    (h : Calls P f args (w.drewN (a + n)) fun e w' => e = .returned v ∧ w' = w.drewN (a + n)) :
    Calls P f args (w.drewN (a + n)) fun e w'' => e = .returned v ∧ ∃ m, w'' = w.drewN (a + m) :=
  h.mono fun _ _ ⟨he, hm⟩ => ⟨he, n, hm⟩

end Go.Proofs.Ytpghhfobaionkaa

/- The simplest fraction: the mathematics (FracSimplest, FracLeast). -/
import Derived.Test.YtjnfgjaiahnfgaaNbA
namespace Go.Proofs.Ytjnfgjaiahnfgaa
set_option linter.unusedVariables false

/-- The simplest fraction from p / q to r / s, of positive parts; the rounds are bounded by k. -/
def smp : Nat → Int → Int → Int → Int → Int × Int
  | 0, _, _, _, _ => (0, 1)
  | k + 1, p, q, r, s =>
    if -(-p / q) * s ≤ r then (-(-p / q), 1)
    else
      let n := -(-p / q) - 1
      let t := smp k s (r - n * s) q (p - n * q)
      (n * t.1 + t.2, t.1)

theorem smp_yes {k : Nat} {p q r s : Int} (h : -(-p / q) * s ≤ r) : smp (k + 1) p q r s = (-(-p / q), 1) := by
  unfold smp; rw [if_pos h]
theorem smp_no {k : Nat} {p q r s n : Int} (hn : n = -(-p / q) - 1) (h : ¬ -(-p / q) * s ≤ r) : smp (k + 1) p q r s = (n * (smp k s (r - n * s) q (p - n * q)).1 + (smp k s (r - n * s) q (p - n * q)).2, (smp k s (r - n * s) q (p - n * q)).1) := by
  conv => lhs; unfold smp
  rw [if_neg h, hn]

/-- What is left after a step. -/
theorem smp_left {p q r s n : Int} (hq : 0 < q) (hs : 0 < s) (hp : 0 < p) (hr : 0 < r) (hle : p * s ≤ r * q) (hn : n = -(-p / q) - 1) (h : ¬ -(-p / q) * s ≤ r) :
    0 ≤ n ∧ 0 < p - n * q ∧ p - n * q < q ∧ 0 < r - n * s ∧ r - n * s < s ∧ s * (p - n * q) ≤ q * (r - n * s) := by
  have e := Int.emod_add_mul_ediv (-p) q
  have e1 := Int.emod_nonneg (-p) (show q ≠ 0 by omega)
  have e2 := Int.emod_lt_of_pos (-p) hq
  have hm : -p / q = -(n + 1) := by omega
  rw [hm] at e h
  have m1 : q * -(n + 1) = -(n * q) - q := by grind
  rw [m1] at e
  have m2 : - -(n + 1) * s = n * s + s := by grind
  rw [m2] at h
  have a1 : 0 < p - n * q := by omega
  have a4 : r - n * s < s := by omega
  -- r / s < n + 1, so p / q < n + 1
  have a2 : p - n * q < q := by
    rcases Int.lt_or_le (p - n * q) q with h2 | h2
    · exact h2
    · exfalso
      have i1 : (n * q + q) * s ≤ p * s := Int.mul_le_mul_of_nonneg_right (by omega) (by omega)
      have i2 : r * q < (n * s + s) * q := Int.mul_lt_mul_of_pos_right (by omega) hq
      have i3 : (n * q + q) * s = (n * s + s) * q := by grind
      omega
  have a3 : 0 < r - n * s := by
    rcases Int.lt_or_le 0 (r - n * s) with h2 | h2
    · exact h2
    · exfalso
      have i1 : (n * q) * s < p * s := Int.mul_lt_mul_of_pos_right (by omega) hs
      have i2 : r * q ≤ (n * s) * q := Int.mul_le_mul_of_nonneg_right (by omega) (by omega)
      have i3 : (n * q) * s = (n * s) * q := by grind
      omega
  have n0 : 0 ≤ n := by
    rcases Int.lt_or_le n 0 with h2 | h2
    · exfalso
      have : (n + 1) * s ≤ 0 := by
        have := Int.mul_le_mul_of_nonneg_right (show n + 1 ≤ 0 by omega) (show 0 ≤ s by omega)
        omega
      have : (n + 1) * s = n * s + s := by grind
      omega
    · exact h2
  refine ⟨n0, a1, a2, a3, a4, ?_⟩
  have i1 : s * (p - n * q) = p * s - n * q * s := by grind
  have i2 : q * (r - n * s) = r * q - n * q * s := by grind
  omega

theorem smp_r1 (n x y q p : Int) : (n * x + y) * q - p * x = q * y - x * (p - n * q) := by grind
theorem smp_r2 (n x y r s : Int) : r * x - (n * x + y) * s = x * (r - n * s) - s * y := by grind
theorem smp_r3 (n v r s u : Int) : v * (r - n * s) - s * (u - n * v) = r * v - u * s := by grind
theorem smp_r4 (n v q p u : Int) : q * (u - n * v) - v * (p - n * q) = u * q - p * v := by grind

/-- All that is said of it: it lies there; no fraction there has a lesser denominator or numerator. -/
theorem smp_all : ∀ (k : Nat) (p q r s : Int), 0 < p → 0 < q → 0 < r → 0 < s → p * s ≤ r * q → q + s ≤ (k : Int) + 1 →
    0 < (smp k p q r s).1 ∧ 0 < (smp k p q r s).2 ∧ p * (smp k p q r s).2 ≤ (smp k p q r s).1 * q ∧ (smp k p q r s).1 * s ≤ r * (smp k p q r s).2 ∧
    ∀ u v : Int, 0 < v → p * v ≤ u * q → u * s ≤ r * v → (smp k p q r s).1 ≤ u ∧ (smp k p q r s).2 ≤ v := by
  intro k
  induction k with
  | zero => intro p q r s hp hq hr hs hle hk; omega
  | succ k ih =>
    intro p q r s hp hq hr hs hle hk
    have e := Int.emod_add_mul_ediv (-p) q
    have e1 := Int.emod_nonneg (-p) (show q ≠ 0 by omega)
    have e2 := Int.emod_lt_of_pos (-p) hq
    by_cases h : -(-p / q) * s ≤ r
    · rw [smp_yes h]
      generalize hm : -(-p / q) = m at *
      have hm' : -p / q = -m := by omega
      rw [hm'] at e
      have m1 : q * -m = -(m * q) := by grind
      rw [m1] at e
      have m0 : 0 < m := by
        rcases Int.lt_or_le 0 m with h2 | h2
        · exact h2
        · have := Int.mul_le_mul_of_nonneg_right h2 (show 0 ≤ q by omega)
          omega
      refine ⟨m0, Int.one_pos, by simp; omega, by simpa using h, fun u v hv h1 h2 => ⟨?_, by simp; omega⟩⟩
      simp only
      -- u q ≥ p v ≥ p > (m - 1) q
      have i1 : p * 1 ≤ p * v := Int.mul_le_mul_of_nonneg_left (by omega) (by omega)
      rcases Int.lt_or_le u m with h3 | h3
      · exfalso
        have i2 : u * q ≤ (m - 1) * q := Int.mul_le_mul_of_nonneg_right (by omega) (by omega)
        have i3 : (m - 1) * q = m * q - q := by grind
        omega
      · exact h3
    · obtain ⟨n, hn⟩ : ∃ n, n = -(-p / q) - 1 := ⟨_, rfl⟩
      obtain ⟨n0, a1, a2, a3, a4, a5⟩ := smp_left hq hs hp hr hle hn h
      rw [smp_no hn h]
      obtain ⟨t1, t2, t3, t4, t5⟩ := ih s (r - n * s) q (p - n * q) hs a3 hq a1 a5 (by omega)
      generalize (smp k s (r - n * s) q (p - n * q)).1 = x at *
      generalize (smp k s (r - n * s) q (p - n * q)).2 = y at *
      simp only
      have j0 : 0 ≤ n * x := Int.mul_nonneg n0 (by omega)
      refine ⟨by omega, t1, ?_, ?_, fun u v hv h1 h2 => ?_⟩
      · have := smp_r1 n x y q p
        omega
      · have := smp_r2 n x y r s
        omega
      · have i1 : s * (u - n * v) ≤ v * (r - n * s) := by
          have := smp_r3 n v r s u
          omega
        have i2 : v * (p - n * q) ≤ q * (u - n * v) := by
          have := smp_r4 n v q p u
          omega
        have i3 : 0 < u - n * v := by
          rcases Int.lt_or_le 0 (u - n * v) with h3 | h3
          · exact h3
          · exfalso
            have := Int.mul_pos hv a1
            have := Int.mul_le_mul_of_nonneg_left h3 (show 0 ≤ q by omega)
            omega
        obtain ⟨k1, k2⟩ := t5 v (u - n * v) i3 i1 i2
        refine ⟨?_, k1⟩
        have := Int.mul_le_mul_of_nonneg_left k1 n0
        omega

end Go.Proofs.Ytjnfgjaiahnfgaa

/- Neighbours: the mathematics (FracNeighbours, FracNears). -/
import Derived.ProofKit
namespace Go.Proofs.Ytjnfgjaiahnfgaa
set_option linter.unusedVariables false

/-- Bounds of the fraction p / q that are neighbours: p b - a q and c q - p d are positive, c b - a d = 1. -/
structure NB (p q D a b c d : Int) : Prop where
  b1 : 1 ≤ b
  d1 : 0 ≤ d
  bD : b ≤ D
  dD : d ≤ D
  lo : 0 < p * b - a * q
  hi : 0 < c * q - p * d
  det : c * b - a * d = 1

namespace NB
variable {p q D a b c d : Int}

theorem sum (h : NB p q D a b c d) : (p * b - a * q) * d + (c * q - p * d) * b = q := by
  have := h.det
  grind

theorem one_of_dvd {k : Int} (hg : Int.gcd p q = 1) (h1 : k ∣ p) (h2 : k ∣ q) (h0 : 0 < k) : k = 1 := by
  have h := Int.dvd_coe_gcd h1 h2
  rw [hg] at h
  have := Int.le_of_dvd (by decide) h
  omega

theorem goHi (h : NB p q D a b c d) (hq : D < q) (hg : Int.gcd p q = 1) {k : Int} (k0 : 0 ≤ k) (h1 : k * (p * b - a * q) ≤ c * q - p * d) (h2 : d + k * b ≤ D) : NB p q D a b (c + k * a) (d + k * b) := by
  have hd := h.det
  have hkb : 0 ≤ k * b := Int.mul_nonneg k0 (by have := h.b1; omega)
  refine ⟨h.b1, by have := h.d1; omega, h.bD, h2, h.lo, ?_, by grind⟩
  have e : (c + k * a) * q - p * (d + k * b) = (c * q - p * d) - k * (p * b - a * q) := by grind
  rw [e]
  rcases Int.lt_or_le 0 ((c * q - p * d) - k * (p * b - a * q)) with h3 | h3
  · exact h3
  · exfalso
    have h4 : (c + k * a) * q = p * (d + k * b) := by omega
    have h5 : (p * b - a * q) * (d + k * b) = q := by grind
    have h6 : (p * b - a * q) * (c + k * a) = p := by grind
    have h7 := one_of_dvd hg ⟨_, h6.symm⟩ ⟨_, h5.symm⟩ h.lo
    rw [h7, Int.one_mul] at h5
    omega

theorem goLo (h : NB p q D a b c d) (hq : D < q) (hg : Int.gcd p q = 1) {k : Int} (k0 : 0 ≤ k) (h1 : k * (c * q - p * d) ≤ p * b - a * q) (h2 : b + k * d ≤ D) : NB p q D (a + k * c) (b + k * d) c d := by
  have hd := h.det
  have hkb : 0 ≤ k * d := Int.mul_nonneg k0 h.d1
  refine ⟨by have := h.b1; omega, h.d1, h2, h.dD, ?_, h.hi, by grind⟩
  have e : p * (b + k * d) - (a + k * c) * q = (p * b - a * q) - k * (c * q - p * d) := by grind
  rw [e]
  rcases Int.lt_or_le 0 ((p * b - a * q) - k * (c * q - p * d)) with h3 | h3
  · exact h3
  · exfalso
    have h4 : (a + k * c) * q = p * (b + k * d) := by omega
    have h5 : (c * q - p * d) * (b + k * d) = q := by grind
    have h6 : (c * q - p * d) * (a + k * c) = p := by grind
    have h7 := one_of_dvd hg ⟨_, h6.symm⟩ ⟨_, h5.symm⟩ h.hi
    rw [h7, Int.one_mul] at h5
    omega

/-- The first bounds. -/
theorem start (hq : D < q) (hD : 1 ≤ D) (hg : Int.gcd p q = 1) : NB p q D (p / q) 1 1 0 := by
  have e := Int.emod_add_mul_ediv p q
  have e1 := Int.emod_nonneg p (show q ≠ 0 by omega)
  refine ⟨by decide, by decide, hD, by omega, ?_, by omega, by omega⟩
  rcases Int.lt_or_le 0 (p * 1 - p / q * q) with h | h
  · exact h
  · exfalso
    have h0 : p % q = 0 := by
      have : p / q * q = q * (p / q) := Int.mul_comm _ _
      omega
    have := one_of_dvd hg (Int.dvd_of_emod_eq_zero h0) (Int.dvd_refl q) (by omega)
    omega

/-- No fraction with a denominator of at most D lies strictly between. -/
theorem gap (h : NB p q D a b c d) (hs : D < b + d) {x y : Int} (hy : 0 < y) (h1 : a * y < x * b) (h2 : x * d < c * y) : D < y := by
  have hd := h.det
  have e : y = (x * b - a * y) * d + (c * y - x * d) * b := by grind
  have e1 : d ≤ (x * b - a * y) * d := by
    have := Int.mul_le_mul_of_nonneg_right (show 1 ≤ x * b - a * y by omega) h.d1
    omega
  have e2 : b ≤ (c * y - x * d) * b := by
    have := Int.mul_le_mul_of_nonneg_right (show 1 ≤ c * y - x * d by omega) (show 0 ≤ b by have := h.b1; omega)
    omega
  omega

theorem lt_of {x y u v : Int} (hq : 0 < q) (hy : 0 < y) (hv : 0 < v) (h1 : 0 < p * y - x * q) (h2 : 0 < u * q - p * v) : x * v < u * y := by
  have i1 : 0 < (p * y - x * q) * v := Int.mul_pos h1 hv
  have i2 : 0 < (u * q - p * v) * y := Int.mul_pos h2 hy
  have e : (p * y - x * q) * v + (u * q - p * v) * y = (u * y - x * v) * q := by grind
  have i3 : 0 < (u * y - x * v) * q := by omega
  rcases Int.lt_or_le 0 (u * y - x * v) with h | h
  · omega
  · have := Int.mul_le_mul_of_nonneg_right h (show 0 ≤ q by omega)
    omega

/-- Such bounds with the sum of the denominators above D are the only ones. -/
theorem uniq (hq : 0 < q) (h : NB p q D a b c d) (hs : D < b + d) {a' b' c' d' : Int} (h' : NB p q D a' b' c' d') (hs' : D < b' + d') (hd0 : 0 < d) (hd0' : 0 < d') : a = a' ∧ b = b' ∧ c = c' ∧ d = d' := by
  have n1 := h.b1; have n2 := h'.b1; have m1 := h.bD; have m2 := h'.bD; have m3 := h.dD; have m4 := h'.dD
  have l1 : ¬ a * b' < a' * b := fun hl => by
    have := h.gap hs (x := a') (y := b') (by omega) hl (lt_of hq (by omega) hd0 h'.lo h.hi)
    omega
  have l2 : ¬ a' * b < a * b' := fun hl => by
    have := h'.gap hs' (x := a) (y := b) (by omega) hl (lt_of hq (by omega) hd0' h.lo h'.hi)
    omega
  have l3 : ¬ c' * d < c * d' := fun hl => by
    have := h.gap hs (x := c') (y := d') (by omega) (lt_of hq (by omega) (by omega) h.lo h'.hi) hl
    omega
  have l4 : ¬ c * d' < c' * d := fun hl => by
    have := h'.gap hs' (x := c) (y := d) (by omega) (lt_of hq (by omega) (by omega) h'.lo h.hi) hl
    omega
  have e1 : a * b' = a' * b := by omega
  have e2 : c * d' = c' * d := by omega
  have k1 := h.det; have k2 := h'.det
  have b1 : b * (c * b' - a' * d) = b' := by grind
  have b2 : b' * (c' * b - a * d') = b := by grind
  have b3 : b = b' := Int.le_antisymm (Int.le_of_dvd (by omega) ⟨_, b1.symm⟩) (Int.le_of_dvd (by omega) ⟨_, b2.symm⟩)
  subst b3
  have a3 : a = a' := Int.eq_of_mul_eq_mul_right (by omega) e1
  subst a3
  have d1 : d * (c' * b - a * d') = d' := by grind
  have d2 : d' * (c * b - a * d) = d := by grind
  have d3 : d = d' := Int.le_antisymm (Int.le_of_dvd (by omega) ⟨_, d1.symm⟩) (Int.le_of_dvd (by omega) ⟨_, d2.symm⟩)
  subst d3
  exact ⟨rfl, rfl, Int.eq_of_mul_eq_mul_right (by omega) e2, rfl⟩

/-- The bounds' parts are within the limits. -/
theorem small (h : NB p q D a b c d) (hq : D < q) (hd0 : 0 < d) (q9 : q ≤ 1000000000) (p1 : -1000000000 ≤ p) (p2 : p ≤ 1000000000) : -1000000000 ≤ a ∧ a ≤ 1000000000 ∧ -1000000000 ≤ c ∧ c ≤ 1000000000 := by
  have n1 := h.b1; have m1 := h.bD; have m3 := h.dD
  have hsum := h.sum
  have lo := h.lo; have hi := h.hi
  have u1 : p * b - a * q ≤ q := by
    have := Int.mul_le_mul_of_nonneg_left (show 1 ≤ d by omega) (show 0 ≤ p * b - a * q by omega)
    have := Int.mul_nonneg (show 0 ≤ c * q - p * d by omega) (show 0 ≤ b by omega)
    omega
  have u2 : c * q - p * d ≤ q := by
    have := Int.mul_le_mul_of_nonneg_left (show 1 ≤ b by omega) (show 0 ≤ c * q - p * d by omega)
    have := Int.mul_nonneg (show 0 ≤ p * b - a * q by omega) (show 0 ≤ d by omega)
    omega
  -- |x| q is at most |p| (q - 1) + q
  have key : ∀ x y : Int, 0 ≤ y → y ≤ q - 1 → -q ≤ p * y - x * q → p * y - x * q ≤ q → -1000000000 ≤ x ∧ x ≤ 1000000000 := by
    intro x y y0 y1 h1 h2
    have t1 : p * y ≤ 1000000000 * (q - 1) := Int.le_trans (Int.mul_le_mul_of_nonneg_right p2 y0) (Int.mul_le_mul_of_nonneg_left y1 (by decide))
    have t2 : -1000000000 * (q - 1) ≤ p * y := by
      have a1 := Int.mul_le_mul_of_nonneg_right p1 y0
      have a2 := Int.mul_le_mul_of_nonneg_left y1 (show (0 : Int) ≤ 1000000000 by decide)
      omega
    constructor
    · rcases Int.lt_or_le x (-1000000000) with h3 | h3
      · have := Int.mul_le_mul_of_nonneg_right (show x ≤ -1000000001 by omega) (show 0 ≤ q by omega)
        omega
      · exact h3
    · rcases Int.lt_or_le 1000000000 x with h3 | h3
      · have := Int.mul_le_mul_of_nonneg_right (show 1000000001 ≤ x by omega) (show 0 ≤ q by omega)
        omega
      · exact h3
  have r1 := key a b (by omega) (by omega) (by omega) (by omega)
  have r2 := key c d (by omega) (by omega) (by omega) (by omega)
  exact ⟨r1.1, r1.2, r2.1, r2.2⟩
end NB

namespace NB
variable {p q D a b c d A B k : Int}

theorem kbound (hB : 0 < B) (hA : 0 ≤ A) {x y : Int} (hy : 0 < y) (hx : 0 ≤ x) (hk : k = min (A / B) (x / y)) : 0 ≤ k ∧ k * B ≤ A ∧ k * y ≤ x := by
  have e1 := Int.ediv_mul_le A (show B ≠ 0 by omega)
  have e2 := Int.ediv_mul_le x (show y ≠ 0 by omega)
  have f1 := Int.ediv_nonneg hA (show 0 ≤ B by omega)
  have f2 := Int.ediv_nonneg hx (show 0 ≤ y by omega)
  have g1 : k ≤ A / B := by omega
  have g2 : k ≤ x / y := by omega
  have m1 := Int.mul_le_mul_of_nonneg_right g1 (show 0 ≤ B by omega)
  have m2 := Int.mul_le_mul_of_nonneg_right g2 (show 0 ≤ y by omega)
  exact ⟨by omega, by omega, by omega⟩

theorem kone (hB : 0 < B) {x y : Int} (hy : 0 < y) (h1 : B ≤ A) (h2 : y ≤ x) (hk : k = min (A / B) (x / y)) : 1 ≤ k := by
  have e1 := Int.ediv_le_ediv hB h1
  have e2 := Int.ediv_le_ediv hy h2
  rw [Int.ediv_self (by omega)] at e1 e2
  omega

/-- The first half of a round. -/
theorem half1 (h : NB p q D a b c d) (hq : D < q) (hg : Int.gcd p q = 1) (hs : b + d ≤ D) (hor : 0 < d ∨ B ≤ A) (hB : B = p * b - a * q) (hA : A = c * q - p * d) (hk : k = min (A / B) ((D - d) / b)) :
    NB p q D a b (c + k * a) (d + k * b) ∧ 0 < d + k * b ∧ 0 ≤ k ∧ k * B ≤ A ∧ k * b ≤ D ∧ A - k * B = (c + k * a) * q - p * (d + k * b) ∧ 0 < B ∧ 0 < b ∧ 0 < A ∧ 0 ≤ D - d ∧ 0 < A - k * B ∧ (B ≤ A → 1 ≤ k) := by
  have hb := h.b1; have hd := h.d1
  have hB0 : 0 < B := by rw [hB]; exact h.lo
  have hA0 : 0 < A := by rw [hA]; exact h.hi
  obtain ⟨k0, k1, k2⟩ := kbound hB0 (by omega) (show 0 < b by omega) (by omega) hk
  have h1 := h.goHi hq hg k0 (by rw [← hB, ← hA]; exact k1) (by omega)
  have e : A - k * B = (c + k * a) * q - p * (d + k * b) := by rw [hA, hB]; grind
  have hone : B ≤ A → 1 ≤ k := fun hle => kone hB0 (by omega) hle (by omega) hk
  refine ⟨h1, ?_, k0, k1, by omega, e, hB0, by omega, hA0, by omega, by rw [e]; exact h1.hi, hone⟩
  rcases hor with hd0 | hle
  · have := Int.mul_nonneg k0 (show 0 ≤ b by omega)
    omega
  · have := Int.mul_le_mul_of_nonneg_right (hone hle) (show 0 ≤ b by omega)
    omega

/-- The second half. -/
theorem half2 (h : NB p q D a b c d) (hq : D < q) (hg : Int.gcd p q = 1) (hd0 : 0 < d) (hB : B = p * b - a * q) (hA : A = c * q - p * d) (hk : k = min (B / A) ((D - b) / d)) :
    NB p q D (a + k * c) (b + k * d) c d ∧ 0 ≤ k ∧ k * A ≤ B ∧ k * d ≤ D ∧ B - k * A = p * (b + k * d) - (a + k * c) * q ∧ 0 < A ∧ 0 ≤ D - b ∧ 0 < B - k * A ∧ (A ≤ B → b + d ≤ D → 1 ≤ k) := by
  have hb := h.b1; have hbD := h.bD
  have hB0 : 0 < B := by rw [hB]; exact h.lo
  have hA0 : 0 < A := by rw [hA]; exact h.hi
  obtain ⟨k0, k1, k2⟩ := kbound hA0 (show 0 ≤ B by omega) hd0 (show 0 ≤ D - b by omega) hk
  have h1 := h.goLo hq hg k0 (by rw [← hB, ← hA]; exact k1) (by omega)
  have e : B - k * A = p * (b + k * d) - (a + k * c) * q := by rw [hA, hB]; grind
  exact ⟨h1, k0, k1, by omega, e, hA0, by omega, by rw [e]; exact h1.lo, fun h2 h3 => kone hA0 hd0 h2 (by omega) hk⟩

/-- The first half where it comes second: what the bound asks is left open. -/
theorem half1' (h : NB p q D a b c d) (hq : D < q) (hg : Int.gcd p q = 1) (hd0 : 0 < d) (_ : 1 ≤ b) (hB : B = p * b - a * q) (hA : A = c * q - p * d) (hk : k = min (A / B) ((D - d) / b)) :
    NB p q D a b (c + k * a) (d + k * b) ∧ 0 < d + k * b ∧ 0 ≤ k ∧ k * B ≤ A ∧ k * b ≤ D ∧ A - k * B = (c + k * a) * q - p * (d + k * b) ∧ 0 < B ∧ 0 ≤ D - d ∧ 0 < A - k * B ∧ (B ≤ A → b + d ≤ D → 1 ≤ k) := by
  have hb := h.b1; have hd := h.d1; have hdD := h.dD
  have hB0 : 0 < B := by rw [hB]; exact h.lo
  have hA0 : 0 < A := by rw [hA]; exact h.hi
  obtain ⟨k0, k1, k2⟩ := kbound hB0 (show 0 ≤ A by omega) (show 0 < b by omega) (show 0 ≤ D - d by omega) hk
  have h1 := h.goHi hq hg k0 (by rw [← hB, ← hA]; exact k1) (by omega)
  have e : A - k * B = (c + k * a) * q - p * (d + k * b) := by rw [hA, hB]; grind
  exact ⟨h1, by have := Int.mul_nonneg k0 (show 0 ≤ b by omega); omega, k0, k1, by omega, e, hB0, by omega, by rw [e]; exact h1.hi, fun h2 h3 => kone hB0 (show 0 < b by omega) h2 (by omega) hk⟩

theorem ab_le (h : NB p q D a b c d) (hd0 : 0 < d) : p * b - a * q ≤ q ∧ c * q - p * d ≤ q := by
  have n1 := h.b1
  have hsum := h.sum
  have lo := h.lo; have hi := h.hi
  constructor
  · have := Int.mul_le_mul_of_nonneg_left (show 1 ≤ d by omega) (show 0 ≤ p * b - a * q by omega)
    have := Int.mul_nonneg (show 0 ≤ c * q - p * d by omega) (show 0 ≤ b by omega)
    omega
  · have := Int.mul_le_mul_of_nonneg_left (show 1 ≤ b by omega) (show 0 ≤ c * q - p * d by omega)
    have := Int.mul_nonneg (show 0 ≤ p * b - a * q by omega) (show 0 ≤ d by omega)
    omega
end NB

end Go.Proofs.Ytjnfgjaiahnfgaa

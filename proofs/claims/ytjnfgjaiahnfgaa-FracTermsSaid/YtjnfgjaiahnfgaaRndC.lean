/- Rounding: the arithmetic of the reference's side. -/
import Derived.Test.YtjnfgjaiahnfgaaRndB
namespace Go.Proofs.Ytjnfgjaiahnfgaa
open Go.RowKit

theorem flo_qof {n d : Int} (hd : 0 < d) : flo (qof n d) = n / d := by
  unfold flo
  obtain ⟨h1, h2⟩ := qof_num (n := n) (d := d) hd
  rw [h1, h2]
  have hg : (0 : Int) < (Nat.gcd n.natAbs d.natAbs : Nat) := by
    have : 0 < Nat.gcd n.natAbs d.natAbs := Nat.gcd_pos_of_pos_right _ (by omega)
    omega
  have d1 : ((Nat.gcd n.natAbs d.natAbs : Nat) : Int) ∣ n := Int.ofNat_dvd_left.2 (Nat.gcd_dvd_left _ _)
  have d2 : ((Nat.gcd n.natAbs d.natAbs : Nat) : Int) ∣ d := Int.ofNat_dvd_left.2 (Nat.gcd_dvd_right _ _)
  generalize ((Nat.gcd n.natAbs d.natAbs : Nat) : Int) = g at *
  obtain ⟨a, ha⟩ := d1
  obtain ⟨b, hb⟩ := d2
  rw [ha, hb, Int.mul_ediv_cancel_left _ (by omega), Int.mul_ediv_cancel_left _ (by omega), Int.mul_ediv_mul_of_pos _ _ hg]

theorem rest_qof {n d : Int} (hd : 0 < d) (k : Int) : qof n d - (k : Rat) = qof (n - k * d) d := by
  unfold qof
  have : (d : Rat) ≠ 0 := by exact_mod_cast (show d ≠ 0 by omega)
  rw [Rat.intCast_sub, Rat.intCast_mul]
  grind

theorem sgn_qof {n d : Int} (hd : 0 < d) : sgnQ (qof n d) = cmpI n 0 := by
  have h := ordQ_cross (n1 := n) (d1 := d) (n2 := 0) (d2 := 1) hd (by decide)
  have h0 : qof 0 1 = 0 := by unfold qof; (first | (simp; done) | (simp [Rat.div_def]; done) | grind)
  rw [h0] at h
  have := ordQ_sub (qof n d) 0
  rw [show qof n d - 0 = qof n d by grind] at this
  rw [this, h]; simp

/-- What the reference's rounding chooses. -/
def refI (m n d : Int) : Int :=
  if m = 0 then n / d else if m = 1 then (if 0 < n - n / d * d then n / d + 1 else n / d)
  else if m = 2 then (if n < 0 then (if 0 < n - n / d * d then n / d + 1 else n / d) else n / d)
  else if m = 3 then (if cmpI ((n - n / d * d) * 2) (1 * d) < 0 then n / d else (if 0 < n - n / d * d then n / d + 1 else n / d))
  else if cmpI ((n - n / d * d) * 2) (1 * d) < 0 ∨ cmpI ((n - n / d * d) * 2) (1 * d) = 0 ∧ n / d / 2 * 2 - n / d = 0 then n / d else (if 0 < n - n / d * d then n / d + 1 else n / d)

theorem refI_eq {m n d : Int} (hd : 0 < d) (h0 : 0 ≤ m) (h4 : m ≤ 4) : refI m n d = rndI m n d := by
  have e := Int.emod_add_mul_ediv n d
  have e1 := Int.emod_nonneg n (show d ≠ 0 by omega)
  have e2 := Int.emod_lt_of_pos n hd
  have e3 : n / d * d = d * (n / d) := Int.mul_comm _ _
  have hr1 : 0 ≤ n - n / d * d := by omega
  have hr2 : n - n / d * d < d := by omega
  clear e e1 e2 e3
  unfold refI rndI upB
  generalize n - n / d * d = r at *
  generalize n / d = q at *
  have ht : (q.tmod 2 ≠ 0) ↔ ¬ (q / 2 * 2 - q = 0) := by
    have : q.tmod 2 = 0 ↔ q % 2 = 0 := by
      rw [← Int.dvd_iff_emod_eq_zero, ← Int.dvd_iff_tmod_eq_zero]
    rw [ne_eq, this]
    omega
  rcases cmpI_cases (r * 2) (1 * d) with ⟨c, ce⟩ | ⟨c, ce⟩ | ⟨c, ce⟩
  all_goals
    rw [ce]
    have hm : m = 0 ∨ m = 1 ∨ m = 2 ∨ m = 3 ∨ m = 4 := by omega
    rcases hm with rfl | rfl | rfl | rfl | rfl
    all_goals simp [ht]
    all_goals (first | done | (repeat' split) <;> omega)

theorem LenQ.qof {a b : Int} (h1 : -9223372036854775808 ≤ a) (h2 : a ≤ 9223372036854775807) (h3 : 0 < b) (h4 : b ≤ 9223372036854775807) : LenQ (qof a b) 2 := by
  have hp := qof_parts (n := a) (d := b) (by omega)
  have x1 : a.natAbs / Nat.gcd a.natAbs b.natAbs ≤ a.natAbs := Nat.div_le_self _ _
  have x2 : b.natAbs / Nat.gcd a.natAbs b.natAbs ≤ b.natAbs := Nat.div_le_self _ _
  refine ⟨?_, ?_⟩
  · rw [digs_length_le_iff, hp.1]
    unfold Bse; omega
  · rw [digs_length_le_iff, hp.2]
    unfold Bse; omega

end Go.Proofs.Ytjnfgjaiahnfgaa

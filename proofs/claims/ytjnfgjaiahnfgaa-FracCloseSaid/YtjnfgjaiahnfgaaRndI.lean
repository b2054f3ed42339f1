/- How near a rounded number is; for FracClose. -/
import Derived.Test.YtjnfgjaiahnfgaaRndH
namespace Go.Proofs.Ytjnfgjaiahnfgaa
open Go.RowKit

theorem rnd_close {m N D : Int} (hD : 0 < D) (h4 : m ≤ 4) :
    -D < rndI m N D * D - N ∧ rndI m N D * D - N < D ∧ (3 ≤ m → -D ≤ 2 * (rndI m N D * D - N) ∧ 2 * (rndI m N D * D - N) ≤ D) := by
  have e := Int.emod_add_mul_ediv N D
  have e1 := Int.emod_nonneg N (show D ≠ 0 by omega)
  have e2 := Int.emod_lt_of_pos N hD
  have e3 : N / D * D = D * (N / D) := Int.mul_comm _ _
  have hr1 : 0 ≤ N - N / D * D := by omega
  have hr2 : N - N / D * D < D := by omega
  clear e e1 e2 e3
  have e4 : (N / D + 1) * D = N / D * D + D := by rw [Int.add_mul, Int.one_mul]
  unfold rndI
  cases hu : upB m N D (N / D) (N - N / D * D)
  · rw [if_neg (by decide)]
    refine ⟨by omega, by omega, fun h3 => ?_⟩
    have hm : m = 3 ∨ m = 4 := by omega
    unfold upB at hu
    generalize N / D * D = X at *
    rcases hm with rfl | rfl
    · simp at hu; omega
    · simp at hu; omega
  · rw [if_pos rfl, e4]
    have hpos : 0 < N - N / D * D ∧ (3 ≤ m → D - (N - N / D * D) ≤ N - N / D * D) := by
      unfold upB at hu
      generalize N - N / D * D = r at *
      split at hu
      · simp at hu; omega
      · split at hu
        · simp at hu; omega
        · split at hu
          · simp at hu; omega
          · split at hu
            · simp at hu; omega
            · cases hu
    refine ⟨by omega, by omega, fun h3 => ?_⟩
    have := hpos.2 h3
    omega

end Go.Proofs.Ytjnfgjaiahnfgaa

/- RoundTo of the program. -/
import Derived.Test.YtjnfgjaiahnfgabRndA
namespace Go.Proofs.Ytjnfgjaiahnfgab
open Go.RowKit

theorem rnd_bound {n1 d1 n2 d2 m : Int} (h1 : VF n1 d1) (h2 : VF n2 d2) (hp : 0 < n2) :
    -2000000000000000000 ≤ rndI m (n1 * d2) (d1 * n2) * n2 ∧ rndI m (n1 * d2) (d1 * n2) * n2 ≤ 2000000000000000000 ∧ 0 < d1 * n2 ∧ d1 * n2 ≤ 1000000000000000000 ∧ -1000000000000000000 ≤ n1 * d2 ∧ n1 * d2 ≤ 1000000000000000000 ∧
      -2000000000000000000 ≤ rndI m (n1 * d2) (d1 * n2) ∧ rndI m (n1 * d2) (d1 * n2) ≤ 2000000000000000000 := by
  have b1 := h1.n1
  have b2 := h1.n2
  have b3 := h1.d1
  have b4 := h1.d2
  have c1 := h2.n1
  have c2 := h2.n2
  have c3 := h2.d1
  have c4 := h2.d2
  have m1 := mul_bd (a := n1) (b := d2) (by omega) (by omega) (by omega) (by omega)
  have m2 := mul_bd (a := d1) (b := n2) (by omega) (by omega) (by omega) (by omega)
  have hD : 0 < d1 * n2 := Int.mul_pos (by omega) hp
  obtain ⟨f1, f2, f3, f4, f5, f6⟩ := floor_facts hD (by omega) (show -2000000000000000000 ≤ n1 * d2 by omega) (by omega)
  generalize hN : n1 * d2 = N at *
  generalize hk : rndI m N (d1 * n2) = k
  have hk2 : k = N / (d1 * n2) ∨ k = N / (d1 * n2) + 1 := by
    rw [← hk]; unfold rndI; split
    · exact .inr rfl
    · exact .inl rfl
  have hkD : N - d1 * n2 ≤ k * (d1 * n2) ∧ k * (d1 * n2) ≤ N + d1 * n2 := by
    rcases hk2 with e | e
    · rw [e]; omega
    · rw [e, Int.add_mul, Int.one_mul]; omega
  have e3 : k * (d1 * n2) = (k * n2) * d1 := by rw [Int.mul_comm d1 n2, Int.mul_assoc]
  have hb : -2000000000000000000 ≤ k * n2 ∧ k * n2 ≤ 2000000000000000000 := by
    rw [e3] at hkD
    generalize k * n2 = x at hkD
    have g1 : x ≤ x * d1 ∨ x ≤ 0 := by
      by_cases hx : 0 ≤ x
      · left
        have := Int.mul_le_mul_of_nonneg_left b3 hx
        omega
      · right; omega
    have g2 : x * d1 ≤ x ∨ 0 ≤ x := by
      by_cases hx : x ≤ 0
      · left
        have := Int.mul_le_mul_of_nonneg_left b3 (show 0 ≤ -x by omega)
        rw [Int.neg_mul, Int.neg_mul] at this
        omega
      · right; omega
    omega
  have hkb : -2000000000000000000 ≤ k ∧ k ≤ 2000000000000000000 := by
    generalize d1 * n2 = D at *
    have g1 : k ≤ k * D ∨ k ≤ 0 := by
      by_cases hx : 0 ≤ k
      · left
        have := Int.mul_le_mul_of_nonneg_left (show (1 : Int) ≤ D by omega) hx
        omega
      · right; omega
    have g2 : k * D ≤ k ∨ 0 ≤ k := by
      by_cases hx : k ≤ 0
      · left
        have := Int.mul_le_mul_of_nonneg_left (show (1 : Int) ≤ D by omega) (show 0 ≤ -k by omega)
        rw [Int.neg_mul, Int.neg_mul] at this
        omega
      · right; omega
    omega
  exact ⟨hb.1, hb.2, hD, by omega, by omega, by omega, hkb.1, hkb.2⟩

/-- What RoundTo answers. -/
noncomputable def rtoS (n1 d1 n2 d2 m : Int) : Int × Int × Int := if vfB n1 d1 = true ∧ vfB n2 d2 = true ∧ 0 < n2 ∧ modeB m = true then ansQ (qof (rndI m (n1 * d2) (d1 * n2) * n2) d2) else (0, 0, 2)
theorem rtoS_yes {n1 d1 n2 d2 m : Int} (h1 : VF n1 d1) (h2 : VF n2 d2) (hp : 0 < n2) (hm : modeB m = true) : rtoS n1 d1 n2 d2 m = ansQ (qof (rndI m (n1 * d2) (d1 * n2) * n2) d2) := by unfold rtoS; rw [if_pos ⟨(vfB_iff _ _).2 h1, (vfB_iff _ _).2 h2, hp, hm⟩]
theorem rtoS_no {n1 d1 n2 d2 m : Int} (h : ¬ (VF n1 d1 ∧ VF n2 d2 ∧ 0 < n2 ∧ modeB m = true)) : rtoS n1 d1 n2 d2 m = (0, 0, 2) := by unfold rtoS; rw [if_neg (fun h2 => h ⟨(vfB_iff _ _).1 h2.1, (vfB_iff _ _).1 h2.2.1, h2.2.2⟩)]

end Go.Proofs.Ytjnfgjaiahnfgab

/- The arithmetic of FracClose. -/
import Derived.Test.YtjnfgjaiahnfgaaRndI
namespace Go.Proofs.Ytjnfgjaiahnfgaa
open Go.RowKit

theorem rtoS_ok {n1 d1 n2 d2 m x0 x1 : Int} (h : rtoS n1 d1 n2 d2 m = (x0, x1, 0)) : VF n1 d1 ∧ VF n2 d2 ∧ 0 < n2 ∧ 0 ≤ m ∧ m ≤ 4 ∧ VF x0 x1 ∧ qof x0 x1 = qof (rndI m (n1 * d2) (d1 * n2) * n2) d2 := by
  by_cases hv : VF n1 d1 ∧ VF n2 d2 ∧ 0 < n2 ∧ modeB m = true
  · rw [rtoS_yes hv.1 hv.2.1 hv.2.2.1 hv.2.2.2] at h
    obtain ⟨hr, rfl, rfl⟩ := ansQ_ok h
    have := (modeB_iff m).1 hv.2.2.2
    exact ⟨hv.1, hv.2.1, hv.2.2.1, this.1, this.2, hr.vf, qof_self _⟩
  · rw [rtoS_no hv] at h; simp at h

theorem qof_cross {a b c d : Int} (hb : 0 < b) (hd : 0 < d) (h : qof a b = qof c d) : a * d = c * b := by
  have e := ordQ_cross (n1 := a) (d1 := b) (n2 := c) (d2 := d) hb hd
  rw [h] at e
  have e0 : ordQ (qof c d) (qof c d) = 0 := by unfold ordQ; simp [Rat.lt_irrefl]
  rw [e0] at e
  rcases cmpI_cases (a * d) (c * b) with ⟨_, h2⟩ | ⟨_, h2⟩ | ⟨h1, _⟩
  · omega
  · omega
  · exact h1

/-- All that the walk needs of an answer of RoundTo: a / b is the difference. -/
theorem close_all {n1 d1 n2 d2 m x0 x1 : Int} (h : rtoS n1 d1 n2 d2 m = (x0, x1, 0)) :
    (∃ k : Int, -2000000000000000000 ≤ k ∧ k ≤ 2000000000000000000 ∧ qof x0 x1 / qof n2 d2 = (k : Rat)) ∧
    ∃ a b : Int, qof x0 x1 - qof n1 d1 = qof a b ∧ -2000000000000000000 ≤ a ∧ a ≤ 2000000000000000000 ∧ 0 < b ∧ b ≤ 1000000000000000000 ∧
      ordQ (qof (a.natAbs : Int) b) (qof n2 d2) = -1 ∧ (3 ≤ m → ordQ (qof (2 * (a.natAbs : Int)) b) (qof n2 d2) ≤ 0) := by
  obtain ⟨v1, v2, hp, hm0, hm4, vx, hq⟩ := rtoS_ok h
  obtain ⟨-, -, hD, -, -, -, k1, k2⟩ := rnd_bound (m := m) v1 v2 hp
  obtain ⟨c1, c2, c3⟩ := rnd_close (m := m) (N := n1 * d2) hD hm4
  generalize rndI m (n1 * d2) (d1 * n2) = k at *
  have a1 := v1.n1; have a2 := v1.n2; have a3 := v1.d1; have a4 := v1.d2
  have b1 := v2.n1; have b2 := v2.n2; have b3 := v2.d1; have b4 := v2.d2
  have e1 := vx.n1; have e2 := vx.n2; have e3 := vx.d1; have e4 := vx.d2
  have hc := qof_cross (a := x0) (b := x1) (c := k * n2) (d := d2) (by omega) (by omega) hq
  refine ⟨⟨k, k1, k2, ?_⟩, x0 * d1 + -n1 * x1, x1 * d1, (qof_minus (by omega) (by omega)).symm, ?_, ?_, Int.mul_pos (by omega) (by omega), ?_, ?_, ?_⟩
  · rw [hq]
    have h2 : qof n2 d2 ≠ 0 := v2.ne (by omega)
    have e : qof (k * n2) d2 = (k : Rat) * qof n2 d2 := by
      unfold qof
      rw [Rat.intCast_mul]
      have : (d2 : Rat) ≠ 0 := by exact_mod_cast (show d2 ≠ 0 by omega)
      grind
    rw [e]; grind
  · have m1 := mul_bd (a := x0) (b := d1) (by omega) (by omega) (by omega) (by omega)
    have m2 := mul_bd (a := -n1) (b := x1) (by omega) (by omega) (by omega) (by omega)
    omega
  · have m1 := mul_bd (a := x0) (b := d1) (by omega) (by omega) (by omega) (by omega)
    have m2 := mul_bd (a := -n1) (b := x1) (by omega) (by omega) (by omega) (by omega)
    omega
  · have m3 := mul_bd (a := x1) (b := d1) (by omega) (by omega) (by omega) (by omega)
    omega
  · have hb : 0 < x1 * d1 := Int.mul_pos (by omega) (by omega)
    rw [ordQ_cross hb (by omega)]
    apply cmpI_lt
    have key : (x0 * d1 + -n1 * x1) * d2 = x1 * (k * (d1 * n2) - n1 * d2) := by grind
    have key2 : n2 * (x1 * d1) = x1 * (d1 * n2) := by grind
    have p1 := Int.mul_lt_mul_of_pos_left c1 (show 0 < x1 by omega)
    have p2 := Int.mul_lt_mul_of_pos_left c2 (show 0 < x1 by omega)
    rw [Int.mul_neg] at p1
    rw [key2]
    rcases Int.natAbs_eq (x0 * d1 + -n1 * x1) with e | e
    · rw [← e, key]; exact p2
    · have : ((x0 * d1 + -n1 * x1).natAbs : Int) = -(x0 * d1 + -n1 * x1) := by omega
      rw [this, Int.neg_mul, key]; omega
  · intro h3
    obtain ⟨q1, q2⟩ := c3 h3
    have hb : 0 < x1 * d1 := Int.mul_pos (by omega) (by omega)
    rw [ordQ_cross hb (by omega)]
    have key : (x0 * d1 + -n1 * x1) * d2 = x1 * (k * (d1 * n2) - n1 * d2) := by grind
    have key2 : n2 * (x1 * d1) = x1 * (d1 * n2) := by grind
    have p1 := Int.mul_le_mul_of_nonneg_left q1 (show 0 ≤ x1 by omega)
    have p2 := Int.mul_le_mul_of_nonneg_left q2 (show 0 ≤ x1 by omega)
    rw [Int.mul_neg] at p1
    have p3 : x1 * (2 * (k * (d1 * n2) - n1 * d2)) = 2 * (x1 * (k * (d1 * n2) - n1 * d2)) := by grind
    rw [p3] at p1 p2
    have hle : 2 * ((x0 * d1 + -n1 * x1).natAbs : Int) * d2 ≤ n2 * (x1 * d1) := by
      rw [key2, Int.mul_assoc]
      rcases Int.natAbs_eq (x0 * d1 + -n1 * x1) with e | e
      · rw [← e, key]; exact p2
      · have : ((x0 * d1 + -n1 * x1).natAbs : Int) = -(x0 * d1 + -n1 * x1) := by omega
        rw [this, Int.neg_mul, key]; omega
    rcases cmpI_cases (2 * ((x0 * d1 + -n1 * x1).natAbs : Int) * d2) (n2 * (x1 * d1)) with ⟨_, h2⟩ | ⟨h1, _⟩ | ⟨_, h2⟩
    · rw [h2]; decide
    · omega
    · rw [h2]; decide

theorem qof_neg (a b : Int) : -(qof a b) = qof (-a) b := by unfold qof; rw [Rat.intCast_neg]; grind
theorem qof_two (a b : Int) : qof a b + qof a b = qof (2 * a) b := by unfold qof; rw [Rat.intCast_mul]; grind

end Go.Proofs.Ytjnfgjaiahnfgaa

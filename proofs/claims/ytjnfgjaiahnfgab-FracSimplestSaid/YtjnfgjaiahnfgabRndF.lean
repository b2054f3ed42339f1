/- The reference's Whole, Round and RoundTo. -/
import Derived.Test.YtjnfgjaiahnfgabRndE
namespace Go.Proofs.Ytjnfgjaiahnfgab
open Go.RowKit

theorem one_open {w : World} {a : Option Addr} {n cap : Nat} (h : IsNat w (.slice a n cap) 1) : n = 1 ∧ 1 ≤ cap ∧ cap ≤ maxLen ∧ ∃ g, a = some ⟨g, 0, none⟩ ∧ g < w.heap.size ∧ w.cell? ⟨g, 0, none⟩ = some (.int .u32 1) := by
  have e : digs 1 = [1] := by rw [digs_pos (by decide), show 1 / Bse = 0 from rfl, digs_zero]; rfl
  obtain ⟨h1, h2, h3, h4⟩ := IsDig.open_some h
  rw [e] at h1 h2 h4
  refine ⟨h1, h2, h3, ?_⟩
  rcases h4 with h4 | ⟨g, hg, hl, hc⟩
  · cases h4
  · exact ⟨g, hg, hl, hc 0 (by simp)⟩

theorem rnd_vf {n d m : Int} (h : VF n d) : -1000000000 ≤ rndI m n d ∧ rndI m n d ≤ 1000000000 := by
  have h1 := h.n1
  have h2 := h.n2
  have h3 := h.d1
  have h4 := h.d2
  obtain ⟨f1, f2, f3, f4, f5, f6⟩ := floor_facts (n := n) (d := d) (by omega) (by omega) (by omega) (by omega)
  have hup : upB m n d (n / d) (n - n / d * d) = true → 0 < n - n / d * d := by
    unfold upB
    generalize n - n / d * d = r at *
    intro hu
    split at hu
    · simpa using hu
    · split at hu
      · simp at hu; exact hu.1
      · split at hu
        · simp at hu; omega
        · split at hu
          · simp at hu; omega
          · cases hu
  have hq : n / d ≤ 1000000000 ∧ -1000000000 ≤ n / d := by
    generalize n / d = q at *
    have e1 : 0 ≤ q → q ≤ q * d := fun hq => by
      have := Int.mul_le_mul_of_nonneg_left h3 hq
      omega
    have e2 : q ≤ 0 → q * d ≤ q := fun hq => by
      have := Int.mul_le_mul_of_nonneg_left h3 (show 0 ≤ -q by omega)
      rw [Int.neg_mul, Int.neg_mul] at this
      omega
    constructor
    · by_cases hz : 0 ≤ q
      · have := e1 hz; omega
      · omega
    · by_cases hz : -1000000000 ≤ q
      · exact hz
      · exfalso
        have e3 : (q + 1000000001) * d ≤ 0 := Int.mul_nonpos_of_nonpos_of_nonneg (by omega) (by omega)
        rw [Int.add_mul] at e3
        omega
  unfold rndI
  split
  · rename_i hu
    have hr := hup hu
    have hd2 : 2 ≤ d := by omega
    have : n / d < 1000000000 := by
      generalize n / d = q at *
      by_cases hz : 0 ≤ q
      · have := Int.mul_le_mul_of_nonneg_left hd2 hz
        omega
      · omega
    omega
  · omega

end Go.Proofs.Ytjnfgjaiahnfgab

/- Skins: what a table holds while it is filled. No program. -/
import Derived.Test.YtndhnpljdldlpabSlX
namespace Go.Proofs.Ytndhnpljdldlpab
open Go.RowKit

/-- What the closure makes of a table's cells. -/
def tabStep (U : Int → Int → Bool) (f : Nat → Nat → Int) (x y : Nat) : Nat → Nat → Int := fun y' x' => if y' = y + 1 ∧ x' = x + 1 then f (y + 1) x + f y (x + 1) - f y x + bz (U x y) else f y' x'
/-- The table's cells when the cells before (x, y) are counted. -/
def tabTo (U : Int → Int → Bool) (y x : Nat) : Nat → Nat → Int := fun y' x' => if y' ≤ y ∨ (y' = y + 1 ∧ x' ≤ x) then (tab U x' y' : Int) else 0
theorem tabTo_zero (U : Int → Int → Bool) (y' x' : Nat) : tabTo U 0 0 y' x' = 0 := by
  unfold tabTo
  split
  · rename_i h
    rcases h with h | ⟨h1, h2⟩
    · obtain rfl : y' = 0 := by omega
      rw [tab_y0]; rfl
    · obtain rfl : x' = 0 := by omega
      rw [tab_x0]; rfl
  · rfl
theorem tabTo_next (U : Int → Int → Bool) (x y : Nat) : tabStep U (tabTo U y x) x y = tabTo U y (x + 1) := by
  funext y' x'
  unfold tabStep tabTo
  by_cases h : y' = y + 1 ∧ x' = x + 1
  · obtain ⟨rfl, rfl⟩ := h
    rw [if_pos ⟨rfl, rfl⟩, if_pos (by omega), if_pos (by omega), if_pos (by omega), if_pos (by omega), tab_stepI]
  · rw [if_neg h]
    by_cases h2 : y' ≤ y ∨ (y' = y + 1 ∧ x' ≤ x)
    · rw [if_pos h2, if_pos (by omega)]
    · rw [if_neg h2, if_neg (by omega)]
theorem tabTo_row (U : Int → Int → Bool) (W y y' x' : Nat) (hx : x' ≤ W) : tabTo U y W y' x' = tabTo U (y + 1) 0 y' x' := by
  unfold tabTo
  by_cases h : y' ≤ y + 1
  · rw [if_pos (by omega), if_pos (by omega)]
  · rw [if_neg (by omega)]
    by_cases h2 : y' = y + 2 ∧ x' = 0
    · obtain ⟨rfl, rfl⟩ := h2
      rw [if_pos (by omega), tab_x0]; rfl
    · rw [if_neg (by omega)]
theorem tabTo_done (U : Int → Int → Bool) (H y' x' : Nat) (hy : y' ≤ H) : tabTo U H 0 y' x' = tab U x' y' := by
  unfold tabTo
  rw [if_pos (by omega)]
theorem tabTo_bounds (U : Int → Int → Bool) (W H y x y' x' : Nat) (hW : W ≤ 48) (hH : H ≤ 48) (hy : y' ≤ H) (hx : x' ≤ W) : 0 ≤ tabTo U y x y' x' ∧ tabTo U y x y' x' ≤ 2304 := by
  have h1 := tab_le U x' y'
  have h2 : x' * y' ≤ 48 * 48 := Nat.mul_le_mul (by omega) (by omega)
  unfold tabTo
  split <;> omega

end Go.Proofs.Ytndhnpljdldlpab

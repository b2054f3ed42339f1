/- Skins: how many cells of a rectangle are usable; the sums of a table. No program. -/
import Derived.Test.YtndhnpljdldlpabSkD
namespace Go.Proofs.Ytndhnpljdldlpab
open Go.RowKit

def bz (b : Bool) : Nat := if b = true then 1 else 0
theorem bz_le (b : Bool) : bz b ≤ 1 := by cases b <;> simp [bz]
theorem bz_one {b : Bool} : bz b = 1 ↔ b = true := by cases b <;> simp [bz]
/-- How many of the k cells of row y from x0 on. -/
def cRow (U : Int → Int → Bool) (y x0 : Int) : Nat → Nat
  | 0 => 0
  | k + 1 => cRow U y x0 k + bz (U (x0 + k) y)
/-- How many cells of the rectangle of width w and height k at x0, y0. -/
def cBox (U : Int → Int → Bool) (x0 : Int) (w : Nat) (y0 : Int) : Nat → Nat
  | 0 => 0
  | k + 1 => cBox U x0 w y0 k + cRow U (y0 + k) x0 w
theorem cRow_le (U : Int → Int → Bool) (y x0 : Int) : ∀ k : Nat, cRow U y x0 k ≤ k
  | 0 => Nat.le_refl _
  | k + 1 => by
    have h1 := cRow_le U y x0 k
    have h2 := bz_le (U (x0 + k) y)
    unfold cRow
    omega
theorem cRow_full (U : Int → Int → Bool) (y x0 : Int) : ∀ k : Nat, cRow U y x0 k = k ↔ ∀ i : Nat, i < k → U (x0 + i) y = true
  | 0 => by simp [cRow]
  | k + 1 => by
    have h1 := cRow_le U y x0 k
    have h2 := bz_le (U (x0 + k) y)
    have h3 := cRow_full U y x0 k
    unfold cRow
    constructor
    · intro h i hi
      rcases Nat.lt_or_ge i k with hlt | hge
      · exact h3.1 (by omega) i hlt
      · obtain rfl : i = k := by omega
        exact bz_one.1 (by omega)
    · intro h
      have h4 := h3.2 (fun i hi => h i (by omega))
      have h5 := bz_one.2 (h k (by omega))
      omega
theorem cRow_add (U : Int → Int → Bool) (y x0 : Int) (a : Nat) : ∀ b : Nat, cRow U y x0 (a + b) = cRow U y x0 a + cRow U y (x0 + a) b
  | 0 => by simp [cRow]
  | b + 1 => by
    have h1 := cRow_add U y x0 a b
    rw [← Nat.add_assoc, cRow, cRow, h1, show x0 + ((a + b : Nat) : Int) = x0 + a + b by omega]
    omega
theorem cBox_add_h (U : Int → Int → Bool) (x0 : Int) (w : Nat) (y0 : Int) (a : Nat) : ∀ b : Nat, cBox U x0 w y0 (a + b) = cBox U x0 w y0 a + cBox U x0 w (y0 + a) b
  | 0 => by simp [cBox]
  | b + 1 => by
    have h1 := cBox_add_h U x0 w y0 a b
    rw [← Nat.add_assoc, cBox, cBox, h1, show y0 + ((a + b : Nat) : Int) = y0 + a + b by omega]
    omega
theorem cBox_add_w (U : Int → Int → Bool) (x0 : Int) (a b : Nat) (y0 : Int) : ∀ h : Nat, cBox U x0 (a + b) y0 h = cBox U x0 a y0 h + cBox U (x0 + a) b y0 h
  | 0 => by simp [cBox]
  | h + 1 => by
    have h1 := cBox_add_w U x0 a b y0 h
    rw [cBox, cBox, cBox, h1, cRow_add]
    omega
theorem cBox_w0 (U : Int → Int → Bool) (x0 y0 : Int) : ∀ h : Nat, cBox U x0 0 y0 h = 0
  | 0 => rfl
  | h + 1 => by
    rw [cBox, cBox_w0 U x0 y0 h]
    rfl
theorem cBox_le (U : Int → Int → Bool) (x0 : Int) (w : Nat) (y0 : Int) : ∀ h : Nat, cBox U x0 w y0 h ≤ w * h
  | 0 => Nat.le_refl _
  | h + 1 => by
    have h1 := cBox_le U x0 w y0 h
    have h2 := cRow_le U (y0 + h) x0 w
    unfold cBox
    rw [Nat.mul_succ]
    omega
theorem cBox_full (U : Int → Int → Bool) (x0 : Int) (w : Nat) (y0 : Int) : ∀ h : Nat, cBox U x0 w y0 h = w * h ↔ ∀ i j : Nat, i < w → j < h → U (x0 + i) (y0 + j) = true
  | 0 => by simp [cBox]
  | h + 1 => by
    have h1 := cBox_le U x0 w y0 h
    have h2 := cRow_le U (y0 + h) x0 w
    have h3 := cBox_full U x0 w y0 h
    have h4 := cRow_full U (y0 + h) x0 w
    unfold cBox
    rw [Nat.mul_succ]
    constructor
    · intro hh i j hi hj
      rcases Nat.lt_or_ge j h with hlt | hge
      · exact h3.1 (by omega) i j hi hlt
      · obtain rfl : j = h := by omega
        exact h4.1 (by omega) i hi
    · intro hh
      have h5 := h3.2 (fun i j hi hj => hh i j hi (by omega))
      have h6 := h4.2 (fun i hi => hh i h hi (by omega))
      omega

/-- What the table holds at row y, column x: the cells above and to the left. -/
def tab (U : Int → Int → Bool) (x y : Nat) : Nat := cBox U 0 x 0 y
theorem tab_x0 (U : Int → Int → Bool) (y : Nat) : tab U 0 y = 0 := cBox_w0 U 0 0 y
theorem tab_y0 (U : Int → Int → Bool) (x : Nat) : tab U x 0 = 0 := rfl
theorem tab_le (U : Int → Int → Bool) (x y : Nat) : tab U x y ≤ x * y := cBox_le U 0 x 0 y
theorem tab_box (U : Int → Int → Bool) (X W Y H : Nat) : tab U (X + W) (Y + H) + tab U X Y = tab U X (Y + H) + tab U (X + W) Y + cBox U X W Y H := by
  unfold tab
  rw [cBox_add_h U 0 (X + W) 0 Y H, cBox_add_h U 0 X 0 Y H, cBox_add_w U 0 X W (0 + Y) H, show (0 : Int) + (X : Int) = X by omega, show (0 : Int) + (Y : Int) = Y by omega]
  omega
theorem tab_step (U : Int → Int → Bool) (x y : Nat) : tab U (x + 1) (y + 1) + tab U x y = tab U x (y + 1) + tab U (x + 1) y + bz (U x y) := by
  have h := tab_box U x 1 y 1
  have e : cBox U x 1 y 1 = bz (U x y) := by
    simp [cBox, cRow]
  rw [e] at h
  exact h
/-- As the program adds: what stands to the left, and above, less what stands aslant. -/
theorem tab_stepI (U : Int → Int → Bool) (x y : Nat) : (tab U (x + 1) (y + 1) : Int) = tab U x (y + 1) + tab U (x + 1) y - tab U x y + bz (U x y) := by
  have h := tab_step U x y
  omega
theorem tab_boxI (U : Int → Int → Bool) (X W Y H : Nat) : (tab U (X + W) (Y + H) : Int) - tab U X (Y + H) - tab U (X + W) Y + tab U X Y = cBox U X W Y H := by
  have h := tab_box U X W Y H
  omega

end Go.Proofs.Ytndhnpljdldlpab

/- Skins: Erode and Dilate: what a sweep gives; the square's least and greatest. No program. -/
import Derived.Test.YtfnkomecbbmfmaaSlG
namespace Go.Proofs.Ytfnkomecbbmfmaa
open Go.RowKit

/-- The lesser, the greater. -/
def pk (least : Bool) (a b : Int) : Int := if least = true then (if b < a then b else a) else (if a < b then b else a)
/-- At most, at least. -/
def rl (least : Bool) (m b : Int) : Prop := if least = true then m ≤ b else b ≤ m
theorem rl_pk (least : Bool) (m a b : Int) : rl least m (pk least a b) ↔ rl least m a ∧ rl least m b := by
  unfold rl pk
  cases least <;> simp only [Bool.false_eq_true, if_false, if_true] <;> split <;> omega
theorem rl_ext {least : Bool} {a b : Int} (h : ∀ m, rl least m a ↔ rl least m b) : a = b := by
  have h1 := (h a).1 (by unfold rl; split <;> omega)
  have h2 := (h b).2 (by unfold rl; split <;> omega)
  unfold rl at h1 h2
  cases least <;> simp at h1 h2 <;> omega

/-- What a sweep of k steps gives. -/
def swG (least : Bool) (ss : List ByteArray) (dx dy : Int) : Nat → Int → Int → Int
  | 0, x, y => grd ss x y
  | k + 1, x, y => pk least (swG least ss dx dy k x y) (pk least (grd ss (x - (k + 1 : Nat) * dx) (y - (k + 1 : Nat) * dy)) (grd ss (x + (k + 1 : Nat) * dx) (y + (k + 1 : Nat) * dy)))
theorem rl_swG (least : Bool) (ss : List ByteArray) (dx dy m : Int) : ∀ (k : Nat) (x y : Int), rl least m (swG least ss dx dy k x y) ↔ ∀ j : Nat, j ≤ k → rl least m (grd ss (x - j * dx) (y - j * dy)) ∧ rl least m (grd ss (x + j * dx) (y + j * dy))
  | 0, x, y => by
    unfold swG
    constructor
    · intro h j hj
      obtain rfl : j = 0 := by omega
      simpa using h
    · intro h
      have := (h 0 (Nat.le_refl _)).1
      simpa using this
  | k + 1, x, y => by
    unfold swG
    rw [rl_pk, rl_pk, rl_swG least ss dx dy m k x y]
    constructor
    · rintro ⟨h1, h2, h3⟩ j hj
      rcases Nat.lt_or_ge j (k + 1) with hlt | hge
      · exact h1 j (by omega)
      · obtain rfl : j = k + 1 := by omega
        exact ⟨h2, h3⟩
    · intro h
      exact ⟨fun j hj => h j (by omega), h (k + 1) (Nat.le_refl _)⟩
theorem swG_nat (least : Bool) {ss : List ByteArray} (hs : skB ss = true) (dx dy : Int) : ∀ (k : Nat) (x y : Int), ∃ g : Nat, swG least ss dx dy k x y = g ∧ g ≤ 9
  | 0, x, y => grd_nat hs x y
  | k + 1, x, y => by
    obtain ⟨a, ha, ha9⟩ := swG_nat least hs dx dy k x y
    obtain ⟨b, hb, hb9⟩ := grd_nat hs (x - (k + 1 : Nat) * dx) (y - (k + 1 : Nat) * dy)
    obtain ⟨c, hc, hc9⟩ := grd_nat hs (x + (k + 1 : Nat) * dx) (y + (k + 1 : Nat) * dy)
    unfold swG
    rw [ha, hb, hc]
    unfold pk
    cases least <;> simp only [Bool.false_eq_true, if_false, if_true] <;> (repeat' split) <;> first | exact ⟨a, rfl, ha9⟩ | exact ⟨b, rfl, hb9⟩ | exact ⟨c, rfl, hc9⟩
def swN (least : Bool) (ss : List ByteArray) (dx dy : Int) (k : Nat) (x y : Nat) : Nat := (swG least ss dx dy k x y).toNat
theorem swN_eq (least : Bool) {ss : List ByteArray} (hs : skB ss = true) (dx dy : Int) (k : Nat) (x y : Nat) : swG least ss dx dy k x y = (swN least ss dx dy k x y : Int) ∧ swN least ss dx dy k x y ≤ 9 := by
  obtain ⟨g, hg, hg9⟩ := swG_nat least hs dx dy k x y
  unfold swN
  rw [hg]
  exact ⟨by simp, by simpa using hg9⟩
def swB (least : Bool) (ss : List ByteArray) (dx dy : Int) (k : Nat) : List ByteArray := drawB (wid ss) ss.length (swN least ss dx dy k)
theorem swB_sk (least : Bool) {ss : List ByteArray} (hs : skB ss = true) (dx dy : Int) (k : Nat) : skB (swB least ss dx dy k) = true := by
  obtain ⟨h1, h2, -⟩ := skB_iff.1 hs
  exact drawB_sk h2 h1 (fun x y _ _ => (swN_eq least hs dx dy k x y).2)
theorem swB_len (least : Bool) (ss : List ByteArray) (dx dy : Int) (k : Nat) : (swB least ss dx dy k).length = ss.length := drawB_len _ _ _
theorem swB_wid (least : Bool) {ss : List ByteArray} (hs : skB ss = true) (dx dy : Int) (k : Nat) : wid (swB least ss dx dy k) = wid ss := by
  obtain ⟨h1, h2, -⟩ := skB_iff.1 hs
  exact drawB_wid _ h1.1
/-- Both sweeps. -/
def spB (least : Bool) (ss : List ByteArray) (k : Nat) : List ByteArray := swB least (swB least ss 1 0 k) 0 1 k

theorem grd_swB (least : Bool) {ss : List ByteArray} (hs : skB ss = true) (dx dy : Int) (k : Nat) (x y : Int) : grd (swB least ss dx dy k) x y = if 0 ≤ x ∧ x < wid ss ∧ 0 ≤ y ∧ y < ss.length then swG least ss dx dy k x y else 0 := by
  split
  · rename_i h
    obtain ⟨i1, i2, i3, i4⟩ := h
    obtain ⟨xn, rfl⟩ := Int.eq_ofNat_of_zero_le i1
    obtain ⟨yn, rfl⟩ := Int.eq_ofNat_of_zero_le i3
    have := drawB_grd (G := swN least ss dx dy k) (W := wid ss) (H := ss.length) (fun x y _ _ => (swN_eq least hs dx dy k x y).2) (x := xn) (y := yn) (by omega) (by omega)
    rw [(swN_eq least hs dx dy k xn yn).1]
    exact this
  · rename_i h
    refine grd_out ?_
    rw [swB_wid least hs, swB_len]
    omega

/-- The square around a cell, whatever lies beyond the edge. -/
theorem rl_square (least : Bool) {ss : List ByteArray} (hs : skB ss = true) (k : Nat) (m : Int) (x y : Int) (hx : 0 ≤ x ∧ x < wid ss) : rl least m (swG least (swB least ss 1 0 k) 0 1 k x y) ↔ ∀ u v : Int, x - k ≤ u → u ≤ x + k → y - k ≤ v → v ≤ y + k → rl least m (grd ss u v) := by
  rw [rl_swG]
  have hrow : ∀ v : Int, rl least m (grd (swB least ss 1 0 k) x v) ↔ ∀ u : Int, x - k ≤ u → u ≤ x + k → rl least m (grd ss u v) := by
    intro v
    rw [grd_swB least hs]
    by_cases hv : 0 ≤ v ∧ v < ss.length
    · rw [if_pos ⟨hx.1, hx.2, hv.1, hv.2⟩, rl_swG]
      constructor
      · intro h u h1 h2
        rcases Int.le_total u x with hu | hu
        · obtain ⟨j, hj⟩ := Int.eq_ofNat_of_zero_le (show 0 ≤ x - u by omega)
          have := (h j (by omega)).1
          rw [show x - (j : Int) * 1 = u by omega, show v - (j : Int) * 0 = v by omega] at this
          exact this
        · obtain ⟨j, hj⟩ := Int.eq_ofNat_of_zero_le (show 0 ≤ u - x by omega)
          have := (h j (by omega)).2
          rw [show x + (j : Int) * 1 = u by omega, show v + (j : Int) * 0 = v by omega] at this
          exact this
      · intro h j hj
        rw [show x - (j : Int) * 1 = x - j by omega, show v - (j : Int) * 0 = v by omega, show x + (j : Int) * 1 = x + j by omega, show v + (j : Int) * 0 = v by omega]
        exact ⟨h _ (by omega) (by omega), h _ (by omega) (by omega)⟩
    · rw [if_neg (fun h => hv h.2.2)]
      constructor
      · intro h u _ _
        rw [grd_out (by omega)]
        exact h
      · intro h
        have := h x (by omega) (by omega)
        rw [grd_out (by omega)] at this
        exact this
  constructor
  · intro h u v h1 h2 h3 h4
    rcases Int.le_total v y with hv | hv
    · obtain ⟨j, hj⟩ := Int.eq_ofNat_of_zero_le (show 0 ≤ y - v by omega)
      have := (h j (by omega)).1
      rw [show x - (j : Int) * 0 = x by omega, show y - (j : Int) * 1 = v by omega] at this
      exact (hrow v).1 this u h1 h2
    · obtain ⟨j, hj⟩ := Int.eq_ofNat_of_zero_le (show 0 ≤ v - y by omega)
      have := (h j (by omega)).2
      rw [show x + (j : Int) * 0 = x by omega, show y + (j : Int) * 1 = v by omega] at this
      exact (hrow v).1 this u h1 h2
  · intro h j hj
    rw [show x - (j : Int) * 0 = x by omega, show y - (j : Int) * 1 = y - j by omega, show x + (j : Int) * 0 = x by omega, show y + (j : Int) * 1 = y + j by omega]
    exact ⟨(hrow _).2 (fun u h1 h2 => h u _ h1 h2 (by omega) (by omega)), (hrow _).2 (fun u h1 h2 => h u _ h1 h2 (by omega) (by omega))⟩

end Go.Proofs.Ytfnkomecbbmfmaa

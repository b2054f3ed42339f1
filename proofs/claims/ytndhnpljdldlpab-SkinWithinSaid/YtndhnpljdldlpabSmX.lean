/- Skins: each usable rectangle lies within a maximal one; the best one is maximal. No program. -/
import Derived.Test.YtndhnpljdldlpabSmR
namespace Go.Proofs.Ytndhnpljdldlpab
open Go.RowKit

theorem mem4 (U : Int → Int → Bool) (W H x y n : Nat) (r : Rc) : ∀ k : Nat, r ∈ mx4 U W H x y n k ↔ ∃ m : Nat, 1 ≤ m ∧ m ≤ k ∧ maxB U W H x y n m = true ∧ r = ((x : Int), (y : Int), (n : Int), (m : Int))
  | 0 => by
    constructor
    · intro h; simp [mx4] at h
    · rintro ⟨m, h1, h2, -⟩; omega
  | k + 1 => by
    rw [mx4, List.mem_append, mem4 U W H x y n r k]
    constructor
    · rintro (⟨m, h1, h2, h3, h4⟩ | h)
      · exact ⟨m, h1, by omega, h3, h4⟩
      · by_cases hm : maxB U W H x y n (k + 1) = true
        · rw [if_pos hm, List.mem_singleton] at h
          exact ⟨k + 1, by omega, Nat.le_refl _, hm, h⟩
        · rw [if_neg hm] at h; simp at h
    · rintro ⟨m, h1, h2, h3, h4⟩
      by_cases e : m = k + 1
      · right
        subst e
        rw [if_pos h3, List.mem_singleton]; exact h4
      · left; exact ⟨m, h1, by omega, h3, h4⟩
theorem mem3 (U : Int → Int → Bool) (W H x y : Nat) (r : Rc) : ∀ k : Nat, r ∈ mx3 U W H x y k ↔ ∃ n m : Nat, 1 ≤ n ∧ n ≤ k ∧ 1 ≤ m ∧ m ≤ H - y ∧ maxB U W H x y n m = true ∧ r = ((x : Int), (y : Int), (n : Int), (m : Int))
  | 0 => by
    constructor
    · intro h; simp [mx3] at h
    · rintro ⟨n, m, h1, h2, -⟩; omega
  | k + 1 => by
    rw [mx3, List.mem_append, mem3 U W H x y r k, mem4]
    constructor
    · rintro (⟨n, m, h1, h2, h3⟩ | ⟨m, h1, h2, h3⟩)
      · exact ⟨n, m, h1, by omega, h3⟩
      · exact ⟨k + 1, m, by omega, Nat.le_refl _, h1, h2, h3⟩
    · rintro ⟨n, m, h1, h2, h3, h4, h5⟩
      by_cases e : n = k + 1
      · right; subst e; exact ⟨m, h3, h4, h5⟩
      · left; exact ⟨n, m, h1, by omega, h3, h4, h5⟩
theorem mem2 (U : Int → Int → Bool) (W H y : Nat) (r : Rc) : ∀ k : Nat, r ∈ mx2 U W H y k ↔ ∃ x n m : Nat, x < k ∧ 1 ≤ n ∧ n ≤ W - x ∧ 1 ≤ m ∧ m ≤ H - y ∧ maxB U W H x y n m = true ∧ r = ((x : Int), (y : Int), (n : Int), (m : Int))
  | 0 => by
    constructor
    · intro h; simp [mx2] at h
    · rintro ⟨x, n, m, h1, -⟩; omega
  | k + 1 => by
    rw [mx2, List.mem_append, mem2 U W H y r k, mem3]
    constructor
    · rintro (⟨x, n, m, h1, h2⟩ | ⟨n, m, h1, h2⟩)
      · exact ⟨x, n, m, by omega, h2⟩
      · exact ⟨k, n, m, by omega, h1, h2⟩
    · rintro ⟨x, n, m, h1, h2⟩
      by_cases e : x = k
      · right; subst e; exact ⟨n, m, h2⟩
      · left; exact ⟨x, n, m, by omega, h2⟩
theorem mem1 (U : Int → Int → Bool) (W H : Nat) (r : Rc) : ∀ k : Nat, r ∈ mx1 U W H k ↔ ∃ y x n m : Nat, y < k ∧ x < W ∧ 1 ≤ n ∧ n ≤ W - x ∧ 1 ≤ m ∧ m ≤ H - y ∧ maxB U W H x y n m = true ∧ r = ((x : Int), (y : Int), (n : Int), (m : Int))
  | 0 => by
    constructor
    · intro h; simp [mx1] at h
    · rintro ⟨y, x, n, m, h1, -⟩; omega
  | k + 1 => by
    rw [mx1, List.mem_append, mem1 U W H r k, mem2]
    constructor
    · rintro (⟨y, x, n, m, h1, h2⟩ | ⟨x, n, m, h1, h2⟩)
      · exact ⟨y, x, n, m, by omega, h2⟩
      · exact ⟨k, x, n, m, by omega, h1, h2⟩
    · rintro ⟨y, x, n, m, h1, h2⟩
      by_cases e : y = k
      · right; subst e; exact ⟨x, n, m, h2⟩
      · left; exact ⟨y, x, n, m, by omega, h2⟩
theorem mem_max (U : Int → Int → Bool) (W H : Nat) (r : Rc) : r ∈ mxTo U W H H 0 0 0 ↔ ∃ y x n m : Nat, y < H ∧ x < W ∧ 1 ≤ n ∧ n ≤ W - x ∧ 1 ≤ m ∧ m ≤ H - y ∧ maxB U W H x y n m = true ∧ r = ((x : Int), (y : Int), (n : Int), (m : Int)) := by
  have e : mxTo U W H H 0 0 0 = mx1 U W H H := by
    unfold mxTo
    simp [mx2, mx3, mx4]
  rw [e, mem1]

theorem fullG_full {U : Int → Int → Bool} {W H : Nat} {x y : Int} {n m : Nat} (hn : 1 ≤ n) (hm : 1 ≤ m) (h : fullG U W H x y n m = true) : ∃ X Y : Nat, x = X ∧ y = Y ∧ fullR U W H X Y n m := by
  have hin : 0 ≤ x ∧ 0 ≤ y ∧ x + n ≤ W ∧ y + m ≤ H := by
    by_cases hh : 0 ≤ x ∧ 0 ≤ y ∧ x + n ≤ W ∧ y + m ≤ H
    · exact hh
    · rw [fullG_out (by omega)] at h; cases h
  obtain ⟨X, rfl⟩ := Int.eq_ofNat_of_zero_le hin.1
  obtain ⟨Y, rfl⟩ := Int.eq_ofNat_of_zero_le hin.2.1
  refine ⟨X, Y, rfl, rfl, ?_⟩
  rw [fullG_in (by omega) (by omega)] at h
  exact (fullB_iff hn hm (by omega) (by omega)).1 h
theorem full_fullG {U : Int → Int → Bool} {W H x y n m : Nat} (h : fullR U W H x y n m) : fullG U W H x y n m = true := by
  obtain ⟨h1, h2, h3, h4, -⟩ := id h
  rw [fullG_in h3 h4]
  exact (fullB_iff h1 h2 h3 h4).2 h
/-- Not maximal: a greater one is usable around it. -/
theorem grow_of {U : Int → Int → Bool} {W H x y n m : Nat} (h : fullR U W H x y n m) (hno : maxB U W H x y n m ≠ true) : ∃ x' y' n' m' : Nat, fullR U W H x' y' n' m' ∧ x' ≤ x ∧ y' ≤ y ∧ x + n ≤ x' + n' ∧ y + m ≤ y' + m' ∧ n + m < n' + m' ∧ n * m < n' * m' := by
  have hf := full_fullG h
  obtain ⟨h1, h2, h3, h4, -⟩ := id h
  have a1 : n * m < (n + 1) * m := by rw [Nat.add_mul]; omega
  have a2 : n * m < n * (m + 1) := by rw [Nat.mul_add]; omega
  unfold maxB at hno
  rw [hf, Bool.true_and] at hno
  cases e1 : fullG U W H ((x : Int) - 1) y (n + 1) m with
  | true =>
    obtain ⟨X, Y, hX, hY, hr⟩ := fullG_full (by omega) h2 e1
    obtain rfl : Y = y := by omega
    exact ⟨X, Y, n + 1, m, hr, by omega, Nat.le_refl _, by omega, Nat.le_refl _, by omega, a1⟩
  | false =>
    cases e2 : fullG U W H x ((y : Int) - 1) n (m + 1) with
    | true =>
      obtain ⟨X, Y, hX, hY, hr⟩ := fullG_full h1 (by omega) e2
      obtain rfl : X = x := by omega
      exact ⟨X, Y, n, m + 1, hr, Nat.le_refl _, by omega, Nat.le_refl _, by omega, by omega, a2⟩
    | false =>
      cases e3 : fullG U W H x y (n + 1) m with
      | true =>
        obtain ⟨X, Y, hX, hY, hr⟩ := fullG_full (by omega) h2 e3
        obtain rfl : X = x := by omega
        obtain rfl : Y = y := by omega
        exact ⟨X, Y, n + 1, m, hr, Nat.le_refl _, Nat.le_refl _, by omega, Nat.le_refl _, by omega, a1⟩
      | false =>
        cases e4 : fullG U W H x y n (m + 1) with
        | true =>
          obtain ⟨X, Y, hX, hY, hr⟩ := fullG_full h1 (by omega) e4
          obtain rfl : X = x := by omega
          obtain rfl : Y = y := by omega
          exact ⟨X, Y, n, m + 1, hr, Nat.le_refl _, Nat.le_refl _, Nat.le_refl _, by omega, by omega, a2⟩
        | false =>
          rw [e1, e2, e3, e4] at hno
          exact absurd rfl hno
/-- Each usable rectangle lies within one of the list. -/
theorem within_max (U : Int → Int → Bool) (W H : Nat) : ∀ (k x y n m : Nat), W + H ≤ n + m + k → fullR U W H x y n m → ∃ x' y' n' m' : Nat, ((x' : Int), (y' : Int), (n' : Int), (m' : Int)) ∈ mxTo U W H H 0 0 0 ∧ x' ≤ x ∧ y' ≤ y ∧ x + n ≤ x' + n' ∧ y + m ≤ y' + m'
  | 0, x, y, n, m, hk, h => by
    by_cases hmax : maxB U W H x y n m = true
    · obtain ⟨h1, h2, h3, h4, -⟩ := h
      exact ⟨x, y, n, m, (mem_max U W H _).2 ⟨y, x, n, m, by omega, by omega, h1, by omega, h2, by omega, hmax, rfl⟩, Nat.le_refl _, Nat.le_refl _, Nat.le_refl _, Nat.le_refl _⟩
    · obtain ⟨x', y', n', m', hf, -, -, -, -, hlt, -⟩ := grow_of h hmax
      have := hf.2.2.1
      have := hf.2.2.2.1
      omega
  | k + 1, x, y, n, m, hk, h => by
    by_cases hmax : maxB U W H x y n m = true
    · obtain ⟨h1, h2, h3, h4, -⟩ := h
      exact ⟨x, y, n, m, (mem_max U W H _).2 ⟨y, x, n, m, by omega, by omega, h1, by omega, h2, by omega, hmax, rfl⟩, Nat.le_refl _, Nat.le_refl _, Nat.le_refl _, Nat.le_refl _⟩
    · obtain ⟨x', y', n', m', hf, a1, a2, a3, a4, hlt, -⟩ := grow_of h hmax
      obtain ⟨x2, y2, n2, m2, hm, b1, b2, b3, b4⟩ := within_max U W H k x' y' n' m' (by omega) hf
      exact ⟨x2, y2, n2, m2, hm, by omega, by omega, by omega, by omega⟩
/-- The best one is maximal. -/
theorem best_max {U : Int → Int → Bool} {W H p q r s : Nat} (h : bestTo false U W H H 0 1 1 p q r s) (hr : r ≠ 0) : ((p : Int), (q : Int), (r : Int), (s : Int)) ∈ mxTo U W H H 0 0 0 := by
  rcases h with ⟨-, -, h3, -⟩ | ⟨hf, -, -, hall⟩
  · exact absurd h3 hr
  · have hmax : maxB U W H p q r s = true := by
      by_cases hm : maxB U W H p q r s = true
      · exact hm
      · obtain ⟨x', y', n', m', hf', -, -, -, -, -, ha⟩ := grow_of hf hm
        have := hf'.2.2.2.1
        have := hf'.2.1
        have hg := hall x' y' n' m' (by unfold before4; omega) (by intro e; cases e) hf'
        unfold good at hg
        omega
    obtain ⟨h1, h2, h3, h4, -⟩ := hf
    exact (mem_max U W H _).2 ⟨q, p, r, s, by omega, by omega, h1, by omega, h2, by omega, hmax, rfl⟩
/-- No best one: the list is empty. -/
theorem none_max {U : Int → Int → Bool} {W H p q s : Nat} (h : bestTo false U W H H 0 1 1 p q 0 s) : mxTo U W H H 0 0 0 = [] := by
  rcases h with ⟨-, -, -, -, hno⟩ | ⟨hf, -⟩
  · refine List.eq_nil_iff_forall_not_mem.2 fun rc hm => ?_
    obtain ⟨y, x, n, m, h1, h2, h3, h4, h5, h6, h7, -⟩ := (mem_max U W H rc).1 hm
    have hf : fullG U W H x y n m = true := by
      unfold maxB at h7
      cases e : fullG U W H x y n m with
      | true => rfl
      | false => rw [e] at h7; simp at h7
    obtain ⟨X, Y, hX, hY, hr⟩ := fullG_full h3 h5 hf
    exact hno X Y n m (by unfold before4; omega) (by intro e; cases e) hr
  · have := hf.1; omega
/-- No usable rectangle has more cells than the best one. -/
theorem best_area {U : Int → Int → Bool} {W H p q r s x y n m : Nat} (h : bestTo false U W H H 0 1 1 p q r s) (hf : fullR U W H x y n m) : n * m ≤ r * s := by
  obtain ⟨h1, h2, h3, h4, -⟩ := id hf
  rcases h with ⟨-, -, -, -, hno⟩ | ⟨-, -, -, hall⟩
  · exact absurd hf (hno x y n m (by unfold before4; omega) (by intro e; cases e))
  · have hg := hall x y n m (by unfold before4; omega) (by intro e; cases e) hf
    unfold good at hg
    omega

end Go.Proofs.Ytndhnpljdldlpab

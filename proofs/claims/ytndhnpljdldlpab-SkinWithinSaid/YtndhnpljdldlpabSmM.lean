/- Skins: the usable rectangle that is best, the greatest usable square. No program. -/
import Derived.Test.YtndhnpljdldlpabSlX
namespace Go.Proofs.Ytndhnpljdldlpab
open Go.RowKit

/-- How many cells are usable from (x, y) down, of k. -/
def dep (U : Int → Int → Bool) (x : Nat) : Nat → Nat → Nat
  | _, 0 => 0
  | y, k + 1 => if U x y = true then dep U x (y + 1) k + 1 else 0
theorem dep_le (U : Int → Int → Bool) (x : Nat) : ∀ k y : Nat, dep U x y k ≤ k
  | 0, _ => Nat.le_refl _
  | k + 1, y => by
    have := dep_le U x k (y + 1)
    unfold dep
    split <;> omega
theorem dep_iff (U : Int → Int → Bool) (x : Nat) : ∀ k y m : Nat, m ≤ k → (m ≤ dep U x y k ↔ ∀ j : Nat, j < m → U x (y + j) = true)
  | 0, y, m, h => by
    obtain rfl : m = 0 := by omega
    simp
  | k + 1, y, m, h => by
    unfold dep
    cases m with
    | zero => simp
    | succ m =>
      have ih := dep_iff U x k (y + 1) m (by omega)
      by_cases hu : U x y = true
      · rw [if_pos hu]
        constructor
        · intro hm j hj
          cases j with
          | zero => simpa using hu
          | succ j =>
            have := ih.1 (by omega) j (by omega)
            rw [show ((y : Int) + ((j + 1 : Nat) : Int)) = ((y + 1 : Nat) : Int) + j by omega]
            exact this
        · intro hm
          have := ih.2 (fun j hj => by
            have := hm (j + 1) (by omega)
            rw [show ((y : Int) + ((j + 1 : Nat) : Int)) = ((y + 1 : Nat) : Int) + j by omega] at this
            exact this)
          omega
      · rw [if_neg hu]
        constructor
        · intro hm; omega
        · intro hm
          exact absurd (by simpa using hm 0 (by omega)) hu

/-- All cells of the rectangle are usable, and it lies within. -/
def fullR (U : Int → Int → Bool) (W H x y n m : Nat) : Prop := 1 ≤ n ∧ 1 ≤ m ∧ x + n ≤ W ∧ y + m ≤ H ∧ ∀ i j : Nat, i < n → j < m → U ((x : Int) + i) ((y : Int) + j) = true
/-- The least depth of the n columns from x on. -/
def low (U : Int → Int → Bool) (H x y : Nat) : Nat → Nat
  | 0 => dep U x y (H - y)
  | n + 1 => min (low U H x y n) (dep U (x + n) y (H - y))
theorem low_one (U : Int → Int → Bool) (H x y : Nat) : low U H x y 1 = dep U x y (H - y) := by
  simp [low]
theorem low_iff (U : Int → Int → Bool) (H x y m : Nat) : ∀ n : Nat, 1 ≤ n → (m ≤ low U H x y n ↔ ∀ i : Nat, i < n → m ≤ dep U (x + i) y (H - y))
  | 0, h => by omega
  | n + 1, _ => by
    cases n with
    | zero =>
      rw [low_one]
      constructor
      · intro h i hi
        obtain rfl : i = 0 := by omega
        exact h
      · intro h; exact h 0 (by omega)
    | succ n =>
      have ih := low_iff U H x y m (n + 1) (by omega)
      rw [low, Nat.le_min, ih]
      constructor
      · rintro ⟨h1, h2⟩ i hi
        rcases Nat.lt_or_ge i (n + 1) with hlt | hge
        · exact h1 i hlt
        · obtain rfl : i = n + 1 := by omega
          exact h2
      · intro h
        exact ⟨fun i hi => h i (by omega), h (n + 1) (by omega)⟩
theorem low_le (U : Int → Int → Bool) (H x y : Nat) : ∀ n : Nat, low U H x y n ≤ H - y
  | 0 => dep_le ..
  | n + 1 => by
    have := low_le U H x y n
    unfold low
    omega
/-- A rectangle is usable just if it is not deeper than the least depth. -/
theorem full_low (U : Int → Int → Bool) (W H x y n m : Nat) (hn : 1 ≤ n) (hx : x + n ≤ W) (hm : 1 ≤ m) : fullR U W H x y n m ↔ m ≤ low U H x y n := by
  constructor
  · rintro ⟨-, -, -, hy, h⟩
    rw [low_iff U H x y m n hn]
    intro i hi
    rw [dep_iff U (x + i) (H - y) y m (by omega)]
    intro j hj
    have := h i j hi hj
    rw [show (((x + i : Nat) : Int)) = (x : Int) + i by omega]
    exact this
  · intro h
    have hl := low_le U H x y n
    refine ⟨hn, hm, hx, by omega, fun i j hi hj => ?_⟩
    have h1 := (low_iff U H x y m n hn).1 h i hi
    have h2 := (dep_iff U (x + i) (H - y) y m (by omega)).1 h1 j hj
    rw [show (((x + i : Nat) : Int)) = (x : Int) + i by omega] at h2
    exact h2
theorem low_mono (U : Int → Int → Bool) (H x y n : Nat) : low U H x y (n + 1) ≤ low U H x y n := by
  rw [low]
  omega

/-- Before: by row, column, width, height. -/
def before4 (y x n m y' x' n' m' : Nat) : Prop := y < y' ∨ (y = y' ∧ (x < x' ∨ (x = x' ∧ (n < n' ∨ (n = n' ∧ m < m')))))
/-- The first is at least as good as the second: more cells, or as many and further up, further left, wider. -/
def good (x y n m x' y' n' m' : Nat) : Prop := n' * m' < n * m ∨ (n' * m' = n * m ∧ (y < y' ∨ (y = y' ∧ (x < x' ∨ (x = x' ∧ n' ≤ n)))))
theorem good_anti {x y n m x' y' n' m' : Nat} (hn : 1 ≤ n) (h : good x y n m x' y' n' m') (k : good x' y' n' m' x y n m) : x = x' ∧ y = y' ∧ n = n' ∧ m = m' := by
  unfold good at *
  have e : x = x' ∧ y = y' ∧ n = n' ∧ n' * m' = n * m := by omega
  obtain ⟨rfl, rfl, rfl, e⟩ := e
  exact ⟨rfl, rfl, rfl, (Nat.eq_of_mul_eq_mul_left (by omega) e).symm⟩

/-- The best of the usable rectangles (sq: squares) before a place; four zeros if there is none. -/
def bestTo (sq : Bool) (U : Int → Int → Bool) (W H y x n m : Nat) (bx bY bn bm : Nat) : Prop :=
  (bx = 0 ∧ bY = 0 ∧ bn = 0 ∧ bm = 0 ∧ ∀ x' y' n' m', before4 y' x' n' m' y x n m → (sq = true → n' = m') → ¬ fullR U W H x' y' n' m') ∨
  (fullR U W H bx bY bn bm ∧ (sq = true → bn = bm) ∧ before4 bY bx bn bm y x n m ∧ ∀ x' y' n' m', before4 y' x' n' m' y x n m → (sq = true → n' = m') → fullR U W H x' y' n' m' → good bx bY bn bm x' y' n' m')
theorem bestTo_start (sq : Bool) (U : Int → Int → Bool) (W H : Nat) : bestTo sq U W H 0 0 1 1 0 0 0 0 := by
  refine .inl ⟨rfl, rfl, rfl, rfl, fun x' y' n' m' h _ hf => ?_⟩
  obtain ⟨h1, h2, -⟩ := hf
  unfold before4 at h
  omega
/-- To a later place with no usable rectangle between. -/
theorem bestTo_on {sq : Bool} {U : Int → Int → Bool} {W H y x n m y2 x2 n2 m2 bx bY bn bm : Nat} (h : bestTo sq U W H y x n m bx bY bn bm)
    (hle : ∀ x' y' n' m', before4 y' x' n' m' y x n m → before4 y' x' n' m' y2 x2 n2 m2)
    (hno : ∀ x' y' n' m', before4 y' x' n' m' y2 x2 n2 m2 → (sq = true → n' = m') → fullR U W H x' y' n' m' → before4 y' x' n' m' y x n m) : bestTo sq U W H y2 x2 n2 m2 bx bY bn bm := by
  rcases h with ⟨h1, h2, h3, h4, h5⟩ | ⟨h1, h2, h3, h4⟩
  · exact .inl ⟨h1, h2, h3, h4, fun x' y' n' m' hb hk hf => h5 x' y' n' m' (hno _ _ _ _ hb hk hf) hk hf⟩
  · exact .inr ⟨h1, h2, hle _ _ _ _ h3, fun x' y' n' m' hb hk hf => h4 x' y' n' m' (hno _ _ _ _ hb hk hf) hk hf⟩
/-- Nothing more is usable from this width on. -/
theorem bestTo_skip {sq : Bool} {U : Int → Int → Bool} {W H y x n bx bY bn bm : Nat} (h : bestTo sq U W H y x n 1 bx bY bn bm) (hn : ∀ n' m', n ≤ n' → ¬ fullR U W H x y n' m') : bestTo sq U W H y (x + 1) 1 1 bx bY bn bm := by
  refine bestTo_on h (fun x' y' n' m' hb => ?_) (fun x' y' n' m' hb _ hf => ?_)
  · unfold before4 at *; omega
  · have h1 := hf.1
    have h2 := hf.2.1
    by_cases e : y' = y ∧ x' = x ∧ n ≤ n'
    · obtain ⟨rfl, rfl, e⟩ := e
      exact absurd hf (hn n' m' e)
    · unfold before4 at *; omega
/-- The next row. -/
theorem bestTo_row {sq : Bool} {U : Int → Int → Bool} {W H y bx bY bn bm : Nat} (h : bestTo sq U W H y W 1 1 bx bY bn bm) : bestTo sq U W H (y + 1) 0 1 1 bx bY bn bm := by
  refine bestTo_on h (fun x' y' n' m' hb => ?_) (fun x' y' n' m' hb _ hf => ?_)
  · unfold before4 at *; omega
  · obtain ⟨h1, h2, h3, -⟩ := hf
    unfold before4 at *; omega
/-- The heights of a width are through. -/
theorem bestTo_wide {sq : Bool} {U : Int → Int → Bool} {W H y x n m bx bY bn bm : Nat} (h : bestTo sq U W H y x n m bx bY bn bm) (_hm : 1 ≤ m) (hH : H < y + m) : bestTo sq U W H y x (n + 1) 1 bx bY bn bm := by
  refine bestTo_on h (fun x' y' n' m' hb => ?_) (fun x' y' n' m' hb _ hf => ?_)
  · unfold before4 at *; omega
  · obtain ⟨h1, h2, h3, h4, -⟩ := hf
    unfold before4 at *; omega
/-- One place on: the rectangle there is usable and better. -/
theorem bestTo_take {sq : Bool} {U : Int → Int → Bool} {W H y x n m bx bY bn bm : Nat} (h : bestTo sq U W H y x n m bx bY bn bm) (hk : sq = true → n = m) (hf : fullR U W H x y n m)
    (c : bn * bm < n * m ∨ (n * m = bn * bm ∧ y = bY ∧ x = bx ∧ bn < n)) : bestTo sq U W H y x n (m + 1) x y n m := by
  refine .inr ⟨hf, hk, by unfold before4; omega, fun x' y' n' m' hb hk' hf' => ?_⟩
  by_cases e : y' = y ∧ x' = x ∧ n' = n ∧ m' = m
  · obtain ⟨rfl, rfl, rfl, rfl⟩ := e
    unfold good; omega
  · have hb2 : before4 y' x' n' m' y x n m := by unfold before4 at *; omega
    rcases h with ⟨-, -, -, -, h5⟩ | ⟨h1, h2, h3, h4⟩
    · exact absurd hf' (h5 x' y' n' m' hb2 hk')
    · have h5 := h4 x' y' n' m' hb2 hk' hf'
      unfold good before4 at *
      omega
theorem bestTo_keep {sq : Bool} {U : Int → Int → Bool} {W H y x n m bx bY bn bm : Nat} (h : bestTo sq U W H y x n m bx bY bn bm)
    (c : (sq = true → n = m) → fullR U W H x y n m → ¬ (bn * bm < n * m ∨ (n * m = bn * bm ∧ y = bY ∧ x = bx ∧ bn < n))) : bestTo sq U W H y x n (m + 1) bx bY bn bm := by
  rcases h with ⟨h1, h2, h3, h4, h5⟩ | ⟨h1, h2, h3, h4⟩
  · refine .inl ⟨h1, h2, h3, h4, fun x' y' n' m' hb hk' hf' => ?_⟩
    by_cases e : y' = y ∧ x' = x ∧ n' = n ∧ m' = m
    · obtain ⟨rfl, rfl, rfl, rfl⟩ := e
      have hpos : 0 < n' * m' := Nat.mul_pos hf'.1 hf'.2.1
      subst h3
      exact c hk' hf' (.inl (by omega))
    · exact h5 x' y' n' m' (by unfold before4 at *; omega) hk' hf'
  · refine .inr ⟨h1, h2, by unfold before4 at *; omega, fun x' y' n' m' hb hk' hf' => ?_⟩
    by_cases e : y' = y ∧ x' = x ∧ n' = n ∧ m' = m
    · obtain ⟨rfl, rfl, rfl, rfl⟩ := e
      have hc := c hk' hf'
      by_cases ea : n' * m' = bn * bm ∧ bn = n' ∧ y' = bY ∧ x' = bx
      · obtain ⟨e1, rfl, rfl, rfl⟩ := ea
        have := Nat.eq_of_mul_eq_mul_left (by have := h1.1; omega) e1
        unfold before4 at h3; omega
      · unfold good before4 at *; omega
    · exact h4 x' y' n' m' (by unfold before4 at *; omega) hk' hf'
/-- There is but one best. -/
theorem bestTo_uniq {sq : Bool} {U : Int → Int → Bool} {W H y x n m a b c d a' b' c' d' : Nat} (h : bestTo sq U W H y x n m a b c d) (k : bestTo sq U W H y x n m a' b' c' d') : a = a' ∧ b = b' ∧ c = c' ∧ d = d' := by
  rcases h with ⟨h1, h2, h3, h4, h5⟩ | ⟨h1, h2, h3, h4⟩
  · rcases k with ⟨k1, k2, k3, k4, k5⟩ | ⟨k1, k2, k3, k4⟩
    · omega
    · exact absurd k1 (h5 _ _ _ _ k3 k2)
  · rcases k with ⟨k1, k2, k3, k4, k5⟩ | ⟨k1, k2, k3, k4⟩
    · exact absurd h1 (k5 _ _ _ _ h3 h2)
    · exact good_anti h1.1 (h4 _ _ _ _ k3 k2 k1) (k4 _ _ _ _ h3 h2 h1)

/-- The program's way: of each width but the deepest. -/
theorem bestTo_tall {U : Int → Int → Bool} {W H y x n bx bY bn bm : Nat} (h : bestTo false U W H y x n 1 bx bY bn bm) (hn : 1 ≤ n) (hx : x + n ≤ W) (hl : 1 ≤ low U H x y n)
    (c : bn * bm < n * low U H x y n ∨ (n * low U H x y n = bn * bm ∧ x = bx ∧ y = bY)) : bestTo false U W H y x (n + 1) 1 x y n (low U H x y n) := by
  have hfull := (full_low U W H x y n _ hn hx hl).2 (Nat.le_refl _)
  refine .inr ⟨hfull, (by intro e; cases e), by unfold before4; omega, fun x' y' n' m' hb hk hf => ?_⟩
  by_cases e : y' = y ∧ x' = x ∧ n' = n
  · obtain ⟨rfl, rfl, rfl⟩ := e
    have hm := (full_low U W H x' y' n' m' hn hx hf.2.1).1 hf
    have := Nat.mul_le_mul_left n' hm
    unfold good; omega
  · have h1 := hf.2.1
    have hb2 : before4 y' x' n' m' y x n 1 := by unfold before4 at *; omega
    rcases h with ⟨-, -, -, -, h5⟩ | ⟨h1, h2, h3, h4⟩
    · exact absurd hf (h5 x' y' n' m' hb2 hk)
    · have h5 := h4 x' y' n' m' hb2 hk hf
      have := h1.2.1
      unfold good before4 at *
      omega
theorem bestTo_tallNo {U : Int → Int → Bool} {W H y x n bx bY bn bm : Nat} (h : bestTo false U W H y x n 1 bx bY bn bm) (hn : 1 ≤ n) (hx : x + n ≤ W) (hl : 1 ≤ low U H x y n)
    (c : ¬ (bn * bm < n * low U H x y n ∨ (n * low U H x y n = bn * bm ∧ x = bx ∧ y = bY))) : bestTo false U W H y x (n + 1) 1 bx bY bn bm := by
  have hpos : 0 < n * low U H x y n := Nat.mul_pos (by omega) (by omega)
  rcases h with ⟨h1, h2, h3, h4, h5⟩ | ⟨h1, h2, h3, h4⟩
  · subst h3
    exact absurd (.inl (by omega)) c
  · have h0 := h1.2.1
    refine .inr ⟨h1, (by intro e; cases e), by unfold before4 at *; omega, fun x' y' n' m' hb hk hf => ?_⟩
    by_cases e : y' = y ∧ x' = x ∧ n' = n
    · obtain ⟨rfl, rfl, rfl⟩ := e
      have hm := (full_low U W H x' y' n' m' hn hx hf.2.1).1 hf
      have := Nat.mul_le_mul_left n' hm
      unfold good before4 at *; omega
    · have := hf.2.1
      exact h4 x' y' n' m' (by unfold before4 at *; omega) hk hf
theorem sq_le {a b : Nat} (h : a * a ≤ b * b) : a ≤ b := by
  rcases Nat.lt_or_ge b a with hlt | hge
  · have := Nat.mul_self_lt_mul_self hlt
    omega
  · exact hge
theorem low_anti (U : Int → Int → Bool) (H x y a : Nat) (ha : 1 ≤ a) : ∀ k : Nat, low U H x y (a + k) ≤ low U H x y a
  | 0 => Nat.le_refl _
  | k + 1 => by
    have h1 := low_anti U H x y a ha k
    have h2 : low U H x y (a + (k + 1)) ≤ low U H x y (a + k) := by
      rw [← Nat.add_assoc, low]; omega
    omega
/-- Of each width the square that the deepest holds. -/
theorem bestTo_side {U : Int → Int → Bool} {W H y x n bx bY bn bm : Nat} (h : bestTo true U W H y x n 1 bx bY bn bm) (hn : 1 ≤ n) (hx : x + n ≤ W) (hl : 1 ≤ low U H x y n)
    (c : bn < min n (low U H x y n)) : bestTo true U W H y x (n + 1) 1 x y (min n (low U H x y n)) (min n (low U H x y n)) := by
  have hle : n ≤ low U H x y n := by
    rcases Nat.lt_or_ge (low U H x y n) n with hlt | hge
    · exfalso
      obtain ⟨s, hs⟩ : ∃ s, s = low U H x y n := ⟨_, rfl⟩
      rw [← hs] at hl hlt c
      have hfs : fullR U W H x y s s := by
        rw [full_low U W H x y s s hl (by omega) hl]
        have := low_anti U H x y s hl (n - s)
        rw [show s + (n - s) = n by omega] at this
        omega
      have hb : before4 y x s s y x n 1 := by unfold before4; omega
      rcases h with ⟨h1, h2, h3, h4, h5⟩ | ⟨h1, h2, h3, h4⟩
      · exact h5 _ _ _ _ hb (fun _ => rfl) hfs
      · have h5 := h4 _ _ _ _ hb (fun _ => rfl) hfs
        have h6 := h2 rfl
        subst h6
        have h7 : s * s ≤ bn * bn := by unfold good at h5; omega
        have := sq_le h7
        omega
    · exact hge
  rw [Nat.min_eq_left hle] at c ⊢
  have hfull := (full_low U W H x y n n hn hx hn).2 hle
  refine .inr ⟨hfull, fun _ => rfl, by unfold before4; omega, fun x' y' n' m' hb hk hf => ?_⟩
  obtain rfl : n' = m' := hk rfl
  have h1 := hf.2.1
  by_cases e : y' = y ∧ x' = x ∧ n' = n
  · obtain ⟨rfl, rfl, rfl⟩ := e
    unfold good; omega
  · have hb2 : before4 y' x' n' n' y x n 1 := by unfold before4 at *; omega
    rcases h with ⟨-, -, -, -, h5⟩ | ⟨h1, h2, h3, h4⟩
    · exact absurd hf (h5 x' y' n' n' hb2 hk)
    · have h5 := h4 x' y' n' n' hb2 hk hf
      obtain rfl := h2 rfl
      have := Nat.mul_self_lt_mul_self c
      unfold good at *
      omega
theorem bestTo_sideNo {U : Int → Int → Bool} {W H y x n bx bY bn bm : Nat} (h : bestTo true U W H y x n 1 bx bY bn bm) (hn : 1 ≤ n) (hx : x + n ≤ W) (hl : 1 ≤ low U H x y n)
    (c : ¬ bn < min n (low U H x y n)) : bestTo true U W H y x (n + 1) 1 bx bY bn bm := by
  have hmin : 1 ≤ min n (low U H x y n) := by omega
  rcases h with ⟨h1, h2, h3, h4, h5⟩ | ⟨h1, h2, h3, h4⟩
  · omega
  · have h0 := h1.2.1
    refine .inr ⟨h1, h2, by unfold before4 at *; omega, fun x' y' n' m' hb hk hf => ?_⟩
    obtain rfl : n' = m' := hk rfl
    by_cases e : y' = y ∧ x' = x ∧ n' = n
    · obtain ⟨rfl, rfl, rfl⟩ := e
      have hm := (full_low U W H x' y' n' n' hn hx hf.2.1).1 hf
      rw [Nat.min_eq_left hm] at c
      obtain rfl := h2 rfl
      have : n' * n' ≤ bn * bn := Nat.mul_self_le_mul_self (by omega)
      by_cases e2 : n' = bn
      · subst e2
        unfold good before4 at *; omega
      · have := Nat.mul_self_lt_mul_self (show n' < bn by omega)
        unfold good before4 at *; omega
    · have := hf.2.1
      exact h4 x' y' n' n' (by unfold before4 at *; omega) hk hf

end Go.Proofs.Ytndhnpljdldlpab

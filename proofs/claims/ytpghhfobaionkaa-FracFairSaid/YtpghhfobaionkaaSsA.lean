/- Sorting in place: the mathematics of exchanges, of sorted ranges, of sums over ranges (no program). -/
import Derived.Lib.Hide
namespace Go.Proofs.Ytpghhfobaionkaa

/-- The sum of the first n values. -/
def sumR : Nat → (Nat → Int) → Int
  | 0, _ => 0
  | n + 1, f => sumR n f + f n

theorem sumR_congr {n : Nat} {f g : Nat → Int} (h : ∀ k, k < n → f k = g k) : sumR n f = sumR n g := by
  induction n with
  | zero => rfl
  | succ n ih => simp only [sumR]; rw [ih fun k hk => h k (by omega), h n (by omega)]

theorem sumR_one {n : Nat} {f g : Nat → Int} {i : Nat} (hi : i < n) (h : ∀ k, k < n → k ≠ i → f k = g k) : sumR n f = sumR n g + (f i - g i) := by
  induction n with
  | zero => omega
  | succ n ih =>
    simp only [sumR]
    by_cases hn : i = n
    · subst hn
      rw [sumR_congr (f := f) (g := g) fun k hk => h k (by omega) (by omega)]
      omega
    · rw [ih (by omega) fun k hk hne => h k (by omega) hne, h n (by omega) (by omega)]
      omega

theorem sumR_two {n : Nat} {f g : Nat → Int} {i j : Nat} (hi : i < n) (hj : j < n) (hij : i ≠ j) (h : ∀ k, k < n → k ≠ i → k ≠ j → f k = g k) : sumR n f = sumR n g + (f i - g i) + (f j - g j) := by
  let m : Nat → Int := fun k => if k = i then f i else g k
  have h1 : sumR n f = sumR n m + (f j - m j) := sumR_one hj fun k hk hne => by
    show f k = if k = i then f i else g k
    by_cases e : k = i
    · rw [if_pos e, e]
    · rw [if_neg e]; exact h k hk e hne
  have h2 : sumR n m = sumR n g + (m i - g i) := sumR_one hi fun k hk hne => by
    show (if k = i then f i else g k) = g k
    rw [if_neg hne]
  have e1 : m j = g j := by show (if j = i then f i else g j) = g j; rw [if_neg (fun e => hij e.symm)]
  have e2 : m i = f i := by show (if i = i then f i else g i) = f i; rw [if_pos rfl]
  rw [h1, h2, e1, e2]

/-- Two places exchanged. -/
def swp (f : Nat → Int) (i j : Nat) : Nat → Int := fun k => if k = i then f j else if k = j then f i else f k
theorem swp_i (f : Nat → Int) (i j : Nat) : swp f i j i = f j := by unfold swp; rw [if_pos rfl]
theorem swp_j (f : Nat → Int) (i j : Nat) : swp f i j j = f i := by
  unfold swp
  by_cases h : j = i
  · rw [if_pos h, h]
  · rw [if_neg h, if_pos rfl]
theorem swp_o (f : Nat → Int) {i j k : Nat} (h1 : k ≠ i) (h2 : k ≠ j) : swp f i j k = f k := by unfold swp; rw [if_neg h1, if_neg h2]

/-- The values of f' are those of f, but for their order within a .. b. N: the length of the whole. -/
structure Pm (N a b : Nat) (f f' : Nat → Int) : Prop where
  out : ∀ k, ¬ (a ≤ k ∧ k < b) → f' k = f k
  img : ∀ k, a ≤ k → k < b → ∃ k', a ≤ k' ∧ k' < b ∧ f' k = f k'
  gmi : ∀ k, a ≤ k → k < b → ∃ k', a ≤ k' ∧ k' < b ∧ f k = f' k'
  sum : ∀ φ : Int → Int, sumR N (fun k => φ (f' k)) = sumR N (fun k => φ (f k))

theorem Pm.refl (N a b : Nat) (f : Nat → Int) : Pm N a b f f := ⟨fun _ _ => rfl, fun k h1 h2 => ⟨k, h1, h2, rfl⟩, fun k h1 h2 => ⟨k, h1, h2, rfl⟩, fun _ => rfl⟩
theorem Pm.trans {N a b : Nat} {f g h : Nat → Int} (h1 : Pm N a b f g) (h2 : Pm N a b g h) : Pm N a b f h where
  out k hk := (h2.out k hk).trans (h1.out k hk)
  img k ha hb := by
    obtain ⟨k1, p1, p2, e1⟩ := h2.img k ha hb
    obtain ⟨k2, q1, q2, e2⟩ := h1.img k1 p1 p2
    exact ⟨k2, q1, q2, e1.trans e2⟩
  gmi k ha hb := by
    obtain ⟨k1, p1, p2, e1⟩ := h1.gmi k ha hb
    obtain ⟨k2, q1, q2, e2⟩ := h2.gmi k1 p1 p2
    exact ⟨k2, q1, q2, e1.trans e2⟩
  sum φ := (h2.sum φ).trans (h1.sum φ)
theorem Pm.mono {N a b a' b' : Nat} {f g : Nat → Int} (h : Pm N a b f g) (ha : a' ≤ a) (hb : b ≤ b') : Pm N a' b' f g where
  out k hk := h.out k fun hh => hk ⟨by omega, by omega⟩
  img k h1 h2 := by
    by_cases hk : a ≤ k ∧ k < b
    · obtain ⟨k', p, q, e⟩ := h.img k hk.1 hk.2; exact ⟨k', by omega, by omega, e⟩
    · exact ⟨k, h1, h2, h.out k hk⟩
  gmi k h1 h2 := by
    by_cases hk : a ≤ k ∧ k < b
    · obtain ⟨k', p, q, e⟩ := h.gmi k hk.1 hk.2; exact ⟨k', by omega, by omega, e⟩
    · exact ⟨k, h1, h2, (h.out k hk).symm⟩
  sum := h.sum
theorem Pm.swap {N a b : Nat} (f : Nat → Int) {i j : Nat} (hi : a ≤ i ∧ i < b) (hj : a ≤ j ∧ j < b) (hb : b ≤ N) : Pm N a b f (swp f i j) where
  out k hk := swp_o f (fun e => hk (e ▸ hi)) (fun e => hk (e ▸ hj))
  img k h1 h2 := by
    by_cases e1 : k = i
    · exact ⟨j, hj.1, hj.2, by rw [e1, swp_i]⟩
    · by_cases e2 : k = j
      · exact ⟨i, hi.1, hi.2, by rw [e2, swp_j]⟩
      · exact ⟨k, h1, h2, swp_o f e1 e2⟩
  gmi k h1 h2 := by
    by_cases e1 : k = i
    · exact ⟨j, hj.1, hj.2, by rw [e1, swp_j]⟩
    · by_cases e2 : k = j
      · exact ⟨i, hi.1, hi.2, by rw [e2, swp_i]⟩
      · exact ⟨k, h1, h2, (swp_o f e1 e2).symm⟩
  sum φ := by
    by_cases hij : i = j
    · subst hij
      refine sumR_congr fun k _ => ?_
      by_cases e : k = i
      · rw [e, swp_i]
      · rw [swp_o f e e]
    · rw [sumR_two (f := fun k => φ (swp f i j k)) (g := fun k => φ (f k)) (i := i) (j := j) (by omega) (by omega) hij fun k _ e1 e2 => by simp only [swp_o f e1 e2]]
      simp only [swp_i, swp_j]
      omega

/-- A property of all values stays one. -/
theorem Pm.all {N a b : Nat} {f g : Nat → Int} (h : Pm N a b f g) {P : Int → Prop} (hp : ∀ k, a ≤ k → k < b → P (f k)) : ∀ k, a ≤ k → k < b → P (g k) := fun k h1 h2 => by
  obtain ⟨k', p, q, e⟩ := h.img k h1 h2
  rw [e]; exact hp k' p q

/-! ### Sorted ranges -/

/-- Ahead: the greater key, of equal ones the lesser number. -/
def ahd (key : Int → Int) (x y : Int) : Prop := key y < key x ∨ (key x = key y ∧ x < y)
theorem ahd.trans {key : Int → Int} {x y z : Int} (h1 : ahd key x y) (h2 : ahd key y z) : ahd key x z := by unfold ahd at *; omega
theorem ahd.irrefl {key : Int → Int} {x : Int} (h : ahd key x x) : False := by unfold ahd at h; omega
theorem ahd.tot {key : Int → Int} {x y : Int} (h : x ≠ y) : ahd key x y ∨ ahd key y x := by unfold ahd; omega
/-- Of two numbers the lesser of which stands on the left. -/
theorem ahd_lo {key : Int → Int} {x y : Int} (h : x < y) (hk : ¬ key x < key y) : ahd key x y := by unfold ahd; omega
theorem ahd_hi {key : Int → Int} {x y : Int} (hk : key x < key y) : ahd key y x := by unfold ahd; omega

/-- The range a .. b is sorted. -/
def Srt (key : Int → Int) (a b : Nat) (f : Nat → Int) : Prop := ∀ i j, a ≤ i → i < j → j < b → ahd key (f i) (f j)

theorem Srt.congr {key : Int → Int} {a b : Nat} {f g : Nat → Int} (h : Srt key a b f) (e : ∀ k, a ≤ k → k < b → g k = f k) : Srt key a b g := fun i j h1 h2 h3 => by
  rw [e i h1 (by omega), e j (by omega) h3]; exact h i j h1 h2 h3
theorem Srt.sub {key : Int → Int} {a b a' b' : Nat} {f : Nat → Int} (h : Srt key a b f) (ha : a ≤ a') (hb : b' ≤ b) : Srt key a' b' f := fun i j h1 h2 h3 => h i j (by omega) h2 (by omega)
/-- Two sorted ranges, the one ahead of the other. -/
theorem Srt.join {key : Int → Int} {a m b : Nat} {f : Nat → Int} (h1 : Srt key a m f) (h2 : Srt key m b f) (h : ∀ i j, a ≤ i → i < m → m ≤ j → j < b → ahd key (f i) (f j)) : Srt key a b f := fun i j p q r => by
  by_cases hj : j < m
  · exact h1 i j p q hj
  · by_cases hi : i < m
    · exact h i j p hi (by omega) r
    · exact h2 i j (by omega) q r

/-- Every number of the range a .. m is lesser than every one of m .. b. -/
def Lft (a m b : Nat) (f : Nat → Int) : Prop := ∀ i j, a ≤ i → i < m → m ≤ j → j < b → f i < f j

/-- The exchange of two neighbours while the second is ahead of the first keeps what insertion wants: behind the round, k's range. -/
structure Ins (key : Int → Int) (a i j : Nat) (f : Nat → Int) : Prop where
  lo : Srt key a j f
  hi : Srt key j (i + 1) f
  mid : ∀ p q, a ≤ p → p < j → j < q → q < i + 1 → ahd key (f p) (f q)
  less : ∀ p, a ≤ p → p < j → f p < f j

theorem Ins.start {key : Int → Int} {a i : Nat} {f : Nat → Int} (h : Srt key a i f) (hl : ∀ p, a ≤ p → p < i → f p < f i) : Ins key a i i f :=
  ⟨h, fun p q _ _ _ => by omega, fun p q _ _ _ _ => by omega, hl⟩

theorem Ins.done {key : Int → Int} {a i j : Nat} {f : Nat → Int} (h : Ins key a i j f) (hj : j = a ∨ (a < j ∧ ¬ key (f (j - 1)) < key (f j))) (hji : j ≤ i) : Srt key a (i + 1) f := by
  rcases hj with rfl | ⟨hj, hk⟩
  · exact h.hi
  · have h0 := ahd_lo (h.less (j - 1) (by omega) (by omega)) hk
    refine Srt.join (m := j) h.lo h.hi fun p q h1 h2 h3 h4 => ?_
    by_cases e : j = q
    · subst e
      by_cases e2 : p = j - 1
      · rw [e2]; exact h0
      · exact (h.lo p (j - 1) h1 (by omega) (by omega)).trans h0
    · exact h.mid p q h1 h2 (by omega) h4

theorem Ins.step {key : Int → Int} {a i j : Nat} {f : Nat → Int} (h : Ins key a i j f) (hj : a < j) (hji : j ≤ i) (hk : key (f (j - 1)) < key (f j)) : Ins key a i (j - 1) (swp f j (j - 1)) := by
  have e1 : swp f j (j - 1) j = f (j - 1) := swp_i _ _ _
  have e2 : swp f j (j - 1) (j - 1) = f j := swp_j _ _ _
  have eo : ∀ k, k ≠ j → k ≠ j - 1 → swp f j (j - 1) k = f k := fun k h1 h2 => swp_o f h1 h2
  have h0 := ahd_hi hk
  refine ⟨fun p q h1 h2 h3 => ?_, fun p q h1 h2 h3 => ?_, fun p q h1 h2 h3 h4 => ?_, fun p h1 h2 => ?_⟩
  · rw [eo p (by omega) (by omega), eo q (by omega) (by omega)]; exact h.lo p q h1 h2 (by omega)
  · by_cases ep : p = j - 1
    · subst ep
      rw [e2]
      by_cases eq : q = j
      · subst eq; rw [e1]; exact h0
      · rw [eo q eq (by omega)]; exact h.hi j q (Nat.le_refl _) (by omega) h3
    · by_cases ep2 : p = j
      · subst ep2; rw [e1, eo q (by omega) (by omega)]; exact h.mid (p - 1) q (by omega) (by omega) (by omega) h3
      · rw [eo p ep2 ep, eo q (by omega) (by omega)]; exact h.hi p q (by omega) h2 h3
  · rw [eo p (by omega) (by omega)]
    by_cases eq : q = j
    · subst eq; rw [e1]; exact h.lo p (q - 1) h1 h2 (by omega)
    · rw [eo q eq (by omega)]; exact h.mid p q h1 (by omega) (by omega) h4
  · rw [eo p (by omega) (by omega), e2]; exact h.less p h1 (by omega)

end Go.Proofs.Ytpghhfobaionkaa

/- Sorting in place: merging two sorted ranges by symmetric comparisons; rotations (no program). -/
import Derived.Test.YtpghhfobaionkaaSsA
namespace Go.Proofs.Ytpghhfobaionkaa

/-! ### One element moved -/

/-- f with its value at a moved to k, those between going one place to the left. -/
def movR (f : Nat → Int) (a k : Nat) : Nat → Int := fun p => if p < a ∨ k < p then f p else if p = k then f a else f (p + 1)
theorem movR_start (f : Nat → Int) (a : Nat) (p : Nat) : movR f a a p = f p := by
  unfold movR
  by_cases h : p < a ∨ a < p
  · rw [if_pos h]
  · have : p = a := by omega
    rw [if_neg h, if_pos this, this]
theorem movR_step (f : Nat → Int) {a k : Nat} (h : a ≤ k) : ∀ p, swp (movR f a k) k (k + 1) p = movR f a (k + 1) p := fun p => by
  unfold swp movR
  repeat' split
  all_goals first
    | rfl
    | omega
    | (congr 1; omega)
theorem movR_pm (N : Nat) (f : Nat → Int) {a b k : Nat} (h : a ≤ k) (hk : k < b) (hb : b ≤ N) : Pm N a b f (movR f a k) := by
  induction k with
  | zero =>
    obtain rfl : a = 0 := by omega
    have e : movR f 0 0 = f := funext (movR_start f 0)
    rw [e]; exact Pm.refl _ _ _ _
  | succ k ih =>
    by_cases ha : a = k + 1
    · subst ha
      have e : movR f (k + 1) (k + 1) = f := funext (movR_start f (k + 1))
      rw [e]; exact Pm.refl _ _ _ _
    · have h1 := ih (by omega) (by omega)
      have e : swp (movR f a k) k (k + 1) = movR f a (k + 1) := funext (movR_step f (by omega))
      rw [← e]
      exact h1.trans (Pm.swap _ (by omega) (by omega) hb)

/-- f with its value at m moved down to k. -/
def movL (f : Nat → Int) (m k : Nat) : Nat → Int := fun p => if p < k ∨ m < p then f p else if p = k then f m else f (p - 1)
theorem movL_start (f : Nat → Int) (m : Nat) (p : Nat) : movL f m m p = f p := by
  unfold movL
  by_cases h : p < m ∨ m < p
  · rw [if_pos h]
  · have : p = m := by omega
    rw [if_neg h, if_pos this, this]
theorem movL_step (f : Nat → Int) {m k : Nat} (h : k ≤ m) (h0 : 0 < k) : ∀ p, swp (movL f m k) k (k - 1) p = movL f m (k - 1) p := fun p => by
  unfold swp movL
  repeat' split
  all_goals first
    | rfl
    | omega
    | (congr 1; omega)
theorem movL_pm (N : Nat) (f : Nat → Int) {a b m : Nat} (hm : m < b) (hb : b ≤ N) : ∀ d k, k + d = m → a ≤ k → Pm N a b f (movL f m k) := by
  intro d
  induction d with
  | zero =>
    intro k hk _
    obtain rfl : k = m := by omega
    have e : movL f k k = f := funext (movL_start f k)
    rw [e]; exact Pm.refl _ _ _ _
  | succ d ih =>
    intro k hk ha
    have h1 := ih (k + 1) (by omega) (by omega)
    have e : swp (movL f m (k + 1)) (k + 1) (k + 1 - 1) = movL f m (k + 1 - 1) := funext (movL_step f (by omega) (by omega))
    rw [Nat.add_sub_cancel] at e
    rw [← e]
    exact h1.trans (Pm.swap _ (by omega) (by omega) hb)

/-- Keys fall along a sorted range. -/
theorem Srt.key {key : Int → Int} {a b : Nat} {f : Nat → Int} (h : Srt key a b f) {i j : Nat} (h1 : a ≤ i) (h2 : i ≤ j) (h3 : j < b) : key (f j) ≤ key (f i) := by
  by_cases e : i = j
  · rw [e]; exact Int.le_refl _
  · have := h i j h1 (by omega) h3
    unfold ahd at this; omega

/-- The only element on the left put in its place i - 1. -/
theorem one_left {key : Int → Int} {a m b i : Nat} {f : Nat → Int} (hm : m = a + 1) (hs : Srt key m b f) (hl : Lft a m b f) (h1 : m ≤ i) (h2 : i ≤ b)
    (hlo : i = m ∨ key (f a) < key (f (i - 1))) (hhi : i = b ∨ ¬ key (f a) < key (f i)) : Srt key a b (movR f a (i - 1)) := by
  have hlo' : ∀ k, m ≤ k → k < i → ahd key (f k) (f a) := fun k p q => by
    rcases hlo with h | h
    · omega
    · have := hs.key (i := k) (j := i - 1) p (by omega) (by omega)
      exact ahd_hi (by omega)
  have hhi' : ∀ k, i ≤ k → k < b → ahd key (f a) (f k) := fun k p q => by
    rcases hhi with h | h
    · omega
    · have := hs.key (i := i) (j := k) (by omega) p q
      exact ahd_lo (hl a k (Nat.le_refl _) (by omega) (by omega) q) (by omega)
  intro p q h3 h4 h5
  unfold movR
  by_cases hp : p < i - 1
  · rw [if_neg (by omega), if_neg (by omega)]
    by_cases hq : q < i - 1
    · rw [if_neg (by omega), if_neg (by omega)]; exact hs _ _ (by omega) (by omega) (by omega)
    · by_cases hq2 : q = i - 1
      · rw [if_neg (by omega), if_pos hq2]; exact hlo' _ (by omega) (by omega)
      · rw [if_pos (by omega)]; exact hs _ _ (by omega) (by omega) (by omega)
  · by_cases hp2 : p = i - 1
    · rw [if_neg (by omega), if_pos hp2, if_pos (by omega)]; exact hhi' _ (by omega) (by omega)
    · rw [if_pos (by omega), if_pos (by omega)]; exact hs _ _ (by omega) (by omega) (by omega)

/-- The only element on the right put in its place i. -/
theorem one_right {key : Int → Int} {a m b i : Nat} {f : Nat → Int} (hb : b = m + 1) (hs : Srt key a m f) (hl : Lft a m b f) (h1 : a ≤ i) (h2 : i ≤ m)
    (hlo : i = a ∨ ¬ key (f (i - 1)) < key (f m)) (hhi : i = m ∨ key (f i) < key (f m)) : Srt key a b (movL f m i) := by
  have hlo' : ∀ k, a ≤ k → k < i → ahd key (f k) (f m) := fun k p q => by
    rcases hlo with h | h
    · omega
    · have := hs.key (i := k) (j := i - 1) p (by omega) (by omega)
      exact ahd_lo (hl k m p (by omega) (Nat.le_refl _) (by omega)) (by omega)
  have hhi' : ∀ k, i ≤ k → k < m → ahd key (f m) (f k) := fun k p q => by
    rcases hhi with h | h
    · omega
    · have := hs.key (i := i) (j := k) (by omega) p q
      exact ahd_hi (by omega)
  intro p q h3 h4 h5
  unfold movL
  by_cases hp : p < i
  · rw [if_pos (by omega)]
    by_cases hq : q < i
    · rw [if_pos (by omega)]; exact hs _ _ (by omega) (by omega) (by omega)
    · by_cases hq2 : q = i
      · rw [if_neg (by omega), if_pos hq2]; exact hlo' _ (by omega) (by omega)
      · rw [if_neg (by omega), if_neg (by omega)]; exact hs _ _ (by omega) (by omega) (by omega)
  · by_cases hp2 : p = i
    · rw [if_neg (by omega), if_pos hp2, if_neg (by omega), if_neg (by omega)]; exact hhi' _ (by omega) (by omega)
    · rw [if_neg (by omega), if_neg (by omega), if_neg (by omega), if_neg (by omega)]; exact hs _ _ (by omega) (by omega) (by omega)

/-! ### A rotation -/

/-- g is f with the ranges a .. m and m .. b exchanged. -/
structure Rot (N a m b : Nat) (f g : Nat → Int) : Prop where
  pm : Pm N a b f g
  lo : ∀ k, a ≤ k → k < a + (b - m) → g k = f (k + (m - a))
  hi : ∀ k, a + (b - m) ≤ k → k < b → g k = f (k - (b - m))

/-- What is still to be rotated: the ranges m - i .. m and m .. m + j of c; g is the end. -/
structure RotI (N a m b : Nat) (f c : Nat → Int) (i j : Nat) : Prop where
  pm : Pm N a b f c
  i0 : 0 < i
  j0 : 0 < j
  ia : a + i ≤ m
  jb : m + j ≤ b
  lo : ∀ k, a ≤ k → k < m - i → c k = if k < a + (b - m) then f (k + (m - a)) else f (k - (b - m))
  hi : ∀ k, m + j ≤ k → k < b → c k = if k < a + (b - m) then f (k + (m - a)) else f (k - (b - m))
  ml : ∀ k, m - i ≤ k → k < m - i + j → c (k + i) = if k < a + (b - m) then f (k + (m - a)) else f (k - (b - m))
  mh : ∀ k, m - i + j ≤ k → k < m + j → c (k - j) = if k < a + (b - m) then f (k + (m - a)) else f (k - (b - m))

theorem RotI.start (N a m b : Nat) (f : Nat → Int) (h1 : a < m) (h2 : m < b) : RotI N a m b f f (m - a) (b - m) where
  pm := Pm.refl _ _ _ _
  i0 := by omega
  j0 := by omega
  ia := by omega
  jb := by omega
  lo k _ _ := by omega
  hi k _ _ := by omega
  ml k _ _ := by rw [if_pos (by omega)]
  mh k _ _ := by rw [if_neg (by omega)]

/-- Two ranges of n values exchanged. -/
structure SwR (N p q n : Nat) (f g : Nat → Int) : Prop where
  lo : ∀ k, p ≤ k → k < p + n → g k = f (k - p + q)
  hi : ∀ k, q ≤ k → k < q + n → g k = f (k - q + p)
  out : ∀ k, ¬ (p ≤ k ∧ k < p + n) → ¬ (q ≤ k ∧ k < q + n) → g k = f k
  pm : ∀ a b, a ≤ p → p + n ≤ b → a ≤ q → q + n ≤ b → b ≤ N → Pm N a b f g

theorem SwR.start (N p q : Nat) (f : Nat → Int) : SwR N p q 0 f f := ⟨fun k _ _ => by omega, fun k _ _ => by omega, fun _ _ _ => rfl, fun _ _ _ _ _ _ _ => Pm.refl _ _ _ _⟩
theorem SwR.step {N p q n : Nat} {f g : Nat → Int} (h : SwR N p q n f g) (hd : p + n < q) : SwR N p q (n + 1) f (swp g (p + n) (q + n)) where
  lo k h1 h2 := by
    by_cases e : k = p + n
    · subst e
      rw [swp_i, h.out _ (by omega) (by omega)]
      congr 1; omega
    · rw [swp_o g e (by omega)]; exact h.lo k h1 (by omega)
  hi k h1 h2 := by
    by_cases e : k = q + n
    · subst e
      rw [swp_j, h.out _ (by omega) (by omega)]
      congr 1; omega
    · rw [swp_o g (by omega) e]; exact h.hi k h1 (by omega)
  out k h1 h2 := by
    rw [swp_o g (by omega) (by omega)]; exact h.out k (by omega) (by omega)
  pm a b h1 h2 h3 h4 h5 := (h.pm a b h1 (by omega) h3 (by omega) h5).trans (Pm.swap _ (by omega) (by omega) h5)

theorem RotI.left {N a m b i j : Nat} {f c d : Nat → Int} (h : RotI N a m b f c i j) (hij : j < i) (hN : b ≤ N) (s : SwR N (m - i) m j c d) : RotI N a m b f d (i - j) j := by
  have := h.i0; have := h.j0; have := h.ia; have := h.jb
  refine ⟨h.pm.trans (s.pm a b (by omega) (by omega) (by omega) (by omega) hN), by omega, by omega, by omega, by omega, fun k h1 h2 => ?_, fun k h1 h2 => ?_, fun k h1 h2 => ?_, fun k h1 h2 => ?_⟩
  · by_cases hk : k < m - i
    · rw [s.out k (by omega) (by omega)]; exact h.lo k h1 hk
    · rw [s.lo k (by omega) (by omega), ← h.ml k (by omega) (by omega)]
      congr 1; omega
  · rw [s.out k (by omega) (by omega)]; exact h.hi k h1 h2
  · rw [s.hi (k + (i - j)) (by omega) (by omega), ← h.mh k (by omega) (by omega)]
    congr 1; omega
  · rw [s.out (k - j) (by omega) (by omega)]; exact h.mh k (by omega) (by omega)

theorem RotI.right {N a m b i j : Nat} {f c d : Nat → Int} (h : RotI N a m b f c i j) (hij : i < j) (hN : b ≤ N) (s : SwR N (m - i) (m + j - i) i c d) : RotI N a m b f d i (j - i) := by
  have := h.i0; have := h.j0; have := h.ia; have := h.jb
  refine ⟨h.pm.trans (s.pm a b (by omega) (by omega) (by omega) (by omega) hN), by omega, by omega, by omega, by omega, fun k h1 h2 => ?_, fun k h1 h2 => ?_, fun k h1 h2 => ?_, fun k h1 h2 => ?_⟩
  · rw [s.out k (by omega) (by omega)]; exact h.lo k h1 h2
  · by_cases hk : m + j ≤ k
    · rw [s.out k (by omega) (by omega)]; exact h.hi k hk h2
    · rw [s.hi k (by omega) (by omega), ← h.mh k (by omega) (by omega)]
      congr 1; omega
  · rw [s.out (k + i) (by omega) (by omega)]; exact h.ml k (by omega) (by omega)
  · rw [s.lo (k - (j - i)) (by omega) (by omega), ← h.ml k (by omega) (by omega)]
    congr 1; omega

theorem RotI.done {N a m b i : Nat} {f c d : Nat → Int} (h : RotI N a m b f c i i) (hN : b ≤ N) (s : SwR N (m - i) m i c d) : Rot N a m b f d := by
  have := h.i0; have := h.ia; have := h.jb
  have key : ∀ k, a ≤ k → k < b → d k = if k < a + (b - m) then f (k + (m - a)) else f (k - (b - m)) := fun k h1 h2 => by
    by_cases c1 : k < m - i
    · rw [s.out k (by omega) (by omega)]; exact h.lo k h1 c1
    · by_cases c2 : m + i ≤ k
      · rw [s.out k (by omega) (by omega)]; exact h.hi k c2 h2
      · by_cases c3 : k < m
        · rw [s.lo k (by omega) (by omega), ← h.ml k (by omega) (by omega)]
          congr 1; omega
        · rw [s.hi k (by omega) (by omega), ← h.mh k (by omega) (by omega)]
          congr 1; omega
  exact ⟨h.pm.trans (s.pm a b (by omega) (by omega) (by omega) (by omega) hN), fun k h1 h2 => by rw [key k h1 (by omega), if_pos h2], fun k h1 h2 => by rw [key k (by omega) h2, if_neg (by omega)]⟩

/-! ### The cut of a merge -/

/-- Where the ranges a .. m and m .. b are cut: st on the left, mid + m - st on the right. -/
structure CutAt (key : Int → Int) (a m b mid st : Nat) (f : Nat → Int) : Prop where
  sa : a ≤ st
  sm : st ≤ m
  sb : mid + m ≤ st + b
  sd : st ≤ mid
  l1 : a < st → mid + m - st < b → ¬ key (f (st - 1)) < key (f (mid + m - st))
  l2 : st < m → st < mid → key (f st) < key (f (mid + m - st - 1))

/-- The two halves behind the rotation: g. -/
structure Halves (N : Nat) (key : Int → Int) (a m b mid st : Nat) (f g : Nat → Int) : Prop where
  pm : Pm N a b f g
  s1 : Srt key a st g
  s2 : Srt key st mid g
  s3 : Srt key mid (mid + m - st) g
  s4 : Srt key (mid + m - st) b g
  f1 : Lft a st mid g
  f2 : Lft mid (mid + m - st) b g
  x : ∀ i j, a ≤ i → i < mid → mid ≤ j → j < b → ahd key (g i) (g j)

theorem CutAt.halves {N : Nat} {key : Int → Int} {a m b mid st : Nat} {f g : Nat → Int} (h : CutAt key a m b mid st f) (h1 : a < m) (h2 : m < b) (hmid : a < mid ∧ mid < b) (hl : Srt key a m f) (hr : Srt key m b f) (hf : Lft a m b f)
    (hp : Pm N a b f g) (hlo : ∀ k, a ≤ k → k < st → g k = f k) (hm1 : ∀ k, st ≤ k → k < mid → g k = f (k + (m - st))) (hm2 : ∀ k, mid ≤ k → k < mid + m - st → g k = f (k - (mid - st))) (hhi : ∀ k, mid + m - st ≤ k → k < b → g k = f k) :
    Halves N key a m b mid st f g := by
  have := h.sa; have := h.sm; have := h.sb; have := h.sd
  have x1 : ∀ i j, a ≤ i → i < st → mid + m - st ≤ j → j < b → ahd key (f i) (f j) := fun i j p q r s => by
    have hk := h.l1 (by omega) (by omega)
    have k1 := hl.key (i := i) (j := st - 1) p (by omega) (by omega)
    have k2 := hr.key (i := mid + m - st) (j := j) (by omega) r s
    exact ahd_lo (hf i j p (by omega) (by omega) s) (by omega)
  have x2 : ∀ i j, m ≤ i → i < mid + m - st → st ≤ j → j < m → ahd key (f i) (f j) := fun i j p q r s => by
    have hk := h.l2 (by omega) (by omega)
    have k1 := hr.key (i := i) (j := mid + m - st - 1) p (by omega) (by omega)
    have k2 := hl.key (i := st) (j := j) (by omega) r s
    exact ahd_hi (by omega)
  refine ⟨hp, fun i j p q r => ?_, fun i j p q r => ?_, fun i j p q r => ?_, fun i j p q r => ?_, fun i j p q r s => ?_, fun i j p q r s => ?_, fun i j p q r s => ?_⟩
  · rw [hlo i p (by omega), hlo j (by omega) r]; exact hl i j p q (by omega)
  · rw [hm1 i p (by omega), hm1 j (by omega) r]; exact hr _ _ (by omega) (by omega) (by omega)
  · rw [hm2 i p (by omega), hm2 j (by omega) r]; exact hl _ _ (by omega) (by omega) (by omega)
  · rw [hhi i p (by omega), hhi j (by omega) r]; exact hr _ _ (by omega) (by omega) (by omega)
  · rw [hlo i p q, hm1 j r s]; exact hf _ _ p (by omega) (by omega) (by omega)
  · rw [hm2 i p q, hhi j r s]; exact hf _ _ (by omega) (by omega) (by omega) s
  · by_cases c1 : i < st
    · rw [hlo i p c1]
      by_cases c2 : j < mid + m - st
      · rw [hm2 j r c2]; exact hl _ _ p (by omega) (by omega)
      · rw [hhi j (by omega) s]; exact x1 _ _ p c1 (by omega) s
    · rw [hm1 i (by omega) q]
      by_cases c2 : j < mid + m - st
      · rw [hm2 j r c2]; exact x2 _ _ (by omega) (by omega) (by omega) (by omega)
      · rw [hhi j (by omega) s]; exact hr _ _ (by omega) (by omega) s

/-- With a rotation. -/
theorem CutAt.rot {N : Nat} {key : Int → Int} {a m b mid st : Nat} {f g : Nat → Int} (h : CutAt key a m b mid st f) (h1 : a < m) (h2 : m < b) (hmid : a < mid ∧ mid < b) (hl : Srt key a m f) (hr : Srt key m b f) (hf : Lft a m b f) (hs : st < m) (he : m < mid + m - st)
    (r : Rot N st m (mid + m - st) f g) : Halves N key a m b mid st f g := by
  have := h.sa; have := h.sm; have := h.sb; have := h.sd
  refine h.halves h1 h2 hmid hl hr hf (r.pm.mono (by omega) (by omega)) (fun k p q => r.pm.out k (by omega)) (fun k p q => r.lo k p (by omega)) (fun k p q => ?_) (fun k p q => r.pm.out k (by omega))
  rw [r.hi k (by omega) q]
  congr 1; omega

/-- Without one. -/
theorem CutAt.same {N : Nat} {key : Int → Int} {a m b mid st : Nat} {f : Nat → Int} (h : CutAt key a m b mid st f) (h1 : a < m) (h2 : m < b) (hmid : a < mid ∧ mid < b) (hl : Srt key a m f) (hr : Srt key m b f) (hf : Lft a m b f) (hs : ¬ (st < m ∧ m < mid + m - st)) :
    Halves N key a m b mid st f f := by
  have := h.sa; have := h.sm; have := h.sb; have := h.sd
  refine h.halves h1 h2 hmid hl hr hf (Pm.refl _ _ _ _) (fun k p q => rfl) (fun k p q => ?_) (fun k p q => ?_) (fun k p q => rfl)
  · congr 1; omega
  · congr 1; omega

/-- The halves merged each. -/
theorem Halves.join {N : Nat} {key : Int → Int} {a m b mid st : Nat} {f g g1 g2 : Nat → Int} (h : Halves N key a m b mid st f g) (hmid : a < mid ∧ mid < b) (p1 : Pm N a mid g g1) (s1 : Srt key a mid g1) (p2 : Pm N mid b g1 g2) (s2 : Srt key mid b g2) :
    Pm N a b f g2 ∧ Srt key a b g2 := by
  refine ⟨(h.pm.trans (p1.mono (Nat.le_refl _) (by omega))).trans (p2.mono (by omega) (Nat.le_refl _)), Srt.join (m := mid) (s1.congr fun k q r => p2.out k (by omega)) s2 fun i j q r s t => ?_⟩
  rw [p2.out i (by omega)]
  obtain ⟨i', a1, a2, e1⟩ := p1.img i q r
  obtain ⟨j', b1, b2, e2⟩ := p2.img j s t
  rw [e1, e2, p1.out j' (by omega)]
  exact h.x i' j' a1 a2 b1 b2

theorem Halves.left {N : Nat} {key : Int → Int} {a m b mid st : Nat} {f g : Nat → Int} (h : Halves N key a m b mid st f g) (hc : CutAt key a m b mid st f) (hn : ¬ (a < st ∧ st < mid)) : Srt key a mid g := by
  have := hc.sa; have := hc.sd
  by_cases e : a = st
  · rw [e]; exact h.s2
  · have : st = mid := by omega
    rw [← this]; exact h.s1
theorem Halves.right {N : Nat} {key : Int → Int} {a m b mid st : Nat} {f g : Nat → Int} (h : Halves N key a m b mid st f g) (hc : CutAt key a m b mid st f) (hn : ¬ (mid < mid + m - st ∧ mid + m - st < b)) : Srt key mid b g := by
  have := hc.sm; have := hc.sb
  by_cases e : mid = mid + m - st
  · have := h.s4; rw [← e] at this; exact this
  · have e2 : mid + m - st = b := by omega
    have := h.s3; rw [e2] at this; exact this

end Go.Proofs.Ytpghhfobaionkaa

/- Shares by the largest remainders: the arithmetic (no program). -/
import Derived.Test.YtpghhfobaionkaaSsI
import Derived.Test.YtpghhfobaionkaaSsD
namespace Go.Proofs.Ytpghhfobaionkaa

theorem sumR_add (N : Nat) (f g : Nat → Int) : sumR N (fun k => f k + g k) = sumR N f + sumR N g := by
  induction N with
  | zero => rfl
  | succ N ih => simp only [sumR, ih]; omega
theorem sumR_mul (N : Nat) (c : Int) (f : Nat → Int) : sumR N (fun k => c * f k) = c * sumR N f := by
  induction N with
  | zero => simp [sumR]
  | succ N ih => simp only [sumR, ih, Int.mul_add]
theorem sumR_list (zs : List Int) : sumR zs.length (fun k => zs.getD k 0) = zs.sum := by
  have h : ∀ k, k ≤ zs.length → sumR k (fun k => zs.getD k 0) = (zs.take k).sum := by
    intro k
    induction k with
    | zero => intro _; simp [sumR]
    | succ k ih =>
      intro hk
      simp only [sumR]
      rw [ih (by omega), List.take_succ_eq_append_getElem (by omega), List.sum_append, List.getD_eq_getElem?_getD, List.getElem?_eq_getElem (by omega)]
      simp
  rw [h _ (Nat.le_refl _), List.take_length]
theorem sumR_nonneg {N : Nat} {f : Nat → Int} (h : ∀ k, k < N → 0 ≤ f k) : 0 ≤ sumR N f := by
  induction N with
  | zero => exact Int.le_refl _
  | succ N ih => simp only [sumR]; have := ih fun k hk => h k (by omega); have := h N (by omega); omega
theorem sumR_mono {N : Nat} {f g : Nat → Int} (h : ∀ k, k < N → f k ≤ g k) : sumR N f ≤ sumR N g := by
  induction N with
  | zero => exact Int.le_refl _
  | succ N ih => simp only [sumR]; have := ih fun k hk => h k (by omega); have := h N (by omega); omega
theorem sumR_const (N : Nat) (c : Int) : sumR N (fun _ => c) = N * c := by
  induction N with
  | zero => simp [sumR]
  | succ N ih => simp only [sumR, ih]; rw [show ((N + 1 : Nat) : Int) = (N : Int) + 1 by omega, Int.add_mul]; omega
theorem sumR_cut {N j : Nat} {g : Nat → Int} {c : Int} (hj : j ≤ N) (h1 : ∀ i, i < j → g i ≤ c) (h2 : ∀ i, j ≤ i → i < N → g i ≤ 0) : sumR N g ≤ j * c := by
  have h : ∀ k, k ≤ N → j ≤ k → sumR k g ≤ j * c := by
    intro k
    induction k with
    | zero =>
      intro _ h
      obtain rfl : j = 0 := by omega
      simp [sumR]
    | succ k ih =>
      intro hk hjk
      by_cases e : j = k + 1
      · subst e
        have h3 := sumR_mono (N := k + 1) (f := g) (g := fun _ => c) fun i hi => h1 i hi
        rw [sumR_const] at h3
        exact h3
      · simp only [sumR]
        have := ih (by omega) (by omega)
        have := h2 k (by omega) (by omega)
        omega
  exact h N (Nat.le_refl _) hj

/-- The quota rounded down. -/
def quo (n all : Int) (zs : List Int) (k : Nat) : Int := n * zs.getD k 0 / all
/-- What is left over. -/
def lft (n all : Int) (zs : List Int) : Int := n - sumR zs.length (quo n all zs)

theorem lft_eq {n all : Int} {zs : List Int} (hs : zs.sum = all) : all * lft n all zs = sumR zs.length (fun k => keyOf n all zs k) := by
  have h1 : sumR zs.length (fun k => n * zs.getD k 0) = n * all := by rw [sumR_mul, sumR_list, hs]
  have h2 : sumR zs.length (fun k => n * zs.getD k 0) = sumR zs.length (fun k => all * quo n all zs k + keyOf n all zs k) := sumR_congr fun k _ => by
    unfold quo keyOf
    rw [Int.toNat_natCast]
    exact (Int.mul_ediv_add_emod _ _).symm
  rw [sumR_add, sumR_mul zs.length all (quo n all zs)] at h2
  unfold lft
  rw [Int.mul_sub, Int.mul_comm all n, ← h1, h2]
  omega

theorem key_bd {n all : Int} {zs : List Int} (ha : 0 < all) (x : Int) : 0 ≤ keyOf n all zs x ∧ keyOf n all zs x < all := ⟨Int.emod_nonneg _ (by omega), Int.emod_lt_of_pos _ ha⟩

theorem lft_bd {n all : Int} {zs : List Int} (hs : zs.sum = all) (ha : 0 < all) : 0 ≤ lft n all zs ∧ lft n all zs < zs.length := by
  have h := lft_eq (n := n) hs
  have h0 := sumR_nonneg (N := zs.length) (f := fun k => keyOf n all zs k) fun k _ => (key_bd ha _).1
  have h1 := sumR_mono (N := zs.length) (f := fun k => keyOf n all zs k) (g := fun _ => all - 1) fun k _ => by have := (key_bd (n := n) (zs := zs) ha (k : Int)).2; omega
  rw [sumR_const] at h1
  have hN : 0 < zs.length := by
    cases zs with
    | nil => simp at hs; omega
    | cons a t => simp
  constructor
  · apply Int.le_of_mul_le_mul_left (a := all) _ ha
    rw [Int.mul_zero]; omega
  · apply Int.lt_of_mul_lt_mul_left (a := all) _ (by omega)
    have e : (zs.length : Int) * (all - 1) = all * zs.length - zs.length := by rw [Int.mul_sub, Int.mul_comm]; omega
    rw [e] at h1
    omega

theorem quo_bd {n all : Int} {zs : List Int} (hn : 0 ≤ n) (hn1 : n ≤ 1000000000) (ha : 0 < all) (hz : ∀ z ∈ zs, 0 ≤ z ∧ z ≤ all) (k : Nat) : 0 ≤ quo n all zs k ∧ quo n all zs k ≤ n := by
  have h : 0 ≤ zs.getD k 0 ∧ zs.getD k 0 ≤ all := by
    rw [List.getD_eq_getElem?_getD]
    cases hk : zs[k]? with
    | none => simp; omega
    | some z => exact hz z (List.mem_of_getElem? hk)
  unfold quo
  refine ⟨Int.ediv_nonneg (Int.mul_nonneg hn h.1) (by omega), ?_⟩
  have h2 : n * zs.getD k 0 ≤ n * all := Int.mul_le_mul_of_nonneg_left h.2 hn
  exact Int.le_of_lt_add_one (Int.ediv_lt_of_lt_mul ha (by rw [Int.add_mul]; omega))

/-- 1 where one of the first k of f is p. -/
def mrk (f : Nat → Int) : Nat → Nat → Int
  | 0, _ => 0
  | k + 1, p => if f k = p then 1 else mrk f k p
theorem mrk_01 (f : Nat → Int) (k p : Nat) : mrk f k p = 0 ∨ mrk f k p = 1 := by
  induction k with
  | zero => exact .inl rfl
  | succ k ih =>
    simp only [mrk]
    split
    · exact .inr rfl
    · exact ih
theorem mrk_one {f : Nat → Int} {k p : Nat} (h : mrk f k p = 1) : ∃ j, j < k ∧ f j = p := by
  induction k with
  | zero => simp [mrk] at h
  | succ k ih =>
    simp only [mrk] at h
    split at h
    · exact ⟨k, by omega, by assumption⟩
    · obtain ⟨j, hj, e⟩ := ih h
      exact ⟨j, by omega, e⟩
theorem mrk_in {f : Nat → Int} {k j p : Nat} (hj : j < k) (e : f j = p) : mrk f k p = 1 := by
  induction k with
  | zero => omega
  | succ k ih =>
    simp only [mrk]
    by_cases h : f k = p
    · rw [if_pos h]
    · rw [if_neg h]
      by_cases hjk : j < k
      · exact ih hjk
      · obtain rfl : j = k := by omega
        exact absurd e h
theorem Enum.fresh {key : Int → Int} {N : Nat} {f : Nat → Int} (h : Enum key N f) {k : Nat} (hk : k < N) : mrk f k (f k).toNat = 0 := by
  rcases mrk_01 f k (f k).toNat with h0 | h1
  · exact h0
  · obtain ⟨j, hj, e⟩ := mrk_one h1
    have hr := h.range hk
    have := h.inj (i := j) (j := k) (by omega) hk (by omega)
    omega
theorem mrk_self {f : Nat → Int} {k p : Nat} (h : f k = p) : mrk f (k + 1) p = 1 := by simp only [mrk, h, if_true]
theorem mrk_other {f : Nat → Int} {k p : Nat} (h : f k ≠ p) : mrk f (k + 1) p = mrk f k p := by simp only [mrk, h, if_false]

theorem Enum.sum {key : Int → Int} {N : Nat} {f : Nat → Int} (h : Enum key N f) : ∀ k, k ≤ N → sumR N (mrk f k) = k := by
  intro k
  induction k with
  | zero =>
    intro _
    have e : sumR N (mrk f 0) = sumR N (fun _ => 0) := sumR_congr fun p _ => rfl
    rw [e, sumR_const]; simp
  | succ k ih =>
    intro hk
    have hr := h.range (k := k) (by omega)
    have hp : f k = ((f k).toNat : Nat) := by omega
    rw [sumR_one (g := mrk f k) (i := (f k).toNat) (by omega) fun p _ hne => mrk_other (by omega), ih (by omega), mrk_self hp, h.fresh (by omega)]
    omega

/-- The share of position p when k pieces have been given out. -/
def shr (n all : Int) (zs : List Int) (f : Nat → Int) (k p : Nat) : Int := quo n all zs p + mrk f k p
theorem shr_start (n all : Int) (zs : List Int) (f : Nat → Int) (p : Nat) : shr n all zs f 0 p = quo n all zs p := by simp [shr, mrk]
theorem shr_step {n all : Int} {zs : List Int} {f : Nat → Int} {k : Nat} (h : Enum (keyOf n all zs) zs.length f) (hk : k < zs.length) : ∀ p, (if p = (f k).toNat then shr n all zs f k (f k).toNat + 1 else shr n all zs f k p) = shr n all zs f (k + 1) p := fun p => by
  have hr := h.range hk
  by_cases e : p = (f k).toNat
  · rw [if_pos e, e]
    unfold shr
    rw [h.fresh hk, mrk_self (by omega)]
    omega
  · rw [if_neg e]
    unfold shr
    rw [mrk_other (by omega)]
theorem shr_sum {n all : Int} {zs : List Int} {f : Nat → Int} {L : Nat} (h : Enum (keyOf n all zs) zs.length f) (hL : lft n all zs = L) (hk : L ≤ zs.length) : sumR zs.length (shr n all zs f L) = n := by
  have e : sumR zs.length (shr n all zs f L) = sumR zs.length (quo n all zs) + sumR zs.length (mrk f L) := sumR_add _ _ _
  rw [e, h.sum L hk, ← hL]
  unfold lft; omega

/-- A weight of 0 gets nothing. -/
theorem shr_zero {n all : Int} {zs : List Int} {f : Nat → Int} {L p : Nat} (h : Enum (keyOf n all zs) zs.length f) (hs : zs.sum = all) (ha : 0 < all) (hL : lft n all zs = L) (hN : L ≤ zs.length) (hz : zs.getD p 0 = 0) : shr n all zs f L p = 0 := by
  have hq : quo n all zs p = 0 := by unfold quo; rw [hz]; simp
  unfold shr
  rw [hq]
  rcases mrk_01 f L p with h0 | h1
  · rw [h0]; rfl
  · exfalso
    obtain ⟨j, hj, e⟩ := mrk_one h1
    have hk0 : keyOf n all zs (f j) = 0 := by unfold keyOf; rw [e, Int.toNat_natCast, hz]; simp
    have hE := lft_eq (n := n) hs
    rw [hL] at hE
    have hP := h.pm.sum (keyOf n all zs)
    rw [← hP] at hE
    have hc := sumR_cut (N := zs.length) (j := j) (g := fun k => keyOf n all zs (f k)) (c := all - 1) (by omega) (fun i _ => by have := (key_bd (n := n) (zs := zs) ha (f i)).2; omega) (fun i h1 h2 => by
      by_cases e2 : i = j
      · rw [e2]; exact Int.le_of_eq hk0
      · have := h.srt j i (by omega) (by omega) h2
        unfold ahd at this
        omega)
    rw [← hE] at hc
    have h1 : (j : Int) * (all - 1) ≤ ((L : Int) - 1) * (all - 1) := Int.mul_le_mul_of_nonneg_right (by omega) (by omega)
    have h2 : ((L : Int) - 1) * (all - 1) = all * L - L - all + 1 := by rw [Int.sub_mul, Int.mul_sub, Int.mul_comm (L : Int) all]; omega
    omega

/-! ### The reference's choice -/

/-- The best of the first i positions that have nothing yet: b, or -1. -/
def BstR (n all : Int) (zs : List Int) (f : Nat → Int) (k i : Nat) (b : Int) : Prop :=
  (b = -1 ∧ ∀ p, p < i → mrk f k p = 1) ∨ (0 ≤ b ∧ b < i ∧ mrk f k b.toNat = 0 ∧ ∀ p : Nat, p < i → mrk f k p = 0 → (p : Int) ≠ b → ahd (keyOf n all zs) b p)

theorem BstR.start (n all : Int) (zs : List Int) (f : Nat → Int) (k : Nat) : BstR n all zs f k 0 (-1) := .inl ⟨rfl, fun _ h => by omega⟩
theorem BstR.skip {n all : Int} {zs : List Int} {f : Nat → Int} {k i : Nat} {b : Int} (h : BstR n all zs f k i b) (hg : mrk f k i = 1) : BstR n all zs f k (i + 1) b := by
  rcases h with ⟨e, h⟩ | ⟨h1, h2, h3, h4⟩
  · refine .inl ⟨e, fun p hp => ?_⟩
    by_cases e : p = i
    · rw [e]; exact hg
    · exact h p (by omega)
  · refine .inr ⟨h1, by omega, h3, fun p hp hm hne => h4 p ?_ hm hne⟩
    by_cases e : p = i
    · rw [e, hg] at hm; omega
    · omega
theorem BstR.take {n all : Int} {zs : List Int} {f : Nat → Int} {k i : Nat} {b : Int} (h : BstR n all zs f k i b) (hg : mrk f k i = 0) (hb : b < 0 ∨ keyOf n all zs b < keyOf n all zs i) : BstR n all zs f k (i + 1) i := by
  refine .inr ⟨by omega, by omega, by rw [Int.toNat_natCast]; exact hg, fun p hp hm hne => ?_⟩
  have hpi : p < i := by omega
  rcases h with ⟨e, h⟩ | ⟨h1, h2, h3, h4⟩
  · have := h p hpi; omega
  · have hk : keyOf n all zs b < keyOf n all zs i := hb.resolve_left (by omega)
    by_cases e : (p : Int) = b
    · rw [e]; exact ahd_hi hk
    · exact (ahd_hi hk).trans (h4 p hpi hm e)
theorem BstR.keep {n all : Int} {zs : List Int} {f : Nat → Int} {k i : Nat} {b : Int} (h : BstR n all zs f k i b) (hb : ¬ b < 0) (hk : ¬ keyOf n all zs b < keyOf n all zs i) : BstR n all zs f k (i + 1) b := by
  rcases h with ⟨e, h⟩ | ⟨h1, h2, h3, h4⟩
  · omega
  · refine .inr ⟨h1, by omega, h3, fun p hp hm hne => ?_⟩
    by_cases e : p = i
    · rw [e]; exact ahd_lo (by omega) hk
    · exact h4 p (by omega) hm hne
theorem BstR.done {n all : Int} {zs : List Int} {f : Nat → Int} {k : Nat} {b : Int} (h : BstR n all zs f k zs.length b) (hE : Enum (keyOf n all zs) zs.length f) (hk : k < zs.length) : b = f k := by
  have hr := hE.range hk
  have hf := hE.fresh hk
  rcases h with ⟨e, h⟩ | ⟨h1, h2, h3, h4⟩
  · have := h (f k).toNat (by omega); omega
  · by_cases e : f k = b
    · exact e.symm
    · have h5 := h4 (f k).toNat (by omega) hf (by omega)
      rw [show (((f k).toNat : Nat) : Int) = f k by omega] at h5
      obtain ⟨j, hj, e2⟩ := hE.onto (x := b.toNat) (by omega)
      have e3 : f j = b := by omega
      by_cases hjk : j < k
      · have := mrk_in (p := b.toNat) hjk (by omega)
        omega
      · have hne : j ≠ k := fun e4 => e (by rw [← e4]; exact e3)
        have := hE.srt k j (by omega) (by omega) hj
        rw [e3] at this
        exact (this.trans h5).irrefl.elim

end Go.Proofs.Ytpghhfobaionkaa

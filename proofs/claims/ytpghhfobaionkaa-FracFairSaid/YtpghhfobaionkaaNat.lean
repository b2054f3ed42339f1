/-
  Natural numbers as lists of digits to the base 2^32, the lowest first. Plain mathematics, no program.
-/
namespace Go.Proofs.Ytpghhfobaionkaa

def Bse : Nat := 4294967296
theorem Bse_pos : 0 < Bse := by decide
theorem Bse_gt1 : 1 < Bse := by decide

def val : List Nat → Nat
  | [] => 0
  | d :: l => d + Bse * val l

def digs (n : Nat) : List Nat := if _h : n = 0 then [] else n % Bse :: digs (n / Bse)
termination_by n
decreasing_by exact Nat.div_lt_self (by omega) Bse_gt1

theorem digs_zero : digs 0 = [] := by rw [digs]; simp
theorem digs_pos {n : Nat} (h : n ≠ 0) : digs n = n % Bse :: digs (n / Bse) := by rw [digs]; simp [h]

theorem val_digs (n : Nat) : val (digs n) = n := by
  induction n using Nat.strongRecOn with
  | ind n ih =>
    by_cases h : n = 0
    · subst h; rw [digs_zero]; rfl
    · rw [digs_pos h, val, ih _ (Nat.div_lt_self (by omega) Bse_gt1)]
      exact Nat.mod_add_div n Bse

theorem digs_lt (n : Nat) : ∀ d ∈ digs n, d < Bse := by
  induction n using Nat.strongRecOn with
  | ind n ih =>
    by_cases h : n = 0
    · subst h; rw [digs_zero]; simp
    · rw [digs_pos h]
      intro d hd
      rcases List.mem_cons.1 hd with rfl | hd
      · exact Nat.mod_lt _ Bse_pos
      · exact ih _ (Nat.div_lt_self (by omega) Bse_gt1) d hd

theorem val_append (a b : List Nat) : val (a ++ b) = val a + Bse ^ a.length * val b := by
  induction a with
  | nil => simp [val]
  | cons d l ih => simp only [List.cons_append, val, ih, List.length_cons, Nat.pow_succ]; grind

theorem val_snoc (a : List Nat) (d : Nat) : val (a ++ [d]) = val a + Bse ^ a.length * d := by
  rw [val_append]; simp [val]

theorem val_lt {l : List Nat} (h : ∀ d ∈ l, d < Bse) : val l < Bse ^ l.length := by
  induction l with
  | nil => simp [val]
  | cons d l ih =>
    have h1 := ih fun x hx => h x (List.mem_cons_of_mem _ hx)
    have h2 := h d List.mem_cons_self
    simp only [val, List.length_cons, Nat.pow_succ]
    have h3 : Bse * (val l + 1) ≤ Bse * Bse ^ l.length := Nat.mul_le_mul_left _ h1
    rw [Nat.mul_comm (Bse ^ l.length) Bse]
    rw [Nat.mul_add] at h3
    omega

/-- A list of digits without a zero at its top is the digits of its value. -/
theorem digs_val {l : List Nat} (h : ∀ d ∈ l, d < Bse) (ht : ∀ hne : l ≠ [], l.getLast hne ≠ 0) : digs (val l) = l := by
  induction l with
  | nil => simp [val, digs_zero]
  | cons d l ih =>
    have hd := h d List.mem_cons_self
    have h1 : digs (val l) = l := by
      apply ih (fun x hx => h x (List.mem_cons_of_mem _ hx))
      intro hne
      have := ht (by simp)
      rwa [List.getLast_cons hne] at this
    have hv : val (d :: l) ≠ 0 := by
      simp only [val]
      intro h0
      have hd0 : d = 0 := by omega
      have hm : Bse * val l = 0 := by omega
      have hl0 : val l = 0 := by
        rcases Nat.mul_eq_zero.1 hm with h | h
        · exact absurd h (by decide)
        · exact h
      rw [hl0, digs_zero] at h1
      subst h1
      have := ht (by simp)
      simp at this
      exact this hd0
    rw [digs_pos hv]
    simp only [val]
    rw [Nat.add_mul_mod_self_left, Nat.mod_eq_of_lt hd, Nat.add_mul_div_left _ _ Bse_pos, Nat.div_eq_of_lt hd, Nat.zero_add, h1]

theorem digs_top (n : Nat) (hne : digs n ≠ []) : (digs n).getLast hne ≠ 0 := by
  induction n using Nat.strongRecOn with
  | ind n ih =>
    by_cases h : n = 0
    · subst h; exact absurd digs_zero hne
    · have h1 := digs_pos h
      by_cases h2 : digs (n / Bse) = []
      · have h3 : n / Bse = 0 := by
          have := val_digs (n / Bse); rw [h2] at this; simpa [val] using this.symm
        have h4 : n < Bse := by
          rcases Nat.div_eq_zero_iff.1 h3 with h | h
          · exact absurd h (by decide)
          · exact h
        have h5 : digs n = [n] := by rw [h1, h2, Nat.mod_eq_of_lt h4]
        simp only [h5]; simpa using h
      · have h3 := ih _ (Nat.div_lt_self (by omega) Bse_gt1) h2
        have h4 : (digs n).getLast hne = (digs (n / Bse)).getLast h2 := by
          simp only [h1]; rw [List.getLast_cons h2]
        rw [h4]; exact h3

theorem digs_eq_nil {n : Nat} : digs n = [] ↔ n = 0 := by
  constructor
  · intro h; have := val_digs n; rw [h] at this; simpa [val] using this.symm
  · intro h; subst h; exact digs_zero

theorem digs_length_pos {n : Nat} : 0 < (digs n).length ↔ n ≠ 0 := by
  rw [List.length_pos_iff, ne_eq, digs_eq_nil]

theorem lt_pow_digs (n : Nat) : n < Bse ^ (digs n).length := by
  have := val_lt (digs_lt n); rwa [val_digs] at this

theorem pow_digs_le {n : Nat} (h : n ≠ 0) : Bse ^ ((digs n).length - 1) ≤ n := by
  have hne : digs n ≠ [] := fun e => h (digs_eq_nil.1 e)
  have ht := digs_top n hne
  have h1 : digs n = (digs n).dropLast ++ [(digs n).getLast hne] := (List.dropLast_concat_getLast hne).symm
  have h2 : n = val ((digs n).dropLast) + Bse ^ ((digs n).length - 1) * (digs n).getLast hne := by
    calc n = val (digs n) := (val_digs n).symm
      _ = val ((digs n).dropLast ++ [(digs n).getLast hne]) := by rw [← h1]
      _ = _ := by rw [val_snoc, List.length_dropLast]
  have h3 : Bse ^ ((digs n).length - 1) * 1 ≤ Bse ^ ((digs n).length - 1) * (digs n).getLast hne := Nat.mul_le_mul_left _ (by omega)
  omega

theorem digs_length_le_iff {n k : Nat} : (digs n).length ≤ k ↔ n < Bse ^ k := by
  constructor
  · intro h
    exact Nat.lt_of_lt_of_le (lt_pow_digs n) (Nat.pow_le_pow_right Bse_pos h)
  · intro h
    by_cases h0 : n = 0
    · subst h0; rw [digs_zero]; exact Nat.zero_le _
    · have h1 := pow_digs_le h0
      have h2 : Bse ^ ((digs n).length - 1) < Bse ^ k := Nat.lt_of_le_of_lt h1 h
      have h3 := (Nat.pow_lt_pow_iff_right Bse_gt1).1 h2
      omega

theorem digs_length_mono {a b : Nat} (h : a ≤ b) : (digs a).length ≤ (digs b).length :=
  digs_length_le_iff.2 (Nat.lt_of_le_of_lt h (lt_pow_digs b))

theorem lt_of_digs_length {a b : Nat} (h : (digs a).length < (digs b).length) : a < b := by
  rcases Nat.lt_or_ge a b with h1 | h1
  · exact h1
  · have := digs_length_mono h1; omega

/-- Bits and the base. -/
theorem Bse_pow (k : Nat) : Bse ^ k = 2 ^ (32 * k) := by
  rw [Nat.pow_mul]; rfl

theorem val_take_succ (l : List Nat) (i : Nat) (h : i < l.length) : val (l.take (i + 1)) = val (l.take i) + Bse ^ i * l[i] := by
  rw [List.take_succ_eq_append_getElem h, val_snoc, List.length_take, Nat.min_eq_left (by omega)]

theorem val_take_drop (l : List Nat) (i : Nat) (h : i ≤ l.length) : val l = val (l.take i) + Bse ^ i * val (l.drop i) := by
  have h1 : l = l.take i ++ l.drop i := (List.take_append_drop i l).symm
  calc val l = val (l.take i ++ l.drop i) := by rw [← h1]
    _ = _ := by rw [val_append, List.length_take, Nat.min_eq_left h]

theorem getD_in (l : List Nat) (i : Nat) (h : i < l.length) : l.getD i 0 = l[i] := by simp [List.getD, h]
theorem getD_out (l : List Nat) (i : Nat) (h : l.length ≤ i) : l.getD i 0 = 0 := by simp [List.getD, h]

theorem val_take_getD (l : List Nat) (i : Nat) : val (l.take (i + 1)) = val (l.take i) + Bse ^ i * l.getD i 0 := by
  by_cases h : i < l.length
  · rw [val_take_succ l i h, getD_in _ _ h]
  · rw [List.take_of_length_le (by omega), List.take_of_length_le (by omega), getD_out _ _ (by omega)]
    omega

theorem getD_lt {l : List Nat} (hl : ∀ d ∈ l, d < Bse) (i : Nat) : l.getD i 0 < Bse := by
  by_cases h : i < l.length
  · rw [getD_in _ _ h]; exact hl _ (List.getElem_mem h)
  · rw [getD_out _ _ (by omega)]; exact Bse_pos

/-- One round of the sum of two. -/
theorem plus_step {l r xs : List Nat} {i c s : Nat} (hx : xs.length = i) (hi : val xs + Bse ^ i * c = val (l.take i) + val (r.take i)) (hs : s = c + l.getD i 0 + r.getD i 0) :
    val (xs ++ [s % Bse]) + Bse ^ (i + 1) * (s / Bse) = val (l.take (i + 1)) + val (r.take (i + 1)) := by
  rw [val_snoc, val_take_getD l, val_take_getD r, hx, Nat.pow_succ]
  have h1 : s % Bse + Bse * (s / Bse) = s := Nat.mod_add_div s Bse
  have h2 : Bse ^ i * (s % Bse) + Bse ^ i * Bse * (s / Bse) = Bse ^ i * s := by
    rw [Nat.mul_assoc, ← Nat.mul_add, h1]
  have h3 : Bse ^ i * s = Bse ^ i * c + Bse ^ i * l.getD i 0 + Bse ^ i * r.getD i 0 := by rw [hs, Nat.mul_add, Nat.mul_add]
  omega

theorem snoc_lt {xs : List Nat} (h : ∀ d ∈ xs, d < Bse) {x : Nat} (hx : x < Bse) : ∀ d ∈ xs ++ [x], d < Bse := by
  intro d hd
  rcases List.mem_append.1 hd with h1 | h1
  · exact h d h1
  · simp at h1; subst h1; exact hx

def cmpN (a b : Nat) : Int := if a < b then -1 else if b < a then 1 else 0

/-- Two lists of one length, alike above place i, that differ there. -/
theorem val_cmp_at {a b : List Nat} {i : Nat} (ha : ∀ d ∈ a, d < Bse) (hia : i < a.length) (hib : i < b.length)
    (hd : a.drop (i + 1) = b.drop (i + 1)) (hlt : a[i] < b[i]) : val a < val b := by
  rw [val_take_drop a (i + 1) (by omega), val_take_drop b (i + 1) (by omega), hd]
  rw [val_take_succ a i hia, val_take_succ b i hib]
  have h1 : val (a.take i) < Bse ^ i := by
    have := val_lt (l := a.take i) (fun d hd => ha d (List.mem_of_mem_take hd))
    rwa [List.length_take, Nat.min_eq_left (by omega)] at this
  have h2 : Bse ^ i * (a[i] + 1) ≤ Bse ^ i * b[i] := Nat.mul_le_mul_left _ hlt
  rw [Nat.mul_add] at h2
  omega

end Go.Proofs.Ytpghhfobaionkaa

/- Pairs: pairings as owners, their size and cost (no program). -/
import Derived.Test.YtchhadkmemckbabPaR
namespace Go.Proofs.Ytchhadkmemckbab
open Go.RowKit
set_option linter.unusedSimpArgs false
set_option linter.unusedVariables false

/-- A pairing read glove by glove: the owners, the size, the cost. none: it is none. -/
def wgF (C : Nat → Nat → Int) (R : Nat) : List Int → Nat → (Nat → Int) → Int → Int → Option ((Nat → Int) × Int × Int)
  | [], _, o, s, c => some (o, s, c)
  | j :: t, i, o, s, c =>
    if j = -1 then wgF C R t (i + 1) o s c
    else if 0 ≤ j ∧ j < R ∧ C i j.toNat ≠ -1 ∧ o j.toNat = -1 then wgF C R t (i + 1) (fset o j.toNat i) (s + 1) (c + C i j.toNat)
    else none
/-- The pairs among the first right gloves, their cost. -/
def cntO (o : Nat → Int) : Nat → Int
  | 0 => 0
  | j + 1 => cntO o j + (if o j = -1 then 0 else 1)
def cstO (C : Nat → Nat → Int) (o : Nat → Int) : Nat → Int
  | 0 => 0
  | j + 1 => cstO C o j + (if o j = -1 then 0 else C (o j).toNat j)
theorem cntO_far {o : Nat → Int} {j : Nat} {x : Int} : ∀ n, n ≤ j → cntO (fset o j x) n = cntO o n
  | 0, _ => rfl
  | n + 1, h => by
    unfold cntO
    have e : fset o j x n = o n := by unfold fset; rw [if_neg (by omega)]
    rw [cntO_far n (by omega), e]
theorem cstO_far {C : Nat → Nat → Int} {o : Nat → Int} {j : Nat} {x : Int} : ∀ n, n ≤ j → cstO C (fset o j x) n = cstO C o n
  | 0, _ => rfl
  | n + 1, h => by
    unfold cstO
    have e : fset o j x n = o n := by unfold fset; rw [if_neg (by omega)]
    rw [cstO_far n (by omega), e]
theorem cntO_set {o : Nat → Int} {j i : Nat} (ho : o j = -1) : ∀ n, j < n → cntO (fset o j i) n = cntO o n + 1
  | n + 1, h => by
    unfold cntO
    by_cases e : j = n
    · subst e
      rw [cntO_far j (Nat.le_refl _), ho, if_pos rfl]
      unfold fset
      rw [if_pos rfl, if_neg (by omega)]
      omega
    · rw [cntO_set ho n (by omega)]
      have e2 : fset o j (i : Int) n = o n := by unfold fset; rw [if_neg (fun h => e h.symm)]
      rw [e2]
      omega
theorem cstO_set {C : Nat → Nat → Int} {o : Nat → Int} {j i : Nat} (ho : o j = -1) : ∀ n, j < n → cstO C (fset o j i) n = cstO C o n + C i j
  | n + 1, h => by
    unfold cstO
    by_cases e : j = n
    · subst e
      rw [cstO_far j (Nat.le_refl _), ho, if_pos rfl]
      unfold fset
      rw [if_pos rfl, if_neg (by omega)]
      simp
    · rw [cstO_set ho n (by omega)]
      have e2 : fset o j (i : Int) n = o n := by unfold fset; rw [if_neg (fun h => e h.symm)]
      rw [e2]
      omega
theorem wg_inv {C : Nat → Nat → Int} {R : Nat} : ∀ (t : List Int) (i : Nat) (o : Nat → Int) (s c : Int) (o' : Nat → Int) (s' c' : Int), wgF C R t i o s c = some (o', s', c') → s = cntO o R → c = cstO C o R → s' = cntO o' R ∧ c' = cstO C o' R
  | [], i, o, s, c, o', s', c', h, hs, hc => by
    simp only [wgF, Option.some.injEq, Prod.mk.injEq] at h
    obtain ⟨rfl, rfl, rfl⟩ := h
    exact ⟨hs, hc⟩
  | j :: t, i, o, s, c, o', s', c', h, hs, hc => by
    unfold wgF at h
    split at h
    · exact wg_inv t _ _ _ _ _ _ _ h hs hc
    · split at h
      · rename_i hj
        obtain ⟨h0, h1, -, h3⟩ := hj
        exact wg_inv t _ _ _ _ _ _ _ h (by rw [cntO_set h3 R (by omega), hs]) (by rw [cstO_set h3 R (by omega), hc])
      · simp at h
/-- Owners are left gloves that were read. -/
theorem wg_own {C : Nat → Nat → Int} {R : Nat} : ∀ (t : List Int) (i : Nat) (o : Nat → Int) (s c : Int) (o' : Nat → Int) (s' c' : Int), wgF C R t i o s c = some (o', s', c') → (∀ j, o j = -1 ∨ (0 ≤ o j ∧ o j < i)) → ∀ j, o' j = -1 ∨ (0 ≤ o' j ∧ o' j < (i + t.length : Nat))
  | [], i, o, s, c, o', s', c', h, ho, j => by
    simp only [wgF, Option.some.injEq, Prod.mk.injEq] at h
    obtain ⟨rfl, -, -⟩ := h
    have := ho j
    simp only [List.length_nil]
    omega
  | x :: t, i, o, s, c, o', s', c', h, ho, j => by
    unfold wgF at h
    simp only [List.length_cons]
    split at h
    · have := wg_own t (i + 1) _ _ _ _ _ _ h (fun j => by have := ho j; omega) j
      omega
    · split at h
      · have := wg_own t (i + 1) _ _ _ _ _ _ h (fun j => by
          unfold fset
          split
          · right; omega
          · have := ho j; omega) j
        omega
      · simp at h
/-- The size is from 0 to the gloves read; the cost is at most 4,000,000 for each. -/
theorem wg_bound {C : Nat → Nat → Int} {R L : Nat} (hC : ∀ i j, i < L → j < R → -1 ≤ C i j ∧ C i j ≤ 4000000) : ∀ (t : List Int) (i : Nat) (o : Nat → Int) (s c : Int) (o' : Nat → Int) (s' c' : Int), wgF C R t i o s c = some (o', s', c') → i + t.length ≤ L → (0 ≤ s ∧ s ≤ i) → (0 ≤ c ∧ c ≤ 4000000 * i) → (0 ≤ s' ∧ s' ≤ (i + t.length : Nat)) ∧ (0 ≤ c' ∧ c' ≤ 4000000 * (i + t.length : Nat))
  | [], i, o, s, c, o', s', c', h, hL, hs, hc => by
    simp only [wgF, Option.some.injEq, Prod.mk.injEq] at h
    obtain ⟨-, rfl, rfl⟩ := h
    simp only [List.length_nil]
    omega
  | x :: t, i, o, s, c, o', s', c', h, hL, hs, hc => by
    unfold wgF at h
    simp only [List.length_cons] at hL ⊢
    split at h
    · have := wg_bound hC t (i + 1) _ _ _ _ _ _ h (by omega) (by omega) (by omega)
      omega
    · split at h
      · rename_i hj
        have := hC i x.toNat (by omega) (by omega)
        have := wg_bound hC t (i + 1) _ _ _ _ _ _ h (by omega) (by omega) (by omega)
        omega
      · simp at h
theorem cst_bound {C : Nat → Nat → Int} {R L : Nat} (hC : ∀ i j, i < L → j < R → -1 ≤ C i j ∧ C i j ≤ 4000000) {o : Nat → Int} (ho : ∀ j, o j = -1 ∨ (0 ≤ o j ∧ o j < L)) : ∀ n, n ≤ R → (0 ≤ cntO o n ∧ cntO o n ≤ n) ∧ (-(n : Int) ≤ cstO C o n ∧ cstO C o n ≤ 4000000 * n)
  | 0, _ => by simp [cntO, cstO]
  | n + 1, h => by
    have := cst_bound hC ho n (by omega)
    unfold cntO cstO
    split
    · omega
    · have := ho n
      have := hC (o n).toNat n (by omega) (by omega)
      omega

/-- What Weigh answers. -/
def wghE (ls rs : List Gl) (u : Ru) (m : List Int) : Int × Int × Int :=
  if sidB ls && sidB rs && ruB u then
    if m.length = ls.length then
      match wgF (cosT ls rs u) rs.length m 0 (fun _ => -1) 0 0 with
      | some (_, s, c) => (s, c, 0)
      | none => (0, 0, 6)
    else (0, 0, 3)
  else (0, 0, 2)

end Go.Proofs.Ytchhadkmemckbab

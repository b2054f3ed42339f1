/- Pairs: prices that are a proof are worth at least every pairing (no program). -/
import Derived.Test.YtpihokfamcdbeaaPaS
namespace Go.Proofs.Ytpihokfamcdbeaa
open Go.RowKit
set_option linter.unusedSimpArgs false
set_option linter.unusedVariables false

def sumF (f : Nat → Int) : Nat → Int
  | 0 => 0
  | k + 1 => sumF f k + f k
theorem sumF_le {f g : Nat → Int} : ∀ n, (∀ k, k < n → f k ≤ g k) → sumF f n ≤ sumF g n
  | 0, _ => Int.le_refl _
  | n + 1, h => by
    have := sumF_le n (fun k hk => h k (by omega))
    have := h n (by omega)
    unfold sumF
    omega
/-- The prices of the right gloves that have owners. -/
def ownS (o : Nat → Int) (b : Nat → Int) (j : Nat) : Int := if o j = -1 then 0 else b j
theorem sumF_far {o b : Nat → Int} {j : Nat} {x : Int} : ∀ n, n ≤ j → sumF (ownS (fset o j x) b) n = sumF (ownS o b) n
  | 0, _ => rfl
  | n + 1, h => by
    unfold sumF
    rw [sumF_far n (by omega)]
    have e : fset o j x n = o n := by unfold fset; rw [if_neg (by omega)]
    unfold ownS
    rw [e]
theorem sumF_set {o b : Nat → Int} {j i : Nat} (ho : o j = -1) : ∀ n, j < n → sumF (ownS (fset o j i) b) n = sumF (ownS o b) n + b j
  | n + 1, h => by
    unfold sumF
    by_cases e : j = n
    · subst e
      rw [sumF_far j (Nat.le_refl _)]
      have e1 : ownS (fset o j (i : Int)) b j = b j := by unfold ownS fset; rw [if_pos rfl, if_neg (by omega)]
      have e2 : ownS o b j = 0 := by unfold ownS; rw [if_pos ho]
      rw [e1, e2]
      omega
    · rw [sumF_set ho n (by omega)]
      have e2 : fset o j (i : Int) n = o n := by unfold fset; rw [if_neg (fun h => e h.symm)]
      have e3 : ownS (fset o j (i : Int)) b n = ownS o b n := by unfold ownS; rw [e2]
      rw [e3]
      omega
/-- Weak duality, glove by glove. -/
theorem wg_dual {C : Nat → Nat → Int} {R L : Nat} {a b : Nat → Int} (ha : ∀ i, i < L → 0 ≤ a i) (hp : ∀ i j, i < L → j < R → C i j ≠ -1 → 0 ≤ a i + b j + C i j - 1000000000) :
    ∀ (t : List Int) (i : Nat) (o : Nat → Int) (s c : Int) (o' : Nat → Int) (s' c' : Int), wgF C R t i o s c = some (o', s', c') → i + t.length = L → 1000000000 * s - c ≤ sumF a i + sumF (ownS o b) R → 1000000000 * s' - c' ≤ sumF a L + sumF (ownS o' b) R
  | [], i, o, s, c, o', s', c', h, hL, hs => by
    simp only [wgF, Option.some.injEq, Prod.mk.injEq] at h
    obtain ⟨rfl, rfl, rfl⟩ := h
    simp only [List.length_nil, Nat.add_zero] at hL
    rw [← hL]
    exact hs
  | x :: t, i, o, s, c, o', s', c', h, hL, hs => by
    simp only [List.length_cons] at hL
    have hai := ha i (by omega)
    have e1 : sumF a (i + 1) = sumF a i + a i := rfl
    unfold wgF at h
    split at h
    · exact wg_dual ha hp t (i + 1) o s c o' s' c' h (by omega) (by omega)
    · split at h
      · rename_i hj
        obtain ⟨h0, h1, h2, h3⟩ := hj
        have hpp := hp i x.toNat (by omega) (by omega) h2
        have e2 := sumF_set (b := b) (i := i) h3 R (by omega)
        exact wg_dual ha hp t (i + 1) _ _ _ o' s' c' h (by omega) (by rw [e1, e2]; omega)
      · simp at h
theorem dual {C : Nat → Nat → Int} {R L : Nat} {a b : Nat → Int} (ha : ∀ i, i < L → 0 ≤ a i) (hb : ∀ j, j < R → 0 ≤ b j) (hp : ∀ i j, i < L → j < R → C i j ≠ -1 → 0 ≤ a i + b j + C i j - 1000000000) {m : List Int} (hm : m.length = L) {o : Nat → Int} {s c : Int} (h : wgF C R m 0 (fun _ => -1) 0 0 = some (o, s, c)) :
    1000000000 * s - c ≤ sumF a L + sumF b R := by
  have z : ∀ n, sumF (ownS (fun _ => -1) b) n = 0 := fun n => by
    induction n with
    | zero => rfl
    | succ n ih => unfold sumF; rw [ih]; unfold ownS; simp
  have h1 := wg_dual ha hp m 0 _ 0 0 o s c h (by omega) (by rw [z]; show (1000000000 * 0 - 0 : Int) ≤ sumF a 0 + 0; unfold sumF; omega)
  have h2 : sumF (ownS o b) R ≤ sumF b R := sumF_le R (fun j hj => by
    unfold ownS
    split
    · exact hb j hj
    · exact Int.le_refl _)
  omega

/-- Prices that are a proof. -/
def prfB (C : Nat → Nat → Int) (L R : Nat) (a b : Nat → Int) : Bool := (List.range L).all fun i => (List.range R).all fun j => C i j == -1 || decide (0 ≤ a i + b j + C i j - 1000000000)
theorem prfB_iff {C : Nat → Nat → Int} {L R : Nat} {a b : Nat → Int} : prfB C L R a b = true ↔ ∀ i j, i < L → j < R → C i j ≠ -1 → 0 ≤ a i + b j + C i j - 1000000000 := by
  unfold prfB
  simp only [List.all_eq_true, List.mem_range, Bool.or_eq_true, beq_iff_eq, decide_eq_true_eq]
  constructor
  · intro h i j hi hj hc
    rcases h i hi j hj with h | h
    · exact absurd h hc
    · exact h
  · intro h i hi j hj
    by_cases hc : C i j = -1
    · exact .inl hc
    · exact .inr (h i j hi hj hc)
/-- What Worth answers. -/
def wthE (ls rs : List Gl) (u : Ru) (a b : List Int) : Int × Bool × Int :=
  if sidB ls && sidB rs && ruB u then
    if a.length = ls.length ∧ b.length = rs.length then
      if (a ++ b).all (fun x => decide (0 ≤ x) && decide (x ≤ 1000000000)) then
        if prfB (cosT ls rs u) ls.length rs.length (fun i => a.getD i 0) (fun j => b.getD j 0) then ((a ++ b).sum, true, 0) else (0, false, 0)
      else (0, false, 2)
    else (0, false, 3)
  else (0, false, 2)
theorem sum_sumF (a : List Int) : a.sum = sumF (fun i => a.getD i 0) a.length := by
  have h : ∀ n, n ≤ a.length → (a.take n).sum = sumF (fun i => a.getD i 0) n := fun n => by
    induction n with
    | zero => intro _; rfl
    | succ n ih =>
      intro hn
      rw [List.take_add_one, List.getElem?_eq_getElem (by omega), List.sum_append, ih (by omega)]
      show _ = sumF _ n + a.getD n 0
      rw [List.getD_eq_getElem?_getD, List.getElem?_eq_getElem (by omega)]
      simp
  rw [← h a.length (Nat.le_refl _), List.take_length]
/-- PairDual's arithmetic. -/
theorem worth_dual {ls rs : List Gl} {u : Ru} {a b m : List Int} {n s c : Int} (hw : wthE ls rs u a b = (n, true, 0)) (hg : wghE ls rs u m = (s, c, 0)) : 1000000000 * s - c ≤ n := by
  unfold wthE at hw
  unfold wghE at hg
  split at hw
  · rename_i hgood
    rw [if_pos hgood] at hg
    split at hw
    · rename_i hlen
      split at hw
      · rename_i hall
        split at hw
        · rename_i hprf
          simp only [Prod.mk.injEq, and_true] at hw
          split at hg
          · rename_i hm
            split at hg
            · rename_i o s' c' hwg
              simp only [Prod.mk.injEq, and_true] at hg
              obtain ⟨rfl, rfl⟩ := hg
              have hr : ∀ x, x ∈ a ++ b → 0 ≤ x ∧ x ≤ 1000000000 := fun x hx => by simpa using List.all_eq_true.1 hall x hx
              have ha : ∀ i, i < ls.length → 0 ≤ a.getD i 0 := fun i hi => by
                rw [List.getD_eq_getElem?_getD, List.getElem?_eq_getElem (by omega)]
                exact (hr _ (List.mem_append_left _ (List.getElem_mem _))).1
              have hb : ∀ j, j < rs.length → 0 ≤ b.getD j 0 := fun j hj => by
                rw [List.getD_eq_getElem?_getD, List.getElem?_eq_getElem (by omega)]
                exact (hr _ (List.mem_append_right _ (List.getElem_mem _))).1
              have := dual (a := fun i => a.getD i 0) (b := fun j => b.getD j 0) ha hb (prfB_iff.1 hprf) hm hwg
              rw [← hw, List.sum_append, sum_sumF a, sum_sumF b, hlen.1, hlen.2]
              exact this
            · simp at hg
          · simp at hg
        · simp at hw
      · simp at hw
    · simp at hw
  · simp at hw

end Go.Proofs.Ytpihokfamcdbeaa

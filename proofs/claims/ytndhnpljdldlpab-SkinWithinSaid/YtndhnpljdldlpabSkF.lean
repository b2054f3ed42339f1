/- Skins: the cells that are reached from a cell, as connected walks. -/
import Derived.Test.YtndhnpljdldlpabSkN
namespace Go.Proofs.Ytndhnpljdldlpab
open Go.RowKit

/-- The k-th neighbour. -/
def nbr (k : Nat) (c : Int × Int) : Int × Int :=
  match k with
  | 0 => (c.1 + 1, c.2 + 0)
  | 1 => (c.1 + -1, c.2 + 0)
  | 2 => (c.1 + 0, c.2 + 1)
  | _ => (c.1 + 0, c.2 + -1)

/-- The list of the cells that are reached, and those that were seen. -/
abbrev Fl := List (Int × Int) × List (Int × Int)

def visit (us : Int → Int → Bool) (st : Fl) (n : Int × Int) : Fl :=
  if (us n.1 n.2 && !decide (n ∈ st.2)) = true then (st.1 ++ [n], n :: st.2) else st
/-- Behind the first j neighbours of c. -/
def visits (us : Int → Int → Bool) (c : Int × Int) (st : Fl) : Nat → Fl
  | 0 => st
  | j + 1 => visit us (visits us c st j) (nbr j c)
def flood (us : Int → Int → Bool) : Nat → Nat → Fl → Fl
  | 0, _, st => st
  | f + 1, i, st => if i < st.1.length then flood us f (i + 1) (visits us (st.1.getD i (0, 0)) st 4) else st

/-- Within a rectangle. -/
def InR (W H : Nat) (c : Int × Int) : Prop := 0 ≤ c.1 ∧ c.1 < W ∧ 0 ≤ c.2 ∧ c.2 < H

structure FInv (W H : Nat) (S0 : Nat) (st : Fl) : Prop where
  nd : st.1.Nodup
  rect : ∀ c ∈ st.1, InR W H c
  sn : ∀ c ∈ st.1, c ∈ st.2
  len : st.2.length = S0 + st.1.length

theorem FInv.visit {us : Int → Int → Bool} {W H S0 : Nat} {st : Fl} (h : FInv W H S0 st) (hus : ∀ x y, us x y = true → InR W H (x, y)) (n : Int × Int) : FInv W H S0 (visit us st n) := by
  unfold Proofs.Ytndhnpljdldlpab.visit
  split
  · rename_i hc
    simp only [Bool.and_eq_true, Bool.not_eq_true', decide_eq_false_iff_not] at hc
    refine ⟨?_, fun c hcm => ?_, fun c hcm => ?_, by simp [h.len]; omega⟩
    · rw [List.nodup_append]
      refine ⟨h.nd, by simp, fun a ha b hb => ?_⟩
      simp only [List.mem_singleton] at hb
      subst hb
      intro e
      subst e
      exact hc.2 (h.sn _ ha)
    · rcases List.mem_append.1 hcm with hcm | hcm
      · exact h.rect c hcm
      · simp only [List.mem_singleton] at hcm
        subst hcm
        exact hus _ _ hc.1
    · rcases List.mem_append.1 hcm with hcm | hcm
      · exact List.mem_cons_of_mem _ (h.sn c hcm)
      · simp only [List.mem_singleton] at hcm
        subst hcm
        exact List.mem_cons_self ..
  · exact h
theorem FInv.visits {us : Int → Int → Bool} {W H S0 : Nat} {st : Fl} (h : FInv W H S0 st) (hus : ∀ x y, us x y = true → InR W H (x, y)) (c : Int × Int) : ∀ j, FInv W H S0 (visits us c st j)
  | 0 => h
  | j + 1 => (h.visits hus c j).visit hus _

theorem visit_get {us : Int → Int → Bool} {st : Fl} {n : Int × Int} {k : Nat} (hk : k < st.1.length) : (visit us st n).1.getD k (0, 0) = st.1.getD k (0, 0) ∧ st.1.length ≤ (visit us st n).1.length := by
  unfold visit
  split
  · simp [List.getElem?_append_left hk]
  · exact ⟨rfl, Nat.le_refl _⟩
theorem visits_get {us : Int → Int → Bool} {c : Int × Int} {st : Fl} {k : Nat} (hk : k < st.1.length) : ∀ j, (visits us c st j).1.getD k (0, 0) = st.1.getD k (0, 0) ∧ st.1.length ≤ (visits us c st j).1.length
  | 0 => ⟨rfl, Nat.le_refl _⟩
  | j + 1 => by
    obtain ⟨h1, h2⟩ := visits_get hk j
    obtain ⟨h3, h4⟩ := visit_get (us := us) (n := nbr j c) (Nat.lt_of_lt_of_le hk h2)
    exact ⟨h3.trans h1, Nat.le_trans h2 h4⟩

theorem nodup_lt : ∀ (n : Nat) (l : List Nat), l.Nodup → (∀ x ∈ l, x < n) → l.length ≤ n
  | 0, [], _, _ => Nat.le_refl _
  | 0, a :: _, _, h => absurd (h a (List.mem_cons_self ..)) (Nat.not_lt_zero _)
  | n + 1, l, hd, h => by
    have h1 := nodup_lt n (l.erase n) (hd.erase n) (fun x hx => by
      have := (hd.mem_erase_iff).1 hx
      have := h x this.2
      omega)
    have h2 := List.length_erase (a := n) (l := l)
    split at h2 <;> omega

theorem FInv.short {W H S0 : Nat} {st : Fl} (h : FInv W H S0 st) : st.1.length ≤ W * H := by
  have h1 := nodup_lt (W * H) (st.1.map fun c => c.1.toNat + W * c.2.toNat) (by
    unfold List.Nodup
    rw [List.pairwise_map]
    have hp : st.1.Pairwise (fun a b => a ∈ st.1 ∧ b ∈ st.1 ∧ a ≠ b) := List.Pairwise.imp_of_mem (fun ha hb h => ⟨ha, hb, h⟩) h.nd
    refine hp.imp ?_
    rintro a b ⟨ha, hb, hne⟩ e
    obtain ⟨a1, a2, a3, a4⟩ := h.rect a ha
    obtain ⟨b1, b2, b3, b4⟩ := h.rect b hb
    have ha1 : a.1.toNat < W := by omega
    have hb1 : b.1.toNat < W := by omega
    have em : a.1.toNat = b.1.toNat := by
      have := congrArg (· % W) e
      simpa [Nat.add_mul_mod_self_left, Nat.mod_eq_of_lt ha1, Nat.mod_eq_of_lt hb1] using this
    have ed : a.2.toNat = b.2.toNat := by
      rw [em] at e
      have hW : 0 < W := by omega
      exact Nat.eq_of_mul_eq_mul_left hW (Nat.add_left_cancel e)
    apply hne
    have e1 : a.1 = b.1 := by omega
    have e2 : a.2 = b.2 := by omega
    exact Prod.ext e1 e2) (by
    intro x hx
    obtain ⟨c, hc, rfl⟩ := List.mem_map.1 hx
    obtain ⟨a1, a2, a3, a4⟩ := h.rect c hc
    have h1 : c.1.toNat < W := by omega
    have h2 : c.2.toNat + 1 ≤ H := by omega
    have h3 := Nat.mul_le_mul_left W h2
    rw [Nat.mul_add, Nat.mul_one] at h3
    omega)
  simpa using h1

/-- Usable cells lie within. -/
theorem usB_in {ss : List ByteArray} {g x y : Int} (hg : 1 ≤ g) (h : usB ss g x y = true) : InR (wid ss) ss.length (x, y) := by
  unfold usB grd at h
  split at h
  · rename_i hc; exact hc
  · simp at h; omega

end Go.Proofs.Ytndhnpljdldlpab

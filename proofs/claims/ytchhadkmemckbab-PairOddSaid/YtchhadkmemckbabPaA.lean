/- Pairs: gloves, rules and costs as plain numbers; the placer's walk (no program). -/
import Derived.Test.YtchhadkmemckbabPa0
namespace Go.Proofs.Ytchhadkmemckbab
open Go.RowKit
set_option linter.unusedSimpArgs false
set_option linter.unusedVariables false

/-- A glove: its four numbers; the k-th of them. -/
abbrev Gl := Int × Int × Int × Int
def gn (g : Gl) (k : Nat) : Int := match k with | 0 => g.1 | 1 => g.2.1 | 2 => g.2.2.1 | _ => g.2.2.2
def okC (v : Int) : Bool := decide (0 ≤ v ∧ v ≤ 1000)
def okB (g : Gl) : Bool := okC g.1 && okC g.2.1 && okC g.2.2.1 && okC g.2.2.2
theorem okB_iff {g : Gl} : okB g = true ↔ ∀ k, k < 4 → 0 ≤ gn g k ∧ gn g k ≤ 1000 := by
  unfold okB okC
  simp only [Bool.and_eq_true, decide_eq_true_eq]
  constructor
  · rintro ⟨⟨⟨h0, h1⟩, h2⟩, h3⟩ k hk
    match k, hk with
    | 0, _ => exact h0
    | 1, _ => exact h1
    | 2, _ => exact h2
    | 3, _ => exact h3
  · intro h
    exact ⟨⟨⟨h 0 (by omega), h 1 (by omega)⟩, h 2 (by omega)⟩, h 3 (by omega)⟩
theorem okB_bad {g : Gl} {k : Nat} (hk : k < 4) (h : gn g k < 0 ∨ 1000 < gn g k) : okB g = false := by
  cases he : okB g with
  | false => rfl
  | true => have := okB_iff.1 he k hk; omega

/-- A rule: weight and limit. -/
abbrev Ru := Gl × Gl
def ruB (u : Ru) : Bool := okB u.1 && okB u.2

/-- How far two numbers are apart. -/
def apt (x y : Int) : Int := max (x - y) (y - x)
/-- The cost of the first k numbers, and whether they are within the limits. -/
def costTo (a b w : Gl) : Nat → Int
  | 0 => 0
  | k + 1 => costTo a b w k + apt (gn a k) (gn b k) * gn w k
def inTo (a b m : Gl) : Nat → Bool
  | 0 => true
  | k + 1 => inTo a b m k && decide (apt (gn a k) (gn b k) ≤ gn m k)
def costB (a b : Gl) (u : Ru) : Int := if inTo a b u.2 4 then costTo a b u.1 4 else -1
theorem inTo_bad {a b m : Gl} {k : Nat} (h : gn m k < apt (gn a k) (gn b k)) : ∀ n, k < n → inTo a b m n = false
  | n + 1, hn => by
    unfold inTo
    by_cases e : k = n
    · subst e
      rw [decide_eq_false (by omega), Bool.and_false]
    · rw [inTo_bad h n (by omega), Bool.false_and]
theorem apt_le {x y : Int} (hx : 0 ≤ x ∧ x ≤ 1000) (hy : 0 ≤ y ∧ y ≤ 1000) : 0 ≤ apt x y ∧ apt x y ≤ 1000 := by
  unfold apt; omega
theorem mul_le_mill {d w : Int} (hd : 0 ≤ d ∧ d ≤ 1000) (hw : 0 ≤ w ∧ w ≤ 1000) : 0 ≤ d * w ∧ d * w ≤ 1000000 := by
  obtain ⟨dn, rfl⟩ := Int.eq_ofNat_of_zero_le hd.1
  obtain ⟨wn, rfl⟩ := Int.eq_ofNat_of_zero_le hw.1
  have h : dn * wn ≤ 1000 * 1000 := Nat.mul_le_mul (by omega) (by omega)
  have e : (dn : Int) * wn = ((dn * wn : Nat) : Int) := by simp
  rw [e]
  omega
theorem costTo_le {a b w : Gl} (ha : okB a = true) (hb : okB b = true) (hw : okB w = true) : ∀ k, k ≤ 4 → 0 ≤ costTo a b w k ∧ costTo a b w k ≤ 1000000 * k
  | 0, _ => by unfold costTo; omega
  | k + 1, h => by
    have := costTo_le ha hb hw k (by omega)
    have := mul_le_mill (apt_le (okB_iff.1 ha k (by omega)) (okB_iff.1 hb k (by omega))) (okB_iff.1 hw k (by omega))
    unfold costTo
    omega
theorem costB_range {a b : Gl} {u : Ru} (ha : okB a = true) (hb : okB b = true) (hu : ruB u = true) : -1 ≤ costB a b u ∧ costB a b u ≤ 4000000 := by
  unfold ruB at hu
  have := costTo_le ha hb (Bool.and_eq_true _ _ ▸ hu |>.1) 4 (by omega)
  unfold costB
  split <;> omega

/-- A function changed at one place. -/
def fset {α : Type} (f : Nat → α) (i : Nat) (x : α) : Nat → α := fun k => if k = i then x else f k
/-- placer's walk: fuel, the left glove i, the next right glove j. none: out of fuel, or beyond the left gloves. -/
def plF (ok : Nat → Nat → Bool) (L n : Nat) : Nat → Nat → Nat → (Nat → Int) → (Nat → Bool) → Option (Bool × (Nat → Int) × (Nat → Bool))
  | 0, _, _, _, _ => none
  | f + 1, i, j, o, t =>
    if i < L then
      if j < n then
        if t j || !ok i j then plF ok L n f i (j + 1) o t
        else if o j = -1 then some (true, fset o j i, fset t j true)
        else if o j < 0 then none
        else match plF ok L n f (o j).toNat 0 o (fset t j true) with
          | none => none
          | some (true, o', t') => some (true, fset o' j i, t')
          | some (false, o', t') => plF ok L n f i (j + 1) o' t'
      else some (false, o, t)
    else none
/-- One left glove after another, each with nothing tried. -/
def lgF (ok : Nat → Nat → Bool) (L n fu : Nat) : Nat → Nat → (Nat → Int) → Option (Nat → Int)
  | 0, _, o => some o
  | m + 1, i, o => match plF ok L n fu i 0 o (fun _ => false) with
    | none => none
    | some (_, o', _) => lgF ok L n fu m (i + 1) o'

end Go.Proofs.Ytchhadkmemckbab

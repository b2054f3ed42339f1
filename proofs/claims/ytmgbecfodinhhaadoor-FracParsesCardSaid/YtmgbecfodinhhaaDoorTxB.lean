/- Texts of fractions: what is read back, what a parser may answer. -/
import Derived.Test.YtmgbecfodinhhaaDoorBackA
import Derived.Test.YtmgbecfodinhhaaDoorTxA
namespace Go.Proofs.YtmgbecfodinhhaaDoor
open Go.RowKit Go.Lib

theorem VF.whole {n d : Int} (h : VF n d) : n.natAbs % d.natAbs = 0 → d.natAbs = 1 := by
  intro h0
  have := h.g
  rw [Nat.gcd_comm, Nat.gcd_rec, h0, Nat.gcd_zero_left] at this
  exact this

/-- The fraction that the program's read makes out of a text, ahead of New. -/
def readS (l : List UInt8) : Option (Int × Int) :=
  match partS (piecesS (signS l).2).1, partS (piecesS (signS l).2).2.1, partS (piecesS (signS l).2).2.2 with
  | some w, some u, some v => some (if (signS l).1 = true then -((w : Int) * v + u) else (w : Int) * v + u, (v : Int))
  | _, _, _ => none

theorem pieces_print {n d : Int} (h : VF n d) : ∃ w u v : Nat, piecesS (signS (printS n d)).2 = (decDigits w, decDigits u, decDigits v) ∧ v = d.natAbs ∧ w * d.natAbs + u = n.natAbs ∧ w ≤ 1000000000 ∧ u ≤ 1000000000 ∧ v ≤ 1000000000 ∧ 1 ≤ v := by
  have := h.d1; have := h.d2; have := h.n1; have := h.n2
  obtain ⟨w, u, v, h1, h2, h3, h4, h5⟩ := pieces_mixed n.natAbs d.natAbs (by omega) h.whole
  refine ⟨w, u, v, ?_, h2, h3, by omega, by omega, by omega, by omega⟩
  rw [sign_print]
  exact h1

theorem read_print {n d : Int} (h : VF n d) : readS (printS n d) = some (n, d) := by
  have := h.d1; have := h.n1
  obtain ⟨w, u, v, h1, h2, h3, h4, h5, h6, h7⟩ := pieces_print h
  unfold readS
  rw [h1]
  simp only [part_dec h4, part_dec h5, part_dec h6]
  rw [sign_print]
  have e : (w : Int) * v + u = n.natAbs := by
    have : ((w * d.natAbs + u : Nat) : Int) = (n.natAbs : Int) := by rw [h3]
    rw [h2, ← this]; simp
  simp only [decide_eq_true_eq]
  rw [e, h2]
  by_cases hn : n < 0
  · rw [if_pos hn]
    have e1 : -(n.natAbs : Int) = n := by omega
    have e2 : (d.natAbs : Int) = d := by omega
    rw [e1, e2]
  · rw [if_neg hn]
    have e1 : (n.natAbs : Int) = n := by omega
    have e2 : (d.natAbs : Int) = d := by omega
    rw [e1, e2]

theorem newS_vf {n d : Int} (h : VF n d) : newS n d = (n, d, 0) := by
  have := h.d1
  rw [newS_else n (by omega), ansQ_yes h.rep, h.num.1, h.num.2]

theorem print_inj {n d n' d' : Int} (h : VF n d) (h' : VF n' d') (e : printS n d = printS n' d') : n = n' ∧ d = d' := by
  have h1 := read_print h
  rw [e, read_print h'] at h1
  simp only [Option.some.injEq, Prod.mk.injEq] at h1
  exact ⟨h1.1.symm, h1.2.symm⟩

/-- What a parser must answer: the fraction of which it is the text, or no form. -/
def ParQ (l : List UInt8) (x y z : Int) : Prop :=
  (∃ n d, VF n d ∧ l = printS n d ∧ x = n ∧ y = d ∧ z = 0) ∨ ((¬ ∃ n d, VF n d ∧ l = printS n d) ∧ x = 0 ∧ y = 0 ∧ z = 6)

theorem ParQ.same {l : List UInt8} {x y z x' y' z' : Int} (h : ParQ l x y z) (h' : ParQ l x' y' z') : x' = x ∧ y' = y ∧ z' = z := by
  rcases h with ⟨n, d, hv, hl, e1, e2, e3⟩ | ⟨hn, e1, e2, e3⟩
  · rcases h' with ⟨n', d', hv', hl', f1, f2, f3⟩ | ⟨hn', _, _, _⟩
    · obtain ⟨g1, g2⟩ := print_inj hv hv' (hl.symm.trans hl')
      omega
    · exact absurd ⟨n, d, hv, hl⟩ hn'
  · rcases h' with ⟨n', d', hv', hl', _, _, _⟩ | ⟨_, f1, f2, f3⟩
    · exact absurd ⟨n', d', hv', hl'⟩ hn
    · omega

theorem ParQ.yes {n d x y z : Int} (hv : VF n d) (h : ParQ (printS n d) x y z) : x = n ∧ y = d ∧ z = 0 := by
  rcases h with ⟨n', d', hv', hl', e1, e2, e3⟩ | ⟨hn', _, _, _⟩
  · obtain ⟨g1, g2⟩ := print_inj hv hv' hl'
    omega
  · exact absurd ⟨n, d, hv, rfl⟩ hn'

/-- Nothing was read: the text of no fraction. -/
theorem ParQ.none_ {l : List UInt8} (h : readS l = none) : ParQ l 0 0 6 :=
  .inr ⟨fun ⟨n, d, hv, hl⟩ => (by rw [hl, read_print hv] at h; cases h), rfl, rfl, rfl⟩

/-- What was read is no fraction. -/
theorem ParQ.bad {l : List UInt8} {p q a b c : Int} (h : readS l = some (p, q)) (hn : newS p q = (a, b, c)) (hc : c ≠ 0) : ParQ l 0 0 6 :=
  .inr ⟨fun ⟨n, d, hv, hl⟩ => (by
    rw [hl, read_print hv] at h
    simp only [Option.some.injEq, Prod.mk.injEq] at h
    obtain ⟨rfl, rfl⟩ := h
    rw [newS_vf hv] at hn
    simp only [Prod.mk.injEq] at hn
    exact hc hn.2.2.symm), rfl, rfl, rfl⟩

/-- What New gives is a fraction in lowest terms, where it gives no error. -/
theorem newS_ok {p q a b : Int} (hn : newS p q = (a, b, 0)) : VF a b := by
  by_cases hq : q = 0
  · rw [newS_zero p hq] at hn; simp at hn
  · rw [newS_else p hq] at hn
    by_cases hr : Rep (qof p q)
    · rw [ansQ_yes hr] at hn
      simp only [Prod.mk.injEq] at hn
      obtain ⟨rfl, rfl, -⟩ := hn
      exact hr.vf
    · rw [ansQ_no hr] at hn; simp at hn

/-- What was read is printed otherwise. -/
theorem ParQ.other {l : List UInt8} {p q a b : Int} (h : readS l = some (p, q)) (hn : newS p q = (a, b, 0)) (hc : printS a b ≠ l) : ParQ l 0 0 6 :=
  .inr ⟨fun ⟨n, d, hv, hl⟩ => (by
    rw [hl, read_print hv] at h
    simp only [Option.some.injEq, Prod.mk.injEq] at h
    obtain ⟨rfl, rfl⟩ := h
    rw [newS_vf hv] at hn
    simp only [Prod.mk.injEq] at hn
    obtain ⟨rfl, rfl, -⟩ := hn
    exact hc hl.symm), rfl, rfl, rfl⟩

theorem ParQ.good {l : List UInt8} {a b : Int} (hv : VF a b) (hc : printS a b = l) : ParQ l a b 0 := .inl ⟨a, b, hv, hc.symm, rfl, rfl, rfl⟩

/-- A fraction printed, or nothing and an error. -/
noncomputable def printT (n d : Int) : List UInt8 × Int := if vfB n d = true then (printS n d, 0) else ([], 2)
theorem printT_yes {n d : Int} (h : vfB n d = true) : printT n d = (printS n d, 0) := by unfold printT; rw [if_pos h]
theorem printT_no {n d : Int} (h : vfB n d = false) : printT n d = ([], 2) := by unfold printT; rw [if_neg (by rw [h]; decide)]

end Go.Proofs.YtmgbecfodinhhaaDoor

/- FracBack: the arithmetic. -/
import Derived.Test.YtmgbecfodinhhaaDoorOne
namespace Go.Proofs.YtmgbecfodinhhaaDoor

theorem ansQ_ok {q : Rat} {a b : Int} (h : ansQ q = (a, b, 0)) : Rep q ∧ a = q.num ∧ b = (q.den : Int) := by
  by_cases hr : Rep q
  · rw [ansQ_yes hr] at h; simp at h; exact ⟨hr, h.1.symm, h.2.symm⟩
  · rw [ansQ_no hr] at h; simp at h

theorem Rep.vf {q : Rat} (h : Rep q) : VF q.num (q.den : Int) := ⟨by have := q.den_pos; omega, by have := h.d; omega, by have := h.n; omega, by have := h.n; omega, by have := q.reduced; rw [Nat.coprime_iff_gcd_eq_one] at this; simpa using this⟩

theorem qof_self (q : Rat) : qof q.num (q.den : Int) = q := by
  unfold qof
  have h1 := Rat.num_divInt_den q
  rw [Rat.divInt_eq_div] at h1
  simpa using h1

theorem VF.ans {n d : Int} (h : VF n d) : ansQ (qof n d) = (n, d, 0) := by rw [ansQ_yes h.rep, h.num.1, h.num.2]

theorem opS_ok {n1 d1 n2 d2 x0 x1 : Int} {q : Rat} (h : opS n1 d1 n2 d2 q = (x0, x1, 0)) : VF n1 d1 ∧ VF n2 d2 ∧ VF x0 x1 ∧ qof x0 x1 = q := by
  by_cases hv : VF n1 d1 ∧ VF n2 d2
  · rw [opS_yes hv.1 hv.2] at h
    obtain ⟨hr, rfl, rfl⟩ := ansQ_ok h
    exact ⟨hv.1, hv.2, hr.vf, qof_self q⟩
  · rw [opS_no hv] at h; simp at h

theorem add_back {n1 d1 n2 d2 x0 x1 y0 y1 y2 : Int} (h : opS n1 d1 n2 d2 (qof n1 d1 + qof n2 d2) = (x0, x1, 0)) (h' : opS x0 x1 n2 d2 (qof x0 x1 - qof n2 d2) = (y0, y1, y2)) : n1 = y0 ∧ d1 = y1 ∧ 0 = y2 := by
  obtain ⟨v1, v2, v3, e⟩ := opS_ok h
  rw [opS_yes v3 v2, e, show qof n1 d1 + qof n2 d2 - qof n2 d2 = qof n1 d1 by grind, v1.ans] at h'
  simp at h'; exact h'

theorem VF.ne {n d : Int} (h : VF n d) (hz : n ≠ 0) : qof n d ≠ 0 := fun e => hz (by have := h.num.1; rw [e] at this; exact this.symm)

theorem mul_back {n1 d1 n2 d2 x0 x1 y0 y1 y2 : Int} (h : opS n1 d1 n2 d2 (qof n1 d1 * qof n2 d2) = (x0, x1, 0)) (hz : n2 ≠ 0) (h' : divS x0 x1 n2 d2 = (y0, y1, y2)) : n1 = y0 ∧ d1 = y1 ∧ 0 = y2 := by
  obtain ⟨v1, v2, v3, e⟩ := opS_ok h
  have hq := v2.ne hz
  rw [divS_yes v3 v2 hz, e, show qof n1 d1 * qof n2 d2 / qof n2 d2 = qof n1 d1 by grind, v1.ans] at h'
  simp at h'; exact h'

theorem sub_sign {n1 d1 n2 d2 x0 x1 c e : Int} (h : opS n1 d1 n2 d2 (qof n1 d1 - qof n2 d2) = (x0, x1, 0)) (h' : cmpS n1 d1 n2 d2 = (c, e)) : 0 = e ∧ (c < 0 ↔ x0 < 0) ∧ (0 < c ↔ 0 < x0) := by
  obtain ⟨v1, v2, v3, hq⟩ := opS_ok h
  rw [cmpS_yes ⟨v1, v2⟩] at h'
  simp at h'
  refine ⟨h'.2, ?_⟩
  rw [← h'.1]
  have h0 : (qof x0 x1).num = x0 := v3.num.1
  rw [hq] at h0
  rw [← h0]
  have p1 : (qof n1 d1 - qof n2 d2).num < 0 ↔ qof n1 d1 < qof n2 d2 := by
    have : qof n1 d1 - qof n2 d2 < 0 ↔ qof n1 d1 < qof n2 d2 := by grind
    rw [← this, rat_neg_iff]
  have p2 : 0 < (qof n1 d1 - qof n2 d2).num ↔ qof n2 d2 < qof n1 d1 := by
    have : 0 < qof n1 d1 - qof n2 d2 ↔ qof n2 d2 < qof n1 d1 := by grind
    have h3 : 0 < qof n1 d1 - qof n2 d2 ↔ ¬ (qof n1 d1 - qof n2 d2 ≤ 0) := by grind
    rw [← this]
    have h4 : 0 < (qof n1 d1 - qof n2 d2).num ↔ (-(qof n1 d1 - qof n2 d2)).num < 0 := by rw [Rat.neg_num]; omega
    rw [h4, ← rat_neg_iff]
    constructor <;> intro h <;> grind
  rw [p1, p2]
  unfold ordQ
  by_cases a : qof n1 d1 < qof n2 d2
  · have b : ¬ qof n2 d2 < qof n1 d1 := by grind
    simp [a, b]
  · by_cases b : qof n2 d2 < qof n1 d1
    · simp [a, b]
    · simp [a, b]

theorem sub_signs {n1 d1 n2 d2 x0 x1 c e : Int} (h : opS n1 d1 n2 d2 (qof n1 d1 - qof n2 d2) = (x0, x1, 0)) (h' : cmpS n1 d1 n2 d2 = (c, e)) : 0 = e ∧ ((-1 = c ∧ x0 < 0 ∧ ¬ 0 < x0) ∨ (0 = c ∧ ¬ x0 < 0 ∧ ¬ 0 < x0) ∨ (1 = c ∧ ¬ x0 < 0 ∧ 0 < x0)) := by
  obtain ⟨he, h1, h2⟩ := sub_sign h h'
  refine ⟨he, ?_⟩
  obtain ⟨v1, v2, -, -⟩ := opS_ok h
  rw [cmpS_yes ⟨v1, v2⟩] at h'
  simp at h'
  have hc : c = -1 ∨ c = 0 ∨ c = 1 := by
    rw [← h'.1]; unfold ordQ
    split
    · exact .inl rfl
    · split
      · exact .inr (.inr rfl)
      · exact .inr (.inl rfl)
  omega

theorem neg_back {n1 d1 x0 x1 y0 y1 y2 : Int} (h : oneS n1 d1 (-n1) = (x0, x1, 0)) (h' : oneS x0 x1 (-x0) = (y0, y1, y2)) : n1 = y0 ∧ d1 = y1 ∧ 0 = y2 := by
  by_cases hv : VF n1 d1
  · rw [oneS_yes hv] at h; simp at h
    obtain ⟨rfl, rfl⟩ := h
    rw [oneS_yes hv.neg] at h'; simp at h'
    exact h'
  · rw [oneS_no hv] at h; simp at h

end Go.Proofs.YtmgbecfodinhhaaDoor

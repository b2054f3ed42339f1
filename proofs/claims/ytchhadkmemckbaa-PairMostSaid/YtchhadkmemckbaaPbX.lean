/- Pairs: how many pairs cost at most so much each; the least such cost (no program). -/
import Derived.Test.YtchhadkmemckbaaPbV
namespace Go.Proofs.Ytchhadkmemckbaa
open Go.RowKit
set_option linter.unusedSimpArgs false
set_option linter.unusedVariables false

theorem mtch_mono {ok ok2 : Nat → Nat → Bool} {L R : Nat} (h : ∀ i j, i < L → j < R → ok i j = true → ok2 i j = true) : cntO (lgO ok L R) R ≤ cntO (lgO ok2 L R) R :=
  Lrg.mono (lgO_spec ok L R).2.own (lgO_spec ok L R).2.inj (lgO_spec ok2 L R).2 h
theorem mtch_congr {ok ok2 : Nat → Nat → Bool} {L R : Nat} (h : ∀ i j, i < L → j < R → ok i j = ok2 i j) : cntO (lgO ok L R) R = cntO (lgO ok2 L R) R :=
  Int.le_antisymm (mtch_mono fun i j hi hj e => by rw [← h i j hi hj]; exact e) (mtch_mono fun i j hi hj e => by rw [h i j hi hj]; exact e)
theorem mtch_none {ok : Nat → Nat → Bool} {L R : Nat} (h : ∀ i j, i < L → j < R → ok i j = false) : cntO (lgO ok L R) R = 0 := by
  have hO := (lgO_spec ok L R).2.own
  have : ∀ n, n ≤ R → cntO (lgO ok L R) n = 0 := fun n => by
    induction n with
    | zero => intro; rfl
    | succ n ih =>
      intro hn
      unfold cntO
      rw [ih (by omega)]
      rcases hO n (by omega) with e | ⟨h0, h1, h2⟩
      · rw [if_pos e]; rfl
      · rw [h _ n (by omega) (by omega)] at h2; cases h2
  exact this R (Nat.le_refl _)
theorem okM_okG {C : Nat → Nat → Int} {c : Int} {i j : Nat} (h : -1 ≤ C i j) : okM C c i j = okG C c i j := by
  unfold okM okG
  congr 1
  by_cases e : C i j = -1
  · rw [e]; rfl
  · rw [decide_eq_true (by omega)]; simpa using e
/-- The pairs of a largest pairing whose pairs cost at most c each. -/
def mtf (C : Nat → Nat → Int) (L R : Nat) (c : Int) : Int := cntO (lgO (okG C c) L R) R
theorem mtf_okM {C : Nat → Nat → Int} {L R : Nat} (hC : ∀ i j, i < L → j < R → -1 ≤ C i j) (c : Int) : cntO (lgO (okM C c) L R) R = mtf C L R c :=
  mtch_congr fun i j hi hj => okM_okG (hC i j hi hj)
theorem mtf_mono {C : Nat → Nat → Int} {L R : Nat} {c d : Int} (h : c ≤ d) : mtf C L R c ≤ mtf C L R d := by
  refine mtch_mono fun i j _ _ e => ?_
  unfold okG at e ⊢
  simp only [Bool.and_eq_true, decide_eq_true_eq] at e ⊢
  omega
theorem mtf_top {C : Nat → Nat → Int} {L R : Nat} (hC : ∀ i j, i < L → j < R → C i j ≤ 4000000) {c : Int} (h : 4000000 ≤ c) : mtf C L R c = mtf C L R 4000000 := by
  refine mtch_congr fun i j hi hj => ?_
  have := hC i j hi hj
  unfold okG
  rw [decide_eq_true (show C i j ≤ c by omega), decide_eq_true (show C i j ≤ 4000000 from this)]
theorem mtf_nonneg (C : Nat → Nat → Int) (L R : Nat) (c : Int) : 0 ≤ mtf C L R c := (cntO_le _ R).1
/-- The least cost that allows as many pairs as all. -/
def IsEv (C : Nat → Nat → Int) (L R : Nat) (v : Int) : Prop := 0 ≤ v ∧ v ≤ 4000000 ∧ mtf C L R v = mtf C L R 4000000 ∧ ∀ c, 0 ≤ c → c < v → mtf C L R c ≠ mtf C L R 4000000
theorem IsEv.one {C : Nat → Nat → Int} {L R : Nat} {v v' : Int} (h : IsEv C L R v) (h' : IsEv C L R v') : v = v' := by
  obtain ⟨a1, -, a3, a4⟩ := h
  obtain ⟨b1, -, b3, b4⟩ := h'
  rcases Int.lt_trichotomy v v' with e | e | e
  · exact absurd a3 (b4 v a1 e)
  · exact e
  · exact absurd b3 (a4 v' b1 e)
theorem least_nat (P : Nat → Prop) (n : Nat) (h : P n) : ∃ m, m ≤ n ∧ P m ∧ ∀ k, k < m → ¬ P k := by
  induction n using Nat.strongRecOn with
  | _ n ih =>
    by_cases hk : ∃ k, k < n ∧ P k
    · obtain ⟨k, hk, hp⟩ := hk
      obtain ⟨m, h1, h2, h3⟩ := ih k hk hp
      exact ⟨m, by omega, h2, h3⟩
    · exact ⟨n, Nat.le_refl _, h, fun k hk2 hp => hk ⟨k, hk2, hp⟩⟩
theorem IsEv.ex (C : Nat → Nat → Int) (L R : Nat) : ∃ v, IsEv C L R v := by
  obtain ⟨m, h1, h2, h3⟩ := least_nat (fun c => mtf C L R c = mtf C L R 4000000) 4000000 rfl
  refine ⟨m, by omega, by omega, h2, fun c h0 hc e => ?_⟩
  obtain ⟨k, rfl⟩ := Int.eq_ofNat_of_zero_le h0
  exact h3 k (by omega) e
/-- Where there is a pair, it is the cost of one. -/
theorem IsEv.cost {C : Nat → Nat → Int} {L R : Nat} {v : Int} (h : IsEv C L R v) (hp : 0 < mtf C L R 4000000) : ∃ i j, i < L ∧ j < R ∧ C i j = v := by
  obtain ⟨h0, h1, h2, h3⟩ := h
  refine Classical.byContradiction fun hn => ?_
  have hne : ∀ i j, i < L → j < R → C i j ≠ v := fun i j hi hj e => hn ⟨i, j, hi, hj, e⟩
  by_cases hv : v = 0
  · subst hv
    have : mtf C L R 0 = 0 := mtch_none fun i j hi hj => by
      have := hne i j hi hj
      unfold okG
      simp only [Bool.and_eq_false_iff, decide_eq_false_iff_not]
      omega
    omega
  · have : mtf C L R (v - 1) = mtf C L R v := mtch_congr fun i j hi hj => by
      have := hne i j hi hj
      unfold okG
      congr 1
      by_cases e : C i j ≤ v
      · rw [decide_eq_true e, decide_eq_true (by omega)]
      · rw [decide_eq_false e, decide_eq_false (by omega)]
    exact h3 (v - 1) (by omega) (by omega) (this.trans h2)
/-- The least of the costs seen so far (i rows, and j of the next) that allow as many pairs as all; -1: there is none. -/
def Sofar (C : Nat → Nat → Int) (L R : Nat) (i j : Nat) (b : Int) : Prop :=
  (b = -1 ∨ (0 ≤ b ∧ (∃ x y, x < L ∧ y < R ∧ C x y = b) ∧ mtf C L R b = mtf C L R 4000000)) ∧
  ∀ x y, y < R → (x < i ∨ (x = i ∧ y < j)) → 0 ≤ C x y → mtf C L R (C x y) = mtf C L R 4000000 → b ≠ -1 ∧ b ≤ C x y
theorem Sofar.start (C : Nat → Nat → Int) (L R : Nat) : Sofar C L R 0 0 (-1) := ⟨.inl rfl, fun x y _ h => by omega⟩
theorem Sofar.row {C : Nat → Nat → Int} {L R i : Nat} {b : Int} (h : Sofar C L R i R b) : Sofar C L R (i + 1) 0 b := ⟨h.1, fun x y hy hx => h.2 x y hy (by omega)⟩
theorem Sofar.skip {C : Nat → Nat → Int} {L R i j : Nat} {b : Int} (h : Sofar C L R i j b) (hs : C i j < 0 ∨ (0 ≤ b ∧ b ≤ C i j) ∨ mtf C L R (C i j) ≠ mtf C L R 4000000) : Sofar C L R i (j + 1) b := by
  refine ⟨h.1, fun x y hy hx h0 hm => ?_⟩
  by_cases e : x = i ∧ y = j
  · obtain ⟨rfl, rfl⟩ := e
    rcases hs with hs | hs | hs
    · omega
    · omega
    · exact absurd hm hs
  · exact h.2 x y hy (by omega) h0 hm
theorem Sofar.take {C : Nat → Nat → Int} {L R i j : Nat} {b : Int} (h : Sofar C L R i j b) (hi : i < L) (hj : j < R) (h0 : 0 ≤ C i j) (hb : b < 0 ∨ C i j < b) (hm : mtf C L R (C i j) = mtf C L R 4000000) : Sofar C L R i (j + 1) (C i j) := by
  refine ⟨.inr ⟨h0, ⟨i, j, hi, hj, rfl⟩, hm⟩, fun x y hy hx k0 km => ?_⟩
  by_cases e : x = i ∧ y = j
  · obtain ⟨rfl, rfl⟩ := e
    omega
  · have := h.2 x y hy (by omega) k0 km
    have hh := h.1
    omega
theorem Sofar.even {C : Nat → Nat → Int} {L R : Nat} {b : Int} (h : Sofar C L R L 0 b) (hC : ∀ i j, i < L → j < R → C i j ≤ 4000000) (hp : 0 < mtf C L R 4000000) : IsEv C L R b := by
  obtain ⟨v, hv⟩ := IsEv.ex C L R
  obtain ⟨i, j, hi, hj, e⟩ := hv.cost hp
  have h1 := h.2 i j hj (.inl hi) (by rw [e]; exact hv.1) (by rw [e]; exact hv.2.2.1)
  rcases h.1 with hb | ⟨hb, ⟨x, y, hx, hy, exy⟩, hm⟩
  · exact absurd hb h1.1
  · have : b = v := by
      rcases Int.lt_trichotomy b v with e2 | e2 | e2
      · exact absurd hm (hv.2.2.2 b hb e2)
      · exact e2
      · omega
    rw [this]
    exact hv
theorem IsEv.zero {C : Nat → Nat → Int} {L R : Nat} (hp : mtf C L R 4000000 = 0) : IsEv C L R 0 := by
  refine ⟨by omega, by omega, ?_, fun c h0 hc => by omega⟩
  have h1 := mtf_mono (C := C) (L := L) (R := R) (c := 0) (d := 4000000) (by omega)
  have h2 := mtf_nonneg C L R 0
  omega

end Go.Proofs.Ytchhadkmemckbaa

/- Pairs: greater limits allow as many pairs at least (no program). -/
import Derived.Test.YtchhadkmemckbaaPbU
namespace Go.Proofs.Ytchhadkmemckbaa
open Go.RowKit
set_option linter.unusedSimpArgs false
set_option linter.unusedVariables false

theorem inTo_mono {a b m m' : Gl} (h : ∀ k, k < 4 → gn m k ≤ gn m' k) : ∀ n, n ≤ 4 → inTo a b m n = true → inTo a b m' n = true
  | 0, _, _ => rfl
  | n + 1, hn, hi => by
    unfold inTo at hi ⊢
    simp only [Bool.and_eq_true, decide_eq_true_eq] at hi ⊢
    have := h n (by omega)
    exact ⟨inTo_mono h n (by omega) hi.1, by omega⟩
theorem costB_mono {a b : Gl} {v m m' : Gl} (h : ∀ k, k < 4 → gn m k ≤ gn m' k) (hc : costB a b (v, m) ≠ -1) : costB a b (v, m') = costB a b (v, m) := by
  unfold costB at hc ⊢
  by_cases hi : inTo a b m 4 = true
  · rw [if_pos hi, if_pos (inTo_mono h 4 (by omega) hi)]
  · rw [if_neg hi] at hc; exact absurd rfl hc
theorem mstE_mono {ls rs : List Gl} {v m m' : Gl} (h : ∀ k, k < 4 → gn m k ≤ gn m' k) (h1 : sidB ls = true) (h2 : sidB rs = true) (h3 : ruB (v, m) = true) (h4 : ruB (v, m') = true) : (mstE ls rs (v, m)).1 ≤ (mstE ls rs (v, m')).1 ∧ (mstE ls rs (v, m)).2 = 0 ∧ (mstE ls rs (v, m')).2 = 0 := by
  unfold mstE
  rw [if_pos (by simp [h1, h2, h3]), if_pos (by simp [h1, h2, h4])]
  refine ⟨?_, rfl, rfl⟩
  obtain ⟨-, a⟩ := lgO_spec (okM (cosT ls rs (v, m)) 4000000) ls.length rs.length
  obtain ⟨-, b⟩ := lgO_spec (okM (cosT ls rs (v, m')) 4000000) ls.length rs.length
  refine Lrg.mono a.own a.inj b fun i j hi hj hok => ?_
  unfold okM at hok ⊢
  simp only [Bool.and_eq_true, bne_iff_ne, ne_eq, decide_eq_true_eq] at hok ⊢
  have e : cosT ls rs (v, m') i j = cosT ls rs (v, m) i j := costB_mono h hok.1
  rw [e]
  exact hok
theorem mstE_bad {ls rs : List Gl} {u : Ru} (h : (sidB ls && sidB rs && ruB u) = false) : mstE ls rs u = (0, 2) := by
  unfold mstE
  rw [if_neg (by rw [h]; simp)]
theorem ruB_max {v m : Gl} {M : Int} (h : ruB (v, m) = true) (h0 : 0 ≤ M) (h1 : M ≤ 1000) : ruB (v, (max m.1 M, max m.2.1 M, max m.2.2.1 M, max m.2.2.2 M)) = true ∧ ∀ k, k < 4 → gn m k ≤ gn (max m.1 M, max m.2.1 M, max m.2.2.1 M, max m.2.2.2 M) k := by
  unfold ruB at h ⊢
  rw [Bool.and_eq_true] at h ⊢
  refine ⟨⟨h.1, okB_iff.2 fun k hk => ?_⟩, fun k hk => ?_⟩
  · have := okB_iff.1 h.2 k hk
    match k, hk with
    | 0, _ => simp only [gn] at this ⊢; omega
    | 1, _ => simp only [gn] at this ⊢; omega
    | 2, _ => simp only [gn] at this ⊢; omega
    | 3, _ => simp only [gn] at this ⊢; omega
  · match k, hk with
    | 0, _ => simp only [gn]; omega
    | 1, _ => simp only [gn]; omega
    | 2, _ => simp only [gn]; omega
    | 3, _ => simp only [gn]; omega

end Go.Proofs.Ytchhadkmemckbaa

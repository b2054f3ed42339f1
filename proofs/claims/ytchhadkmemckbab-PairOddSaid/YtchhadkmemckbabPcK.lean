/- Pairs: no matching has more pairs than the odd classes allow (no program). -/
import Derived.Test.YtchhadkmemckbabPcJ
namespace Go.Proofs.Ytchhadkmemckbab
open Go.RowKit
set_option linter.unusedSimpArgs false
set_option linter.unusedVariables false

theorem upF_len {n : Nat} : ∀ {kb : List Int} {b : Int}, upF n b kb = true → -1 ≤ b → b < n → (kb.length : Int) ≤ n - (b + 1)
  | [], b, _, h, h2 => by simp; omega
  | x :: t, b, h, hb, h2 => by
    unfold upF at h
    split at h
    · cases h
    · rename_i hx
      have := upF_len h (by omega) (by omega)
      simp only [List.length_cons]
      omega
theorem pg_mtg {C : Nat → Nat → Int} {L : Nat} {mm : List Int} : ∀ (t : List Int) (i : Nat) (n n' : Int), t = mm.drop i → i ≤ mm.length → pgF C L mm t i n = some n' →
    (∀ k, i ≤ k → k < mm.length → (mm.getD k 0 = -1 ∨ (0 ≤ mm.getD k 0 ∧ mm.getD k 0 < L ∧ C k (mm.getD k 0).toNat ≠ -1 ∧ mm.getD (mm.getD k 0).toNat 0 = k))) ∧ n' + cntN (fun k => mm.getD k 0) mm.length = n + (mm.length - i) + cntN (fun k => mm.getD k 0) i
  | [], i, n, n', ht, hi, h => by
    have : i = mm.length := by
      have := congrArg List.length ht
      rw [List.length_drop] at this
      simp at this
      omega
    subst this
    simp only [pgF, Option.some.injEq] at h
    subst h
    exact ⟨fun k h1 h2 => by omega, by omega⟩
  | j :: t, i, n, n', ht, hi, h => by
    have hlt : i < mm.length := by
      have := congrArg List.length ht
      rw [List.length_drop] at this
      simp at this
      omega
    rw [List.drop_eq_getElem_cons hlt] at ht
    injection ht with hj ht
    have hg : mm.getD i 0 = j := by rw [hj, List.getD_eq_getElem?_getD, List.getElem?_eq_getElem hlt]; rfl
    have hcn : cntN (fun k => mm.getD k 0) (i + 1) = cntN (fun k => mm.getD k 0) i + (if j = -1 then 1 else 0) := by
      show cntN _ i + (if mm.getD i 0 = -1 then 1 else 0) = _
      rw [hg]
    unfold pgF at h
    split at h
    · rename_i h1
      obtain ⟨a1, a2⟩ := pg_mtg t (i + 1) n n' ht (by omega) h
      rw [if_pos h1] at hcn
      refine ⟨fun k hk hkl => ?_, by rw [hcn] at a2; omega⟩
      by_cases e : k = i
      · subst e; exact .inl (by rw [hg]; exact h1)
      · exact a1 k (by omega) hkl
    · rename_i h1
      split at h
      · rename_i h2
        obtain ⟨a1, a2⟩ := pg_mtg t (i + 1) (n + 1) n' ht (by omega) h
        rw [if_neg h1] at hcn
        refine ⟨fun k hk hkl => ?_, by rw [hcn] at a2; omega⟩
        by_cases e : k = i
        · subst e; exact .inr (by rw [hg]; exact h2)
        · exact a1 k (by omega) hkl
      · cases h
/-- Weak duality of barriers. -/
theorem odd_pairs {hs : List Gl} {u : Ru} {kb m : List Int} {d n2 : Int} (h : OdA hs u kb d 0) (hp : pairE hs u m = (n2, 0)) : 2 * n2 ≤ (hs.length : Int) + kb.length - d ∧ (hs.length : Int) ≤ 32 ∧ (kb.length : Int) ≤ 32 ∧ (0 ≤ d ∧ d ≤ 32) ∧ (0 ≤ n2 ∧ n2 ≤ 32) := by
  unfold OdA at h
  split at h
  · rename_i h0
    obtain ⟨-, r, rfl, hod⟩ := h
    simp only [Bool.and_eq_true] at h0
    obtain ⟨⟨h1, h3⟩, hup⟩ := h0
    have n1 : hs.length ≤ 32 := by unfold sidB at h1; simp at h1; omega
    have hkb := upF_len hup (by omega) (by omega)
    unfold pairE at hp
    rw [if_pos (by simp [h1, h3])] at hp
    split at hp
    · rename_i hml
      split at hp
      · rename_i n' hn'
        simp only [Prod.mk.injEq, and_true] at hp
        subst hp
        obtain ⟨a1, a2⟩ := pg_mtg m 0 0 n' (by simp) (by omega) hn'
        have hb := pg_bound m 0 0 n' hn' (by omega) (by omega)
        have hM : Mtg (eH hs u) hs.length (fun k => m.getD k 0) := fun i hi => by
          rcases a1 i (by omega) (by omega) with c | ⟨c1, c2, c3, c4⟩
          · exact .inl c
          · exact .inr ⟨c1, c2, by unfold eH; simpa using c3, c4⟩
        have hE : ∀ v, eH hs u v v = false := fun v => by unfold eH dgF; simp
        have hr := Ods.bound (b := bsF kb) hE hM hod (fun v hv => hv) (fun v h1 h2 => by rw [h1] at h2; cases h2) (Nat.zero_le _)
        have hbc := bad_count (b := bsF kb) (kb := kb) hM (fun v hv => by unfold bsF at hv; simpa using hv)
        have hz : cntN (fun k => m.getD k 0) 0 = 0 := rfl
        have hle := hod.le
        rw [hml] at a2
        rw [Int.tdiv_eq_ediv_of_nonneg hb.1]
        omega
      · cases hp
    · cases hp
  · omega

end Go.Proofs.Ytchhadkmemckbab

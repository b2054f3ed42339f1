/- Pairs: the placer finds a largest pairing, and what is tried from the gloves without a partner is a cover (no program). -/
import Derived.Test.YtchhadkmemckbabPaS
import Derived.Test.YtchhadkmemckbabPaH
namespace Go.Proofs.Ytchhadkmemckbab
open Go.RowKit
set_option linter.unusedSimpArgs false
set_option linter.unusedVariables false

/-- The ways that a placer's walk goes on. -/
theorem plF_cases {ok : Nat → Nat → Bool} {L n f i j : Nat} {o : Nat → Int} {t : Nat → Bool} {b : Bool} {o' : Nat → Int} {t' : Nat → Bool} (h : plF ok L n (f + 1) i j o t = some (b, o', t')) :
    i < L ∧ ((n ≤ j ∧ b = false ∧ o' = o ∧ t' = t) ∨
      (j < n ∧ (t j = true ∨ ok i j = false) ∧ plF ok L n f i (j + 1) o t = some (b, o', t')) ∨
      (j < n ∧ t j = false ∧ ok i j = true ∧ o j = -1 ∧ b = true ∧ o' = fset o j i ∧ t' = fset t j true) ∨
      (j < n ∧ t j = false ∧ ok i j = true ∧ 0 ≤ o j ∧ ∃ o1 t1, plF ok L n f (o j).toNat 0 o (fset t j true) = some (true, o1, t1) ∧ b = true ∧ o' = fset o1 j i ∧ t' = t1) ∨
      (j < n ∧ t j = false ∧ ok i j = true ∧ 0 ≤ o j ∧ ∃ o1 t1, plF ok L n f (o j).toNat 0 o (fset t j true) = some (false, o1, t1) ∧ plF ok L n f i (j + 1) o1 t1 = some (b, o', t'))) := by
  unfold plF at h
  split at h
  · rename_i hi
    refine ⟨hi, ?_⟩
    split at h
    · rename_i hj
      split at h
      · rename_i hto
        refine .inr (.inl ⟨hj, ?_, h⟩)
        simpa using hto
      · rename_i hto
        have ht2 : t j = false ∧ ok i j = true := by simpa using hto
        split at h
        · rename_i ho
          simp only [Option.some.injEq, Prod.mk.injEq] at h
          obtain ⟨rfl, rfl, rfl⟩ := h
          exact .inr (.inr (.inl ⟨hj, ht2.1, ht2.2, ho, rfl, rfl, rfl⟩))
        · split at h
          · simp at h
          · split at h
            · simp at h
            · rename_i o1 t1 h1
              simp only [Option.some.injEq, Prod.mk.injEq] at h
              obtain ⟨rfl, rfl, rfl⟩ := h
              exact .inr (.inr (.inr (.inl ⟨hj, ht2.1, ht2.2, by omega, o1, _, h1, rfl, rfl, rfl⟩)))
            · rename_i o1 t1 h1
              exact .inr (.inr (.inr (.inr ⟨hj, ht2.1, ht2.2, by omega, o1, t1, h1, h⟩)))
    · simp only [Option.some.injEq, Prod.mk.injEq] at h
      obtain ⟨rfl, rfl, rfl⟩ := h
      exact .inl ⟨by omega, rfl, rfl, rfl⟩
  · simp at h

/-- Where none is found nothing is changed; all that i and the owners of those newly tried may have is tried, and none of it is free. -/
theorem plF_fail {ok : Nat → Nat → Bool} {L n : Nat} : ∀ (f i j : Nat) (o : Nat → Int) (t : Nat → Bool) (o' : Nat → Int) (t' : Nat → Bool), plF ok L n f i j o t = some (false, o', t') →
    o' = o ∧ (∀ k, t k = true → t' k = true) ∧ (∀ k, j ≤ k → k < n → ok i k = true → t' k = true) ∧ (∀ k, t' k = true → t k = false → k < n ∧ 0 ≤ o k ∧ ∀ m, m < n → ok (o k).toNat m = true → t' m = true)
  | 0, _, _, _, _, _, _, h => by simp [plF] at h
  | f + 1, i, j, o, t, o', t', h => by
    obtain ⟨hi, h | h | h | h | h⟩ := plF_cases h
    · obtain ⟨hj, -, rfl, rfl⟩ := h
      exact ⟨rfl, fun k hk => hk, fun k h1 h2 => by omega, fun k h1 h2 => by rw [h1] at h2; cases h2⟩
    · obtain ⟨hj, hto, h⟩ := h
      obtain ⟨e, h1, h2, h3⟩ := plF_fail f i (j + 1) o t o' t' h
      refine ⟨e, h1, fun k hk hkn hok => ?_, h3⟩
      by_cases ek : k = j
      · subst ek
        rcases hto with ht | ht
        · exact h1 k ht
        · rw [ht] at hok; cases hok
      · exact h2 k (by omega) hkn hok
    · obtain ⟨-, -, -, -, hb, -⟩ := h; cases hb
    · obtain ⟨-, -, -, -, o1, t1, -, hb, -⟩ := h; cases hb
    · obtain ⟨hj, htj, hok, hoj, o1, t1, hr, hz⟩ := h
      obtain ⟨rfl, a1, a2, a3⟩ := plF_fail f _ 0 o _ o1 t1 hr
      obtain ⟨e, b1, b2, b3⟩ := plF_fail f i (j + 1) o1 t1 o' t' hz
      have hj1 : t1 j = true := a1 j (by unfold fset; rw [if_pos rfl])
      have ht1 : ∀ k, t k = true → t1 k = true := fun k hk => a1 k (by unfold fset; split <;> simp [hk])
      refine ⟨e, fun k hk => b1 k (ht1 k hk), fun k hk hkn hok2 => ?_, fun k hk hkt => ?_⟩
      · by_cases ek : k = j
        · subst ek; exact b1 k hj1
        · exact b2 k (by omega) hkn hok2
      · by_cases hk1 : t1 k = true
        · by_cases ek : k = j
          · subst ek
            exact ⟨hj, hoj, fun m hm hom => b1 m (a2 m (Nat.zero_le _) hm hom)⟩
          · obtain ⟨c1, c2, c3⟩ := a3 k hk1 (by unfold fset; rw [if_neg ek]; exact hkt)
            exact ⟨c1, c2, fun m hm hom => b1 m (c3 m hm hom)⟩
        · exact b3 k hk (by simpa using hk1)

/-- A set of right gloves that are all owned, and with whose owners none else is allowed. -/
def Shut (ok : Nat → Nat → Bool) (n : Nat) (o : Nat → Int) (T : Nat → Prop) : Prop := ∀ k, T k → 0 ≤ o k ∧ ∀ m, m < n → ok (o k).toNat m = true → T m
/-- From such a set there is no way out. -/
theorem plF_shut {ok : Nat → Nat → Bool} {L n : Nat} {T : Nat → Prop} : ∀ (f i j : Nat) (o : Nat → Int) (t : Nat → Bool) (b : Bool) (o' : Nat → Int) (t' : Nat → Bool), plF ok L n f i j o t = some (b, o', t') → Shut ok n o T → (∀ k, j ≤ k → k < n → ok i k = true → T k) → b = false
  | 0, _, _, _, _, _, _, _, h, _, _ => by simp [plF] at h
  | f + 1, i, j, o, t, b, o', t', h, hS, hN => by
    obtain ⟨hi, h | h | h | h | h⟩ := plF_cases h
    · exact h.2.1
    · exact plF_shut f i (j + 1) o t b o' t' h.2.2 hS (fun k hk => hN k (by omega))
    · obtain ⟨hj, -, hok, ho, -⟩ := h
      have := (hS j (hN j (Nat.le_refl _) hj hok)).1
      omega
    · obtain ⟨hj, -, hok, ho, o1, t1, hr, -⟩ := h
      have := plF_shut f _ 0 o _ true o1 t1 hr hS (fun k _ hk hk2 => (hS j (hN j (Nat.le_refl _) hj hok)).2 k hk hk2)
      cases this
    · obtain ⟨hj, -, hok, ho, o1, t1, hr, hz⟩ := h
      have e := (plF_fail f _ 0 o _ o1 t1 hr).1
      subst e
      exact plF_shut f i (j + 1) o1 t1 b o' t' hz hS (fun k hk => hN k (by omega))
/-- What a walk changes is outside of it. -/
theorem plF_out {ok : Nat → Nat → Bool} {L n : Nat} {T : Nat → Prop} : ∀ (f i j : Nat) (o : Nat → Int) (t : Nat → Bool) (b : Bool) (o' : Nat → Int) (t' : Nat → Bool), plF ok L n f i j o t = some (b, o', t') → Shut ok n o T → ∀ k, T k → o' k = o k
  | 0, _, _, _, _, _, _, _, h, _, _, _ => by simp [plF] at h
  | f + 1, i, j, o, t, b, o', t', h, hS, k, hk => by
    obtain ⟨hi, h | h | h | h | h⟩ := plF_cases h
    · rw [h.2.2.1]
    · exact plF_out f i (j + 1) o t b o' t' h.2.2 hS k hk
    · obtain ⟨hj, -, hok, ho, -, rfl, -⟩ := h
      have := (hS k hk).1
      unfold fset
      rw [if_neg (by rintro rfl; omega)]
    · obtain ⟨hj, -, hok, ho, o1, t1, hr, -, rfl, -⟩ := h
      have := plF_out f _ 0 o _ true o1 t1 hr hS k hk
      unfold fset
      by_cases e : k = j
      · subst e
        have := plF_shut f _ 0 o _ true o1 t1 hr hS (fun m _ hm hm2 => (hS k hk).2 m hm hm2)
        cases this
      · rw [if_neg e]; exact this
    · obtain ⟨hj, -, hok, ho, o1, t1, hr, hz⟩ := h
      have e := (plF_fail f _ 0 o _ o1 t1 hr).1
      subst e
      exact plF_out f i (j + 1) o1 t1 b o' t' hz hS k hk

/-- A pairing: each owner is a left glove that is allowed. -/
def Own (ok : Nat → Nat → Bool) (L n : Nat) (o : Nat → Int) : Prop := ∀ j, j < n → o j = -1 ∨ (0 ≤ o j ∧ o j < L ∧ ok (o j).toNat j = true)
def Inj (n : Nat) (o : Nat → Int) : Prop := ∀ a b, a < n → b < n → o a = o b → o a ≠ -1 → a = b
/-- Where one is found: one glove more is owned. -/
theorem plF_cnt {ok : Nat → Nat → Bool} {L n : Nat} : ∀ (f i j : Nat) (o : Nat → Int) (t : Nat → Bool) (o' : Nat → Int) (t' : Nat → Bool), plF ok L n f i j o t = some (true, o', t') → cntO o' n = cntO o n + 1
  | 0, _, _, _, _, _, _, h => by simp [plF] at h
  | f + 1, i, j, o, t, o', t', h => by
    obtain ⟨hi, h | h | h | h | h⟩ := plF_cases h
    · cases h.2.1
    · exact plF_cnt f i (j + 1) o t o' t' h.2.2
    · obtain ⟨hj, -, hok, ho, -, rfl, -⟩ := h
      exact cntO_set ho n hj
    · obtain ⟨hj, -, hok, ho, o1, t1, hr, -, rfl, -⟩ := h
      have h1 := plF_cnt f _ 0 o _ o1 t1 hr
      have h2 := (plF_keep f _ 0 o _ true o1 t1 hr j (by unfold fset; rw [if_pos rfl])).1
      rw [← h1]
      have : ∀ m, cntO (fset o1 j (i : Int)) m = cntO o1 m := fun m => by
        induction m with
        | zero => rfl
        | succ m ih =>
          unfold cntO
          rw [ih]
          congr 1
          unfold fset
          by_cases e : m = j
          · subst e; rw [if_pos rfl, if_neg (by omega), if_neg (by omega)]
          · rw [if_neg e]
      exact this n
    · obtain ⟨hj, -, hok, ho, o1, t1, hr, hz⟩ := h
      have e := (plF_fail f _ 0 o _ o1 t1 hr).1
      subst e
      exact plF_cnt f i (j + 1) o1 t1 o' t' hz
/-- .. and it is a pairing still; owners are the old ones, and i. -/
theorem plF_own {ok : Nat → Nat → Bool} {L n : Nat} : ∀ (f i j : Nat) (o : Nat → Int) (t : Nat → Bool) (o' : Nat → Int) (t' : Nat → Bool), plF ok L n f i j o t = some (true, o', t') → Own ok L n o →
    Own ok L n o' ∧ (∀ k, k < n → o' k ≠ -1 → o' k = i ∨ ∃ m, m < n ∧ o m = o' k)
  | 0, _, _, _, _, _, _, h, _ => by simp [plF] at h
  | f + 1, i, j, o, t, o', t', h, hO => by
    obtain ⟨hi, h | h | h | h | h⟩ := plF_cases h
    · cases h.2.1
    · exact plF_own f i (j + 1) o t o' t' h.2.2 hO
    · obtain ⟨hj, -, hok, ho, -, rfl, -⟩ := h
      refine ⟨fun k hk => ?_, fun k hk => ?_⟩
      · unfold fset
        by_cases e : k = j
        · subst e; rw [if_pos rfl]; exact .inr ⟨by omega, by omega, by simpa using hok⟩
        · rw [if_neg e]; exact hO k hk
      · unfold fset
        by_cases e : k = j
        · subst e; rw [if_pos rfl]; exact fun _ => .inl rfl
        · rw [if_neg e]; exact fun _ => .inr ⟨k, hk, rfl⟩
    · obtain ⟨hj, -, hok, ho, o1, t1, hr, -, rfl, -⟩ := h
      obtain ⟨h1, h2⟩ := plF_own f _ 0 o _ o1 t1 hr hO
      refine ⟨fun k hk => ?_, fun k hk => ?_⟩
      · unfold fset
        by_cases e : k = j
        · subst e; rw [if_pos rfl]; exact .inr ⟨by omega, by omega, by simpa using hok⟩
        · rw [if_neg e]; exact h1 k hk
      · unfold fset
        by_cases e : k = j
        · subst e; rw [if_pos rfl]; exact fun _ => .inl rfl
        · rw [if_neg e]
          intro hne
          rcases h2 k hk hne with h3 | h3
          · exact .inr ⟨j, hj, by rw [h3]; omega⟩
          · exact .inr h3
    · obtain ⟨hj, -, hok, ho, o1, t1, hr, hz⟩ := h
      have e := (plF_fail f _ 0 o _ o1 t1 hr).1
      subst e
      exact plF_own f i (j + 1) o1 t1 o' t' hz hO
/-- .. in which no two gloves have the same owner, but the one that i had before. -/
theorem plF_inj {ok : Nat → Nat → Bool} {L n : Nat} : ∀ (f i j : Nat) (o : Nat → Int) (t : Nat → Bool) (o' : Nat → Int) (t' : Nat → Bool), plF ok L n f i j o t = some (true, o', t') → Own ok L n o → Inj n o → (∀ k, k < n → o k = i → t k = true) →
    ∀ a b, a < n → b < n → ¬ (t a = true ∧ o a = i) → ¬ (t b = true ∧ o b = i) → o' a = o' b → o' a ≠ -1 → a = b
  | 0, _, _, _, _, _, _, h, _, _, _ => by simp [plF] at h
  | f + 1, i, j, o, t, o', t', h, hO, hI, hT => by
    obtain ⟨hi, h | h | h | h | h⟩ := plF_cases h
    · cases h.2.1
    · exact plF_inj f i (j + 1) o t o' t' h.2.2 hO hI hT
    · obtain ⟨hj, htj, hok, ho, -, rfl, -⟩ := h
      intro a b ha hb na nb he hne
      unfold fset at he hne
      by_cases ea : a = j
      · by_cases eb : b = j
        · omega
        · exfalso
          rw [if_pos ea, if_neg eb] at he
          exact nb ⟨hT b hb he.symm, he.symm⟩
      · by_cases eb : b = j
        · exfalso
          rw [if_neg ea, if_pos eb] at he
          exact na ⟨hT a ha he, he⟩
        · rw [if_neg ea] at he hne
          rw [if_neg eb] at he
          exact hI a b ha hb he hne
    · obtain ⟨hj, htj, hok, ho, o1, t1, hr, -, rfl, -⟩ := h
      have hx : o j ≠ i := fun e => by have := hT j hj e; rw [htj] at this; cases this
      have hex : ((o j).toNat : Int) = o j := Int.toNat_of_nonneg ho
      have hk := plF_keep f _ 0 o _ true o1 t1 hr
      have h2 := (plF_own f _ 0 o _ o1 t1 hr hO).2
      have h1 := plF_inj f _ 0 o _ o1 t1 hr hO hI (fun k hk e => by
        have : k = j := hI k j hk hj (by omega) (by omega)
        unfold fset
        rw [if_pos this])
      have hjo : ∀ a, a < n → a ≠ j → ¬ (fset t j true a = true ∧ o a = ((o j).toNat : Int)) := fun a ha e h => e (hI a j ha hj (by omega) (by omega))
      have hw : ∀ b, b < n → b ≠ j → o1 b = i → t b = true ∧ o b = i := fun b hb e hbi => by
        rcases h2 b hb (by omega) with h3 | ⟨m, hm, h3⟩
        · omega
        · have hm2 := hT m hm (by omega)
          have hmj : m ≠ j := by rintro rfl; omega
          have h4 := (hk m (by unfold fset; rw [if_neg hmj]; exact hm2)).1
          have : b = m := h1 b m hb hm (hjo b hb e) (hjo m hm hmj) (by omega) (by omega)
          subst this
          exact ⟨hm2, by omega⟩
      intro a b ha hb na nb he hne
      unfold fset at he hne
      by_cases ea : a = j
      · by_cases eb : b = j
        · omega
        · exfalso
          rw [if_pos ea, if_neg eb] at he
          exact nb (hw b hb eb he.symm)
      · by_cases eb : b = j
        · exfalso
          rw [if_neg ea, if_pos eb] at he
          exact na (hw a ha ea he)
        · rw [if_neg ea] at he hne
          rw [if_neg eb] at he
          exact h1 a b ha hb (hjo a ha ea) (hjo b hb eb) he hne
    · obtain ⟨hj, htj, hok, ho, o1, t1, hr, hz⟩ := h
      obtain ⟨e, h1, -, -⟩ := plF_fail f _ 0 o _ o1 t1 hr
      subst e
      intro a b ha hb na nb he hne
      have hx : o1 j ≠ i := fun e => by have := hT j hj e; rw [htj] at this; cases this
      have key : ∀ a, a < n → o1 a = i → t a = true := hT
      exact plF_inj f i (j + 1) o1 t1 o' t' hz hO hI (fun k hk e => h1 k (by unfold fset; split <;> simp [hT k hk e])) a b ha hb (fun h => na ⟨hT a ha h.2, h.2⟩) (fun h => nb ⟨hT b hb h.2, h.2⟩) he hne

/-- The right gloves below n that are not tried. -/
def cntU (t : Nat → Bool) : Nat → Nat
  | 0 => 0
  | j + 1 => cntU t j + (if t j = true then 0 else 1)
theorem cntU_le {t t' : Nat → Bool} (h : ∀ k, t k = true → t' k = true) : ∀ n, cntU t' n ≤ cntU t n
  | 0 => Nat.le_refl _
  | n + 1 => by
    unfold cntU
    have := cntU_le h n
    have := h n
    split <;> split <;> first | omega | simp_all
theorem cntU_set {t : Nat → Bool} {j : Nat} (h : t j = false) : ∀ n, j < n → cntU (fset t j true) n + 1 = cntU t n
  | n + 1, hn => by
    unfold cntU
    by_cases e : j = n
    · subst e
      have e1 : cntU (fset t j true) j = cntU t j := by
        have : ∀ m, m ≤ j → cntU (fset t j true) m = cntU t m := fun m => by
          induction m with
          | zero => intro; rfl
          | succ m ih =>
            intro hm
            unfold cntU
            rw [ih (by omega)]
            have : fset t j true m = t m := by unfold fset; rw [if_neg (by omega)]
            rw [this]
        exact this j (Nat.le_refl _)
      rw [e1, h]
      simp [fset]
    · have e1 := cntU_set h n (by omega)
      have e2 : fset t j true n = t n := by unfold fset; rw [if_neg (fun h => e h.symm)]
      rw [e2]
      omega
/-- With fuel enough the walk ends. -/
theorem plF_some {ok : Nat → Nat → Bool} {L n : Nat} : ∀ (f i j : Nat) (o : Nat → Int) (t : Nat → Bool), Own ok L n o → i < L → cntU t n * (n + 1) + (n - j) + 1 ≤ f → ∃ b o' t', plF ok L n f i j o t = some (b, o', t')
  | 0, _, _, _, _, _, _, h => by omega
  | f + 1, i, j, o, t, hO, hi, h => by
    unfold plF
    rw [if_pos hi]
    by_cases hj : j < n
    · rw [if_pos hj]
      by_cases hto : (t j || !ok i j) = true
      · rw [if_pos hto]
        exact plF_some f i (j + 1) o t hO hi (by omega)
      · rw [if_neg hto]
        have ht2 : t j = false ∧ ok i j = true := by simpa using hto
        by_cases ho : o j = -1
        · rw [if_pos ho]
          exact ⟨_, _, _, rfl⟩
        · rw [if_neg ho]
          rcases hO j hj with h1 | ⟨h1, h2, -⟩
          · omega
          · rw [if_neg (by omega)]
            have hc := cntU_set ht2.1 n hj
            have hm : cntU t n * (n + 1) = cntU (fset t j true) n * (n + 1) + (n + 1) := by rw [← hc, Nat.succ_mul]
            obtain ⟨b, o1, t1, hr⟩ := plF_some f (o j).toNat 0 o (fset t j true) hO (by omega) (by omega)
            rw [hr]
            cases b with
            | true => exact ⟨_, _, _, rfl⟩
            | false =>
              obtain ⟨e, h3, -, -⟩ := plF_fail f _ 0 o _ o1 t1 hr
              subst e
              have h4 := cntU_le h3 n
              have h5 : cntU t1 n * (n + 1) ≤ cntU (fset t j true) n * (n + 1) := Nat.mul_le_mul_right _ h4
              exact plF_some f i (j + 1) o1 t1 hO hi (by omega)
    · rw [if_neg hj]
      exact ⟨_, _, _, rfl⟩
/-- Where one is found, i has a new place; what was owned stays owned. -/
theorem plF_has {ok : Nat → Nat → Bool} {L n : Nat} : ∀ (f i j : Nat) (o : Nat → Int) (t : Nat → Bool) (o' : Nat → Int) (t' : Nat → Bool), plF ok L n f i j o t = some (true, o', t') → ∃ k, k < n ∧ t k = false ∧ o' k = i
  | 0, _, _, _, _, _, _, h => by simp [plF] at h
  | f + 1, i, j, o, t, o', t', h => by
    obtain ⟨hi, h | h | h | h | h⟩ := plF_cases h
    · cases h.2.1
    · exact plF_has f i (j + 1) o t o' t' h.2.2
    · obtain ⟨hj, htj, hok, ho, -, rfl, -⟩ := h
      exact ⟨j, hj, htj, by unfold fset; rw [if_pos rfl]⟩
    · obtain ⟨hj, htj, hok, ho, o1, t1, hr, -, rfl, -⟩ := h
      exact ⟨j, hj, htj, by unfold fset; rw [if_pos rfl]⟩
    · obtain ⟨hj, htj, hok, ho, o1, t1, hr, hz⟩ := h
      obtain ⟨e, h1, -, -⟩ := plF_fail f _ 0 o _ o1 t1 hr
      subst e
      obtain ⟨k, hk, h2, h3⟩ := plF_has f i (j + 1) o1 t1 o' t' hz
      refine ⟨k, hk, ?_, h3⟩
      cases ht : t k with
      | false => rfl
      | true => rw [h1 k (by unfold fset; split <;> simp [ht])] at h2; cases h2
theorem plF_stay {ok : Nat → Nat → Bool} {L n : Nat} : ∀ (f i j : Nat) (o : Nat → Int) (t : Nat → Bool) (o' : Nat → Int) (t' : Nat → Bool), plF ok L n f i j o t = some (true, o', t') → ∀ k, k < n → o k ≠ -1 → ∃ m, m < n ∧ o' m = o k
  | 0, _, _, _, _, _, _, h => by simp [plF] at h
  | f + 1, i, j, o, t, o', t', h => by
    intro k hk hne
    obtain ⟨hi, h | h | h | h | h⟩ := plF_cases h
    · cases h.2.1
    · exact plF_stay f i (j + 1) o t o' t' h.2.2 k hk hne
    · obtain ⟨hj, htj, hok, ho, -, rfl, -⟩ := h
      refine ⟨k, hk, ?_⟩
      unfold fset
      rw [if_neg (by rintro rfl; exact hne ho)]
    · obtain ⟨hj, htj, hok, ho, o1, t1, hr, -, rfl, -⟩ := h
      have hkj := (plF_keep f _ 0 o _ true o1 t1 hr j (by unfold fset; rw [if_pos rfl])).1
      by_cases e : o k = o j
      · obtain ⟨m, hm, h1, h2⟩ := plF_has f _ 0 o _ o1 t1 hr
        have hmj : m ≠ j := by rintro rfl; unfold fset at h1; rw [if_pos rfl] at h1; cases h1
        exact ⟨m, hm, by unfold fset; rw [if_neg hmj, h2, e]; omega⟩
      · obtain ⟨m, hm, h1⟩ := plF_stay f _ 0 o _ o1 t1 hr k hk hne
        have hmj : m ≠ j := by rintro rfl; exact e (by omega)
        exact ⟨m, hm, by unfold fset; rw [if_neg hmj]; exact h1⟩
    · obtain ⟨hj, htj, hok, ho, o1, t1, hr, hz⟩ := h
      have e := (plF_fail f _ 0 o _ o1 t1 hr).1
      subst e
      exact plF_stay f i (j + 1) o1 t1 o' t' hz k hk hne

/-- Of the first i left gloves as many as possible are paired. -/
structure Lrg (ok : Nat → Nat → Bool) (L n i : Nat) (o : Nat → Int) : Prop where
  own : Own ok L n o
  inj : Inj n o
  lt : ∀ j, j < n → o j < i
  shut : ∃ T : Nat → Prop, Shut ok n o T ∧ ∀ x, x < i → (∀ j, j < n → o j ≠ x) → ∀ k, k < n → ok x k = true → T k
theorem Lrg.start (ok : Nat → Nat → Bool) (L n : Nat) : Lrg ok L n 0 fun _ => -1 :=
  ⟨fun j _ => .inl rfl, fun a b _ _ _ h => absurd rfl h, fun j _ => by omega, fun _ => False, fun k h => h.elim, fun x hx => by omega⟩
theorem Lrg.step {ok : Nat → Nat → Bool} {L n i fu : Nat} {o o' : Nat → Int} {t' : Nat → Bool} {b : Bool} (h : Lrg ok L n i o) (hi : i < L) (hp : plF ok L n fu i 0 o (fun _ => false) = some (b, o', t')) : Lrg ok L n (i + 1) o' := by
  obtain ⟨T, hS, hT⟩ := h.shut
  cases b with
  | false =>
    obtain ⟨rfl, -, h2, h3⟩ := plF_fail fu i 0 o _ o' t' hp
    refine ⟨h.own, h.inj, fun j hj => by have := h.lt j hj; omega, fun k => T k ∨ t' k = true, fun k hk => ?_, fun x hx hn k hk hok => ?_⟩
    · rcases hk with hk | hk
      · exact ⟨(hS k hk).1, fun m hm hom => .inl ((hS k hk).2 m hm hom)⟩
      · obtain ⟨h4, h5, h6⟩ := h3 k hk rfl
        exact ⟨h5, fun m hm hom => .inr (h6 m hm hom)⟩
    · by_cases e : x = i
      · subst e; exact .inr (h2 k (Nat.zero_le _) hk hok)
      · exact .inl (hT x (by omega) hn k hk hok)
  | true =>
    have h1 := plF_own fu i 0 o _ o' t' hp h.own
    refine ⟨h1.1, fun a b ha hb he hne => plF_inj fu i 0 o _ o' t' hp h.own h.inj (fun k hk e => by have := h.lt k hk; omega) a b ha hb (fun h => by cases h.1) (fun h => by cases h.1) he hne, fun j hj => ?_, T, fun k hk => ?_, fun x hx hn k hk hok => ?_⟩
    · by_cases hne : o' j = -1
      · omega
      · rcases h1.2 j hj hne with h2 | ⟨m, hm, h2⟩
        · omega
        · have := h.lt m hm; omega
    · have := plF_out fu i 0 o _ true o' t' hp hS k hk
      rw [this]
      exact hS k hk
    · by_cases e : x = i
      · subst e
        obtain ⟨m, hm, -, h2⟩ := plF_has fu x 0 o _ o' t' hp
        exact absurd h2 (hn m hm)
      · refine hT x (by omega) (fun j hj hj2 => ?_) k hk hok
        obtain ⟨m, hm, h2⟩ := plF_stay fu i 0 o _ o' t' hp j hj (by omega)
        exact hn m hm (by omega)
theorem Lrg.all {ok : Nat → Nat → Bool} {L n fu : Nat} : ∀ (m i : Nat) (o o' : Nat → Int), lgF ok L n fu m i o = some o' → Lrg ok L n i o → i + m ≤ L → Lrg ok L n (i + m) o'
  | 0, i, o, o', h, hL, _ => by
    unfold lgF at h
    simp only [Option.some.injEq] at h
    subst h
    exact hL
  | m + 1, i, o, o', h, hL, hm => by
    unfold lgF at h
    split at h
    · simp at h
    · rename_i b o1 t1 hp
      have := Lrg.all m (i + 1) o1 o' h (hL.step (by omega) hp) (by omega)
      rw [show i + (m + 1) = i + 1 + m by omega]
      exact this
/-- Fuel for n right gloves. -/
def fuelK (n : Nat) : Nat := n * (n + 1) + n + 1
theorem cntU_none (n : Nat) : cntU (fun _ => false) n = n := by
  induction n with
  | zero => rfl
  | succ n ih => unfold cntU; rw [ih]; simp
theorem cntU_max (t : Nat → Bool) (n : Nat) : cntU t n ≤ n := by
  have := cntU_le (t := fun _ => false) (t' := t) (by simp) n
  rw [cntU_none] at this
  exact this
theorem plF_any {ok : Nat → Nat → Bool} {L n i : Nat} {o : Nat → Int} {t : Nat → Bool} (hO : Own ok L n o) (hi : i < L) : ∃ b o' t', plF ok L n (fuelK n) i 0 o t = some (b, o', t') :=
  plF_some _ i 0 o t hO hi (by
    unfold fuelK
    have := Nat.mul_le_mul_right (n + 1) (cntU_max t n)
    omega)
theorem lgF_any {ok : Nat → Nat → Bool} {L n : Nat} : ∀ (m i : Nat) (o : Nat → Int), Lrg ok L n i o → i + m ≤ L → ∃ o', lgF ok L n (fuelK n) m i o = some o'
  | 0, i, o, _, _ => ⟨o, rfl⟩
  | m + 1, i, o, h, hm => by
    obtain ⟨b, o1, t1, hp⟩ := plF_any (t := fun _ => false) h.own (show i < L by omega)
    unfold lgF
    rw [hp]
    exact lgF_any m (i + 1) o1 (h.step (by omega) hp) (by omega)
/-- A largest pairing of a graph. -/
theorem large_any (ok : Nat → Nat → Bool) (L n : Nat) : ∃ o, lgF ok L n (fuelK n) L 0 (fun _ => -1) = some o ∧ Lrg ok L n L o := by
  obtain ⟨o, h⟩ := lgF_any L 0 (fun _ => -1) (Lrg.start ok L n) (by omega)
  have := Lrg.all L 0 _ o h (Lrg.start ok L n) (by omega)
  rw [Nat.zero_add] at this
  exact ⟨o, h, this⟩

theorem sub_len : ∀ (l1 l2 : List Nat), l1.Nodup → (∀ x ∈ l1, x ∈ l2) → l1.length ≤ l2.length
  | [], _, _, _ => Nat.zero_le _
  | a :: t, l2, hn, hs => by
    have ha := hs a (List.mem_cons_self ..)
    obtain ⟨h1, h2⟩ := List.pairwise_cons.1 hn
    have := sub_len t (l2.erase a) h2 (fun x hx => (List.mem_erase_of_ne (fun e => h1 x hx e.symm)).2 (hs x (List.mem_cons_of_mem _ hx)))
    have h3 := List.length_erase_of_mem ha
    have h4 := List.length_pos_of_mem ha
    simp only [List.length_cons]
    omega
def ownL (o : Nat → Int) (n : Nat) : List Nat := (List.range n).filter fun j => o j != -1
theorem ownL_len (o : Nat → Int) : ∀ n, ((ownL o n).length : Int) = cntO o n
  | 0 => rfl
  | n + 1 => by
    have ih := ownL_len o n
    unfold ownL at ih ⊢
    unfold cntO
    rw [List.range_succ, List.filter_append, List.length_append]
    by_cases h : o n = -1 <;> simp [h] <;> omega
theorem ownL_mem {o : Nat → Int} {n j : Nat} : j ∈ ownL o n ↔ j < n ∧ o j ≠ -1 := by
  unfold ownL; simp
/-- A graph with more pairs has a largest pairing that is as large at least. -/
theorem Lrg.mono {ok ok2 : Nat → Nat → Bool} {L n : Nat} {o o2 : Nat → Int} (h : Own ok L n o) (hi : Inj n o) (h2 : Lrg ok2 L n L o2) (hok : ∀ i j, i < L → j < n → ok i j = true → ok2 i j = true) : cntO o n ≤ cntO o2 n := by
  obtain ⟨T, hS, hT⟩ := h2.shut
  have hex : ∀ j, j ∈ ownL o n → ∃ k, k ∈ ownL o2 n ∧ ((T j ∧ k = j) ∨ (¬ T j ∧ ¬ T k ∧ o2 k = o j)) := fun j hj => by
    obtain ⟨hjn, hne⟩ := ownL_mem.1 hj
    by_cases ht : T j
    · exact ⟨j, ownL_mem.2 ⟨hjn, by have := (hS j ht).1; omega⟩, .inl ⟨ht, rfl⟩⟩
    · rcases h j hjn with h3 | ⟨h3, h4, h5⟩
      · exact absurd h3 hne
      · have h6 := hok _ j (by omega) hjn h5
        by_cases hk : ∃ k, k < n ∧ o2 k = o j
        · obtain ⟨k, hk, e⟩ := hk
          refine ⟨k, ownL_mem.2 ⟨hk, by omega⟩, .inr ⟨ht, fun hk2 => ht ?_, e⟩⟩
          exact (hS k hk2).2 j hjn (by rw [e]; exact h6)
        · exact absurd (hT (o j).toNat (by omega) (fun k hk2 e => hk ⟨k, hk2, by omega⟩) j hjn h6) ht
  have hN : (ownL o n).Nodup := List.Pairwise.filter _ List.nodup_range
  let g : Nat → Nat := fun j => if hj : j ∈ ownL o n then Classical.choose (hex j hj) else 0
  have hg : ∀ j (hj : j ∈ ownL o n), g j ∈ ownL o2 n ∧ ((T j ∧ g j = j) ∨ (¬ T j ∧ ¬ T (g j) ∧ o2 (g j) = o j)) := fun j hj => by
    have e : g j = Classical.choose (hex j hj) := by simp only [g]; rw [dif_pos hj]
    rw [e]
    exact Classical.choose_spec (hex j hj)
  have h3 := sub_len ((ownL o n).map g) (ownL o2 n) (by
    refine List.pairwise_map.2 (List.Pairwise.imp_of_mem (fun {a b} ha hb hab e => ?_) hN)
    obtain ⟨-, ha2⟩ := hg a ha
    obtain ⟨-, hb2⟩ := hg b hb
    obtain ⟨han, hane⟩ := ownL_mem.1 ha
    obtain ⟨hbn, hbne⟩ := ownL_mem.1 hb
    rcases ha2 with ⟨a1, a2⟩ | ⟨a1, a2, a3⟩
    · rcases hb2 with ⟨b1, b2⟩ | ⟨b1, b2, b3⟩
      · exact hab (by omega)
      · exact b2 (by rw [← e, a2]; exact a1)
    · rcases hb2 with ⟨b1, b2⟩ | ⟨b1, b2, b3⟩
      · exact a2 (by rw [e, b2]; exact b1)
      · exact hab (hi a b han hbn (by rw [← a3, ← b3, e]) hane)) (by
    intro x hx
    obtain ⟨j, hj, rfl⟩ := List.mem_map.1 hx
    exact (hg j hj).1)
  rw [List.length_map] at h3
  rw [← ownL_len, ← ownL_len]
  omega
/-- Whether one of the n owners is i. -/
def owned (o : Nat → Int) (n i : Nat) : Bool := (List.range n).any fun j => o j == i
theorem owned_iff {o : Nat → Int} {n i : Nat} : owned o n i = true ↔ ∃ j, j < n ∧ o j = i := by
  unfold owned; simp
/-- What is tried from the left gloves without partners. -/
def cvF (ok : Nat → Nat → Bool) (L n fu : Nat) (o : Nat → Int) : Nat → Nat → (Nat → Bool) → Option (Nat → Bool)
  | 0, _, t => some t
  | m + 1, i, t => if owned o n i then cvF ok L n fu o m (i + 1) t else match plF ok L n fu i 0 o t with
    | some (false, _, t') => cvF ok L n fu o m (i + 1) t'
    | _ => none
/-- What is tried so far: all of it owned, the owners' others tried as well; and those of the first left gloves that have no partner. -/
structure Cvr (ok : Nat → Nat → Bool) (n i : Nat) (o : Nat → Int) (t : Nat → Bool) : Prop where
  a : ∀ k, t k = true → k < n ∧ 0 ≤ o k ∧ ∀ m, m < n → ok (o k).toNat m = true → t m = true
  b : ∀ x, x < i → owned o n x = false → ∀ k, k < n → ok x k = true → t k = true
theorem Cvr.step {ok : Nat → Nat → Bool} {L n i fu : Nat} {o o' : Nat → Int} {t t' : Nat → Bool} {b : Bool} (hL : Lrg ok L n L o) (h : Cvr ok n i o t) (hi : i < L) (hn : owned o n i = false) (hp : plF ok L n fu i 0 o t = some (b, o', t')) : b = false ∧ o' = o ∧ Cvr ok n (i + 1) o t' := by
  obtain ⟨T, hS, hT⟩ := hL.shut
  have hn2 : ∀ j, j < n → o j ≠ i := fun j hj e => by rw [owned_iff.2 ⟨j, hj, e⟩] at hn; cases hn
  have hb := plF_shut fu i 0 o t b o' t' hp hS (fun k _ hk hok => hT i hi hn2 k hk hok)
  subst hb
  obtain ⟨rfl, h1, h2, h3⟩ := plF_fail fu i 0 o t o' t' hp
  refine ⟨rfl, rfl, fun k hk => ?_, fun x hx hx2 k hk hok => ?_⟩
  · cases ht : t k with
    | false => exact h3 k hk ht
    | true =>
      obtain ⟨a1, a2, a3⟩ := h.a k ht
      exact ⟨a1, a2, fun m hm hom => h1 m (a3 m hm hom)⟩
  · by_cases e : x = i
    · subst e; exact h2 k (Nat.zero_le _) hk hok
    · exact h1 k (h.b x (by omega) hx2 k hk hok)
theorem cvF_next {ok : Nat → Nat → Bool} {L n i m : Nat} {o : Nat → Int} {t : Nat → Bool} (hL : Lrg ok L n L o) (h : Cvr ok n i o t) (hi : i < L) : (owned o n i = true ∧ cvF ok L n (fuelK n) o (m + 1) i t = cvF ok L n (fuelK n) o m (i + 1) t ∧ Cvr ok n (i + 1) o t) ∨
    (owned o n i = false ∧ ∃ t', plF ok L n (fuelK n) i 0 o t = some (false, o, t') ∧ cvF ok L n (fuelK n) o (m + 1) i t = cvF ok L n (fuelK n) o m (i + 1) t' ∧ Cvr ok n (i + 1) o t') := by
  cases hn : owned o n i with
  | true =>
    refine .inl ⟨rfl, by rw [cvF, if_pos hn], h.a, fun x hx hx2 k hk hok => ?_⟩
    by_cases e : x = i
    · subst e; rw [hn] at hx2; cases hx2
    · exact h.b x (by omega) hx2 k hk hok
  | false =>
    obtain ⟨b, o', t', hp⟩ := plF_any (t := t) hL.own hi
    obtain ⟨rfl, rfl, h2⟩ := h.step hL hi hn hp
    exact .inr ⟨rfl, t', hp, by rw [cvF, if_neg (by rw [hn]; simp), hp], h2⟩
/-- The cover: what is tried, and the owners of what is not. -/
theorem Cvr.covers {ok : Nat → Nat → Bool} {L n : Nat} {o : Nat → Int} {t : Nat → Bool} (hO : Own ok L n o) (hI : Inj n o) (h : Cvr ok n L o t) {x y : Nat} (hx : x < L) (hy : y < n) (hok : ok x y = true) : t y = true ∨ ∃ j, j < n ∧ t j = false ∧ o j = x := by
  cases hn : owned o n x with
  | false => exact .inl (h.b x hx hn y hy hok)
  | true =>
    obtain ⟨j, hj, e⟩ := owned_iff.1 hn
    cases ht : t j with
    | false => exact .inr ⟨j, hj, ht, e⟩
    | true => exact .inl ((h.a j ht).2.2 y hy (by rw [e]; exact hok))
/-- The right gloves of the cover among the first k; the left ones. -/
def cvR (t : Nat → Bool) : Nat → List Int
  | 0 => []
  | k + 1 => if t k then cvR t k ++ [(k : Int)] else cvR t k
def cvL (o : Nat → Int) (t : Nat → Bool) : Nat → List Int
  | 0 => []
  | k + 1 => if t k then cvL o t k else if o k = -1 then cvL o t k else cvL o t k ++ [o k]
theorem cv_len {o : Nat → Int} {t : Nat → Bool} (h : ∀ k, t k = true → o k ≠ -1) : ∀ k, (((cvL o t k).length + (cvR t k).length : Nat) : Int) = cntO o k
  | 0 => rfl
  | k + 1 => by
    have ih := cv_len h k
    unfold cvL cvR cntO
    by_cases ht : t k = true
    · rw [if_pos ht, if_pos ht, if_neg (h k ht), List.length_append, List.length_singleton]; omega
    · rw [if_neg ht, if_neg ht]
      split
      · omega
      · rw [List.length_append, List.length_singleton]; omega
theorem cvR_mem {t : Nat → Bool} {x : Int} : ∀ {k}, x ∈ cvR t k ↔ ∃ j : Nat, j < k ∧ t j = true ∧ x = j
  | 0 => by simp [cvR]
  | k + 1 => by
    unfold cvR
    have ih := cvR_mem (t := t) (x := x) (k := k)
    by_cases ht : t k = true
    · rw [if_pos ht, List.mem_append, ih]
      constructor
      · rintro (⟨j, h1, h2, h3⟩ | h)
        · exact ⟨j, by omega, h2, h3⟩
        · exact ⟨k, by omega, ht, by simpa using h⟩
      · rintro ⟨j, h1, h2, h3⟩
        by_cases e : j = k
        · subst e; exact .inr (by simpa using h3)
        · exact .inl ⟨j, by omega, h2, h3⟩
    · rw [if_neg ht, ih]
      constructor
      · rintro ⟨j, h1, h2, h3⟩; exact ⟨j, by omega, h2, h3⟩
      · rintro ⟨j, h1, h2, h3⟩
        refine ⟨j, ?_, h2, h3⟩
        by_cases e : j = k
        · subst e; exact absurd h2 ht
        · omega
theorem cvR_up {t : Nat → Bool} : ∀ k, (cvR t k).Pairwise (· < ·)
  | 0 => .nil
  | k + 1 => by
    unfold cvR
    split
    · refine List.pairwise_append.2 ⟨cvR_up k, by simp, fun a ha b hb => ?_⟩
      obtain ⟨j, h1, -, rfl⟩ := cvR_mem.1 ha
      obtain rfl : b = k := by simpa using hb
      omega
    · exact cvR_up k
theorem cvL_mem {o : Nat → Int} {t : Nat → Bool} {x : Int} : ∀ {k}, x ∈ cvL o t k ↔ ∃ j : Nat, j < k ∧ t j = false ∧ o j ≠ -1 ∧ x = o j
  | 0 => by simp [cvL]
  | k + 1 => by
    unfold cvL
    have ih := cvL_mem (o := o) (t := t) (x := x) (k := k)
    have back : x ∈ cvL o t k → ∃ j : Nat, j < k + 1 ∧ t j = false ∧ o j ≠ -1 ∧ x = o j := fun h => by
      obtain ⟨j, h1, h2, h3, h4⟩ := ih.1 h
      exact ⟨j, by omega, h2, h3, h4⟩
    by_cases ht : t k = true
    · rw [if_pos ht]
      refine ⟨back, ?_⟩
      rintro ⟨j, h1, h2, h3, h4⟩
      refine ih.2 ⟨j, ?_, h2, h3, h4⟩
      by_cases e : j = k
      · subst e; rw [ht] at h2; cases h2
      · omega
    · rw [if_neg ht]
      by_cases ho : o k = -1
      · rw [if_pos ho]
        refine ⟨back, ?_⟩
        rintro ⟨j, h1, h2, h3, h4⟩
        refine ih.2 ⟨j, ?_, h2, h3, h4⟩
        by_cases e : j = k
        · subst e; exact absurd ho h3
        · omega
      · rw [if_neg ho, List.mem_append]
        constructor
        · rintro (h | h)
          · exact back h
          · exact ⟨k, by omega, by simpa using ht, ho, by simpa using h⟩
        · rintro ⟨j, h1, h2, h3, h4⟩
          by_cases e : j = k
          · subst e; exact .inr (by simpa using h4)
          · exact .inl (ih.2 ⟨j, by omega, h2, h3, h4⟩)
theorem cvL_nodup {o : Nat → Int} {t : Nat → Bool} {n : Nat} (hI : Inj n o) : ∀ k, k ≤ n → (cvL o t k).Nodup
  | 0, _ => .nil
  | k + 1, hk => by
    unfold cvL
    have ih := cvL_nodup (t := t) hI k (by omega)
    split
    · exact ih
    · split
      · exact ih
      · rename_i ho
        refine List.pairwise_append.2 ⟨ih, by simp, fun a ha b hb => ?_⟩
        obtain ⟨j, h1, -, h3, rfl⟩ := cvL_mem.1 ha
        obtain rfl : b = o k := by simpa using hb
        intro e
        have := hI j k (by omega) (by omega) e h3
        omega

end Go.Proofs.Ytchhadkmemckbab

/- Pairs: the odd classes of a heap without some gloves, and why no matching has more pairs than they allow (no program). -/
import Derived.Test.YtchhadkmemckbabPbQ
namespace Go.Proofs.Ytchhadkmemckbab
open Go.RowKit
set_option linter.unusedSimpArgs false
set_option linter.unusedVariables false

/-- take's walk: fuel, the glove i, the next glove j, what is gone, the count. none: out of fuel. -/
def dfF (E : Nat → Nat → Bool) (N : Nat) : Nat → Nat → Nat → (Nat → Bool) → Nat → Option ((Nat → Bool) × Nat)
  | 0, _, _, _, _ => none
  | f + 1, i, j, g, c =>
    if j < N then
      if g j || !E i j then dfF E N f i (j + 1) g c
      else match dfF E N f j 0 (fset g j true) 1 with
        | none => none
        | some (g', c') => dfF E N f i (j + 1) g' (c + c')
    else some (g, c)
theorem dfF_cases {E : Nat → Nat → Bool} {N f i j c : Nat} {g g' : Nat → Bool} {c' : Nat} (h : dfF E N (f + 1) i j g c = some (g', c')) :
    (N ≤ j ∧ g' = g ∧ c' = c) ∨ (j < N ∧ (g j = true ∨ E i j = false) ∧ dfF E N f i (j + 1) g c = some (g', c')) ∨
    (j < N ∧ g j = false ∧ E i j = true ∧ ∃ g1 c1, dfF E N f j 0 (fset g j true) 1 = some (g1, c1) ∧ dfF E N f i (j + 1) g1 (c + c1) = some (g', c')) := by
  unfold dfF at h
  split at h
  · rename_i hj
    split at h
    · rename_i hto
      exact .inr (.inl ⟨hj, by simpa using hto, h⟩)
    · rename_i hto
      have h2 : g j = false ∧ E i j = true := by simpa using hto
      split at h
      · simp at h
      · rename_i g1 c1 h1
        exact .inr (.inr ⟨hj, h2.1, h2.2, g1, c1, h1, h⟩)
  · simp only [Option.some.injEq, Prod.mk.injEq] at h
    exact .inl ⟨by omega, h.1.symm, h.2.symm⟩
/-- What is gone stays so; the count is of what went; all that i and those that went are next to is gone. -/
theorem dfF_all {E : Nat → Nat → Bool} {N : Nat} : ∀ (f i j : Nat) (g : Nat → Bool) (c : Nat) (g' : Nat → Bool) (c' : Nat), dfF E N f i j g c = some (g', c') →
    (∀ k, g k = true → g' k = true) ∧ c' + cntU g' N = c + cntU g N ∧ (∀ k, j ≤ k → k < N → E i k = true → g' k = true) ∧ (∀ v, g' v = true → g v = false → v < N ∧ ∀ k, k < N → E v k = true → g' k = true)
  | 0, _, _, _, _, _, _, h => by simp [dfF] at h
  | f + 1, i, j, g, c, g', c', h => by
    rcases dfF_cases h with ⟨hj, rfl, rfl⟩ | ⟨hj, hto, hz⟩ | ⟨hj, hg, hE, g1, c1, hr, hz⟩
    · exact ⟨fun k hk => hk, rfl, fun k h1 h2 => by omega, fun v h1 h2 => by rw [h1] at h2; cases h2⟩
    · obtain ⟨a1, a2, a3, a4⟩ := dfF_all f i (j + 1) g c g' c' hz
      refine ⟨a1, a2, fun k hk hkN hE => ?_, a4⟩
      by_cases e : k = j
      · subst e
        rcases hto with h1 | h1
        · exact a1 k h1
        · rw [h1] at hE; cases hE
      · exact a3 k (by omega) hkN hE
    · obtain ⟨a1, a2, a3, a4⟩ := dfF_all f j 0 _ 1 g1 c1 hr
      obtain ⟨b1, b2, b3, b4⟩ := dfF_all f i (j + 1) g1 _ g' c' hz
      have hj1 : g1 j = true := a1 j (by unfold fset; rw [if_pos rfl])
      have hg1 : ∀ k, g k = true → g1 k = true := fun k hk => a1 k (by unfold fset; split <;> simp [hk])
      have hs := cntU_set hg N hj
      refine ⟨fun k hk => b1 k (hg1 k hk), by omega, fun k hk hkN hEk => ?_, fun v hv hvg => ?_⟩
      · by_cases e : k = j
        · subst e; exact b1 k hj1
        · exact b3 k (by omega) hkN hEk
      · by_cases hv1 : g1 v = true
        · by_cases e : v = j
          · subst e
            exact ⟨hj, fun k hk hEk => b1 k (a3 k (Nat.zero_le _) hk hEk)⟩
          · obtain ⟨x1, x2⟩ := a4 v hv1 (by unfold fset; rw [if_neg e]; exact hvg)
            exact ⟨x1, fun k hk hEk => b1 k (x2 k hk hEk)⟩
        · exact b4 v hv (by simpa using hv1)
/-- .. and nothing else. -/
theorem dfF_least {E : Nat → Nat → Bool} {N : Nat} {X : Nat → Prop} : ∀ (f i j : Nat) (g : Nat → Bool) (c : Nat) (g' : Nat → Bool) (c' : Nat), dfF E N f i j g c = some (g', c') →
    (∀ k, g k = true → X k) → (∀ k, j ≤ k → k < N → E i k = true → X k) → (∀ v, X v → g v = false → ∀ k, k < N → E v k = true → X k) → ∀ k, g' k = true → X k
  | 0, _, _, _, _, _, _, h, _, _, _ => by simp [dfF] at h
  | f + 1, i, j, g, c, g', c', h, h1, h2, h3 => by
    rcases dfF_cases h with ⟨hj, rfl, rfl⟩ | ⟨hj, hto, hz⟩ | ⟨hj, hg, hE, g1, c1, hr, hz⟩
    · exact h1
    · exact dfF_least f i (j + 1) g c g' c' hz h1 (fun k hk => h2 k (by omega)) h3
    · have hXj : X j := h2 j (Nat.le_refl _) hj hE
      have hs : ∀ k, fset g j true k = true → X k := fun k hk => by
        unfold fset at hk
        by_cases e : k = j
        · rw [e]; exact hXj
        · rw [if_neg e] at hk; exact h1 k hk
      have hg1 := dfF_least f j 0 _ 1 g1 c1 hr hs (fun k _ hk hEk => h3 j hXj hg k hk hEk) (fun v hv hvg k hk hEk => h3 v hv (by
        cases hgv : g v with
        | false => rfl
        | true => unfold fset at hvg; split at hvg <;> simp_all) k hk hEk)
      have hmo := (dfF_all f j 0 _ 1 g1 c1 hr).1
      exact dfF_least f i (j + 1) g1 _ g' c' hz hg1 (fun k hk => h2 k (by omega)) (fun v hv hvg k hk hEk => h3 v hv (by
        cases hgv : g v with
        | false => rfl
        | true => rw [hmo v (by unfold fset; split <;> simp [hgv])] at hvg; cases hvg) k hk hEk)
theorem dfF_some {E : Nat → Nat → Bool} {N : Nat} : ∀ (f i j : Nat) (g : Nat → Bool) (c : Nat), cntU g N * (N + 1) + (N - j) + 1 ≤ f → ∃ g' c', dfF E N f i j g c = some (g', c')
  | 0, _, _, _, _, h => by omega
  | f + 1, i, j, g, c, h => by
    unfold dfF
    by_cases hj : j < N
    · rw [if_pos hj]
      by_cases hto : (g j || !E i j) = true
      · rw [if_pos hto]
        exact dfF_some (E := E) (N := N) f i (j + 1) g c (by omega)
      · rw [if_neg hto]
        have h2 : g j = false ∧ E i j = true := by simpa using hto
        have hc := cntU_set h2.1 N hj
        have hm : cntU g N * (N + 1) = cntU (fset g j true) N * (N + 1) + (N + 1) := by rw [← hc, Nat.succ_mul]
        obtain ⟨g1, c1, hr⟩ := dfF_some (E := E) (N := N) f j 0 (fset g j true) 1 (by omega)
        rw [hr]
        have h3 := cntU_le (dfF_all f j 0 _ 1 g1 c1 hr).1 N
        have h5 : cntU g1 N * (N + 1) ≤ cntU (fset g j true) N * (N + 1) := Nat.mul_le_mul_right _ h3
        exact dfF_some (E := E) (N := N) f i (j + 1) g1 _ (by omega)
    · rw [if_neg hj]
      exact ⟨_, _, rfl⟩
/-- The class of i that goes: what is gone then, and how many went. -/
structure Cls (E : Nat → Nat → Bool) (N i : Nat) (g g' : Nat → Bool) (c : Nat) : Prop where
  up : ∀ k, g k = true → g' k = true
  me : g' i = true
  cnt : c + cntU g' N = cntU g N
  shut : ∀ v, g' v = true → g v = false → v < N ∧ ∀ k, k < N → E v k = true → g' k = true
  least : ∀ X : Nat → Prop, (∀ k, g k = true → X k) → X i → (∀ v, X v → g v = false → ∀ k, k < N → E v k = true → X k) → ∀ k, g' k = true → X k
theorem Cls.of {E : Nat → Nat → Bool} {N f i : Nat} {g g' : Nat → Bool} {c : Nat} (hi : i < N) (hg : g i = false) (h : dfF E N f i 0 (fset g i true) 1 = some (g', c)) : Cls E N i g g' c := by
  obtain ⟨a1, a2, a3, a4⟩ := dfF_all f i 0 _ 1 g' c h
  have hs := cntU_set hg N hi
  refine ⟨fun k hk => a1 k (by unfold fset; split <;> simp [hk]), a1 i (by unfold fset; rw [if_pos rfl]), by omega, fun v hv hvg => ?_, fun X h1 h2 h3 => ?_⟩
  · by_cases e : v = i
    · subst e
      exact ⟨hi, fun k hk hE => a3 k (Nat.zero_le _) hk hE⟩
    · exact a4 v hv (by unfold fset; rw [if_neg e]; exact hvg)
  · refine dfF_least f i 0 _ 1 g' c h (fun k hk => ?_) (fun k _ hk hE => h3 i h2 hg k hk hE) (fun v hv hvg => h3 v hv ?_)
    · unfold fset at hk
      by_cases e : k = i
      · rw [e]; exact h2
      · rw [if_neg e] at hk; exact h1 k hk
    · cases hgv : g v with
      | false => rfl
      | true => unfold fset at hvg; split at hvg <;> simp_all
theorem Cls.one {E : Nat → Nat → Bool} {N i : Nat} {g g1 g2 : Nat → Bool} {c1 c2 : Nat} (h1 : Cls E N i g g1 c1) (h2 : Cls E N i g g2 c2) : g1 = g2 ∧ c1 = c2 := by
  have key : ∀ {a b : Nat → Bool} {ca cb : Nat}, Cls E N i g a ca → Cls E N i g b cb → ∀ k, a k = true → b k = true := fun ha hb =>
    ha.least (fun k => _ = true) hb.up hb.me fun v hv hvg k hk hE => (hb.shut v hv hvg).2 k hk hE
  have e : g1 = g2 := by
    funext k
    cases ha : g1 k with
    | true => rw [key h1 h2 k ha]
    | false => cases hb : g2 k with
      | false => rfl
      | true => rw [key h2 h1 k hb] at ha; cases ha
  subst e
  exact ⟨rfl, by have := h1.cnt; have := h2.cnt; omega⟩
def fuelD (N : Nat) : Nat := N * (N + 1) + N + 1
theorem Cls.ex {E : Nat → Nat → Bool} {N i : Nat} {g : Nat → Bool} (hi : i < N) (hg : g i = false) : ∃ g' c, dfF E N (fuelD N) i 0 (fset g i true) 1 = some (g', c) ∧ Cls E N i g g' c := by
  obtain ⟨g', c, h⟩ := dfF_some (E := E) (N := N) (fuelD N) i 0 (fset g i true) 1 (by
    unfold fuelD
    have := Nat.mul_le_mul_right (N + 1) (cntU_max (fset g i true) N)
    omega)
  exact ⟨g', c, h, .of hi hg h⟩
/-- The odd classes from glove i on. -/
inductive Ods (E : Nat → Nat → Bool) (N : Nat) : Nat → (Nat → Bool) → Nat → Nat → Prop
  | done (g : Nat → Bool) (d : Nat) : Ods E N N g d d
  | gone {i : Nat} {g : Nat → Bool} {d r : Nat} : i < N → g i = true → Ods E N (i + 1) g d r → Ods E N i g d r
  | take {i : Nat} {g g' : Nat → Bool} {c d r : Nat} : i < N → g i = false → Cls E N i g g' c → Ods E N (i + 1) g' (d + c % 2) r → Ods E N i g d r
theorem Ods.le {E : Nat → Nat → Bool} {N i : Nat} {g : Nat → Bool} {d r : Nat} (h : Ods E N i g d r) : i ≤ N ∧ d ≤ r ∧ r ≤ d + (N - i) := by
  induction h with
  | done => omega
  | gone h1 _ _ ih => omega
  | take h1 _ _ _ ih => omega
theorem Ods.next_gone {E : Nat → Nat → Bool} {N i : Nat} {g : Nat → Bool} {d r : Nat} (h : Ods E N i g d r) (hi : i < N) (hg : g i = true) : Ods E N (i + 1) g d r := by
  cases h with
  | done => omega
  | gone _ _ h => exact h
  | take _ h1 _ _ => rw [hg] at h1; cases h1
theorem Ods.next_take {E : Nat → Nat → Bool} {N i : Nat} {g g' : Nat → Bool} {c d r : Nat} (h : Ods E N i g d r) (hi : i < N) (hg : g i = false) (hc : Cls E N i g g' c) : Ods E N (i + 1) g' (d + c % 2) r := by
  cases h with
  | done => omega
  | gone _ h1 _ => rw [hg] at h1; cases h1
  | take _ _ hc2 h =>
    obtain ⟨rfl, rfl⟩ := hc.one hc2
    exact h
theorem Ods.end_ {E : Nat → Nat → Bool} {N : Nat} {g : Nat → Bool} {d r : Nat} (h : Ods E N N g d r) : r = d := by
  cases h with
  | done => rfl
  | gone h => omega
  | take h => omega
theorem Ods.ex (E : Nat → Nat → Bool) (N : Nat) : ∀ (n i : Nat) (g : Nat → Bool) (d : Nat), i + n = N → ∃ r, Ods E N i g d r
  | 0, i, g, d, h => by
    obtain rfl : i = N := by omega
    exact ⟨d, .done g d⟩
  | n + 1, i, g, d, h => by
    cases hg : g i with
    | true =>
      obtain ⟨r, hr⟩ := Ods.ex E N n (i + 1) g d (by omega)
      exact ⟨r, .gone (by omega) hg hr⟩
    | false =>
      obtain ⟨g', c, -, hc⟩ := Cls.ex (E := E) (show i < N by omega) hg
      obtain ⟨r, hr⟩ := Ods.ex E N n (i + 1) g' (d + c % 2) (by omega)
      exact ⟨r, .take (by omega) hg hc hr⟩
theorem cntU_lt {t t' : Nat → Bool} {j : Nat} (h : ∀ k, t k = true → t' k = true) (h1 : t j = false) (h2 : t' j = true) : ∀ n, j < n → cntU t' n + 1 ≤ cntU t n
  | 0, hn => by omega
  | n + 1, hn => by
    unfold cntU
    by_cases e : j = n
    · subst e
      have := cntU_le h j
      rw [h1, h2]
      simp
      omega
    · have := cntU_lt h h1 h2 n (by omega)
      have := h n
      split <;> split <;> first | omega | simp_all
theorem cntU_diff {g g' : Nat → Bool} (h : ∀ k, g k = true → g' k = true) : ∀ n, cntU (fun v => !(g' v && !g v)) n + cntU g' n = cntU g n
  | 0 => rfl
  | n + 1 => by
    unfold cntU
    have ih := cntU_diff h n
    have := h n
    cases hg : g n <;> cases hg' : g' n <;> simp_all <;> omega
/-- A set on which each has another as its partner is even. -/
theorem even_of : ∀ (c N : Nat) (t : Nat → Bool) (s : Nat → Nat), cntU t N = c → (∀ v, v < N → t v = false → s v < N ∧ t (s v) = false ∧ s (s v) = v ∧ s v ≠ v) → c % 2 = 0 := by
  intro c
  induction c using Nat.strongRecOn with
  | _ c ih =>
    intro N t s hc hs
    by_cases h0 : c = 0
    · omega
    · have hex : ∃ v, v < N ∧ t v = false := by
        refine Classical.byContradiction fun hn => h0 ?_
        rw [← hc]
        have : ∀ n, n ≤ N → cntU t n = 0 := fun n => by
          induction n with
          | zero => intro; rfl
          | succ n ihn =>
            intro hn2
            unfold cntU
            rw [ihn (by omega)]
            cases ht : t n with
            | true => rfl
            | false => exact absurd ⟨n, by omega, ht⟩ hn
        exact this N (Nat.le_refl _)
      obtain ⟨v, hv, htv⟩ := hex
      obtain ⟨h1, h2, h3, h4⟩ := hs v hv htv
      have e1 := cntU_set htv N hv
      have e2 := cntU_set (t := fset t v true) (j := s v) (by unfold fset; rw [if_neg h4]; exact h2) N h1
      have := ih (c - 2) (by omega) N (fset (fset t v true) (s v) true) s (by omega) (fun u hu htu => by
        unfold fset at htu
        split at htu
        · cases htu
        · rename_i n1
          split at htu
          · cases htu
          · rename_i n2
            obtain ⟨k1, k2, k3, k4⟩ := hs u hu htu
            refine ⟨k1, ?_, k3, k4⟩
            unfold fset
            rw [if_neg (fun e => n2 (by rw [← k3, e, h3])), if_neg (fun e => n1 (by rw [← k3, e]))]
            exact k2)
      omega
/-- A matching: partners are allowed, and partners of each other. -/
def Mtg (E : Nat → Nat → Bool) (N : Nat) (p : Nat → Int) : Prop := ∀ i, i < N → p i = -1 ∨ (0 ≤ p i ∧ p i < N ∧ E i (p i).toNat = true ∧ p (p i).toNat = i)
def badB (b : Nat → Bool) (p : Nat → Int) (v : Nat) : Bool := p v == -1 || b (p v).toNat
/-- Each odd class has a glove without a partner, or with one in the barrier. -/
theorem odd_step {E : Nat → Nat → Bool} {N i c : Nat} {b g g' : Nat → Bool} {p : Nat → Int} (hE : ∀ v, E v v = false) (hp : Mtg E N p) (hb : ∀ v, b v = true → g v = true) (hgc : ∀ v, g v = true → b v = false → ∀ k, k < N → E v k = true → g k = true) (h : Cls E N i g g' c) (hc : c % 2 = 1) :
    ∃ v, v < N ∧ g' v = true ∧ g v = false ∧ badB b p v = true := by
  refine Classical.byContradiction fun hn => ?_
  have hall : ∀ v, v < N → g' v = true → g v = false → p v ≠ -1 ∧ b (p v).toNat = false := fun v hv h1 h2 => by
    have hbv : badB b p v = false := by
      cases hx : badB b p v with
      | false => rfl
      | true => exact absurd ⟨v, hv, h1, h2, hx⟩ hn
    unfold badB at hbv
    simpa using hbv
  have hcnt := cntU_diff h.up N
  have hcc := h.cnt
  have := even_of c N (fun v => !(g' v && !g v)) (fun v => (p v).toNat) (by omega) (fun v hv htv => by
    have h12 : g' v = true ∧ g v = false := by simpa using htv
    obtain ⟨h1, h2⟩ := h12
    obtain ⟨a1, a2⟩ := hall v hv h1 h2
    rcases hp v hv with a3 | ⟨a3, a4, a5, a6⟩
    · exact absurd a3 a1
    · have hul : (p v).toNat < N := by omega
      have hg'u := (h.shut v h1 h2).2 _ hul a5
      have hgu : g (p v).toNat = false := by
        cases hgx : g (p v).toNat with
        | false => rfl
        | true =>
          rcases hp _ hul with x1 | ⟨x1, x2, x3, x4⟩
          · rw [a6] at x1; omega
          · rw [a6, Int.toNat_natCast] at x3
            have := hgc _ hgx a2 v hv x3
            rw [h2] at this; cases this
      refine ⟨hul, by simp [hg'u, hgu], by show (p (p v).toNat).toNat = v; rw [a6, Int.toNat_natCast], fun e => ?_⟩
      have e2 : (p v).toNat = v := e
      rw [e2] at a5
      rw [hE] at a5; cases a5)
  omega
theorem Ods.bound {E : Nat → Nat → Bool} {N : Nat} {b : Nat → Bool} {p : Nat → Int} (hE : ∀ v, E v v = false) (hp : Mtg E N p) {i : Nat} {g : Nat → Bool} {d r : Nat} (h : Ods E N i g d r) :
    (∀ v, b v = true → g v = true) → (∀ v, g v = true → b v = false → ∀ k, k < N → E v k = true → g k = true) → d ≤ cntU (fun v => !(g v && badB b p v && !b v)) N → r ≤ cntU (fun v => !(badB b p v && !b v)) N := by
  induction h with
  | done g d =>
    intro h1 h2 h3
    refine Nat.le_trans h3 (cntU_le (fun k hk => ?_) N)
    cases hg : g k <;> simp_all
  | gone _ _ _ ih => exact ih
  | @take i g g' c d r hi hgi hc _ ih =>
    intro h1 h2 h3
    have hup : ∀ v, b v = true → g' v = true := fun v hv => hc.up v (h1 v hv)
    refine ih hup (fun v hv hbv k hk hEk => ?_) ?_
    · cases hgv : g v with
      | true => exact hc.up k (h2 v hgv hbv k hk hEk)
      | false => exact (hc.shut v hv hgv).2 k hk hEk
    · have hle : cntU (fun v => !(g v && badB b p v && !b v)) N ≤ cntU (fun v => !(g' v && badB b p v && !b v)) N := cntU_le (fun k hk => by
        have := hc.up k
        cases hg : g k <;> simp_all) N
      rcases Nat.mod_two_eq_zero_or_one c with e | e
      · omega
      · obtain ⟨v, hv, v1, v2, v3⟩ := odd_step hE hp h1 h2 hc e
        have hbv : b v = false := by
          cases hx : b v with
          | false => rfl
          | true => rw [h1 v hx] at v2; cases v2
        have := cntU_lt (t := fun v => !(g' v && badB b p v && !b v)) (t' := fun v => !(g v && badB b p v && !b v)) (j := v) (fun k hk => by
          have := hc.up k
          cases hg : g k <;> simp_all) (by simp [v1, v3, hbv]) (by simp [v2]) N hv
        omega
/-- How many have no partner. -/
def cntN (p : Nat → Int) : Nat → Nat
  | 0 => 0
  | n + 1 => cntN p n + (if p n = -1 then 1 else 0)
theorem bad_count {E : Nat → Nat → Bool} {N : Nat} {b : Nat → Bool} {p : Nat → Int} {kb : List Int} (hp : Mtg E N p) (hb : ∀ v, b v = true → (v : Int) ∈ kb) : cntU (fun v => !(badB b p v && !b v)) N ≤ cntN p N + kb.length := by
  have h1 : ∀ n, cntU (fun v => !(badB b p v && !b v)) n ≤ cntN p n + ((List.range n).filter fun v => p v != -1 && b (p v).toNat).length := fun n => by
    induction n with
    | zero => simp [cntU]
    | succ n ih =>
      unfold cntU cntN
      rw [List.range_succ, List.filter_append, List.length_append]
      by_cases e : p n = -1
      · rw [if_pos e]
        split <;> omega
      · rw [if_neg e]
        by_cases hx : b (p n).toNat = true
        · have : ([n].filter fun v => p v != -1 && b (p v).toNat) = [n] := by simp [e, hx]
          rw [this]
          simp only [List.length_singleton]
          split <;> omega
        · have hbn : badB b p n = false := by unfold badB; simp [e, hx]
          have e1 : (!(badB b p n && !b n)) = true := by simp [hbn]
          split
          · omega
          · rename_i hne; exact absurd e1 hne
  have h2 : ((List.range N).filter fun v => p v != -1 && b (p v).toNat).length ≤ kb.length := by
    have h3 := sub_len (((List.range N).filter fun v => p v != -1 && b (p v).toNat).map fun v => (p v).toNat) (kb.map Int.toNat) (by
      refine List.pairwise_map.2 (List.Pairwise.imp_of_mem (fun {x y} hx hy hxy e => ?_) (List.Pairwise.filter _ List.nodup_range))
      simp only [List.mem_filter, List.mem_range, Bool.and_eq_true, bne_iff_ne, ne_eq] at hx hy
      rcases hp x hx.1 with a1 | ⟨a1, a2, a3, a4⟩
      · exact hx.2.1 a1
      · rcases hp y hy.1 with b1 | ⟨b1, b2, b3, b4⟩
        · exact hy.2.1 b1
        · rw [e] at a4
          rw [a4] at b4
          exact hxy (by omega)) (fun x hx => by
      obtain ⟨v, hv, rfl⟩ := List.mem_map.1 hx
      simp only [List.mem_filter, Bool.and_eq_true] at hv
      exact List.mem_map.2 ⟨_, hb _ hv.2.2, Int.toNat_natCast _⟩)
    rw [List.length_map, List.length_map] at h3
    exact h3
  have := h1 N
  omega

end Go.Proofs.Ytchhadkmemckbab

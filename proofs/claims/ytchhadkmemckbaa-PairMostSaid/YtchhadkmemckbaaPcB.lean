/- Pairs: a cover in order; slices.Contains. -/
import Derived.Test.YtchhadkmemckbaaPbS
import Derived.Test.YtchhadkmemckbaaPaL
import Derived.Test.YtchhadkmemckbaaPcA
namespace Go.Proofs.Ytchhadkmemckbaa
open Go.RowKit
set_option linter.unusedSimpArgs false
set_option linter.unusedVariables false

/-- Two slices, each rising, are a cover of as many gloves as there are pairs. -/
structure CovP (C : Nat → Nat → Int) (L R : Nat) (ka kb : List Int) : Prop where
  ua : ka.Pairwise (· < ·)
  ra : ∀ x ∈ ka, 0 ≤ x ∧ x < L
  ub : kb.Pairwise (· < ·)
  rb : ∀ x ∈ kb, 0 ≤ x ∧ x < R
  cov : ∀ i j, i < L → j < R → C i j ≠ -1 → (i : Int) ∈ ka ∨ (j : Int) ∈ kb
  len : ((ka.length + kb.length : Nat) : Int) = cntO (lgO (fun i j => C i j != -1) L R) R
abbrev srtI (zs : List Int) : List Int := zs.mergeSort fun x y => decide (x ≤ y)
theorem srtI_perm (zs : List Int) : (srtI zs).Perm zs := List.mergeSort_perm _ _
theorem srtI_up {zs : List Int} (h : zs.Nodup) : (srtI zs).Pairwise (· < ·) := by
  have h1 : (srtI zs).Pairwise fun x y => decide (x ≤ y) = true := List.pairwise_mergeSort (fun a b c h1 h2 => by simp only [decide_eq_true_eq] at *; omega) (fun a b => by simp only [Bool.or_eq_true, decide_eq_true_eq]; omega) zs
  have h2 : (srtI zs).Nodup := (srtI_perm zs).nodup_iff.2 h
  exact List.Pairwise.imp₂ (fun a b h3 h4 => by simp only [decide_eq_true_eq] at h3; omega) h1 h2
theorem Cvr.all {C : Nat → Nat → Int} {L R : Nat} {o : Nat → Int} {t : Nat → Bool} (ho : o = lgO (fun i j => C i j != -1) L R) (h : Cvr (fun i j => C i j != -1) R L o t) : CovP C L R (srtI (cvL o t R)) (cvR t R) := by
  have hL := (lgO_spec (fun i j => C i j != -1) L R).2
  rw [← ho] at hL
  refine ⟨srtI_up (cvL_nodup hL.inj R (Nat.le_refl _)), fun x hx => ?_, cvR_up R, fun x hx => ?_, fun i j hi hj hc => ?_, ?_⟩
  · obtain ⟨j, hj, -, h1, rfl⟩ := cvL_mem.1 ((srtI_perm _).mem_iff.1 hx)
    rcases hL.own j hj with h2 | ⟨h2, h3, -⟩
    · exact absurd h2 h1
    · exact ⟨h2, h3⟩
  · obtain ⟨j, hj, -, rfl⟩ := cvR_mem.1 hx
    omega
  · rcases h.covers hL.own hL.inj hi hj (by simpa using hc) with h1 | ⟨k, hk, h1, h2⟩
    · exact .inr (cvR_mem.2 ⟨j, hj, h1, rfl⟩)
    · exact .inl ((srtI_perm _).mem_iff.2 (cvL_mem.2 ⟨k, hk, h1, by omega, h2.symm⟩))
  · have h1 := cv_len (o := o) (t := t) (fun k hk => by have := (h.a k hk).2.1; omega) R
    rw [← ho, ← h1, (srtI_perm _).length_eq]

set_option maxRecDepth 100000 in
set_option maxHeartbeats 1600000 in
theorem indexI_none (p n : Nat) (hn : n ≤ 100) (o : Nat → Int) (v : Int) (hno : ∀ j, j < n → o j ≠ v) (w : World) (h : w.heap[p]? = some (.cells (cA n o) 3 (0, 0))) :
    Calls Try.prog 62 #[.slice (some ⟨p, 0, none⟩) n n, .int .i64 v] w fun e w' => e = .returned (.int .i64 (-1)) ∧ Below w.heap.size w w' := by
  have HC := Lib.hid (fun w' (hb : Below w.heap.size w w') i (hi : i < n) => (show w'.cell? ⟨p, i, none⟩ = some (.int .i64 (o i)) ∧ p < w'.heap.size from ⟨by rw [blkc (blk_keep h hb), cA_get hi], Nat.lt_of_lt_of_le (block_lt h) hb.size⟩))
  have HV := Lib.hid hno
  clear h hno
  go_enter Try.func62, Try.ntmps62
  go_wp2_with fail
  go_loopg [5, 8] n (fun gk s i wr => ∃ j : Nat, j + gk = n ∧ i = .int .i64 j ∧ Hid (Below w.heap.size w wr))
  case atStart => exact ⟨0, by omega, rfl, Lib.hid (Below.refl _ _)⟩
  case round =>
    obtain ⟨j, hj, rfl, HB⟩ := hrel
    by_cases hlt : j < n
    · obtain ⟨gk', rfl⟩ : ∃ m, gk = m + 1 := ⟨gk - 1, by omega⟩
      have hlt' : (j : Int) < n := by omega
      have hj0 : (0 : Int) ≤ j := by omega
      obtain ⟨c0, l0⟩ := HC.out wr HB.out j hlt
      have t0 : (v == o j) = false := by
        have := HV.out j hlt
        simp
        exact fun h => this h.symm
      obtain ⟨ov, hov⟩ : ∃ z, z = o j := ⟨_, rfl⟩
      rw [← hov] at c0 t0
      clear hov
      go_wp2
      go_roundg gk'
      case measure => exact Nat.lt_succ_self _
      case rel => exact ⟨j + 1, by omega, by go_num, HB⟩
    · obtain ⟨rfl, rfl⟩ : gk = 0 ∧ j = n := by omega
      go_wp2
      go_ret
      exact ⟨rfl, HB.out⟩
theorem first_nat (P : Nat → Prop) (n : Nat) (h : P n) : ∃ m, m ≤ n ∧ P m ∧ ∀ k, k < m → ¬ P k := by
  induction n using Nat.strongRecOn with
  | _ n ih =>
    by_cases hk : ∃ k, k < n ∧ P k
    · obtain ⟨k, hk, hp⟩ := hk
      obtain ⟨m, h1, h2, h3⟩ := ih k hk hp
      exact ⟨m, by omega, h2, h3⟩
    · exact ⟨n, Nat.le_refl _, h, fun k hk2 hp => hk ⟨k, hk2, hp⟩⟩

set_option maxRecDepth 100000 in
set_option maxHeartbeats 1600000 in
theorem containsI_any (p n : Nat) (hn : n ≤ 100) (o : Nat → Int) (i : Nat) (w : World) (h : w.heap[p]? = some (.cells (cA n o) 3 (0, 0))) :
    Calls Try.prog 57 #[.slice (some ⟨p, 0, none⟩) n n, .int .i64 i] w fun e w' => e = .returned (.bool (owned o n i)) ∧ Below w.heap.size w w' := by
  cases hq : owned o n i with
  | true =>
    obtain ⟨k, hk, hv⟩ := owned_iff.1 hq
    obtain ⟨m, hm, h1, h2⟩ := first_nat (fun j => o j = i) k hv
    have HI := Lib.hid (fun w' (hb : Below w.heap.size w w') => indexI_any p n hn o i m (by omega) h1 (fun j hj => h2 j hj) w' (blk_keep h hb))
    clear hq h h1 h2 hv
    go_enter Try.func57, Try.ntmps57
    go_wp2_with fail
    refine (HI.out _ (Below.refl _ _)).mono ?_
    rintro e w1 ⟨rfl, hb⟩
    have HB := Lib.hid hb
    have t0 : decide ((0 : Int) ≤ m) = true := decide_eq_true (by omega)
    clear hb
    go_wp2
    go_ret
    exact ⟨by simp, HB.out⟩
  | false =>
    have HI := Lib.hid (fun w' (hb : Below w.heap.size w w') => indexI_none p n hn o i (fun j hj e => by rw [owned_iff.2 ⟨j, hj, e⟩] at hq; cases hq) w' (blk_keep h hb))
    clear hq h
    go_enter Try.func57, Try.ntmps57
    go_wp2_with fail
    refine (HI.out _ (Below.refl _ _)).mono ?_
    rintro e w1 ⟨rfl, hb⟩
    have HB := Lib.hid hb
    clear hb
    go_wp2
    go_ret
    exact ⟨by first | rfl | simp, HB.out⟩

end Go.Proofs.Ytchhadkmemckbaa

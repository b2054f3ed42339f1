/- Pairs: gloves and rules that are valid, the program's and the reference's. -/
import Derived.Test.YtchhadkmemckbabPaA
import Derived.Deep.DeepCutAuto
import Derived.Deep.LoopGhost
import Derived.Deep.RegionHeld3
namespace Go.Proofs.Ytchhadkmemckbab
open Go.RowKit
set_option linter.unusedSimpArgs false
set_option linter.unusedVariables false

theorem idx0 (a b c d : Value) (w : World) : (Instr.index 99 (.agg #[a, b, c, d]) (.int .i64 0)).run Try.prog w = .ok a w := by kernel_rfl
theorem idx1 (a b c d : Value) (w : World) : (Instr.index 99 (.agg #[a, b, c, d]) (.int .i64 1)).run Try.prog w = .ok b w := by kernel_rfl
theorem idx2 (a b c d : Value) (w : World) : (Instr.index 99 (.agg #[a, b, c, d]) (.int .i64 2)).run Try.prog w = .ok c w := by kernel_rfl
theorem idx3 (a b c d : Value) (w : World) : (Instr.index 99 (.agg #[a, b, c, d]) (.int .i64 3)).run Try.prog w = .ok d w := by kernel_rfl

set_option maxRecDepth 100000 in
theorem measures_any (a b c d : Int) (w : World) : Calls Try.prog 70 #[.agg #[.int .i64 a, .int .i64 b, .int .i64 c, .int .i64 d]] w fun e w' => e = .returned (.agg #[.int .i64 a, .int .i64 b, .int .i64 c, .int .i64 d]) ∧ Below w.heap.size w w' := by
  go_enter Try.func70, Try.ntmps70
  go_wp2
  (try simp only [Exit.inBlock, Exit.then])
  refine bodyPost_ret (v := .agg #[.int .i64 a, .int .i64 b, .int .i64 c, .int .i64 d]) (by simp [results, Try.results70, go_sem]) rfl ⟨rfl, ?_⟩
  exact ((Below.refl _ _).alloc (Nat.le_refl _) _).alloc (by simp) _

set_option maxRecDepth 100000 in
theorem rFour_any (a b c d : Int) (w : World) : Calls Try.prog 66 #[.agg #[.int .i64 a, .int .i64 b, .int .i64 c, .int .i64 d]] w fun e w' => e = .returned (.agg #[.int .i64 a, .int .i64 b, .int .i64 c, .int .i64 d]) ∧ Below w.heap.size w w' := by
  go_enter Try.func66, Try.ntmps66
  go_wp2
  (try simp only [Exit.inBlock, Exit.then])
  refine bodyPost_ret (v := .agg #[.int .i64 a, .int .i64 b, .int .i64 c, .int .i64 d]) (by simp [results, Try.results66, go_sem]) rfl ⟨rfl, ?_⟩
  exact ((Below.refl _ _).alloc (Nat.le_refl _) _).alloc (by simp) _

set_option maxRecDepth 100000 in
set_option maxHeartbeats 1600000 in
theorem isGlove_any (a b c d : Int) (w : World) : Calls Try.prog 69 #[.agg #[.int .i64 a, .int .i64 b, .int .i64 c, .int .i64 d]] w fun e w' => e = .returned (.bool (okB (a, b, c, d))) ∧ Below w.heap.size w w' := by
  obtain ⟨V, hV⟩ : ∃ V, V = okB (a, b, c, d) := ⟨_, rfl⟩
  have HBAD : Hid (∀ k, k < 4 → gn (a, b, c, d) k < 0 ∨ 1000 < gn (a, b, c, d) k → V = false) := Lib.hid (fun k hk h => by rw [hV]; exact okB_bad hk h)
  have HOK : Hid ((∀ k, k < 4 → 0 ≤ gn (a, b, c, d) k ∧ gn (a, b, c, d) k ≤ 1000) → V = true) := Lib.hid (fun h => by rw [hV]; exact okB_iff.2 h)
  rw [← hV]
  clear hV
  have HM0 := Lib.hid ((Mem.nil w).alloc #[.int .i64 a, .int .i64 b, .int .i64 c, .int .i64 d] 32)
  go_enter Try.func69, Try.ntmps69
  go_wp2_with fail
  refine (measures_any a b c d _).mono ?_
  rintro e w1 ⟨rfl, hb1⟩
  have HB1 := Lib.hid (HM0.out.step hb1).b
  clear hb1 HM0
  go_wp2_with fail
  go_loopg [4, 7] 4 (fun gk x i wr => ∃ k : Nat, k + gk = 4 ∧ i = .int .i64 k ∧ Hid (∀ j, j < k → 0 ≤ gn (a, b, c, d) j ∧ gn (a, b, c, d) j ≤ 1000) ∧ Hid (Below w.heap.size w wr))
  case atStart => exact ⟨0, by omega, rfl, Lib.hid (fun j hj => by omega), HB1⟩
  case round =>
    obtain ⟨k, hk, rfl, HP, HB⟩ := hrel
    by_cases hlt : k < 4
    · obtain ⟨gk', rfl⟩ : ∃ m, gk = m + 1 := ⟨gk - 1, by omega⟩
      obtain rfl | rfl | rfl | rfl : k = 0 ∨ k = 1 ∨ k = 2 ∨ k = 3 := by omega
      · have hix := idx0 (.int .i64 a) (.int .i64 b) (.int .i64 c) (.int .i64 d)
        by_cases h0 : a < 0
        · obtain rfl := HBAD.out 0 (by omega) (.inl h0)
          have c0 : decide (a < 0) = true := decide_eq_true h0
          go_wp2
          go_ret
          exact ⟨rfl, HB.out⟩
        · have c0 : decide (a < 0) = false := decide_eq_false h0
          by_cases h1 : 1000 < a
          · obtain rfl := HBAD.out 0 (by omega) (.inr h1)
            have c1 : decide (1000 < a) = true := decide_eq_true h1
            go_wp2
            go_ret
            exact ⟨rfl, HB.out⟩
          · have c1 : decide (1000 < a) = false := decide_eq_false h1
            have HP2 : Hid (∀ j, j < 1 → 0 ≤ gn (a, b, c, d) j ∧ gn (a, b, c, d) j ≤ 1000) := Lib.hid (fun j hj => by
              by_cases e : j = 0
              · subst e; show 0 ≤ a ∧ a ≤ 1000; omega
              · exact HP.out j (by omega))
            go_wp2
            go_roundg gk'
            case measure => exact Nat.lt_succ_self _
            case rel => exact ⟨1, by omega, by go_num, HP2, HB⟩
      · have hix := idx1 (.int .i64 a) (.int .i64 b) (.int .i64 c) (.int .i64 d)
        by_cases h0 : b < 0
        · obtain rfl := HBAD.out 1 (by omega) (.inl h0)
          have c0 : decide (b < 0) = true := decide_eq_true h0
          go_wp2
          go_ret
          exact ⟨rfl, HB.out⟩
        · have c0 : decide (b < 0) = false := decide_eq_false h0
          by_cases h1 : 1000 < b
          · obtain rfl := HBAD.out 1 (by omega) (.inr h1)
            have c1 : decide (1000 < b) = true := decide_eq_true h1
            go_wp2
            go_ret
            exact ⟨rfl, HB.out⟩
          · have c1 : decide (1000 < b) = false := decide_eq_false h1
            have HP2 : Hid (∀ j, j < 2 → 0 ≤ gn (a, b, c, d) j ∧ gn (a, b, c, d) j ≤ 1000) := Lib.hid (fun j hj => by
              by_cases e : j = 1
              · subst e; show 0 ≤ b ∧ b ≤ 1000; omega
              · exact HP.out j (by omega))
            go_wp2
            go_roundg gk'
            case measure => exact Nat.lt_succ_self _
            case rel => exact ⟨2, by omega, by go_num, HP2, HB⟩
      · have hix := idx2 (.int .i64 a) (.int .i64 b) (.int .i64 c) (.int .i64 d)
        by_cases h0 : c < 0
        · obtain rfl := HBAD.out 2 (by omega) (.inl h0)
          have c0 : decide (c < 0) = true := decide_eq_true h0
          go_wp2
          go_ret
          exact ⟨rfl, HB.out⟩
        · have c0 : decide (c < 0) = false := decide_eq_false h0
          by_cases h1 : 1000 < c
          · obtain rfl := HBAD.out 2 (by omega) (.inr h1)
            have c1 : decide (1000 < c) = true := decide_eq_true h1
            go_wp2
            go_ret
            exact ⟨rfl, HB.out⟩
          · have c1 : decide (1000 < c) = false := decide_eq_false h1
            have HP2 : Hid (∀ j, j < 3 → 0 ≤ gn (a, b, c, d) j ∧ gn (a, b, c, d) j ≤ 1000) := Lib.hid (fun j hj => by
              by_cases e : j = 2
              · subst e; show 0 ≤ c ∧ c ≤ 1000; omega
              · exact HP.out j (by omega))
            go_wp2
            go_roundg gk'
            case measure => exact Nat.lt_succ_self _
            case rel => exact ⟨3, by omega, by go_num, HP2, HB⟩
      · have hix := idx3 (.int .i64 a) (.int .i64 b) (.int .i64 c) (.int .i64 d)
        by_cases h0 : d < 0
        · obtain rfl := HBAD.out 3 (by omega) (.inl h0)
          have c0 : decide (d < 0) = true := decide_eq_true h0
          go_wp2
          go_ret
          exact ⟨rfl, HB.out⟩
        · have c0 : decide (d < 0) = false := decide_eq_false h0
          by_cases h1 : 1000 < d
          · obtain rfl := HBAD.out 3 (by omega) (.inr h1)
            have c1 : decide (1000 < d) = true := decide_eq_true h1
            go_wp2
            go_ret
            exact ⟨rfl, HB.out⟩
          · have c1 : decide (1000 < d) = false := decide_eq_false h1
            have HP2 : Hid (∀ j, j < 4 → 0 ≤ gn (a, b, c, d) j ∧ gn (a, b, c, d) j ≤ 1000) := Lib.hid (fun j hj => by
              by_cases e : j = 3
              · subst e; show 0 ≤ d ∧ d ≤ 1000; omega
              · exact HP.out j (by omega))
            go_wp2
            go_roundg gk'
            case measure => exact Nat.lt_succ_self _
            case rel => exact ⟨4, by omega, by go_num, HP2, HB⟩
    · obtain rfl : k = 4 := by omega
      obtain rfl := HOK.out HP.out
      go_wp2
      go_ret
      exact ⟨rfl, HB.out⟩

set_option maxRecDepth 100000 in
set_option maxHeartbeats 1600000 in
theorem qValid_any (a b c d : Int) (w : World) : Calls Try.prog 51 #[.agg #[.int .i64 a, .int .i64 b, .int .i64 c, .int .i64 d]] w fun e w' => e = .returned (.bool (okB (a, b, c, d))) ∧ Below w.heap.size w w' := by
  obtain ⟨V, hV⟩ : ∃ V, V = okB (a, b, c, d) := ⟨_, rfl⟩
  have HBAD : Hid (∀ k, k < 4 → gn (a, b, c, d) k < 0 ∨ 1000 < gn (a, b, c, d) k → V = false) := Lib.hid (fun k hk h => by rw [hV]; exact okB_bad hk h)
  have HOK : Hid ((∀ k, k < 4 → 0 ≤ gn (a, b, c, d) k ∧ gn (a, b, c, d) k ≤ 1000) → V = true) := Lib.hid (fun h => by rw [hV]; exact okB_iff.2 h)
  rw [← hV]
  clear hV
  have HM0 := Lib.hid ((Mem.nil w).alloc #[.int .i64 a, .int .i64 b, .int .i64 c, .int .i64 d] 24)
  go_enter Try.func51, Try.ntmps51
  go_wp2_with fail
  refine (rFour_any a b c d _).mono ?_
  rintro e w1 ⟨rfl, hb1⟩
  have HB1 := Lib.hid (HM0.out.step hb1).b
  clear hb1 HM0
  go_wp2_with fail
  go_loopg [4, 7] 4 (fun gk x i wr => ∃ k : Nat, k + gk = 4 ∧ i = .int .i64 k ∧ Hid (∀ j, j < k → 0 ≤ gn (a, b, c, d) j ∧ gn (a, b, c, d) j ≤ 1000) ∧ Hid (Below w.heap.size w wr))
  case atStart => exact ⟨0, by omega, rfl, Lib.hid (fun j hj => by omega), HB1⟩
  case round =>
    obtain ⟨k, hk, rfl, HP, HB⟩ := hrel
    by_cases hlt : k < 4
    · obtain ⟨gk', rfl⟩ : ∃ m, gk = m + 1 := ⟨gk - 1, by omega⟩
      obtain rfl | rfl | rfl | rfl : k = 0 ∨ k = 1 ∨ k = 2 ∨ k = 3 := by omega
      · have hix := idx0 (.int .i64 a) (.int .i64 b) (.int .i64 c) (.int .i64 d)
        by_cases h0 : a < 0
        · obtain rfl := HBAD.out 0 (by omega) (.inl h0)
          have c0 : decide (a < 0) = true := decide_eq_true h0
          go_wp2
          go_ret
          exact ⟨rfl, HB.out⟩
        · have c0 : decide (a < 0) = false := decide_eq_false h0
          by_cases h1 : 1000 < a
          · obtain rfl := HBAD.out 0 (by omega) (.inr h1)
            have c1 : decide (1000 < a) = true := decide_eq_true h1
            go_wp2
            go_ret
            exact ⟨rfl, HB.out⟩
          · have c1 : decide (1000 < a) = false := decide_eq_false h1
            have HP2 : Hid (∀ j, j < 1 → 0 ≤ gn (a, b, c, d) j ∧ gn (a, b, c, d) j ≤ 1000) := Lib.hid (fun j hj => by
              by_cases e : j = 0
              · subst e; show 0 ≤ a ∧ a ≤ 1000; omega
              · exact HP.out j (by omega))
            go_wp2
            go_roundg gk'
            case measure => exact Nat.lt_succ_self _
            case rel => exact ⟨1, by omega, by go_num, HP2, HB⟩
      · have hix := idx1 (.int .i64 a) (.int .i64 b) (.int .i64 c) (.int .i64 d)
        by_cases h0 : b < 0
        · obtain rfl := HBAD.out 1 (by omega) (.inl h0)
          have c0 : decide (b < 0) = true := decide_eq_true h0
          go_wp2
          go_ret
          exact ⟨rfl, HB.out⟩
        · have c0 : decide (b < 0) = false := decide_eq_false h0
          by_cases h1 : 1000 < b
          · obtain rfl := HBAD.out 1 (by omega) (.inr h1)
            have c1 : decide (1000 < b) = true := decide_eq_true h1
            go_wp2
            go_ret
            exact ⟨rfl, HB.out⟩
          · have c1 : decide (1000 < b) = false := decide_eq_false h1
            have HP2 : Hid (∀ j, j < 2 → 0 ≤ gn (a, b, c, d) j ∧ gn (a, b, c, d) j ≤ 1000) := Lib.hid (fun j hj => by
              by_cases e : j = 1
              · subst e; show 0 ≤ b ∧ b ≤ 1000; omega
              · exact HP.out j (by omega))
            go_wp2
            go_roundg gk'
            case measure => exact Nat.lt_succ_self _
            case rel => exact ⟨2, by omega, by go_num, HP2, HB⟩
      · have hix := idx2 (.int .i64 a) (.int .i64 b) (.int .i64 c) (.int .i64 d)
        by_cases h0 : c < 0
        · obtain rfl := HBAD.out 2 (by omega) (.inl h0)
          have c0 : decide (c < 0) = true := decide_eq_true h0
          go_wp2
          go_ret
          exact ⟨rfl, HB.out⟩
        · have c0 : decide (c < 0) = false := decide_eq_false h0
          by_cases h1 : 1000 < c
          · obtain rfl := HBAD.out 2 (by omega) (.inr h1)
            have c1 : decide (1000 < c) = true := decide_eq_true h1
            go_wp2
            go_ret
            exact ⟨rfl, HB.out⟩
          · have c1 : decide (1000 < c) = false := decide_eq_false h1
            have HP2 : Hid (∀ j, j < 3 → 0 ≤ gn (a, b, c, d) j ∧ gn (a, b, c, d) j ≤ 1000) := Lib.hid (fun j hj => by
              by_cases e : j = 2
              · subst e; show 0 ≤ c ∧ c ≤ 1000; omega
              · exact HP.out j (by omega))
            go_wp2
            go_roundg gk'
            case measure => exact Nat.lt_succ_self _
            case rel => exact ⟨3, by omega, by go_num, HP2, HB⟩
      · have hix := idx3 (.int .i64 a) (.int .i64 b) (.int .i64 c) (.int .i64 d)
        by_cases h0 : d < 0
        · obtain rfl := HBAD.out 3 (by omega) (.inl h0)
          have c0 : decide (d < 0) = true := decide_eq_true h0
          go_wp2
          go_ret
          exact ⟨rfl, HB.out⟩
        · have c0 : decide (d < 0) = false := decide_eq_false h0
          by_cases h1 : 1000 < d
          · obtain rfl := HBAD.out 3 (by omega) (.inr h1)
            have c1 : decide (1000 < d) = true := decide_eq_true h1
            go_wp2
            go_ret
            exact ⟨rfl, HB.out⟩
          · have c1 : decide (1000 < d) = false := decide_eq_false h1
            have HP2 : Hid (∀ j, j < 4 → 0 ≤ gn (a, b, c, d) j ∧ gn (a, b, c, d) j ≤ 1000) := Lib.hid (fun j hj => by
              by_cases e : j = 3
              · subst e; show 0 ≤ d ∧ d ≤ 1000; omega
              · exact HP.out j (by omega))
            go_wp2
            go_roundg gk'
            case measure => exact Nat.lt_succ_self _
            case rel => exact ⟨4, by omega, by go_num, HP2, HB⟩
    · obtain rfl : k = 4 := by omega
      obtain rfl := HOK.out HP.out
      go_wp2
      go_ret
      exact ⟨rfl, HB.out⟩

set_option maxRecDepth 100000 in
set_option maxHeartbeats 1600000 in
theorem isRule_any (a b c d p q r s : Int) (w : World) : Calls Try.prog 53 #[.agg #[.int .i64 a, .int .i64 b, .int .i64 c, .int .i64 d, .int .i64 p, .int .i64 q, .int .i64 r, .int .i64 s]] w fun e w' => e = .returned (.bool (ruB ((a, b, c, d), (p, q, r, s)))) ∧ Below w.heap.size w w' := by
  have HM0 := Lib.hid ((Mem.nil w).alloc #[.int .i64 a, .int .i64 b, .int .i64 c, .int .i64 d, .int .i64 p, .int .i64 q, .int .i64 r, .int .i64 s] 34)
  have HV := Lib.hid (fun w' => isGlove_any a b c d w')
  have HW := Lib.hid (fun w' => isGlove_any p q r s w')
  obtain ⟨X, hX⟩ : ∃ X, X = okB (a, b, c, d) := ⟨_, rfl⟩
  obtain ⟨Y, hY⟩ : ∃ Y, Y = okB (p, q, r, s) := ⟨_, rfl⟩
  have e : ruB ((a, b, c, d), (p, q, r, s)) = (X && Y) := by rw [hX, hY]; rfl
  rw [e]
  rw [← hX] at HV
  rw [← hY] at HW
  clear hX hY e
  go_enter Try.func53, Try.ntmps53
  go_wp2_with fail
  refine (HV.out _).mono ?_
  rintro e w1 ⟨rfl, hb1⟩
  have HM1 := Lib.hid (HM0.out.step hb1)
  have x4 := HM1.out.cell 4
  have x5 := HM1.out.cell 5
  have x6 := HM1.out.cell 6
  have x7 := HM1.out.cell 7
  simp at x4 x5 x6 x7
  clear hb1 HM0
  cases X with
  | false =>
    go_wp2
    go_ret
    exact ⟨rfl, HM1.out.b⟩
  | true =>
    go_wp2_with fail
    refine (HW.out _).mono ?_
    rintro e w2 ⟨rfl, hb2⟩
    have HM2 := Lib.hid (HM1.out.step hb2)
    go_wp2
    go_ret
    exact ⟨by simp, HM2.out.b⟩

set_option maxRecDepth 100000 in
set_option maxHeartbeats 1600000 in
theorem qLaw_any (a b c d p q r s : Int) (w : World) : Calls Try.prog 41 #[.agg #[.int .i64 a, .int .i64 b, .int .i64 c, .int .i64 d, .int .i64 p, .int .i64 q, .int .i64 r, .int .i64 s]] w fun e w' => e = .returned (.bool (ruB ((a, b, c, d), (p, q, r, s)))) ∧ Below w.heap.size w w' := by
  have HM0 := Lib.hid ((Mem.nil w).alloc #[.int .i64 a, .int .i64 b, .int .i64 c, .int .i64 d, .int .i64 p, .int .i64 q, .int .i64 r, .int .i64 s] 26)
  have HV := Lib.hid (fun w' => qValid_any a b c d w')
  have HW := Lib.hid (fun w' => qValid_any p q r s w')
  obtain ⟨X, hX⟩ : ∃ X, X = okB (a, b, c, d) := ⟨_, rfl⟩
  obtain ⟨Y, hY⟩ : ∃ Y, Y = okB (p, q, r, s) := ⟨_, rfl⟩
  have e : ruB ((a, b, c, d), (p, q, r, s)) = (X && Y) := by rw [hX, hY]; rfl
  rw [e]
  rw [← hX] at HV
  rw [← hY] at HW
  clear hX hY e
  go_enter Try.func41, Try.ntmps41
  go_wp2_with fail
  refine (HV.out _).mono ?_
  rintro e w1 ⟨rfl, hb1⟩
  have HM1 := Lib.hid (HM0.out.step hb1)
  have x4 := HM1.out.cell 4
  have x5 := HM1.out.cell 5
  have x6 := HM1.out.cell 6
  have x7 := HM1.out.cell 7
  simp at x4 x5 x6 x7
  clear hb1 HM0
  cases X with
  | false =>
    go_wp2
    go_ret
    exact ⟨rfl, HM1.out.b⟩
  | true =>
    go_wp2_with fail
    refine (HW.out _).mono ?_
    rintro e w2 ⟨rfl, hb2⟩
    have HM2 := Lib.hid (HM1.out.step hb2)
    go_wp2
    go_ret
    exact ⟨by simp, HM2.out.b⟩

end Go.Proofs.Ytchhadkmemckbab

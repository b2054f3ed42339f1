/- Division. -/
import Derived.Test.YtjnfgjaiahnfgaaBin
namespace Go.Proofs.Ytjnfgjaiahnfgaa
open Go.RowKit

set_option maxRecDepth 100000 in
set_option maxHeartbeats 3200000 in
theorem rdiv_good (n1 d1 n2 d2 : Int) (h1 : VF n1 d1) (h2 : VF n2 d2) (hz : n2 ≠ 0) (w : World) :
    Calls Try.prog 28 #[.agg #[.int .i64 n1, .int .i64 d1], .agg #[.int .i64 n2, .int .i64 d2]] w fun e w' => ∃ a b c, e = .returned (.tuple #[.agg #[.int .i64 a, .int .i64 b], .int .i64 c]) ∧ Hid (ansQ (qof n1 d1 / qof n2 d2) = (a, b, c)) ∧ Below w.heap.size w w' := by
  have HV : Hid (vfB n1 d1 = true ∧ vfB n2 d2 = true) := Lib.hid ⟨(vfB_iff _ _).2 h1, (vfB_iff _ _).2 h2⟩
  have HLQ := Lib.hid (And.intro ((LenQ.vf h1).mono (show 1 ≤ 10000000 by decide)) ((LenQ.vf h2).mono (show 1 ≤ 10000000 by decide)))
  have HR : Hid ((-9223372036854775808 ≤ n1 ∧ n1 ≤ 9223372036854775807 ∧ -9223372036854775808 ≤ d1 ∧ d1 ≤ 9223372036854775807 ∧ d1 ≠ 0) ∧ (-9223372036854775808 ≤ n2 ∧ n2 ≤ 9223372036854775807 ∧ -9223372036854775808 ≤ d2 ∧ d2 ≤ 9223372036854775807 ∧ d2 ≠ 0)) := Lib.hid (by
    have := h1.n1; have := h1.n2; have := h1.d1; have := h1.d2; have := h2.n1; have := h2.n2; have := h2.d1; have := h2.d2; omega)
  have HQZ : Hid (qof n2 d2 ≠ 0) := Lib.hid (fun h => hz (by have := h2.num.1; rw [h] at this; exact this.symm))
  have hzb : (n2 == 0) = false := by simpa using hz
  clear h1 h2 hz
  have HS := Lib.hid (S22.start w n1 d1 n2 d2 0 0 23 23)
  go_enter Try.func28, Try.ntmps28
  go_wp2_with fail
  refine (valid_r n1 d1 _).mono ?_
  rintro e w1 ⟨rfl, hb1⟩
  rw [HV.out.1]
  have hS1 := HS.out.step hb1
  obtain ⟨-, hc0, hc1, hc2, hc3⟩ := hS1.l
  have HS1 := Lib.hid hS1
  clear hb1 hS1
  go_wp2_with fail
  refine (valid_r n2 d2 _).mono ?_
  rintro e w2 ⟨rfl, hb2⟩
  rw [HV.out.2]
  have hS2 := HS1.out.step hb2
  clear hc0 hc1 hc2 hc3
  obtain ⟨-, hc0, hc1, hc2, hc3⟩ := hS2.l
  clear hb2
  go_wp2
  go_region_held3 (fun w' => S22 w n1 d1 n2 d2 23 w' ∧ w'.cell? ⟨w.heap.size, 0, none⟩ = some (.int .i64 n1) ∧ w'.cell? ⟨w.heap.size, 1, none⟩ = some (.int .i64 d1) ∧ w'.cell? ⟨w.heap.size + 1, 0, none⟩ = some (.int .i64 n2) ∧ w'.cell? ⟨w.heap.size + 1, 1, none⟩ = some (.int .i64 d2))
    (first | (go_split_ands; exact (S22.step (by assumption) (by assumption)).l) | (go_split_ands; exact (S22.store (by assumption) _ _).l) | (exact hS2.drew.l))
    (first
      | (go_at_call 38; go_split_ands; with_reducible (refine (of_q n1 d1 HR.out.1.1 HR.out.1.2.1 HR.out.1.2.2.1 HR.out.1.2.2.2.1 HR.out.1.2.2.2.2 _).mono ?_); rintro e w3 ⟨z1, rfl, hz1, hb3⟩)
      | (go_at_call 38; go_split_ands; with_reducible (refine (of_q n2 d2 HR.out.2.1 HR.out.2.2.1 HR.out.2.2.2.1 HR.out.2.2.2.2.1 HR.out.2.2.2.2.2 _).mono ?_); rintro e w4 ⟨z2, rfl, hz2, hb4⟩)
      | (go_at_call 42; go_split_ands; with_reducible (refine (over_any z1 z2 (qof n1 d1) (qof n2 d2) HQZ.out _ (IsQ.below hz1 hb4) hz2 (by have := HLQ.out.1.n; omega) (by have := HLQ.out.1.d; omega) (by have := HLQ.out.2.n; omega) (by have := HLQ.out.2.d; omega)).mono ?_); rintro e w5 ⟨z3, rfl, hz3, hb5⟩)
      | (go_at_call 60; go_split_ands; with_reducible (refine (answer_var z3 _ _ hz3).mono ?_); rintro e w6 ⟨ra, rb, rc, rfl, HANS, hb6⟩; obtain ⟨r0, r1, hr0, hr1, hr2, hr3, hr4⟩ := S22.blk (by assumption) hb6))
  go_wp2
  refine bodyPost_ret (v := .tuple #[.agg #[.int .i64 ra, .int .i64 rb], .int .i64 rc]) (by simp [results, Try.results28, go_sem, hr0, hr1]) rfl ⟨_, _, _, rfl, HANS, ?_⟩
  go_split_ands; exact S22.b (by assumption)

set_option maxRecDepth 100000 in
set_option maxHeartbeats 3200000 in
theorem rdiv_zero (n1 d1 n2 d2 : Int) (h1 : VF n1 d1) (h2 : VF n2 d2) (hz : n2 = 0) (w : World) :
    Calls Try.prog 28 #[.agg #[.int .i64 n1, .int .i64 d1], .agg #[.int .i64 n2, .int .i64 d2]] w fun e w' => e = .returned (.tuple #[.agg #[.int .i64 0, .int .i64 0], .int .i64 4]) ∧ Below w.heap.size w w' := by
  have HV : Hid (vfB n1 d1 = true ∧ vfB n2 d2 = true) := Lib.hid ⟨(vfB_iff _ _).2 h1, (vfB_iff _ _).2 h2⟩
  have hzb : (n2 == 0) = true := by simpa using hz
  clear h1 h2 hz
  have HS := Lib.hid (S22.start w n1 d1 n2 d2 0 0 23 23)
  go_enter Try.func28, Try.ntmps28
  go_wp2_with fail
  refine (valid_r n1 d1 _).mono ?_
  rintro e w1 ⟨rfl, hb1⟩
  rw [HV.out.1]
  have hS1 := HS.out.step hb1
  obtain ⟨-, hc0, hc1, hc2, hc3⟩ := hS1.l
  have HS1 := Lib.hid hS1
  clear hb1 hS1
  go_wp2_with fail
  refine (valid_r n2 d2 _).mono ?_
  rintro e w2 ⟨rfl, hb2⟩
  rw [HV.out.2]
  have hS2 := HS1.out.step hb2
  clear hc0 hc1 hc2 hc3
  obtain ⟨-, hc0, hc1, hc2, hc3⟩ := hS2.l
  obtain ⟨r0, r1, hr0, hr1, hr2, hr3, hr4⟩ := hS2.2.2.2.facts
  have HS2 := Lib.hid hS2
  clear hb2 hS2
  go_wp2
  refine bodyPost_ret (v := .tuple #[.agg #[.int .i64 0, .int .i64 0], .int .i64 4]) (by simp [results, Try.results28, go_sem, hr0, hr1]) rfl ⟨rfl, ?_⟩
  exact (HS2.out.1.setCell (by simp; omega) _).setCell (by simp; omega) _

set_option maxRecDepth 100000 in
set_option maxHeartbeats 1600000 in
theorem rdiv_bad (n1 d1 n2 d2 : Int) (h : ¬ (VF n1 d1 ∧ VF n2 d2)) (w : World) :
    Calls Try.prog 28 #[.agg #[.int .i64 n1, .int .i64 d1], .agg #[.int .i64 n2, .int .i64 d2]] w fun e w' => e = .returned (.tuple #[.agg #[.int .i64 0, .int .i64 0], .int .i64 2]) ∧ Below w.heap.size w w' := by
  have HS := Lib.hid (S22.start w n1 d1 n2 d2 0 0 23 23)
  by_cases h1 : VF n1 d1
  · have HV : Hid (vfB n1 d1 = true ∧ vfB n2 d2 = false) := Lib.hid ⟨(vfB_iff _ _).2 h1, vfB_false (fun h2 => h ⟨h1, h2⟩)⟩
    clear h h1
    go_enter Try.func28, Try.ntmps28
    go_wp2_with fail
    refine (valid_r n1 d1 _).mono ?_
    rintro e w1 ⟨rfl, hb1⟩
    rw [HV.out.1]
    have hS1 := HS.out.step hb1
    obtain ⟨-, hc0, hc1, hc2, hc3⟩ := hS1.l
    have HS1 := Lib.hid hS1
    clear hb1 hS1
    go_wp2_with fail
    refine (valid_r n2 d2 _).mono ?_
    rintro e w2 ⟨rfl, hb2⟩
    rw [HV.out.2]
    have hS2 := HS1.out.step hb2
    obtain ⟨r0, r1, hr0, hr1, hr2, hr3, hr4⟩ := hS2.2.2.2.facts
    have HS2 := Lib.hid hS2
    clear hb2 hc0 hc1 hc2 hc3 hS2
    go_wp2
    refine bodyPost_ret (v := .tuple #[.agg #[.int .i64 0, .int .i64 0], .int .i64 2]) (by simp [results, Try.results28, go_sem, hr0, hr1]) rfl ⟨rfl, ?_⟩
    exact (HS2.out.1.setCell (by simp; omega) _).setCell (by simp; omega) _
  · have HV : Hid (vfB n1 d1 = false) := Lib.hid (vfB_false h1)
    clear h h1
    go_enter Try.func28, Try.ntmps28
    go_wp2_with fail
    refine (valid_r n1 d1 _).mono ?_
    rintro e w1 ⟨rfl, hb1⟩
    rw [HV.out]
    have hS1 := HS.out.step hb1
    obtain ⟨r0, r1, hr0, hr1, hr2, hr3, hr4⟩ := hS1.2.2.2.facts
    have HS1 := Lib.hid hS1
    clear hb1 hS1
    go_wp2
    refine bodyPost_ret (v := .tuple #[.agg #[.int .i64 0, .int .i64 0], .int .i64 2]) (by simp [results, Try.results28, go_sem, hr0, hr1]) rfl ⟨rfl, ?_⟩
    exact (HS1.out.1.setCell (by simp; omega) _).setCell (by simp; omega) _

open Classical in
noncomputable def divS (n1 d1 n2 d2 : Int) : Int × Int × Int := if VF n1 d1 ∧ VF n2 d2 then (if n2 = 0 then (0, 0, 4) else ansQ (qof n1 d1 / qof n2 d2)) else (0, 0, 2)
open Classical in
theorem divS_zero {n1 d1 n2 d2 : Int} (h1 : VF n1 d1) (h2 : VF n2 d2) (h : n2 = 0) : divS n1 d1 n2 d2 = (0, 0, 4) := by unfold divS; rw [if_pos ⟨h1, h2⟩, if_pos h]
open Classical in
theorem divS_yes {n1 d1 n2 d2 : Int} (h1 : VF n1 d1) (h2 : VF n2 d2) (h : n2 ≠ 0) : divS n1 d1 n2 d2 = ansQ (qof n1 d1 / qof n2 d2) := by unfold divS; rw [if_pos ⟨h1, h2⟩, if_neg h]
open Classical in
theorem divS_no {n1 d1 n2 d2 : Int} (h : ¬ (VF n1 d1 ∧ VF n2 d2)) : divS n1 d1 n2 d2 = (0, 0, 2) := by unfold divS; rw [if_neg h]

theorem rdiv_any (n1 d1 n2 d2 : Int) (w : World) :
    Calls Try.prog 28 #[.agg #[.int .i64 n1, .int .i64 d1], .agg #[.int .i64 n2, .int .i64 d2]] w fun e w' => ∃ a b c, e = .returned (.tuple #[.agg #[.int .i64 a, .int .i64 b], .int .i64 c]) ∧ Hid (divS n1 d1 n2 d2 = (a, b, c)) ∧ Below w.heap.size w w' := by
  by_cases h : VF n1 d1 ∧ VF n2 d2
  · by_cases hz : n2 = 0
    · rw [divS_zero h.1 h.2 hz]; exact (rdiv_zero n1 d1 n2 d2 h.1 h.2 hz w).mono fun _ _ ⟨he, hb⟩ => ⟨0, 0, 4, he, Lib.hid rfl, hb⟩
    · rw [divS_yes h.1 h.2 hz]; exact rdiv_good n1 d1 n2 d2 h.1 h.2 hz w
  · rw [divS_no h]; exact (rdiv_bad n1 d1 n2 d2 h w).mono fun _ _ ⟨he, hb⟩ => ⟨0, 0, 2, he, Lib.hid rfl, hb⟩

set_option maxRecDepth 100000 in
set_option maxHeartbeats 1600000 in
theorem padd_any (n1 d1 n2 d2 : Int) (w : World) :
    Calls Try.prog 21 #[.agg #[.int .i64 n1, .int .i64 d1], .agg #[.int .i64 n2, .int .i64 d2]] w fun e w' => ∃ a b c, e = .returned (.tuple #[.agg #[.int .i64 a, .int .i64 b], .int .i64 c]) ∧ Hid (opS n1 d1 n2 d2 (qof n1 d1 + qof n2 d2) = (a, b, c)) ∧ Below w.heap.size w w' := by
  have HC : Hid (∀ w, Calls Try.prog 65 #[.agg #[.int .i64 n1, .int .i64 d1], .agg #[.int .i64 n2, .int .i64 d2], .func (.func 66) #[] #[]] w fun e w' => ∃ a b c, e = .returned (.tuple #[.agg #[.int .i64 a, .int .i64 b], .int .i64 c]) ∧ Hid (opS n1 d1 n2 d2 (qof n1 d1 + qof n2 d2) = (a, b, c)) ∧ Below w.heap.size w w') := Lib.hid (fun w => by
    by_cases h : VF n1 d1 ∧ VF n2 d2
    · rw [opS_yes h.1 h.2]; exact comb_plus n1 d1 n2 d2 h.1 h.2 w
    · rw [opS_no h]; exact (comb_bad_plus n1 d1 n2 d2 h w).mono fun _ _ ⟨he, hb⟩ => ⟨0, 0, 2, he, Lib.hid rfl, hb⟩)
  have HS := Lib.hid (S22.start w n1 d1 n2 d2 0 0 23 23)
  go_enter Try.func21, Try.ntmps21
  go_wp2_with fail
  refine (HC.out _).mono ?_
  rintro e w1 ⟨ra, rb, rc, rfl, HANS, hb1⟩
  have hS1 := HS.out.step hb1
  obtain ⟨r0, r1, hr0, hr1, hr2, hr3, hr4⟩ := hS1.2.2.2.facts
  have HS1 := Lib.hid hS1
  clear hb1 hS1
  go_wp2
  refine bodyPost_ret (v := .tuple #[.agg #[.int .i64 ra, .int .i64 rb], .int .i64 rc]) (by simp [results, Try.results21, go_sem, hr0, hr1]) rfl ⟨_, _, _, rfl, HANS, ?_⟩
  exact (HS1.out.1.setCell (by simp; omega) _).setCell (by simp; omega) _

set_option maxRecDepth 100000 in
set_option maxHeartbeats 1600000 in
theorem psub_any (n1 d1 n2 d2 : Int) (w : World) :
    Calls Try.prog 23 #[.agg #[.int .i64 n1, .int .i64 d1], .agg #[.int .i64 n2, .int .i64 d2]] w fun e w' => ∃ a b c, e = .returned (.tuple #[.agg #[.int .i64 a, .int .i64 b], .int .i64 c]) ∧ Hid (opS n1 d1 n2 d2 (qof n1 d1 - qof n2 d2) = (a, b, c)) ∧ Below w.heap.size w w' := by
  have HC : Hid (∀ w, Calls Try.prog 65 #[.agg #[.int .i64 n1, .int .i64 d1], .agg #[.int .i64 n2, .int .i64 d2], .func (.func 67) #[] #[]] w fun e w' => ∃ a b c, e = .returned (.tuple #[.agg #[.int .i64 a, .int .i64 b], .int .i64 c]) ∧ Hid (opS n1 d1 n2 d2 (qof n1 d1 - qof n2 d2) = (a, b, c)) ∧ Below w.heap.size w w') := Lib.hid (fun w => by
    by_cases h : VF n1 d1 ∧ VF n2 d2
    · rw [opS_yes h.1 h.2]; exact comb_minus n1 d1 n2 d2 h.1 h.2 w
    · rw [opS_no h]; exact (comb_bad_minus n1 d1 n2 d2 h w).mono fun _ _ ⟨he, hb⟩ => ⟨0, 0, 2, he, Lib.hid rfl, hb⟩)
  have HS := Lib.hid (S22.start w n1 d1 n2 d2 0 0 23 23)
  go_enter Try.func23, Try.ntmps23
  go_wp2_with fail
  refine (HC.out _).mono ?_
  rintro e w1 ⟨ra, rb, rc, rfl, HANS, hb1⟩
  have hS1 := HS.out.step hb1
  obtain ⟨r0, r1, hr0, hr1, hr2, hr3, hr4⟩ := hS1.2.2.2.facts
  have HS1 := Lib.hid hS1
  clear hb1 hS1
  go_wp2
  refine bodyPost_ret (v := .tuple #[.agg #[.int .i64 ra, .int .i64 rb], .int .i64 rc]) (by simp [results, Try.results23, go_sem, hr0, hr1]) rfl ⟨_, _, _, rfl, HANS, ?_⟩
  exact (HS1.out.1.setCell (by simp; omega) _).setCell (by simp; omega) _

set_option maxRecDepth 100000 in
set_option maxHeartbeats 1600000 in
theorem pmul_any (n1 d1 n2 d2 : Int) (w : World) :
    Calls Try.prog 25 #[.agg #[.int .i64 n1, .int .i64 d1], .agg #[.int .i64 n2, .int .i64 d2]] w fun e w' => ∃ a b c, e = .returned (.tuple #[.agg #[.int .i64 a, .int .i64 b], .int .i64 c]) ∧ Hid (opS n1 d1 n2 d2 (qof n1 d1 * qof n2 d2) = (a, b, c)) ∧ Below w.heap.size w w' := by
  have HC : Hid (∀ w, Calls Try.prog 65 #[.agg #[.int .i64 n1, .int .i64 d1], .agg #[.int .i64 n2, .int .i64 d2], .func (.func 68) #[] #[]] w fun e w' => ∃ a b c, e = .returned (.tuple #[.agg #[.int .i64 a, .int .i64 b], .int .i64 c]) ∧ Hid (opS n1 d1 n2 d2 (qof n1 d1 * qof n2 d2) = (a, b, c)) ∧ Below w.heap.size w w') := Lib.hid (fun w => by
    by_cases h : VF n1 d1 ∧ VF n2 d2
    · rw [opS_yes h.1 h.2]; exact comb_times n1 d1 n2 d2 h.1 h.2 w
    · rw [opS_no h]; exact (comb_bad_times n1 d1 n2 d2 h w).mono fun _ _ ⟨he, hb⟩ => ⟨0, 0, 2, he, Lib.hid rfl, hb⟩)
  have HS := Lib.hid (S22.start w n1 d1 n2 d2 0 0 23 23)
  go_enter Try.func25, Try.ntmps25
  go_wp2_with fail
  refine (HC.out _).mono ?_
  rintro e w1 ⟨ra, rb, rc, rfl, HANS, hb1⟩
  have hS1 := HS.out.step hb1
  obtain ⟨r0, r1, hr0, hr1, hr2, hr3, hr4⟩ := hS1.2.2.2.facts
  have HS1 := Lib.hid hS1
  clear hb1 hS1
  go_wp2
  refine bodyPost_ret (v := .tuple #[.agg #[.int .i64 ra, .int .i64 rb], .int .i64 rc]) (by simp [results, Try.results25, go_sem, hr0, hr1]) rfl ⟨_, _, _, rfl, HANS, ?_⟩
  exact (HS1.out.1.setCell (by simp; omega) _).setCell (by simp; omega) _

end Go.Proofs.Ytjnfgjaiahnfgaa

/- The mediant: the program's and the reference's. -/
import Derived.Test.YtjnfgjaiahnfgabOne
namespace Go.Proofs.Ytjnfgjaiahnfgab
open Go.RowKit

set_option maxRecDepth 100000 in
theorem mediant_r (n1 d1 k n2 d2 : Int) (a1 : -2000000000000000000 ≤ k * n2) (a2 : k * n2 ≤ 2000000000000000000) (b1 : -2000000000000000000 ≤ k * d2) (b2 : k * d2 ≤ 2000000000000000000) (c1 : -2000000000000000000 ≤ n1) (c2 : n1 ≤ 2000000000000000000) (e1 : -2000000000000000000 ≤ d1) (e2 : d1 ≤ 2000000000000000000) (w : World) :
    Calls Try.prog 39 #[.agg #[.int .i64 n1, .int .i64 d1], .int .i64 k, .agg #[.int .i64 n2, .int .i64 d2]] w fun e w' => e = .returned (.agg #[.int .i64 (n1 + k * n2), .int .i64 (d1 + k * d2)]) ∧ Below w.heap.size w w' := by
  go_enter Try.func39, Try.ntmps39
  go_wp2
  refine bodyPost_ret (v := .agg #[.int .i64 (n1 + k * n2), .int .i64 (d1 + k * d2)]) (by simp [results, Try.results39, go_sem]) rfl ⟨rfl, Below3 _ _ _ _⟩

set_option maxRecDepth 100000 in
set_option maxHeartbeats 1600000 in
theorem med1_r (n1 d1 n2 d2 : Int) (h : -1000000000 ≤ n1 ∧ n1 ≤ 1000000000 ∧ -1000000000 ≤ d1 ∧ d1 ≤ 1000000000 ∧ -1000000000 ≤ n2 ∧ n2 ≤ 1000000000 ∧ -1000000000 ≤ d2 ∧ d2 ≤ 1000000000) (w : World) :
    Calls Try.prog 38 #[.agg #[.int .i64 n1, .int .i64 d1], .agg #[.int .i64 n2, .int .i64 d2]] w fun e w' => e = .returned (.agg #[.int .i64 (n1 + n2), .int .i64 (d1 + d2)]) ∧ Below w.heap.size w w' := by
  have HC : Hid (∀ w, Calls Try.prog 39 #[.agg #[.int .i64 n1, .int .i64 d1], .int .i64 1, .agg #[.int .i64 n2, .int .i64 d2]] w fun e w' => e = .returned (.agg #[.int .i64 (n1 + n2), .int .i64 (d1 + d2)]) ∧ Below w.heap.size w w') := Lib.hid (fun w => by
    have := mediant_r n1 d1 1 n2 d2 (by omega) (by omega) (by omega) (by omega) (by omega) (by omega) (by omega) (by omega) w
    simpa using this)
  clear h
  have HS := Lib.hid (S22.start w n1 d1 n2 d2 0 0 43 43)
  go_enter Try.func38, Try.ntmps38
  go_wp2_with fail
  refine (HC.out _).mono ?_
  rintro e w1 ⟨rfl, hb1⟩
  have hS1 := HS.out.step hb1
  obtain ⟨r0, r1, hr0, hr1, hr2, hr3, hr4⟩ := hS1.2.2.2.facts
  have HS1 := Lib.hid hS1
  clear hb1 hS1
  go_wp2
  refine bodyPost_ret (v := .agg #[.int .i64 (n1 + n2), .int .i64 (d1 + d2)]) (by simp [results, Try.results38, go_sem, hr0, hr1]) rfl ⟨rfl, ?_⟩
  exact (HS1.out.1.setCell (by simp; omega) _).setCell (by simp; omega) _

set_option maxRecDepth 100000 in
set_option maxHeartbeats 3200000 in
theorem comb_med (n1 d1 n2 d2 : Int) (h1 : VF n1 d1) (h2 : VF n2 d2) (w : World) :
    Calls Try.prog 37 #[.agg #[.int .i64 n1, .int .i64 d1], .agg #[.int .i64 n2, .int .i64 d2], .func (.func 38) #[] #[]] w fun e w' => ∃ a b c, e = .returned (.tuple #[.agg #[.int .i64 a, .int .i64 b], .int .i64 c]) ∧ Hid (ansQ (qof (n1 + n2) (d1 + d2)) = (a, b, c)) ∧ Below w.heap.size w w' := by
  have b1 := h1.n1
  have b2 := h1.n2
  have b3 := h1.d1
  have b4 := h1.d2
  have c1 := h2.n1
  have c2 := h2.n2
  have c3 := h2.d1
  have c4 := h2.d2
  have HMB : Hid (-1000000000 ≤ n1 ∧ n1 ≤ 1000000000 ∧ -1000000000 ≤ d1 ∧ d1 ≤ 1000000000 ∧ -1000000000 ≤ n2 ∧ n2 ≤ 1000000000 ∧ -1000000000 ≤ d2 ∧ d2 ≤ 1000000000) := Lib.hid (by omega)
  have HC : Hid (-2000000000000000000 ≤ n2 ∧ n2 ≤ 2000000000000000000) := Lib.hid (by omega)
  have HNZ : Hid (d1 + d2 ≠ 0) := Lib.hid (by omega)
  have HAB : Hid (allB [(n1, d1), (n2, d2)] = true) := Lib.hid (by simp [allB, (vfB_iff n1 d1).2 h1, (vfB_iff n2 d2).2 h2])
  have HNB : Hid (-9223372036854775808 ≤ n1 + n2 ∧ n1 + n2 ≤ 9223372036854775807 ∧ -9223372036854775808 ≤ d1 + d2 ∧ d1 + d2 ≤ 9223372036854775807) := Lib.hid (by omega)
  clear b1 b2 b3 b4 c1 c2 c3 c4 h1 h2
  have HS := Lib.hid (S22.start w n1 d1 n2 d2 0 0 23 23)
  go_enter Try.func37, Try.ntmps37
  go_wp2_with fail
  refine (allValid_some (w.heap.size + 1 + 1 + 1) 2 [(n1, d1), (n2, d2)] (by simp) _ (HasFr.two3 w n1 d1 n2 d2 0 0 23)).mono ?_
  rintro e w1 ⟨rfl, hb1⟩
  rw [HAB.out]
  have hS1 := (HS.out.step ((Below.refl _ _).alloc (Nat.le_refl _) _)).step hb1
  clear hb1
  go_wp2
  go_region_held3 (fun w' => S22 w n1 d1 n2 d2 23 w' ∧ w'.cell? ⟨w.heap.size, 0, none⟩ = some (.int .i64 n1) ∧ w'.cell? ⟨w.heap.size, 1, none⟩ = some (.int .i64 d1) ∧ w'.cell? ⟨w.heap.size + 1, 0, none⟩ = some (.int .i64 n2) ∧ w'.cell? ⟨w.heap.size + 1, 1, none⟩ = some (.int .i64 d2))
    (first | (go_split_ands; exact (S22.step (by assumption) (by assumption)).l) | (go_split_ands; exact (S22.store (by assumption) _ _).l) | (exact hS1.drew.l))
    (first
      | (go_at_call 25; go_split_ands; with_reducible (refine (of_p n1 d1 _).mono ?_); rintro e w2 ⟨rfl, hb2⟩)
      | (go_at_call 25; go_split_ands; with_reducible (refine (of_p n2 d2 _).mono ?_); rintro e w3 ⟨rfl, hb3⟩)
      | (go_at_call 38; go_split_ands; with_reducible (refine (med1_r n1 d1 n2 d2 HMB.out _).mono ?_); rintro e w4 ⟨rfl, hb4⟩)
      | (go_at_call 28; go_split_ands; with_reducible (refine (rfrac_var (n1 + n2) (d1 + d2) HNB.out.1 HNB.out.2.1 HNB.out.2.2.1 HNB.out.2.2.2 HNZ.out _ rfl _).mono ?_); rintro e w5 ⟨ra, rb, rc, rfl, HANS, hb5⟩; obtain ⟨r0, r1, hr0, hr1, hr2, hr3, hr4⟩ := S22.blk (by assumption) hb5))
  go_wp2
  refine bodyPost_ret (v := .tuple #[.agg #[.int .i64 ra, .int .i64 rb], .int .i64 rc]) (by simp [results, Try.results37, go_sem, hr0, hr1]) rfl ⟨_, _, _, rfl, HANS, ?_⟩
  go_split_ands; exact S22.b (by assumption)

set_option maxRecDepth 100000 in
set_option maxHeartbeats 3200000 in
theorem comb_bad_med (n1 d1 n2 d2 : Int) (hv : ¬ (VF n1 d1 ∧ VF n2 d2)) (w : World) :
    Calls Try.prog 37 #[.agg #[.int .i64 n1, .int .i64 d1], .agg #[.int .i64 n2, .int .i64 d2], .func (.func 38) #[] #[]] w fun e w' => e = .returned (.tuple #[.agg #[.int .i64 0, .int .i64 0], .int .i64 2]) ∧ Below w.heap.size w w' := by
  have HAB : Hid (allB [(n1, d1), (n2, d2)] = false) := Lib.hid (by
    cases hb : allB [(n1, d1), (n2, d2)]
    · rfl
    · simp only [allB, List.all_cons, List.all_nil, Bool.and_true, Bool.and_eq_true] at hb
      exact absurd ⟨(vfB_iff n1 d1).1 hb.1, (vfB_iff n2 d2).1 hb.2⟩ hv)
  have HS := Lib.hid (S22.start w n1 d1 n2 d2 0 0 23 23)
  go_enter Try.func37, Try.ntmps37
  go_wp2_with fail
  refine (allValid_some (w.heap.size + 1 + 1 + 1) 2 [(n1, d1), (n2, d2)] (by simp) _ (HasFr.two3 w n1 d1 n2 d2 0 0 23)).mono ?_
  rintro e w1 ⟨rfl, hb1⟩
  rw [HAB.out]
  have hS1 := (HS.out.step ((Below.refl _ _).alloc (Nat.le_refl _) _)).step hb1
  obtain ⟨r0, r1, hr0, hr1, hr2, hr3, hr4⟩ := hS1.2.2.2.facts
  have HS1 := Lib.hid hS1
  clear hb1 hS1
  go_wp2
  refine bodyPost_ret (v := .tuple #[.agg #[.int .i64 0, .int .i64 0], .int .i64 2]) (by simp [results, Try.results37, go_sem, hr0, hr1]) rfl ⟨rfl, ?_⟩
  exact (HS1.out.1.setCell (by simp; omega) _).setCell (by simp; omega) _

set_option maxRecDepth 100000 in
set_option maxHeartbeats 1600000 in
theorem pmed_any (n1 d1 n2 d2 : Int) (w : World) :
    Calls Try.prog 15 #[.agg #[.int .i64 n1, .int .i64 d1], .agg #[.int .i64 n2, .int .i64 d2]] w fun e w' => ∃ a b c, e = .returned (.tuple #[.agg #[.int .i64 a, .int .i64 b], .int .i64 c]) ∧ Hid (opS n1 d1 n2 d2 (qof (n1 + n2) (d1 + d2)) = (a, b, c)) ∧ Below w.heap.size w w' := by
  have HC : Hid (∀ w, Calls Try.prog 37 #[.agg #[.int .i64 n1, .int .i64 d1], .agg #[.int .i64 n2, .int .i64 d2], .func (.func 38) #[] #[]] w fun e w' => ∃ a b c, e = .returned (.tuple #[.agg #[.int .i64 a, .int .i64 b], .int .i64 c]) ∧ Hid (opS n1 d1 n2 d2 (qof (n1 + n2) (d1 + d2)) = (a, b, c)) ∧ Below w.heap.size w w') := Lib.hid (fun w => by
    by_cases h : VF n1 d1 ∧ VF n2 d2
    · rw [opS_yes h.1 h.2]; exact comb_med n1 d1 n2 d2 h.1 h.2 w
    · rw [opS_no h]; exact (comb_bad_med n1 d1 n2 d2 h w).mono fun _ _ ⟨he, hb⟩ => ⟨0, 0, 2, he, Lib.hid rfl, hb⟩)
  have HS := Lib.hid (S22.start w n1 d1 n2 d2 0 0 23 23)
  go_enter Try.func15, Try.ntmps15
  go_wp2_with fail
  refine (HC.out _).mono ?_
  rintro e w1 ⟨ra, rb, rc, rfl, HANS, hb1⟩
  have hS1 := HS.out.step hb1
  obtain ⟨r0, r1, hr0, hr1, hr2, hr3, hr4⟩ := hS1.2.2.2.facts
  have HS1 := Lib.hid hS1
  clear hb1 hS1
  go_wp2
  refine bodyPost_ret (v := .tuple #[.agg #[.int .i64 ra, .int .i64 rb], .int .i64 rc]) (by simp [results, Try.results15, go_sem, hr0, hr1]) rfl ⟨_, _, _, rfl, HANS, ?_⟩
  exact (HS1.out.1.setCell (by simp; omega) _).setCell (by simp; omega) _

set_option maxRecDepth 100000 in
set_option maxHeartbeats 3200000 in
theorem rmed_good (n1 d1 n2 d2 : Int) (h1 : VF n1 d1) (h2 : VF n2 d2) (w : World) :
    Calls Try.prog 16 #[.agg #[.int .i64 n1, .int .i64 d1], .agg #[.int .i64 n2, .int .i64 d2]] w fun e w' => ∃ a b c, e = .returned (.tuple #[.agg #[.int .i64 a, .int .i64 b], .int .i64 c]) ∧ Hid (ansQ (qof (n1 + n2) (d1 + d2)) = (a, b, c)) ∧ Below w.heap.size w w' := by
  have HV : Hid (vfB n1 d1 = true ∧ vfB n2 d2 = true) := Lib.hid ⟨(vfB_iff _ _).2 h1, (vfB_iff _ _).2 h2⟩
  have b1 := h1.n1; have b2 := h1.n2; have b3 := h1.d1; have b4 := h1.d2; have v1 := h2.n1; have v2 := h2.n2; have v3 := h2.d1; have v4 := h2.d2
  have HN : Hid (-9223372036854775808 ≤ n1 + n2 ∧ n1 + n2 ≤ 9223372036854775807 ∧ -9223372036854775808 ≤ d1 + d2 ∧ d1 + d2 ≤ 9223372036854775807 ∧ d1 + d2 ≠ 0) := Lib.hid (by omega)
  clear h1 h2
  have HS := Lib.hid (S22.start w n1 d1 n2 d2 0 0 23 23)
  go_enter Try.func16, Try.ntmps16
  go_wp2_with fail
  refine (valid_r n1 d1 _).mono ?_
  rintro e w1 ⟨rfl, hb1⟩
  rw [HV.out.1]
  have hS1 := HS.out.step hb1
  obtain ⟨-, hc0, hc1, hc2, hc3⟩ := hS1.l
  have HS1 := Lib.hid hS1
  clear hb1 hS1
  go_wp2_with fail
  refine (valid_r n2 d2 _).mono ?_
  rintro e w2 ⟨rfl, hb2⟩
  rw [HV.out.2]
  have hS2 := HS1.out.step hb2
  clear hc0 hc1 hc2 hc3
  obtain ⟨-, hc0, hc1, hc2, hc3⟩ := hS2.l
  have HS2 := Lib.hid hS2
  clear hb2 hS2
  go_wp2_with fail
  refine (new_r (n1 + n2) (d1 + d2) HN.out.1 HN.out.2.1 HN.out.2.2.1 HN.out.2.2.2.1 _).mono ?_
  rintro e w3 ⟨ra, rb, rc, rfl, HANS0, hb3⟩
  have HANS := Lib.hid ((newS_else (n1 + n2) HN.out.2.2.2.2).symm.trans HANS0.out)
  have HS3 := Lib.hid (HS2.out.step hb3)
  obtain ⟨r0, r1, hr0, hr1, hr2, hr3, hr4⟩ := HS3.out.2.2.2.facts
  clear hc0 hc1 hc2 hc3 hb3 HANS0
  go_wp2
  refine bodyPost_ret (v := .tuple #[.agg #[.int .i64 ra, .int .i64 rb], .int .i64 rc]) (by simp [results, Try.results16, go_sem, hr0, hr1]) rfl ⟨_, _, _, rfl, HANS, ?_⟩
  exact (HS3.out.1.setCell (by simp; omega) _).setCell (by simp; omega) _

set_option maxRecDepth 100000 in
set_option maxHeartbeats 1600000 in
theorem rmed_bad (n1 d1 n2 d2 : Int) (h : ¬ (VF n1 d1 ∧ VF n2 d2)) (w : World) :
    Calls Try.prog 16 #[.agg #[.int .i64 n1, .int .i64 d1], .agg #[.int .i64 n2, .int .i64 d2]] w fun e w' => e = .returned (.tuple #[.agg #[.int .i64 0, .int .i64 0], .int .i64 2]) ∧ Below w.heap.size w w' := by
  have HS := Lib.hid (S22.start w n1 d1 n2 d2 0 0 23 23)
  by_cases h1 : VF n1 d1
  · have HV : Hid (vfB n1 d1 = true ∧ vfB n2 d2 = false) := Lib.hid ⟨(vfB_iff _ _).2 h1, vfB_false (fun h2 => h ⟨h1, h2⟩)⟩
    clear h h1
    go_enter Try.func16, Try.ntmps16
    go_wp2_with fail
    refine (valid_r n1 d1 _).mono ?_
    rintro e w1 ⟨rfl, hb1⟩
    rw [HV.out.1]
    have hS1 := HS.out.step hb1
    obtain ⟨-, hc0, hc1, hc2, hc3⟩ := hS1.l
    have HS1 := Lib.hid hS1
    clear hb1 hS1
    go_wp2_with fail
    refine (valid_r n2 d2 _).mono ?_
    rintro e w2 ⟨rfl, hb2⟩
    rw [HV.out.2]
    have hS2 := HS1.out.step hb2
    obtain ⟨r0, r1, hr0, hr1, hr2, hr3, hr4⟩ := hS2.2.2.2.facts
    have HS2 := Lib.hid hS2
    clear hb2 hc0 hc1 hc2 hc3 hS2
    go_wp2
    refine bodyPost_ret (v := .tuple #[.agg #[.int .i64 0, .int .i64 0], .int .i64 2]) (by simp [results, Try.results16, go_sem, hr0, hr1]) rfl ⟨rfl, ?_⟩
    exact (HS2.out.1.setCell (by simp; omega) _).setCell (by simp; omega) _
  · have HV : Hid (vfB n1 d1 = false) := Lib.hid (vfB_false h1)
    clear h h1
    go_enter Try.func16, Try.ntmps16
    go_wp2_with fail
    refine (valid_r n1 d1 _).mono ?_
    rintro e w1 ⟨rfl, hb1⟩
    rw [HV.out]
    have hS1 := HS.out.step hb1
    obtain ⟨r0, r1, hr0, hr1, hr2, hr3, hr4⟩ := hS1.2.2.2.facts
    have HS1 := Lib.hid hS1
    clear hb1 hS1
    go_wp2
    refine bodyPost_ret (v := .tuple #[.agg #[.int .i64 0, .int .i64 0], .int .i64 2]) (by simp [results, Try.results16, go_sem, hr0, hr1]) rfl ⟨rfl, ?_⟩
    exact (HS1.out.1.setCell (by simp; omega) _).setCell (by simp; omega) _

theorem rmed_any (n1 d1 n2 d2 : Int) (w : World) :
    Calls Try.prog 16 #[.agg #[.int .i64 n1, .int .i64 d1], .agg #[.int .i64 n2, .int .i64 d2]] w fun e w' => ∃ a b c, e = .returned (.tuple #[.agg #[.int .i64 a, .int .i64 b], .int .i64 c]) ∧ Hid (opS n1 d1 n2 d2 (qof (n1 + n2) (d1 + d2)) = (a, b, c)) ∧ Below w.heap.size w w' := by
  by_cases h : VF n1 d1 ∧ VF n2 d2
  · rw [opS_yes h.1 h.2]; exact rmed_good n1 d1 n2 d2 h.1 h.2 w
  · rw [opS_no h]; exact (rmed_bad n1 d1 n2 d2 h w).mono fun _ _ ⟨he, hb⟩ => ⟨0, 0, 2, he, Lib.hid rfl, hb⟩

end Go.Proofs.Ytjnfgjaiahnfgab

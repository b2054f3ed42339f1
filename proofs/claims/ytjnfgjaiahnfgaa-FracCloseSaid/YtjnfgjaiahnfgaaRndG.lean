/- The reference's RoundTo. -/
import Derived.Test.YtjnfgjaiahnfgaaRndF
import Derived.Test.YtjnfgjaiahnfgaaBackA
namespace Go.Proofs.Ytjnfgjaiahnfgaa
open Go.RowKit

theorem over_qof (x y : Value) (n1 d1 n2 d2 : Int) (h1 : VF n1 d1) (h2 : VF n2 d2) (hz : n2 ≠ 0) (w : World) (h : IsQ w x (qof n1 d1)) (g : IsQ w y (qof n2 d2)) :
    Calls Try.prog 42 #[x, y] w fun e w' => ∃ z, e = .returned z ∧ IsQ w' z (qof (n1 * d2) (d1 * n2)) ∧ Below w.heap.size w w' := by
  have l1 := (LenQ.vf h1).mono (show 1 ≤ 10000000 by decide)
  have l2 := (LenQ.vf h2).mono (show 1 ≤ 10000000 by decide)
  rw [qof_over (by have := h1.d1; omega) (by have := h2.d1; omega) hz]
  exact over_any x y _ _ (h2.ne hz) w h g (by have := l1.n; omega) (by have := l1.d; omega) (by have := l2.n; omega) (by have := l2.d; omega)

theorem times_k (x y : Value) (k n2 d2 : Int) (r : -2000000000000000000 ≤ k ∧ k ≤ 2000000000000000000) (h2 : VF n2 d2) (w : World) (h : IsQ w x (k : Rat)) (g : IsQ w y (qof n2 d2)) :
    Calls Try.prog 69 #[x, y] w fun e w' => ∃ z, e = .returned z ∧ IsQ w' z (qof (k * n2) d2) ∧ Below w.heap.size w w' := by
  have l1 := LenQ.int (n := k) (by omega) (by omega)
  have l2 := (LenQ.vf h2).mono (show 1 ≤ 10000000 by decide)
  have e : qof (k * n2) d2 = (k : Rat) * qof n2 d2 := by
    unfold qof
    rw [Rat.intCast_mul]
    have : (d2 : Rat) ≠ 0 := by exact_mod_cast (show d2 ≠ 0 by have := h2.d1; omega)
    grind
  rw [e]
  exact times_q_any x y _ _ w h g (by have := l1.n; omega) (by have := l1.d; omega) (by have := l2.n; omega) (by have := l2.d; omega)

set_option maxRecDepth 100000 in
set_option maxHeartbeats 3200000 in
theorem roundTo_rgood (n1 d1 n2 d2 m : Int) (h1 : VF n1 d1) (h2 : VF n2 d2) (hp : 0 < n2) (hm0 : 0 ≤ m) (hm4 : m ≤ 4) (w : World) :
    Calls Try.prog 36 #[.agg #[.int .i64 n1, .int .i64 d1], .agg #[.int .i64 n2, .int .i64 d2], .int .i64 m] w fun e w' => ∃ a b c, e = .returned (.tuple #[.agg #[.int .i64 a, .int .i64 b], .int .i64 c]) ∧ Hid (rtoS n1 d1 n2 d2 m = (a, b, c)) ∧ Below w.heap.size w w' := by
  rw [rtoS_yes h1 h2 hp ((modeB_iff m).2 ⟨hm0, hm4⟩)]
  have HB := Lib.hid (rnd_bound (m := m) h1 h2 hp)
  have HV : Hid (vfB n1 d1 = true ∧ vfB n2 d2 = true) := Lib.hid ⟨(vfB_iff _ _).2 h1, (vfB_iff _ _).2 h2⟩
  have HVF := Lib.hid (And.intro h1 (And.intro h2 (show n2 ≠ 0 by omega)))
  have HMM := Lib.hid (And.intro hm0 hm4)
  have HR : Hid ((-9223372036854775808 ≤ n1 ∧ n1 ≤ 9223372036854775807 ∧ -9223372036854775808 ≤ d1 ∧ d1 ≤ 9223372036854775807 ∧ d1 ≠ 0) ∧ (-9223372036854775808 ≤ n2 ∧ n2 ≤ 9223372036854775807 ∧ -9223372036854775808 ≤ d2 ∧ d2 ≤ 9223372036854775807 ∧ d2 ≠ 0)) := Lib.hid (by
    have := h1.n1; have := h1.n2; have := h1.d1; have := h1.d2; have := h2.n1; have := h2.n2; have := h2.d1; have := h2.d2; omega)
  generalize hk : rndI m (n1 * d2) (d1 * n2) = k at *
  have HRD : Hid (∀ x w, IsQ w x (qof (n1 * d2) (d1 * n2)) → Calls Try.prog 74 #[x, .int .i64 m] w fun e w' => ∃ z, e = .returned z ∧ IsQ w' z (k : Rat) ∧ Below w.heap.size w w') := Lib.hid (fun x w h => by
    rw [← hk]
    exact rounded_any x (n1 * d2) (d1 * n2) m HB.out.2.2.1 (by have := HB.out.2.2.2.1; omega) (by have := HB.out.2.2.2.2.1; omega) (by have := HB.out.2.2.2.2.2.1; omega) hm0 hm4 w h)
  have hp1 : ¬ n2 ≤ 0 := by omega
  have hq0 : ¬ m < 0 := by omega
  have hq4 : ¬ 4 < m := by omega
  clear h1 h2 hp hk hm0 hm4
  have HS := Lib.hid (S22.start w n1 d1 n2 d2 0 0 23 23)
  go_enter Try.func36, Try.ntmps36
  go_wp2_with fail
  refine (valid_r n1 d1 _).mono ?_
  rintro e w1 ⟨rfl, hb1⟩
  rw [HV.out.1]
  have hS1 := HS.out.step hb1
  obtain ⟨-, hc0, hc1, hc2, hc3⟩ := hS1.l
  have HS1 := Lib.hid hS1
  clear hb1 hS1
  go_wp2_with fail
  refine (valid_r n2 d2 _).mono ?_
  rintro e w2 ⟨rfl, hb2⟩
  rw [HV.out.2]
  have hS2 := HS1.out.step hb2
  clear hc0 hc1 hc2 hc3
  obtain ⟨-, hc0, hc1, hc2, hc3⟩ := hS2.l
  clear hb2
  go_wp2
  go_region_held3 (fun w' => S22 w n1 d1 n2 d2 23 w' ∧ w'.cell? ⟨w.heap.size, 0, none⟩ = some (.int .i64 n1) ∧ w'.cell? ⟨w.heap.size, 1, none⟩ = some (.int .i64 d1) ∧ w'.cell? ⟨w.heap.size + 1, 0, none⟩ = some (.int .i64 n2) ∧ w'.cell? ⟨w.heap.size + 1, 1, none⟩ = some (.int .i64 d2))
    (first | (go_split_ands; exact (S22.step (by assumption) (by assumption)).l) | (go_split_ands; exact (S22.store (by assumption) _ _).l) | (exact hS2.drew.l))
    (first
      | (go_at_call 38; go_split_ands; with_reducible (refine (of_q n1 d1 HR.out.1.1 HR.out.1.2.1 HR.out.1.2.2.1 HR.out.1.2.2.2.1 HR.out.1.2.2.2.2 _).mono ?_); rintro e v1 ⟨z1, rfl, hz1, hv1⟩)
      | (go_at_call 38; go_split_ands; with_reducible (refine (of_q n2 d2 HR.out.2.1 HR.out.2.2.1 HR.out.2.2.2.1 HR.out.2.2.2.2.1 HR.out.2.2.2.2.2 _).mono ?_); rintro e v2 ⟨z2, rfl, hz2, hv2⟩)
      | (go_at_call 42; go_split_ands; with_reducible (refine (over_qof _ _ n1 d1 n2 d2 HVF.out.1 HVF.out.2.1 HVF.out.2.2 _ (by first | assumption | exact IsQ.below (by assumption) (by assumption)) (by first | assumption | exact IsQ.below (by assumption) (by assumption))).mono ?_); rintro e v3 ⟨z3, rfl, hz3, hv3⟩)
      | (go_at_call 74; go_split_ands; with_reducible (refine (HRD.out _ _ (by first | assumption | exact IsQ.below (by assumption) (by assumption))).mono ?_); rintro e v4 ⟨z4, rfl, hz4, hv4⟩)
      | (go_at_call 69; go_split_ands; with_reducible (refine (times_k _ _ k n2 d2 ⟨HB.out.2.2.2.2.2.2.1, HB.out.2.2.2.2.2.2.2⟩ HVF.out.2.1 _ (by first | assumption | exact IsQ.below (by assumption) (by assumption)) (by first | assumption | exact IsQ.below (by assumption) (by assumption))).mono ?_); rintro e v5 ⟨z5, rfl, hz5, hv5⟩)
      | (go_at_call 60; go_split_ands; with_reducible (refine (answer_var z5 _ _ hz5).mono ?_); rintro e v6 ⟨ra, rb, rc, rfl, HANS, hb6⟩; obtain ⟨r0, r1, hr0, hr1, hr2, hr3, hr4⟩ := S22.blk (by assumption) hb6))
  go_wp2
  refine bodyPost_ret (v := .tuple #[.agg #[.int .i64 ra, .int .i64 rb], .int .i64 rc]) (by simp [results, Try.results36, go_sem, hr0, hr1]) rfl ⟨_, _, _, rfl, HANS, ?_⟩
  go_split_ands; exact S22.b (by assumption)

set_option maxRecDepth 100000 in
set_option maxHeartbeats 1600000 in
theorem roundTo_rb1 (n1 d1 n2 d2 m : Int) (HFIN : Hid (rtoS n1 d1 n2 d2 m = (0, 0, 2))) (HV : Hid (vfB n1 d1 = false)) (w : World) :
    Calls Try.prog 36 #[.agg #[.int .i64 n1, .int .i64 d1], .agg #[.int .i64 n2, .int .i64 d2], .int .i64 m] w fun e w' => ∃ a b c, e = .returned (.tuple #[.agg #[.int .i64 a, .int .i64 b], .int .i64 c]) ∧ Hid (rtoS n1 d1 n2 d2 m = (a, b, c)) ∧ Below w.heap.size w w' := by
  have HS := Lib.hid (S22.start w n1 d1 n2 d2 0 0 23 23)
  go_enter Try.func36, Try.ntmps36
  go_wp2_with fail
  refine (valid_r n1 d1 _).mono ?_
  rintro e w1 ⟨rfl, hb1⟩
  rw [HV.out]
  have hS1 := HS.out.step hb1
  obtain ⟨-, hc0, hc1, hc2, hc3⟩ := hS1.l
  obtain ⟨r0, r1, hr0, hr1, hr2, hr3, hr4⟩ := hS1.2.2.2.facts
  have HSX := Lib.hid hS1
  clear hb1 hS1
  go_wp2
  refine bodyPost_ret (v := .tuple #[.agg #[.int .i64 0, .int .i64 0], .int .i64 2]) (by simp [results, Try.results36, go_sem, hr0, hr1]) rfl ⟨_, _, _, rfl, HFIN, ?_⟩
  exact (HSX.out.1.setCell (by simp; omega) _).setCell (by simp; omega) _

set_option maxRecDepth 100000 in
set_option maxHeartbeats 1600000 in
theorem roundTo_rb2 (n1 d1 n2 d2 m : Int) (HFIN : Hid (rtoS n1 d1 n2 d2 m = (0, 0, 2))) (HV : Hid (vfB n1 d1 = true ∧ vfB n2 d2 = false)) (w : World) :
    Calls Try.prog 36 #[.agg #[.int .i64 n1, .int .i64 d1], .agg #[.int .i64 n2, .int .i64 d2], .int .i64 m] w fun e w' => ∃ a b c, e = .returned (.tuple #[.agg #[.int .i64 a, .int .i64 b], .int .i64 c]) ∧ Hid (rtoS n1 d1 n2 d2 m = (a, b, c)) ∧ Below w.heap.size w w' := by
  have HS := Lib.hid (S22.start w n1 d1 n2 d2 0 0 23 23)
  go_enter Try.func36, Try.ntmps36
  go_wp2_with fail
  refine (valid_r n1 d1 _).mono ?_
  rintro e w1 ⟨rfl, hb1⟩
  rw [HV.out.1]
  have hS1 := HS.out.step hb1
  obtain ⟨-, hc0, hc1, hc2, hc3⟩ := hS1.l
  have HS1 := Lib.hid hS1
  clear hb1 hS1
  go_wp2_with fail
  refine (valid_r n2 d2 _).mono ?_
  rintro e w2 ⟨rfl, hb2⟩
  rw [HV.out.2]
  have hS2 := HS1.out.step hb2
  clear hc0 hc1 hc2 hc3
  obtain ⟨-, hc0, hc1, hc2, hc3⟩ := hS2.l
  obtain ⟨r0, r1, hr0, hr1, hr2, hr3, hr4⟩ := hS2.2.2.2.facts
  have HSX := Lib.hid hS2
  clear hb2 hS2
  go_wp2
  refine bodyPost_ret (v := .tuple #[.agg #[.int .i64 0, .int .i64 0], .int .i64 2]) (by simp [results, Try.results36, go_sem, hr0, hr1]) rfl ⟨_, _, _, rfl, HFIN, ?_⟩
  exact (HSX.out.1.setCell (by simp; omega) _).setCell (by simp; omega) _

set_option maxRecDepth 100000 in
set_option maxHeartbeats 1600000 in
theorem roundTo_rb3 (n1 d1 n2 d2 m : Int) (HFIN : Hid (rtoS n1 d1 n2 d2 m = (0, 0, 2))) (HV : Hid (vfB n1 d1 = true ∧ vfB n2 d2 = true)) (hp : n2 ≤ 0) (w : World) :
    Calls Try.prog 36 #[.agg #[.int .i64 n1, .int .i64 d1], .agg #[.int .i64 n2, .int .i64 d2], .int .i64 m] w fun e w' => ∃ a b c, e = .returned (.tuple #[.agg #[.int .i64 a, .int .i64 b], .int .i64 c]) ∧ Hid (rtoS n1 d1 n2 d2 m = (a, b, c)) ∧ Below w.heap.size w w' := by
  have HS := Lib.hid (S22.start w n1 d1 n2 d2 0 0 23 23)
  go_enter Try.func36, Try.ntmps36
  go_wp2_with fail
  refine (valid_r n1 d1 _).mono ?_
  rintro e w1 ⟨rfl, hb1⟩
  rw [HV.out.1]
  have hS1 := HS.out.step hb1
  obtain ⟨-, hc0, hc1, hc2, hc3⟩ := hS1.l
  have HS1 := Lib.hid hS1
  clear hb1 hS1
  go_wp2_with fail
  refine (valid_r n2 d2 _).mono ?_
  rintro e w2 ⟨rfl, hb2⟩
  rw [HV.out.2]
  have hS2 := HS1.out.step hb2
  clear hc0 hc1 hc2 hc3
  obtain ⟨-, hc0, hc1, hc2, hc3⟩ := hS2.l
  obtain ⟨r0, r1, hr0, hr1, hr2, hr3, hr4⟩ := hS2.2.2.2.facts
  have HSX := Lib.hid hS2
  clear hb2 hS2
  go_wp2
  refine bodyPost_ret (v := .tuple #[.agg #[.int .i64 0, .int .i64 0], .int .i64 2]) (by simp [results, Try.results36, go_sem, hr0, hr1]) rfl ⟨_, _, _, rfl, HFIN, ?_⟩
  exact (HSX.out.1.setCell (by simp; omega) _).setCell (by simp; omega) _

set_option maxRecDepth 100000 in
set_option maxHeartbeats 1600000 in
theorem roundTo_rb4 (n1 d1 n2 d2 m : Int) (HFIN : Hid (rtoS n1 d1 n2 d2 m = (0, 0, 2))) (HV : Hid (vfB n1 d1 = true ∧ vfB n2 d2 = true)) (hp : ¬ n2 ≤ 0) (hq0 : m < 0) (w : World) :
    Calls Try.prog 36 #[.agg #[.int .i64 n1, .int .i64 d1], .agg #[.int .i64 n2, .int .i64 d2], .int .i64 m] w fun e w' => ∃ a b c, e = .returned (.tuple #[.agg #[.int .i64 a, .int .i64 b], .int .i64 c]) ∧ Hid (rtoS n1 d1 n2 d2 m = (a, b, c)) ∧ Below w.heap.size w w' := by
  have HS := Lib.hid (S22.start w n1 d1 n2 d2 0 0 23 23)
  go_enter Try.func36, Try.ntmps36
  go_wp2_with fail
  refine (valid_r n1 d1 _).mono ?_
  rintro e w1 ⟨rfl, hb1⟩
  rw [HV.out.1]
  have hS1 := HS.out.step hb1
  obtain ⟨-, hc0, hc1, hc2, hc3⟩ := hS1.l
  have HS1 := Lib.hid hS1
  clear hb1 hS1
  go_wp2_with fail
  refine (valid_r n2 d2 _).mono ?_
  rintro e w2 ⟨rfl, hb2⟩
  rw [HV.out.2]
  have hS2 := HS1.out.step hb2
  clear hc0 hc1 hc2 hc3
  obtain ⟨-, hc0, hc1, hc2, hc3⟩ := hS2.l
  obtain ⟨r0, r1, hr0, hr1, hr2, hr3, hr4⟩ := hS2.2.2.2.facts
  have HSX := Lib.hid hS2
  clear hb2 hS2
  go_wp2
  refine bodyPost_ret (v := .tuple #[.agg #[.int .i64 0, .int .i64 0], .int .i64 2]) (by simp [results, Try.results36, go_sem, hr0, hr1]) rfl ⟨_, _, _, rfl, HFIN, ?_⟩
  exact (HSX.out.1.setCell (by simp; omega) _).setCell (by simp; omega) _

set_option maxRecDepth 100000 in
set_option maxHeartbeats 1600000 in
theorem roundTo_rb5 (n1 d1 n2 d2 m : Int) (HFIN : Hid (rtoS n1 d1 n2 d2 m = (0, 0, 2))) (HV : Hid (vfB n1 d1 = true ∧ vfB n2 d2 = true)) (hp : ¬ n2 ≤ 0) (hq0 : ¬ m < 0) (hq4 : 4 < m) (w : World) :
    Calls Try.prog 36 #[.agg #[.int .i64 n1, .int .i64 d1], .agg #[.int .i64 n2, .int .i64 d2], .int .i64 m] w fun e w' => ∃ a b c, e = .returned (.tuple #[.agg #[.int .i64 a, .int .i64 b], .int .i64 c]) ∧ Hid (rtoS n1 d1 n2 d2 m = (a, b, c)) ∧ Below w.heap.size w w' := by
  have HS := Lib.hid (S22.start w n1 d1 n2 d2 0 0 23 23)
  go_enter Try.func36, Try.ntmps36
  go_wp2_with fail
  refine (valid_r n1 d1 _).mono ?_
  rintro e w1 ⟨rfl, hb1⟩
  rw [HV.out.1]
  have hS1 := HS.out.step hb1
  obtain ⟨-, hc0, hc1, hc2, hc3⟩ := hS1.l
  have HS1 := Lib.hid hS1
  clear hb1 hS1
  go_wp2_with fail
  refine (valid_r n2 d2 _).mono ?_
  rintro e w2 ⟨rfl, hb2⟩
  rw [HV.out.2]
  have hS2 := HS1.out.step hb2
  clear hc0 hc1 hc2 hc3
  obtain ⟨-, hc0, hc1, hc2, hc3⟩ := hS2.l
  obtain ⟨r0, r1, hr0, hr1, hr2, hr3, hr4⟩ := hS2.2.2.2.facts
  have HSX := Lib.hid hS2
  clear hb2 hS2
  go_wp2
  refine bodyPost_ret (v := .tuple #[.agg #[.int .i64 0, .int .i64 0], .int .i64 2]) (by simp [results, Try.results36, go_sem, hr0, hr1]) rfl ⟨_, _, _, rfl, HFIN, ?_⟩
  exact (HSX.out.1.setCell (by simp; omega) _).setCell (by simp; omega) _

theorem roundTo_rf (n1 d1 n2 d2 m : Int) (w : World) :
    Calls Try.prog 36 #[.agg #[.int .i64 n1, .int .i64 d1], .agg #[.int .i64 n2, .int .i64 d2], .int .i64 m] w fun e w' => ∃ a b c, e = .returned (.tuple #[.agg #[.int .i64 a, .int .i64 b], .int .i64 c]) ∧ Hid (rtoS n1 d1 n2 d2 m = (a, b, c)) ∧ Below w.heap.size w w' := by
  by_cases h1 : VF n1 d1
  · by_cases h2 : VF n2 d2
    · have HV : Hid (vfB n1 d1 = true ∧ vfB n2 d2 = true) := Lib.hid ⟨(vfB_iff _ _).2 h1, (vfB_iff _ _).2 h2⟩
      by_cases hp : n2 ≤ 0
      · exact roundTo_rb3 n1 d1 n2 d2 m (Lib.hid (rtoS_no (fun h => by have := h.2.2.1; omega))) HV hp w
      · by_cases hq0 : m < 0
        · exact roundTo_rb4 n1 d1 n2 d2 m (Lib.hid (rtoS_no (fun h => by have := ((modeB_iff m).1 h.2.2.2).1; omega))) HV hp hq0 w
        · by_cases hq4 : 4 < m
          · exact roundTo_rb5 n1 d1 n2 d2 m (Lib.hid (rtoS_no (fun h => by have := ((modeB_iff m).1 h.2.2.2).2; omega))) HV hp hq0 hq4 w
          · exact roundTo_rgood n1 d1 n2 d2 m h1 h2 (by omega) (by omega) (by omega) w
    · exact roundTo_rb2 n1 d1 n2 d2 m (Lib.hid (rtoS_no (fun h => h2 h.2.1))) (Lib.hid ⟨(vfB_iff _ _).2 h1, vfB_false h2⟩) w
  · exact roundTo_rb1 n1 d1 n2 d2 m (Lib.hid (rtoS_no (fun h => h1 h.1))) (Lib.hid (vfB_false h1)) w

end Go.Proofs.Ytjnfgjaiahnfgaa

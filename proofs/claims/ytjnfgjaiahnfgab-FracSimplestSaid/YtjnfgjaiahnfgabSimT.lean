/- The reference's Simplest. -/
import Derived.Test.YtjnfgjaiahnfgabSimS
namespace Go.Proofs.Ytjnfgjaiahnfgab
open Go.RowKit
set_option linter.unusedSimpArgs false
set_option linter.unusedVariables false

set_option maxRecDepth 100000 in
set_option maxHeartbeats 6400000 in
theorem simplest_rf (n1 d1 n2 d2 : Int) (w : World) :
    Calls Try.prog 11 #[.agg #[.int .i64 n1, .int .i64 d1], .agg #[.int .i64 n2, .int .i64 d2]] w fun e w' => ∃ x y z, e = .returned (.tuple #[.agg #[.int .i64 x, .int .i64 y], .int .i64 z]) ∧ Hid (simS n1 d1 n2 d2 = (x, y, z)) ∧ Below w.heap.size w w' := by
  have hM := (((⟨Mem.nil w, by simp⟩ : MQ w [] [] w).alloc #[.int .i64 n1, .int .i64 d1] 23).alloc #[.int .i64 n2, .int .i64 d2] 23).alloc #[.int .i64 0, .int .i64 0] 23
  simp only [World.size_alloc] at hM
  have HM := Lib.hid hM
  have HC : Hid (∀ w', MQ w [(w.heap.size + 1 + 1, #[.int .i64 0, .int .i64 0], 23), (w.heap.size + 1, #[.int .i64 n2, .int .i64 d2], 23), (w.heap.size, #[.int .i64 n1, .int .i64 d1], 23)] [] w' →
      MQ w [(w.heap.size + 1 + 1, #[.int .i64 0, .int .i64 0], 23), (w.heap.size + 1, #[.int .i64 n2, .int .i64 d2], 23), (w.heap.size, #[.int .i64 n1, .int .i64 d1], 23)] [] w' ∧
      w'.cell? ⟨w.heap.size + 1, 0, none⟩ = some (.int .i64 n2) ∧ w'.cell? ⟨w.heap.size + 1, 1, none⟩ = some (.int .i64 d2) ∧ w'.cell? ⟨w.heap.size, 0, none⟩ = some (.int .i64 n1) ∧ w'.cell? ⟨w.heap.size, 1, none⟩ = some (.int .i64 d1)) := Lib.hid (fun w' h => ⟨h, h.m.tail.all2⟩)
  clear hM
  go_enter Try.func11, Try.ntmps11
  go_upto_region 1 with fail
  go_cut [21] (fun s21 wx => ∃ bad : Bool, s21 = .bool bad ∧ Hid ((bad = false → simOk n1 d1 n2 d2) ∧ (bad = true → ¬ simOk n1 d1 n2 d2)) ∧ Hid (MQ w [(w.heap.size + 1 + 1, #[.int .i64 0, .int .i64 0], 23), (w.heap.size + 1, #[.int .i64 n2, .int .i64 d2], 23), (w.heap.size, #[.int .i64 n1, .int .i64 d1], 23)] [] wx))
  case first =>
    have hM := HM.out
    by_cases h1 : VF n1 d1
    · by_cases h2 : VF n2 d2
      · have HV : Hid (vfB n1 d1 = true ∧ vfB n2 d2 = true) := Lib.hid ⟨(vfB_iff _ _).2 h1, (vfB_iff _ _).2 h2⟩
        have HLQ := Lib.hid (And.intro ((LenQ.vf h1).mono (show 1 ≤ 10000000 by decide)) ((LenQ.vf h2).mono (show 1 ≤ 10000000 by decide)))
        have HR : Hid ((-9223372036854775808 ≤ n1 ∧ n1 ≤ 9223372036854775807 ∧ -9223372036854775808 ≤ d1 ∧ d1 ≤ 9223372036854775807 ∧ d1 ≠ 0) ∧ (-9223372036854775808 ≤ n2 ∧ n2 ≤ 9223372036854775807 ∧ -9223372036854775808 ≤ d2 ∧ d2 ≤ 9223372036854775807 ∧ d2 ≠ 0)) := Lib.hid (by
          have := h1.n1; have := h1.n2; have := h1.d1; have := h1.d2; have := h2.n1; have := h2.n2; have := h2.d1; have := h2.d2; omega)
        obtain ⟨o, ho⟩ : ∃ o, o = ordQ (qof n1 d1) (qof n2 d2) := ⟨_, rfl⟩
        have HO := Lib.hid ho
        have HOK : Hid ((decide (0 < o) = false → simOk n1 d1 n2 d2) ∧ (decide (0 < o) = true → ¬ simOk n1 d1 n2 d2)) := Lib.hid (by
          have e := ordQ_cross (n1 := n1) (d1 := d1) (n2 := n2) (d2 := d2) (by have := h1.d1; omega) (by have := h2.d1; omega)
          rw [← ho] at e
          constructor
          · intro h
            refine ⟨h1, h2, ?_⟩
            have := of_decide_eq_false h
            rcases cmpI_cases (n1 * d2) (n2 * d1) with ⟨_, _⟩ | ⟨_, _⟩ | ⟨_, _⟩ <;> omega
          · intro h hs
            have := of_decide_eq_true h
            have := hs.2.2
            rcases cmpI_cases (n1 * d2) (n2 * d1) with ⟨_, _⟩ | ⟨_, _⟩ | ⟨_, _⟩ <;> omega)
        clear h1 h2 ho
        go_wp2_with fail
        go_region_held3 (fun w' => MQ w [(w.heap.size + 1 + 1, #[.int .i64 0, .int .i64 0], 23), (w.heap.size + 1, #[.int .i64 n2, .int .i64 d2], 23), (w.heap.size, #[.int .i64 n1, .int .i64 d1], 23)] [] w' ∧ w'.cell? ⟨w.heap.size + 1, 0, none⟩ = some (.int .i64 n2) ∧ w'.cell? ⟨w.heap.size + 1, 1, none⟩ = some (.int .i64 d2) ∧ w'.cell? ⟨w.heap.size, 0, none⟩ = some (.int .i64 n1) ∧ w'.cell? ⟨w.heap.size, 1, none⟩ = some (.int .i64 d1))
          (first | exact HC.out _ hM | exact HC.out _ hM.drew | (go_split_ands; exact HC.out _ (MQ.step (by assumption) (by assumption))))
          (first
            | (go_at_call 13; go_split_ands; with_reducible (refine (valid_r n1 d1 _).mono ?_); rintro e x1 ⟨rfl, hb1⟩; rw [HV.out.1])
            | (go_at_call 13; go_split_ands; with_reducible (refine (valid_r n2 d2 _).mono ?_); rintro e x2 ⟨rfl, hb2⟩; rw [HV.out.2])
            | (go_at_call 32; go_split_ands; with_reducible (refine (of_q n1 d1 HR.out.1.1 HR.out.1.2.1 HR.out.1.2.2.1 HR.out.1.2.2.2.1 HR.out.1.2.2.2.2 _).mono ?_); rintro e x3 ⟨z1, rfl, hz1, hb3⟩)
            | (go_at_call 32; go_split_ands; with_reducible (refine (of_q n2 d2 HR.out.2.1 HR.out.2.2.1 HR.out.2.2.2.1 HR.out.2.2.2.2.1 HR.out.2.2.2.2.2 _).mono ?_); rintro e x4 ⟨z2, rfl, hz2, hb4⟩)
            | (go_at_call 31; go_split_ands; with_reducible (refine (order_var z1 z2 (qof n1 d1) (qof n2 d2) o HO.out _ (IsQ.below hz1 hb4) hz2 HLQ.out.1 HLQ.out.2).mono ?_); rintro e x5 ⟨rfl, hb5⟩))
        go_wp2_with fail
        go_meet
        exact ⟨_, rfl, HOK, Lib.hid (((((HM.out.drew.step hb1).step hb2).step hb3).step hb4).step hb5)⟩
      · have HV : Hid (vfB n1 d1 = true ∧ vfB n2 d2 = false) := Lib.hid ⟨(vfB_iff _ _).2 h1, vfB_false h2⟩
        have HOK : Hid (¬ simOk n1 d1 n2 d2) := Lib.hid (fun h => h2 h.2.1)
        clear h1 h2
        go_wp2_with fail
        obtain ⟨-, kb0, kb1, ka0, ka1⟩ := HC.out _ hM
        clear hM
        first
        | go_region_with (first
            | (go_at_call 13; (with_reducible refine (valid_r n1 d1 _).mono ?_); rintro e x1 ⟨rfl, hb1⟩; rw [HV.out.1]; have hX1 := HM.out.drew.step hb1; obtain ⟨-, jb0, jb1, ja0, ja1⟩ := HC.out _ hX1)
            | (go_at_call 13; (with_reducible refine (valid_r n2 d2 _).mono ?_); rintro e x2 ⟨rfl, hb2⟩; rw [HV.out.2]; have hX2 := hX1.step hb2))
        | fail
        all_goals go_wp2_with fail
        all_goals go_meet
        all_goals exact ⟨true, rfl, Lib.hid ⟨(fun h => Bool.noConfusion h), fun _ => HOK.out⟩, Lib.hid hX2⟩
    · have HV : Hid (vfB n1 d1 = false) := Lib.hid (vfB_false h1)
      have HOK : Hid (¬ simOk n1 d1 n2 d2) := Lib.hid (fun h => h1 h.1)
      clear h1
      go_wp2_with fail
      obtain ⟨-, kb0, kb1, ka0, ka1⟩ := HC.out _ hM
      clear hM
      first
      | go_region_with ((go_at_call 13; (with_reducible refine (valid_r n1 d1 _).mono ?_); rintro e x1 ⟨rfl, hb1⟩; rw [HV.out]; have hX1 := HM.out.drew.step hb1))
      | fail
      all_goals go_wp2_with fail
      all_goals go_meet
      all_goals exact ⟨true, rfl, Lib.hid ⟨(fun h => Bool.noConfusion h), fun _ => HOK.out⟩, Lib.hid hX1⟩
  case rest =>
  obtain ⟨bad, rfl, HOK, HR⟩ := hcut
  clear HM HC
  cases bad
  · have hok := HOK.out.1 rfl
    have HSY := Lib.hid (simS_yes hok)
    have HSQ := Lib.hid (simple_q n1 d1 n2 d2 hok)
    obtain ⟨h1, h2, -⟩ := hok
    obtain ⟨X, hX⟩ : ∃ X, (smpV n1 d1 n2 d2).1 = X := ⟨_, rfl⟩
    obtain ⟨Y, hY⟩ : ∃ X, (smpV n1 d1 n2 d2).2 = X := ⟨_, rfl⟩
    rw [hX, hY] at HSY HSQ
    have HRG : Hid ((-9223372036854775808 ≤ n1 ∧ n1 ≤ 9223372036854775807 ∧ -9223372036854775808 ≤ d1 ∧ d1 ≤ 9223372036854775807 ∧ d1 ≠ 0) ∧ (-9223372036854775808 ≤ n2 ∧ n2 ≤ 9223372036854775807 ∧ -9223372036854775808 ≤ d2 ∧ d2 ≤ 9223372036854775807 ∧ d2 ≠ 0)) := Lib.hid (by
      have := h1.n1; have := h1.n2; have := h1.d1; have := h1.d2; have := h2.n1; have := h2.n2; have := h2.d1; have := h2.d2; omega)
    have HM7 := Lib.hid HR.out.tail
    have hM7 := HM7.out
    have HC : Hid (∀ w', MQ w [(w.heap.size + 1, #[.int .i64 n2, .int .i64 d2], 23), (w.heap.size, #[.int .i64 n1, .int .i64 d1], 23)] [] w' → MQ w [(w.heap.size + 1, #[.int .i64 n2, .int .i64 d2], 23), (w.heap.size, #[.int .i64 n1, .int .i64 d1], 23)] [] w' ∧
      w'.cell? ⟨w.heap.size + 1, 0, none⟩ = some (.int .i64 n2) ∧ w'.cell? ⟨w.heap.size + 1, 1, none⟩ = some (.int .i64 d2) ∧ w'.cell? ⟨w.heap.size, 0, none⟩ = some (.int .i64 n1) ∧ w'.cell? ⟨w.heap.size, 1, none⟩ = some (.int .i64 d1)) := Lib.hid (fun w' h => ⟨h, h.m.all2⟩)
    have HNE : Hid (∀ x ∈ ([(w.heap.size + 1, #[.int .i64 n2, .int .i64 d2], 23), (w.heap.size, #[.int .i64 n1, .int .i64 d1], 23)] : List (Nat × Array Value × TypeId)), x.1 ≠ w.heap.size + 1 + 1) := Lib.hid (by
      intro x hx
      simp only [List.mem_cons, List.not_mem_nil, or_false] at hx
      rcases hx with rfl | rfl <;> simp only <;> omega)
    clear h1 h2 hX hY HOK
    go_wp2_with fail
    go_region_held3 (fun w' => MQ w [(w.heap.size + 1, #[.int .i64 n2, .int .i64 d2], 23), (w.heap.size, #[.int .i64 n1, .int .i64 d1], 23)] [] w' ∧ w'.cell? ⟨w.heap.size + 1, 0, none⟩ = some (.int .i64 n2) ∧ w'.cell? ⟨w.heap.size + 1, 1, none⟩ = some (.int .i64 d2) ∧ w'.cell? ⟨w.heap.size, 0, none⟩ = some (.int .i64 n1) ∧ w'.cell? ⟨w.heap.size, 1, none⟩ = some (.int .i64 d1))
      (first | exact HC.out _ hM7 | exact HC.out _ hM7.drew | (go_split_ands; first | exact HC.out _ (MQ.step (by assumption) (by assumption)) | exact HC.out _ (MQ.far2 (by assumption) (by omega) HNE.out)))
      (first
        | (go_at_call 32; go_split_ands; with_reducible (refine (of_q n1 d1 HRG.out.1.1 HRG.out.1.2.1 HRG.out.1.2.2.1 HRG.out.1.2.2.2.1 HRG.out.1.2.2.2.2 _).mono ?_); rintro e x1 ⟨t1, rfl, hz1, hb1⟩)
        | (go_at_call 32; go_split_ands; with_reducible (refine (of_q n2 d2 HRG.out.2.1 HRG.out.2.2.1 HRG.out.2.2.2.1 HRG.out.2.2.2.2.1 HRG.out.2.2.2.2.2 _).mono ?_); rintro e x2 ⟨t2, rfl, hz2, hb2⟩)
        | (go_at_call 34; go_split_ands; with_reducible (refine (HSQ.out _ _ _ (hz1.below hb2) hz2).mono ?_); rintro e x3 ⟨t3, rfl, hz3, hb3⟩)
        | (go_at_call 33; go_split_ands; with_reducible (refine (answer_var _ _ _ hz3).mono ?_); rintro e x4 ⟨ra, rb, rc, rfl, HANS, hb4⟩; obtain ⟨q0, q1, q2, q3, q4⟩ := ((((HR.out.drew.step hb1).step hb2).step hb3).step hb4).m.c2))
    go_wp2
    have HX7 := Lib.hid (((((HR.out.drew.step hb1).step hb2).step hb3).step hb4).m.put2 (.int .i64 ra) (.int .i64 rb))
    refine bodyPost_ret (v := .tuple #[.agg #[.int .i64 ra, .int .i64 rb], .int .i64 rc]) (by simp [results, Try.results11, go_sem, q0, q1]) rfl ⟨_, _, _, rfl, Lib.hid (by rw [HSY.out]; exact HANS.out), ?_⟩
    exact HX7.out.b
  · have HSN := Lib.hid (simS_no (HOK.out.2 rfl))
    obtain ⟨q0, q1, q2, q3, q4⟩ := HR.out.m.c2
    clear HOK
    go_wp2
    refine bodyPost_ret (v := .tuple #[.agg #[.int .i64 0, .int .i64 0], .int .i64 2]) (by simp [results, Try.results11, go_sem, q0, q1]) rfl ⟨_, _, _, rfl, HSN, ?_⟩
    exact (HR.out.m.put2 _ _).b

end Go.Proofs.Ytjnfgjaiahnfgab

/- Division. -/
import Derived.Test.YtpghhfobaionkaaBin
namespace Go.Proofs.Ytpghhfobaionkaa
open Go.RowKit

open Classical in
noncomputable def divS (n1 d1 n2 d2 : Int) : Int × Int × Int := if VF n1 d1 ∧ VF n2 d2 then (if n2 = 0 then (0, 0, 4) else ansQ (qof n1 d1 / qof n2 d2)) else (0, 0, 2)
open Classical in
theorem divS_zero {n1 d1 n2 d2 : Int} (h1 : VF n1 d1) (h2 : VF n2 d2) (h : n2 = 0) : divS n1 d1 n2 d2 = (0, 0, 4) := by unfold divS; rw [if_pos ⟨h1, h2⟩, if_pos h]
open Classical in
theorem divS_yes {n1 d1 n2 d2 : Int} (h1 : VF n1 d1) (h2 : VF n2 d2) (h : n2 ≠ 0) : divS n1 d1 n2 d2 = ansQ (qof n1 d1 / qof n2 d2) := by unfold divS; rw [if_pos ⟨h1, h2⟩, if_neg h]
open Classical in
theorem divS_no {n1 d1 n2 d2 : Int} (h : ¬ (VF n1 d1 ∧ VF n2 d2)) : divS n1 d1 n2 d2 = (0, 0, 2) := by unfold divS; rw [if_neg h]

set_option maxRecDepth 100000 in
set_option maxHeartbeats 1600000 in
theorem padd_any (n1 d1 n2 d2 : Int) (w : World) :
    Calls Try.prog 14 #[.agg #[.int .i64 n1, .int .i64 d1], .agg #[.int .i64 n2, .int .i64 d2]] w fun e w' => ∃ a b c, e = .returned (.tuple #[.agg #[.int .i64 a, .int .i64 b], .int .i64 c]) ∧ Hid (opS n1 d1 n2 d2 (qof n1 d1 + qof n2 d2) = (a, b, c)) ∧ Below w.heap.size w w' := by
  have HC : Hid (∀ w, Calls Try.prog 21 #[.agg #[.int .i64 n1, .int .i64 d1], .agg #[.int .i64 n2, .int .i64 d2], .func (.func 22) #[] #[]] w fun e w' => ∃ a b c, e = .returned (.tuple #[.agg #[.int .i64 a, .int .i64 b], .int .i64 c]) ∧ Hid (opS n1 d1 n2 d2 (qof n1 d1 + qof n2 d2) = (a, b, c)) ∧ Below w.heap.size w w') := Lib.hid (fun w => by
    by_cases h : VF n1 d1 ∧ VF n2 d2
    · rw [opS_yes h.1 h.2]; exact comb_plus n1 d1 n2 d2 h.1 h.2 w
    · rw [opS_no h]; exact (comb_bad_plus n1 d1 n2 d2 h w).mono fun _ _ ⟨he, hb⟩ => ⟨0, 0, 2, he, Lib.hid rfl, hb⟩)
  have HS := Lib.hid (S22.start w n1 d1 n2 d2 0 0 24 24)
  go_enter Try.func14, Try.ntmps14
  go_wp2_with fail
  refine (HC.out _).mono ?_
  rintro e w1 ⟨ra, rb, rc, rfl, HANS, hb1⟩
  have hS1 := HS.out.step hb1
  obtain ⟨r0, r1, hr0, hr1, hr2, hr3, hr4⟩ := hS1.2.2.2.facts
  have HS1 := Lib.hid hS1
  clear hb1 hS1
  go_wp2
  refine bodyPost_ret (v := .tuple #[.agg #[.int .i64 ra, .int .i64 rb], .int .i64 rc]) (by simp [results, Try.results14, go_sem, hr0, hr1]) rfl ⟨_, _, _, rfl, HANS, ?_⟩
  exact (HS1.out.1.setCell (by simp; omega) _).setCell (by simp; omega) _

end Go.Proofs.Ytpghhfobaionkaa

/- The binary operations: the program's and the reference's, each by one specification. -/
import Derived.Test.YtpghhfobaionkaaCombA
namespace Go.Proofs.Ytpghhfobaionkaa
open Go.RowKit

/-- What an operation on two fractions answers, q the exact result. -/
noncomputable def opS (n1 d1 n2 d2 : Int) (q : Rat) : Int × Int × Int := if vfB n1 d1 = true ∧ vfB n2 d2 = true then ansQ q else (0, 0, 2)
theorem opS_yes {n1 d1 n2 d2 : Int} {q : Rat} (h1 : VF n1 d1) (h2 : VF n2 d2) : opS n1 d1 n2 d2 q = ansQ q := by unfold opS; rw [if_pos ⟨(vfB_iff _ _).2 h1, (vfB_iff _ _).2 h2⟩]
theorem opS_no {n1 d1 n2 d2 : Int} {q : Rat} (h : ¬ (VF n1 d1 ∧ VF n2 d2)) : opS n1 d1 n2 d2 q = (0, 0, 2) := by
  unfold opS; rw [if_neg (fun h2 => h ⟨(vfB_iff _ _).1 h2.1, (vfB_iff _ _).1 h2.2⟩)]

theorem vfB_false {n d : Int} (h : ¬ VF n d) : vfB n d = false := by
  cases hb : vfB n d
  · rfl
  · exact absurd ((vfB_iff n d).1 hb) h

theorem LenQ.vf {n d : Int} (h : VF n d) : LenQ (qof n d) 1 where
  n := by
    rw [digs_length_le_iff, h.num.1, Nat.pow_one]
    have := h.n1; have := h.n2; unfold Bse; omega
  d := by
    rw [digs_length_le_iff, Nat.pow_one]
    have := h.num.2; have := h.d2; unfold Bse; omega

theorem LenQ.mono {q : Rat} {a b : Nat} (h : LenQ q a) (hab : a ≤ b) : LenQ q b := ⟨Nat.le_trans h.n hab, Nat.le_trans h.d hab⟩

theorem of_q (n d : Int) (h1 : -9223372036854775808 ≤ n) (h2 : n ≤ 9223372036854775807) (h3 : -9223372036854775808 ≤ d) (h4 : d ≤ 9223372036854775807) (h0 : d ≠ 0) (w : World) :
    Calls Try.prog 26 #[.agg #[.int .i64 n, .int .i64 d]] w fun e w' => ∃ z, e = .returned z ∧ IsQ w' z (qof n d) ∧ Below w.heap.size w w' := of_any n d h1 h2 h3 h4 h0 w

theorem answer_var (x : Value) (q : Rat) (w : World) (h : IsQ w x q) :
    Calls Try.prog 24 #[x] w fun e w' => ∃ a b c, e = .returned (.tuple #[.agg #[.int .i64 a, .int .i64 b], .int .i64 c]) ∧ Hid (ansQ q = (a, b, c)) ∧ Below w.heap.size w w' :=
  (answer_any x q w h).mono fun _ _ ⟨he, hb⟩ => ⟨_, _, _, he, Lib.hid rfl, hb⟩

set_option maxRecDepth 100000 in
set_option maxHeartbeats 3200000 in
theorem radd_good (n1 d1 n2 d2 : Int) (h1 : VF n1 d1) (h2 : VF n2 d2) (w : World) :
    Calls Try.prog 16 #[.agg #[.int .i64 n1, .int .i64 d1], .agg #[.int .i64 n2, .int .i64 d2]] w fun e w' => ∃ a b c, e = .returned (.tuple #[.agg #[.int .i64 a, .int .i64 b], .int .i64 c]) ∧ Hid (ansQ (qof n1 d1 + qof n2 d2) = (a, b, c)) ∧ Below w.heap.size w w' := by
  have HV : Hid (vfB n1 d1 = true ∧ vfB n2 d2 = true) := Lib.hid ⟨(vfB_iff _ _).2 h1, (vfB_iff _ _).2 h2⟩
  have HLQ := Lib.hid (And.intro ((LenQ.vf h1).mono (show 1 ≤ 10000000 by decide)) ((LenQ.vf h2).mono (show 1 ≤ 10000000 by decide)))
  have HR : Hid ((-9223372036854775808 ≤ n1 ∧ n1 ≤ 9223372036854775807 ∧ -9223372036854775808 ≤ d1 ∧ d1 ≤ 9223372036854775807 ∧ d1 ≠ 0) ∧ (-9223372036854775808 ≤ n2 ∧ n2 ≤ 9223372036854775807 ∧ -9223372036854775808 ≤ d2 ∧ d2 ≤ 9223372036854775807 ∧ d2 ≠ 0)) := Lib.hid (by
    have := h1.n1; have := h1.n2; have := h1.d1; have := h1.d2; have := h2.n1; have := h2.n2; have := h2.d1; have := h2.d2; omega)
  clear h1 h2
  have HS := Lib.hid (S22.start w n1 d1 n2 d2 0 0 24 24)
  go_enter Try.func16, Try.ntmps16
  go_wp2_with fail
  refine (valid_r n1 d1 _).mono ?_
  rintro e w1 ⟨rfl, hb1⟩
  rw [HV.out.1]
  have hS1 := HS.out.step hb1
  obtain ⟨-, hc0, hc1, hc2, hc3⟩ := hS1.l
  have HS1 := Lib.hid hS1
  clear hb1 hS1
  go_wp2_with fail
  refine (valid_r n2 d2 _).mono ?_
  rintro e w2 ⟨rfl, hb2⟩
  rw [HV.out.2]
  have hS2 := HS1.out.step hb2
  clear hb2 hc0 hc1 hc2 hc3
  go_wp2
  go_region_held3 (fun w' => S22 w n1 d1 n2 d2 24 w' ∧ w'.cell? ⟨w.heap.size, 0, none⟩ = some (.int .i64 n1) ∧ w'.cell? ⟨w.heap.size, 1, none⟩ = some (.int .i64 d1) ∧ w'.cell? ⟨w.heap.size + 1, 0, none⟩ = some (.int .i64 n2) ∧ w'.cell? ⟨w.heap.size + 1, 1, none⟩ = some (.int .i64 d2))
    (first | (go_split_ands; exact (S22.step (by assumption) (by assumption)).l) | (go_split_ands; exact (S22.store (by assumption) _ _).l) | (exact hS2.drew.l))
    (first
      | (go_at_call 26; go_split_ands; with_reducible (refine (of_q n1 d1 HR.out.1.1 HR.out.1.2.1 HR.out.1.2.2.1 HR.out.1.2.2.2.1 HR.out.1.2.2.2.2 _).mono ?_); rintro e w3 ⟨z1, rfl, hz1, hb3⟩)
      | (go_at_call 26; go_split_ands; with_reducible (refine (of_q n2 d2 HR.out.2.1 HR.out.2.2.1 HR.out.2.2.2.1 HR.out.2.2.2.2.1 HR.out.2.2.2.2.2 _).mono ?_); rintro e w4 ⟨z2, rfl, hz2, hb4⟩)
      | (go_at_call 25; go_split_ands; with_reducible (refine (plus_q_any z1 z2 (qof n1 d1) (qof n2 d2) _ (IsQ.below hz1 hb4) hz2 (by have := HLQ.out.1.n; omega) (by have := HLQ.out.1.d; omega) (by have := HLQ.out.2.n; omega) (by have := HLQ.out.2.d; omega)).mono ?_); rintro e w5 ⟨z3, rfl, hz3, hb5⟩)
      | (go_at_call 24; go_split_ands; with_reducible (refine (answer_var z3 _ _ hz3).mono ?_); rintro e w6 ⟨ra, rb, rc, rfl, HANS, hb6⟩; obtain ⟨r0, r1, hr0, hr1, hr2, hr3, hr4⟩ := S22.blk (by assumption) hb6))
  go_wp2
  refine bodyPost_ret (v := .tuple #[.agg #[.int .i64 ra, .int .i64 rb], .int .i64 rc]) (by simp [results, Try.results16, go_sem, hr0, hr1]) rfl ⟨_, _, _, rfl, HANS, ?_⟩
  go_split_ands; exact S22.b (by assumption)

set_option maxRecDepth 100000 in
set_option maxHeartbeats 1600000 in
theorem radd_bad (n1 d1 n2 d2 : Int) (h : ¬ (VF n1 d1 ∧ VF n2 d2)) (w : World) :
    Calls Try.prog 16 #[.agg #[.int .i64 n1, .int .i64 d1], .agg #[.int .i64 n2, .int .i64 d2]] w fun e w' => e = .returned (.tuple #[.agg #[.int .i64 0, .int .i64 0], .int .i64 2]) ∧ Below w.heap.size w w' := by
  have HS := Lib.hid (S22.start w n1 d1 n2 d2 0 0 24 24)
  by_cases h1 : VF n1 d1
  · have HV : Hid (vfB n1 d1 = true ∧ vfB n2 d2 = false) := Lib.hid ⟨(vfB_iff _ _).2 h1, vfB_false (fun h2 => h ⟨h1, h2⟩)⟩
    clear h h1
    go_enter Try.func16, Try.ntmps16
    go_wp2_with fail
    refine (valid_r n1 d1 _).mono ?_
    rintro e w1 ⟨rfl, hb1⟩
    rw [HV.out.1]
    have hS1 := HS.out.step hb1
    obtain ⟨-, hc0, hc1, hc2, hc3⟩ := hS1.l
    have HS1 := Lib.hid hS1
    clear hb1 hS1
    go_wp2_with fail
    refine (valid_r n2 d2 _).mono ?_
    rintro e w2 ⟨rfl, hb2⟩
    rw [HV.out.2]
    have hS2 := HS1.out.step hb2
    obtain ⟨r0, r1, hr0, hr1, hr2, hr3, hr4⟩ := hS2.2.2.2.facts
    have HS2 := Lib.hid hS2
    clear hb2 hc0 hc1 hc2 hc3 hS2
    go_wp2
    refine bodyPost_ret (v := .tuple #[.agg #[.int .i64 0, .int .i64 0], .int .i64 2]) (by simp [results, Try.results16, go_sem, hr0, hr1]) rfl ⟨rfl, ?_⟩
    exact (HS2.out.1.setCell (by simp; omega) _).setCell (by simp; omega) _
  · have HV : Hid (vfB n1 d1 = false) := Lib.hid (vfB_false h1)
    clear h h1
    go_enter Try.func16, Try.ntmps16
    go_wp2_with fail
    refine (valid_r n1 d1 _).mono ?_
    rintro e w1 ⟨rfl, hb1⟩
    rw [HV.out]
    have hS1 := HS.out.step hb1
    obtain ⟨r0, r1, hr0, hr1, hr2, hr3, hr4⟩ := hS1.2.2.2.facts
    have HS1 := Lib.hid hS1
    clear hb1 hS1
    go_wp2
    refine bodyPost_ret (v := .tuple #[.agg #[.int .i64 0, .int .i64 0], .int .i64 2]) (by simp [results, Try.results16, go_sem, hr0, hr1]) rfl ⟨rfl, ?_⟩
    exact (HS1.out.1.setCell (by simp; omega) _).setCell (by simp; omega) _

theorem radd_any (n1 d1 n2 d2 : Int) (w : World) :
    Calls Try.prog 16 #[.agg #[.int .i64 n1, .int .i64 d1], .agg #[.int .i64 n2, .int .i64 d2]] w fun e w' => ∃ a b c, e = .returned (.tuple #[.agg #[.int .i64 a, .int .i64 b], .int .i64 c]) ∧ Hid (opS n1 d1 n2 d2 (qof n1 d1 + qof n2 d2) = (a, b, c)) ∧ Below w.heap.size w w' := by
  by_cases h : VF n1 d1 ∧ VF n2 d2
  · rw [opS_yes h.1 h.2]; exact radd_good n1 d1 n2 d2 h.1 h.2 w
  · rw [opS_no h]; exact (radd_bad n1 d1 n2 d2 h w).mono fun _ _ ⟨he, hb⟩ => ⟨0, 0, 2, he, Lib.hid rfl, hb⟩

end Go.Proofs.Ytpghhfobaionkaa

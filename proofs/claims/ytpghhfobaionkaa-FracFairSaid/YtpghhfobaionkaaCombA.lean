/- The program's combine with its four operations; Add, Sub, Mul. -/
import Derived.Test.YtpghhfobaionkaaComb
namespace Go.Proofs.Ytpghhfobaionkaa
open Go.RowKit

open Classical in
/-- What is answered for a rational number: its parts, or 'out of range'. -/
noncomputable def ansQ (q : Rat) : Int × Int × Int := if Rep q then (q.num, (q.den : Int), 0) else (0, 0, 5)
open Classical in
theorem ansQ_yes {q : Rat} (h : Rep q) : ansQ q = (q.num, (q.den : Int), 0) := by unfold ansQ; rw [if_pos h]
open Classical in
theorem ansQ_no {q : Rat} (h : ¬ Rep q) : ansQ q = (0, 0, 5) := by unfold ansQ; rw [if_neg h]

theorem answer_any (x : Value) (q : Rat) (w : World) (h : IsQ w x q) :
    Calls Try.prog 24 #[x] w fun e w' => e = .returned (.tuple #[.agg #[.int .i64 (ansQ q).1, .int .i64 (ansQ q).2.1], .int .i64 (ansQ q).2.2]) ∧ Below w.heap.size w w' := by
  by_cases hr : Rep q
  · rw [ansQ_yes hr]; exact answer_yes x q w h hr
  · rw [ansQ_no hr]; exact answer_no x q w h hr

theorem rfrac_any (n d : Int) (h1 : -9223372036854775808 ≤ n) (h2 : n ≤ 9223372036854775807) (h3 : -9223372036854775808 ≤ d) (h4 : d ≤ 9223372036854775807) (h0 : d ≠ 0) (w : World) :
    Calls Try.prog 33 #[.agg #[.int .i64 n, .int .i64 d]] w fun e w' => e = .returned (.tuple #[.agg #[.int .i64 (ansQ (qof n d)).1, .int .i64 (ansQ (qof n d)).2.1], .int .i64 (ansQ (qof n d)).2.2]) ∧ Below w.heap.size w w' := by
  by_cases hr : Rep (qof n d)
  · rw [ansQ_yes hr]; exact rfrac_yes n d h1 h2 h3 h4 h0 hr w
  · rw [ansQ_no hr]; exact rfrac_no n d h1 h2 h3 h4 h0 hr w

/-- .. with the answer's parts as numbers of their own. -/
theorem rfrac_var (n d : Int) (h1 : -9223372036854775808 ≤ n) (h2 : n ≤ 9223372036854775807) (h3 : -9223372036854775808 ≤ d) (h4 : d ≤ 9223372036854775807) (h0 : d ≠ 0) (q : Rat) (hq : qof n d = q) (w : World) :
    Calls Try.prog 33 #[.agg #[.int .i64 n, .int .i64 d]] w fun e w' => ∃ a b c, e = .returned (.tuple #[.agg #[.int .i64 a, .int .i64 b], .int .i64 c]) ∧ Hid (ansQ q = (a, b, c)) ∧ Below w.heap.size w w' := by
  subst hq
  exact (rfrac_any n d h1 h2 h3 h4 h0 w).mono fun _ _ ⟨he, hb⟩ => ⟨_, _, _, he, Lib.hid rfl, hb⟩

theorem mul_bd {a b : Int} (h1 : -1000000000 ≤ a) (h2 : a ≤ 1000000000) (h3 : -1000000000 ≤ b) (h4 : b ≤ 1000000000) : -1000000000000000000 ≤ a * b ∧ a * b ≤ 1000000000000000000 := by
  have h : (a * b).natAbs ≤ 1000000000 * 1000000000 := by
    rw [Int.natAbs_mul]; exact Nat.mul_le_mul (by omega) (by omega)
  omega

theorem ratne {d : Int} (h : d ≠ 0) : (d : Rat) ≠ 0 := fun h2 => h (by exact_mod_cast h2)

theorem qof_plus {n1 d1 n2 d2 : Int} (h1 : d1 ≠ 0) (h2 : d2 ≠ 0) : qof (n1 * d2 + n2 * d1) (d1 * d2) = qof n1 d1 + qof n2 d2 := by
  unfold qof
  have a := ratne h1
  have b := ratne h2
  rw [Rat.intCast_add, Rat.intCast_mul, Rat.intCast_mul, Rat.intCast_mul]
  grind
theorem qof_minus {n1 d1 n2 d2 : Int} (h1 : d1 ≠ 0) (h2 : d2 ≠ 0) : qof (n1 * d2 + -n2 * d1) (d1 * d2) = qof n1 d1 - qof n2 d2 := by
  unfold qof
  have a := ratne h1
  have b := ratne h2
  rw [Rat.intCast_add, Rat.intCast_mul, Rat.intCast_mul, Rat.intCast_mul, Rat.intCast_neg]
  grind
theorem qof_times {n1 d1 n2 d2 : Int} (h1 : d1 ≠ 0) (h2 : d2 ≠ 0) : qof (n1 * n2) (d1 * d2) = qof n1 d1 * qof n2 d2 := by
  unfold qof
  have a := ratne h1
  have b := ratne h2
  rw [Rat.intCast_mul, Rat.intCast_mul]
  grind
theorem qof_over {n1 d1 n2 d2 : Int} (h1 : d1 ≠ 0) (h2 : d2 ≠ 0) (h3 : n2 ≠ 0) : qof (n1 * d2) (d1 * n2) = qof n1 d1 / qof n2 d2 := by
  unfold qof
  have a := ratne h1
  have b := ratne h2
  have c := ratne h3
  rw [Rat.intCast_mul, Rat.intCast_mul]
  grind

theorem heap_alloc_3 (w : World) (a b c : Obj) : (((w.alloc a).alloc b).alloc c).heap[w.heap.size + 1 + 1]? = some c := by
  have e1 : ((w.alloc a).alloc b).heap.size = w.heap.size + 1 + 1 := by simp
  rw [← e1]; exact heap_alloc_new _ _

theorem HasFr.two (w : World) (n1 d1 n2 d2 : Int) (T : TypeId) : HasFr (w.alloc (.cells #[.int .i64 n1, .int .i64 d1, .int .i64 n2, .int .i64 d2] T)) w.heap.size [(n1, d1), (n2, d2)] := by
  refine ⟨by simp, fun j hj => ?_⟩
  have hb := heap_alloc_new w (.cells #[.int .i64 n1, .int .i64 d1, .int .i64 n2, .int .i64 d2] T)
  have ec : ∀ j, (w.alloc (.cells #[.int .i64 n1, .int .i64 d1, .int .i64 n2, .int .i64 d2] T)).cell? ⟨w.heap.size, j, none⟩ = #[.int .i64 n1, .int .i64 d1, .int .i64 n2, .int .i64 d2][j]? := fun j => by simp only [World.cell?]; rw [hb]; rfl
  match j, hj with
  | 0, _ => exact ⟨ec 0, ec 1⟩
  | 1, _ => exact ⟨ec 2, ec 3⟩

theorem HasFr.two3 (w : World) (n1 d1 n2 d2 z0 z1 : Int) (T : TypeId) : HasFr ((((w.alloc (.cells #[.int .i64 n1, .int .i64 d1] T)).alloc (.cells #[.int .i64 n2, .int .i64 d2] T)).alloc (.cells #[.int .i64 z0, .int .i64 z1] T)).alloc (.cells #[.int .i64 n1, .int .i64 d1, .int .i64 n2, .int .i64 d2] T)) (w.heap.size + 1 + 1 + 1) [(n1, d1), (n2, d2)] := by
  have h := HasFr.two (((w.alloc (.cells #[.int .i64 n1, .int .i64 d1] T)).alloc (.cells #[.int .i64 n2, .int .i64 d2] T)).alloc (.cells #[.int .i64 z0, .int .i64 z1] T)) n1 d1 n2 d2 T
  have e : (((w.alloc (.cells #[.int .i64 n1, .int .i64 d1] T)).alloc (.cells #[.int .i64 n2, .int .i64 d2] T)).alloc (.cells #[.int .i64 z0, .int .i64 z1] T)).heap.size = w.heap.size + 1 + 1 + 1 := by simp
  rw [e] at h
  exact h

set_option maxRecDepth 100000 in
set_option maxHeartbeats 3200000 in
theorem comb_plus (n1 d1 n2 d2 : Int) (h1 : VF n1 d1) (h2 : VF n2 d2) (w : World) :
    Calls Try.prog 21 #[.agg #[.int .i64 n1, .int .i64 d1], .agg #[.int .i64 n2, .int .i64 d2], .func (.func 22) #[] #[]] w fun e w' => ∃ a b c, e = .returned (.tuple #[.agg #[.int .i64 a, .int .i64 b], .int .i64 c]) ∧ Hid (ansQ (qof n1 d1 + qof n2 d2) = (a, b, c)) ∧ Below w.heap.size w w' := by
  have b1 := h1.n1
  have b2 := h1.n2
  have b3 := h1.d1
  have b4 := h1.d2
  have c1 := h2.n1
  have c2 := h2.n2
  have c3 := h2.d1
  have c4 := h2.d2
  have m1 := mul_bd (a := n1) (b := d2) (by omega) (by omega) (by omega) (by omega)
  have m2 := mul_bd (a := n2) (b := d1) (by omega) (by omega) (by omega) (by omega)
  have m3 := mul_bd (a := d1) (b := d2) (by omega) (by omega) (by omega) (by omega)
  have m4 := mul_bd (a := -n2) (b := d1) (by omega) (by omega) (by omega) (by omega)
  have m5 := mul_bd (a := n1) (b := n2) (by omega) (by omega) (by omega) (by omega)
  have m6 := mul_bd (a := d1) (b := n2) (by omega) (by omega) (by omega) (by omega)
  have HM := Lib.hid (And.intro m1 (And.intro m2 (And.intro m3 (And.intro m4 (And.intro m5 m6)))))
  have HC : Hid (-2000000000000000000 ≤ n2 ∧ n2 ≤ 2000000000000000000) := Lib.hid (by omega)
  have HNZ : Hid (d1 * d2 ≠ 0) := Lib.hid (by exact Int.mul_ne_zero (by omega) (by omega))
  have HEQ : Hid (qof (n1 * d2 + n2 * d1) (d1 * d2) = qof n1 d1 + qof n2 d2) := Lib.hid (qof_plus (by omega) (by omega))
  have HAB : Hid (allB [(n1, d1), (n2, d2)] = true) := Lib.hid (by simp [allB, (vfB_iff n1 d1).2 h1, (vfB_iff n2 d2).2 h2])
  have HNB : Hid (-9223372036854775808 ≤ n1 * d2 + n2 * d1 ∧ n1 * d2 + n2 * d1 ≤ 9223372036854775807 ∧ -9223372036854775808 ≤ d1 * d2 ∧ d1 * d2 ≤ 9223372036854775807) := Lib.hid (by omega)
  clear b1 b2 b3 b4 c1 c2 c3 c4 m1 m2 m3 m4 m5 m6 h1 h2
  have HS := Lib.hid (S22.start w n1 d1 n2 d2 0 0 24 24)
  go_enter Try.func21, Try.ntmps21
  go_wp2_with fail
  refine (allValid_some (w.heap.size + 1 + 1 + 1) 2 [(n1, d1), (n2, d2)] (by simp) _ (HasFr.two3 w n1 d1 n2 d2 0 0 24)).mono ?_
  rintro e w1 ⟨rfl, hb1⟩
  rw [HAB.out]
  have hS1 := (HS.out.step ((Below.refl _ _).alloc (Nat.le_refl _) _)).step hb1
  clear hb1
  go_wp2
  go_region_held3 (fun w' => S22 w n1 d1 n2 d2 24 w' ∧ w'.cell? ⟨w.heap.size, 0, none⟩ = some (.int .i64 n1) ∧ w'.cell? ⟨w.heap.size, 1, none⟩ = some (.int .i64 d1) ∧ w'.cell? ⟨w.heap.size + 1, 0, none⟩ = some (.int .i64 n2) ∧ w'.cell? ⟨w.heap.size + 1, 1, none⟩ = some (.int .i64 d2))
    (first | (go_split_ands; exact (S22.step (by assumption) (by assumption)).l) | (go_split_ands; exact (S22.store (by assumption) _ _).l) | (exact hS1.drew.l))
    (first
      | (go_at_call 32; go_split_ands; with_reducible (refine (of_p n1 d1 _).mono ?_); rintro e w2 ⟨rfl, hb2⟩)
      | (go_at_call 32; go_split_ands; with_reducible (refine (of_p n2 d2 _).mono ?_); rintro e w3 ⟨rfl, hb3⟩)
      | (go_at_call 22; go_split_ands; with_reducible (refine (plus_r n1 d1 n2 d2 ⟨by have := HM.out.1.1; omega, by have := HM.out.1.2; omega⟩ ⟨by have := HM.out.2.1.1; omega, by have := HM.out.2.1.2; omega⟩ ⟨by have := HM.out.2.2.1.1; omega, by have := HM.out.2.2.1.2; omega⟩ _).mono ?_); rintro e w4 ⟨rfl, hb4⟩)
      | (go_at_call 33; go_split_ands; with_reducible (refine (rfrac_var (n1 * d2 + n2 * d1) (d1 * d2) HNB.out.1 HNB.out.2.1 HNB.out.2.2.1 HNB.out.2.2.2 HNZ.out _ HEQ.out _).mono ?_); rintro e w5 ⟨ra, rb, rc, rfl, HANS, hb5⟩; obtain ⟨r0, r1, hr0, hr1, hr2, hr3, hr4⟩ := S22.blk (by assumption) hb5))
  go_wp2
  refine bodyPost_ret (v := .tuple #[.agg #[.int .i64 ra, .int .i64 rb], .int .i64 rc]) (by simp [results, Try.results21, go_sem, hr0, hr1]) rfl ⟨_, _, _, rfl, HANS, ?_⟩
  go_split_ands; exact S22.b (by assumption)

set_option maxRecDepth 100000 in
set_option maxHeartbeats 3200000 in
theorem comb_bad_plus (n1 d1 n2 d2 : Int) (hv : ¬ (VF n1 d1 ∧ VF n2 d2)) (w : World) :
    Calls Try.prog 21 #[.agg #[.int .i64 n1, .int .i64 d1], .agg #[.int .i64 n2, .int .i64 d2], .func (.func 22) #[] #[]] w fun e w' => e = .returned (.tuple #[.agg #[.int .i64 0, .int .i64 0], .int .i64 2]) ∧ Below w.heap.size w w' := by
  have HAB : Hid (allB [(n1, d1), (n2, d2)] = false) := Lib.hid (by
    cases hb : allB [(n1, d1), (n2, d2)]
    · rfl
    · simp only [allB, List.all_cons, List.all_nil, Bool.and_true, Bool.and_eq_true] at hb
      exact absurd ⟨(vfB_iff n1 d1).1 hb.1, (vfB_iff n2 d2).1 hb.2⟩ hv)
  have HS := Lib.hid (S22.start w n1 d1 n2 d2 0 0 24 24)
  go_enter Try.func21, Try.ntmps21
  go_wp2_with fail
  refine (allValid_some (w.heap.size + 1 + 1 + 1) 2 [(n1, d1), (n2, d2)] (by simp) _ (HasFr.two3 w n1 d1 n2 d2 0 0 24)).mono ?_
  rintro e w1 ⟨rfl, hb1⟩
  rw [HAB.out]
  have hS1 := (HS.out.step ((Below.refl _ _).alloc (Nat.le_refl _) _)).step hb1
  obtain ⟨r0, r1, hr0, hr1, hr2, hr3, hr4⟩ := hS1.2.2.2.facts
  have HS1 := Lib.hid hS1
  clear hb1 hS1
  go_wp2
  refine bodyPost_ret (v := .tuple #[.agg #[.int .i64 0, .int .i64 0], .int .i64 2]) (by simp [results, Try.results21, go_sem, hr0, hr1]) rfl ⟨rfl, ?_⟩
  exact (HS1.out.1.setCell (by simp; omega) _).setCell (by simp; omega) _

end Go.Proofs.Ytpghhfobaionkaa

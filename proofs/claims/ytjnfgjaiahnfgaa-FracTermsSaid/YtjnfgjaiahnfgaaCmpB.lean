/- Cmp, Neg, Abs, Div: the program's and the reference's. -/
import Derived.Test.YtjnfgjaiahnfgaaCmp
namespace Go.Proofs.Ytjnfgjaiahnfgaa
open Go.RowKit

theorem order_var (x y : Value) (p q : Rat) (o : Int) (ho : o = ordQ p q) (w : World) (h : IsQ w x p) (g : IsQ w y q) (l1 : LenQ p 10000000) (l2 : LenQ q 10000000) :
    Calls Try.prog 43 #[x, y] w fun e w' => e = .returned (.int .i64 o) ∧ Below w.heap.size w w' := by subst ho; exact order_any x y p q w h g l1 l2

/-- Two boxes of two numbers. -/
def S20 (w : World) (x0 x1 y0 y1 : Int) (T : TypeId) (w' : World) : Prop :=
  Below w.heap.size w w' ∧ w'.heap[w.heap.size]? = some (.cells #[.int .i64 x0, .int .i64 x1] T (0, 0)) ∧ w'.heap[w.heap.size + 1]? = some (.cells #[.int .i64 y0, .int .i64 y1] T (0, 0))
theorem S20.l {w : World} {x0 x1 y0 y1 : Int} {T : TypeId} {w' : World} (h : S20 w x0 x1 y0 y1 T w') : S20 w x0 x1 y0 y1 T w' ∧ w'.cell? ⟨w.heap.size, 0, none⟩ = some (.int .i64 x0) ∧ w'.cell? ⟨w.heap.size, 1, none⟩ = some (.int .i64 x1) ∧ w'.cell? ⟨w.heap.size + 1, 0, none⟩ = some (.int .i64 y0) ∧ w'.cell? ⟨w.heap.size + 1, 1, none⟩ = some (.int .i64 y1) :=
  ⟨h, cell_blk2 h.2.1 0, cell_blk2 h.2.1 1, cell_blk2 h.2.2 0, cell_blk2 h.2.2 1⟩
theorem S20.start (w : World) (x0 x1 y0 y1 : Int) (T : TypeId) : S20 w x0 x1 y0 y1 T ((w.alloc (.cells #[.int .i64 x0, .int .i64 x1] T)).alloc (.cells #[.int .i64 y0, .int .i64 y1] T)) :=
  ⟨Below2 _ _ _, heap_alloc1 _ _ _, heap_alloc2 _ _ _⟩
theorem S20.drew {w : World} {x0 x1 y0 y1 : Int} {T : TypeId} {w' : World} (h : S20 w x0 x1 y0 y1 T w') : S20 w x0 x1 y0 y1 T w'.drew := ⟨h.1.drew, h.2.1, h.2.2⟩
theorem S20.step {w : World} {x0 x1 y0 y1 : Int} {T : TypeId} {w1 w2 : World} (h : S20 w x0 x1 y0 y1 T w1) (hb : Below w1.heap.size w1 w2) : S20 w x0 x1 y0 y1 T w2 :=
  ⟨h.1.trans (hb.mono h.1.size), (hb.block _ (Array.getElem?_eq_some_iff.1 h.2.1).1).trans h.2.1, (hb.block _ (Array.getElem?_eq_some_iff.1 h.2.2).1).trans h.2.2⟩
theorem S20.b {w : World} {x0 x1 y0 y1 : Int} {T : TypeId} {w' : World} (h : S20 w x0 x1 y0 y1 T w') : Below w.heap.size w w' := h.1

theorem HasFr.two2 (w : World) (n1 d1 n2 d2 : Int) (T : TypeId) : HasFr (((w.alloc (.cells #[.int .i64 n1, .int .i64 d1] T)).alloc (.cells #[.int .i64 n2, .int .i64 d2] T)).alloc (.cells #[.int .i64 n1, .int .i64 d1, .int .i64 n2, .int .i64 d2] T)) (w.heap.size + 1 + 1) [(n1, d1), (n2, d2)] := by
  have h := HasFr.two ((w.alloc (.cells #[.int .i64 n1, .int .i64 d1] T)).alloc (.cells #[.int .i64 n2, .int .i64 d2] T)) n1 d1 n2 d2 T
  have e : ((w.alloc (.cells #[.int .i64 n1, .int .i64 d1] T)).alloc (.cells #[.int .i64 n2, .int .i64 d2] T)).heap.size = w.heap.size + 1 + 1 := by simp
  rw [e] at h
  exact h

theorem allB_two (n1 d1 n2 d2 : Int) : allB [(n1, d1), (n2, d2)] = (vfB n1 d1 && vfB n2 d2) := by simp [allB]

open Classical in
noncomputable def cmpS (n1 d1 n2 d2 : Int) : Int × Int := if VF n1 d1 ∧ VF n2 d2 then (ordQ (qof n1 d1) (qof n2 d2), 0) else (0, 2)
open Classical in
theorem cmpS_yes {n1 d1 n2 d2 : Int} (h : VF n1 d1 ∧ VF n2 d2) : cmpS n1 d1 n2 d2 = (ordQ (qof n1 d1) (qof n2 d2), 0) := by unfold cmpS; rw [if_pos h]
open Classical in
theorem cmpS_no {n1 d1 n2 d2 : Int} (h : ¬ (VF n1 d1 ∧ VF n2 d2)) : cmpS n1 d1 n2 d2 = (0, 2) := by unfold cmpS; rw [if_neg h]

theorem vf_and {n1 d1 n2 d2 : Int} (h : VF n1 d1 ∧ VF n2 d2) : (vfB n1 d1 && vfB n2 d2) = true := by rw [(vfB_iff _ _).2 h.1, (vfB_iff _ _).2 h.2]; rfl
theorem vf_nand {n1 d1 n2 d2 : Int} (h : ¬ (VF n1 d1 ∧ VF n2 d2)) : (vfB n1 d1 && vfB n2 d2) = false := by
  cases hb : (vfB n1 d1 && vfB n2 d2)
  · rfl
  · rw [Bool.and_eq_true] at hb; exact absurd ⟨(vfB_iff _ _).1 hb.1, (vfB_iff _ _).1 hb.2⟩ h

set_option maxRecDepth 100000 in
set_option maxHeartbeats 1600000 in
theorem cmp_p (n1 d1 n2 d2 : Int) (w : World) :
    Calls Try.prog 19 #[.agg #[.int .i64 n1, .int .i64 d1], .agg #[.int .i64 n2, .int .i64 d2]] w fun e w' => ∃ a c, e = .returned (.tuple #[.int .i64 a, .int .i64 c]) ∧ Hid (cmpS n1 d1 n2 d2 = (a, c)) ∧ Below w.heap.size w w' := by
  have HS := Lib.hid (S20.start w n1 d1 n2 d2 23)
  by_cases hv : VF n1 d1 ∧ VF n2 d2
  · have HAB : Hid (allB [(n1, d1), (n2, d2)] = true) := Lib.hid (by rw [allB_two, vf_and hv])
    have HR : Hid ((-9223372036854775808 ≤ n1 ∧ n1 ≤ 9223372036854775807) ∧ (0 < d1 ∧ d1 ≤ 9223372036854775807) ∧ (-9223372036854775808 ≤ n2 ∧ n2 ≤ 9223372036854775807) ∧ (0 < d2 ∧ d2 ≤ 9223372036854775807)) := Lib.hid (by
      have := hv.1.n1; have := hv.1.n2; have := hv.1.d1; have := hv.1.d2; have := hv.2.n1; have := hv.2.n2; have := hv.2.d1; have := hv.2.d2; omega)
    have HFIN := Lib.hid (cmpS_yes hv)
    clear hv
    go_enter Try.func19, Try.ntmps19
    go_wp2_with fail
    refine (allValid_some (w.heap.size + 1 + 1) 2 [(n1, d1), (n2, d2)] (by simp) _ (HasFr.two2 w n1 d1 n2 d2 23)).mono ?_
    rintro e w1 ⟨rfl, hb1⟩
    rw [HAB.out]
    have hS1 := (HS.out.step ((Below.refl _ _).alloc (Nat.le_refl _) _)).step hb1
    clear hb1
    go_wp2
    go_region_held3 (fun w' => S20 w n1 d1 n2 d2 23 w' ∧ w'.cell? ⟨w.heap.size, 0, none⟩ = some (.int .i64 n1) ∧ w'.cell? ⟨w.heap.size, 1, none⟩ = some (.int .i64 d1) ∧ w'.cell? ⟨w.heap.size + 1, 0, none⟩ = some (.int .i64 n2) ∧ w'.cell? ⟨w.heap.size + 1, 1, none⟩ = some (.int .i64 d2))
      (first | (go_split_ands; exact (S20.step (by assumption) (by assumption)).l) | (exact hS1.drew.l))
      (first
        | (go_at_call 63; go_split_ands; with_reducible (refine (of_p n1 d1 _).mono ?_); rintro e w2 ⟨rfl, hb2⟩)
        | (go_at_call 63; go_split_ands; with_reducible (refine (of_p n2 d2 _).mono ?_); rintro e w3 ⟨rfl, hb3⟩)
        | (go_at_call 64; go_split_ands; with_reducible (refine (compare_r n1 d1 n2 d2 HR.out.1 HR.out.2.1 HR.out.2.2.1 HR.out.2.2.2 _).mono ?_); rintro e w4 ⟨r, rfl, HRR, hb4⟩))
    go_wp2
    go_ret2
    refine ⟨_, _, rfl, Lib.hid (by rw [HFIN.out, ← HRR.out]), ?_⟩
    go_split_ands; exact S20.b (by assumption)
  · have HAB : Hid (allB [(n1, d1), (n2, d2)] = false) := Lib.hid (by rw [allB_two, vf_nand hv])
    have HFIN := Lib.hid (cmpS_no hv)
    clear hv
    go_enter Try.func19, Try.ntmps19
    go_wp2_with fail
    refine (allValid_some (w.heap.size + 1 + 1) 2 [(n1, d1), (n2, d2)] (by simp) _ (HasFr.two2 w n1 d1 n2 d2 23)).mono ?_
    rintro e w1 ⟨rfl, hb1⟩
    rw [HAB.out]
    have hS1 := Lib.hid ((HS.out.step ((Below.refl _ _).alloc (Nat.le_refl _) _)).step hb1)
    clear hb1
    go_wp2
    go_ret2
    exact ⟨_, _, rfl, HFIN, hS1.out.b⟩

set_option maxRecDepth 100000 in
set_option maxHeartbeats 1600000 in
theorem cmp_rf (n1 d1 n2 d2 : Int) (w : World) :
    Calls Try.prog 20 #[.agg #[.int .i64 n1, .int .i64 d1], .agg #[.int .i64 n2, .int .i64 d2]] w fun e w' => ∃ a c, e = .returned (.tuple #[.int .i64 a, .int .i64 c]) ∧ Hid (cmpS n1 d1 n2 d2 = (a, c)) ∧ Below w.heap.size w w' := by
  have HS := Lib.hid (S20.start w n1 d1 n2 d2 23)
  by_cases hv : VF n1 d1 ∧ VF n2 d2
  · have HV : Hid (vfB n1 d1 = true ∧ vfB n2 d2 = true) := Lib.hid ⟨(vfB_iff _ _).2 hv.1, (vfB_iff _ _).2 hv.2⟩
    have HLQ := Lib.hid (And.intro ((LenQ.vf hv.1).mono (show 1 ≤ 10000000 by decide)) ((LenQ.vf hv.2).mono (show 1 ≤ 10000000 by decide)))
    have HR : Hid ((-9223372036854775808 ≤ n1 ∧ n1 ≤ 9223372036854775807 ∧ -9223372036854775808 ≤ d1 ∧ d1 ≤ 9223372036854775807 ∧ d1 ≠ 0) ∧ (-9223372036854775808 ≤ n2 ∧ n2 ≤ 9223372036854775807 ∧ -9223372036854775808 ≤ d2 ∧ d2 ≤ 9223372036854775807 ∧ d2 ≠ 0)) := Lib.hid (by
      have := hv.1.n1; have := hv.1.n2; have := hv.1.d1; have := hv.1.d2; have := hv.2.n1; have := hv.2.n2; have := hv.2.d1; have := hv.2.d2; omega)
    have HFIN := Lib.hid (cmpS_yes hv)
    obtain ⟨o, ho⟩ : ∃ o, o = ordQ (qof n1 d1) (qof n2 d2) := ⟨_, rfl⟩
    have HO := Lib.hid ho
    clear hv ho
    go_enter Try.func20, Try.ntmps20
    go_wp2_with fail
    refine (valid_r n1 d1 _).mono ?_
    rintro e w1 ⟨rfl, hb1⟩
    rw [HV.out.1]
    have hS1 := HS.out.step hb1
    obtain ⟨-, hc0, hc1, hc2, hc3⟩ := hS1.l
    have HS1 := Lib.hid hS1
    clear hb1 hS1
    go_wp2_with fail
    refine (valid_r n2 d2 _).mono ?_
    rintro e w2 ⟨rfl, hb2⟩
    rw [HV.out.2]
    have hS2 := HS1.out.step hb2
    clear hb2 hc0 hc1 hc2 hc3
    go_wp2
    go_region_held3 (fun w' => S20 w n1 d1 n2 d2 23 w' ∧ w'.cell? ⟨w.heap.size, 0, none⟩ = some (.int .i64 n1) ∧ w'.cell? ⟨w.heap.size, 1, none⟩ = some (.int .i64 d1) ∧ w'.cell? ⟨w.heap.size + 1, 0, none⟩ = some (.int .i64 n2) ∧ w'.cell? ⟨w.heap.size + 1, 1, none⟩ = some (.int .i64 d2))
      (first | (go_split_ands; exact (S20.step (by assumption) (by assumption)).l) | (exact hS2.drew.l))
      (first
        | (go_at_call 38; go_split_ands; with_reducible (refine (of_q n1 d1 HR.out.1.1 HR.out.1.2.1 HR.out.1.2.2.1 HR.out.1.2.2.2.1 HR.out.1.2.2.2.2 _).mono ?_); rintro e w3 ⟨z1, rfl, hz1, hb3⟩)
        | (go_at_call 38; go_split_ands; with_reducible (refine (of_q n2 d2 HR.out.2.1 HR.out.2.2.1 HR.out.2.2.2.1 HR.out.2.2.2.2.1 HR.out.2.2.2.2.2 _).mono ?_); rintro e w4 ⟨z2, rfl, hz2, hb4⟩)
        | (go_at_call 43; go_split_ands; with_reducible (refine (order_var z1 z2 (qof n1 d1) (qof n2 d2) o HO.out _ (IsQ.below hz1 hb4) hz2 HLQ.out.1 HLQ.out.2).mono ?_); rintro e w5 ⟨rfl, hb5⟩))
    go_wp2
    go_ret2
    refine ⟨_, _, rfl, Lib.hid (by rw [HFIN.out, ← HO.out]), ?_⟩
    go_split_ands; exact S20.b (by assumption)
  · have HFIN := Lib.hid (cmpS_no hv)
    by_cases h1 : VF n1 d1
    · have HV : Hid (vfB n1 d1 = true ∧ vfB n2 d2 = false) := Lib.hid ⟨(vfB_iff _ _).2 h1, vfB_false (fun h2 => hv ⟨h1, h2⟩)⟩
      clear hv h1
      go_enter Try.func20, Try.ntmps20
      go_wp2_with fail
      refine (valid_r n1 d1 _).mono ?_
      rintro e w1 ⟨rfl, hb1⟩
      rw [HV.out.1]
      have hS1 := HS.out.step hb1
      obtain ⟨-, hc0, hc1, hc2, hc3⟩ := hS1.l
      have HS1 := Lib.hid hS1
      clear hb1 hS1
      go_wp2_with fail
      refine (valid_r n2 d2 _).mono ?_
      rintro e w2 ⟨rfl, hb2⟩
      rw [HV.out.2]
      have HS2 := Lib.hid (HS1.out.step hb2)
      clear hb2 hc0 hc1 hc2 hc3
      go_wp2
      go_ret2
      exact ⟨_, _, rfl, HFIN, HS2.out.b⟩
    · have HV : Hid (vfB n1 d1 = false) := Lib.hid (vfB_false h1)
      clear hv h1
      go_enter Try.func20, Try.ntmps20
      go_wp2_with fail
      refine (valid_r n1 d1 _).mono ?_
      rintro e w1 ⟨rfl, hb1⟩
      rw [HV.out]
      have HS1 := Lib.hid (HS.out.step hb1)
      clear hb1
      go_wp2
      go_ret2
      exact ⟨_, _, rfl, HFIN, HS1.out.b⟩

end Go.Proofs.Ytjnfgjaiahnfgaa

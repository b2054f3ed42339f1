/- Skins: slices.Contains on rectangles, of one that is there. -/
import Derived.Test.YtndhnpljdldlpabSmW
namespace Go.Proofs.Ytndhnpljdldlpab
open Go.RowKit

theorem mem_idx {rs : List Rc} {r : Rc} (h : r ∈ rs) {k : Nat} (hno : ∀ j (hj : j < rs.length), j < k → rs[j] ≠ r) : k < rs.length := by
  obtain ⟨j, hj, e⟩ := List.mem_iff_getElem.1 h
  rcases Nat.lt_or_ge j k with hlt | hge
  · exact absurd e (hno j hj hlt)
  · omega

set_option maxRecDepth 100000 in
set_option maxHeartbeats 1600000 in
theorem indexR_any (a : Option Addr) (cap : Nat) (rs : List Rc) (hl : (rs.length : Int) ≤ 9223372036854775807) (p q r s : Int) (hm : (p, q, r, s) ∈ rs) (w : World) (h : RecS w a rs) :
    Calls Try.prog 41 #[.slice a rs.length cap, .agg #[.int .i64 p, .int .i64 q, .int .i64 r, .int .i64 s]] w fun e w' => ∃ i : Nat, e = .returned (.int .i64 i) ∧ Below w.heap.size w w' := by
  have H1 := Lib.hid h
  have HM := Lib.hid ((Mem.nil w).alloc #[.int .i64 p, .int .i64 q, .int .i64 r, .int .i64 s] 29)
  have HMM := Lib.hid hm
  have f0 : (p == p) = true := by simp
  have f1 : (q == q) = true := by simp
  have f2 : (r == r) = true := by simp
  have f3 : (s == s) = true := by simp
  clear h hm
  go_enter Try.func41, Try.ntmps41
  go_wp2_with fail
  go_loopw [8] (fun i wr => ∃ k : Nat, k < rs.length ∧ i = .int .i64 k ∧ Hid (∀ j (hj : j < rs.length), j < k → rs[j] ≠ (p, q, r, s)) ∧ Hid (Mem w [(w.heap.size, #[.int .i64 p, .int .i64 q, .int .i64 r, .int .i64 s], 29)] wr)) (fun i _ => rs.length - (intOf i).toNat)
  case atStart => exact ⟨0, mem_idx HMM.out (fun j hj hlt => by omega), rfl, Lib.hid (fun j hj hlt => by omega), HM⟩
  case round =>
    obtain ⟨k, hkN, rfl, HNO, HB⟩ := hrel
    have hkN' : (k : Int) < rs.length := by omega
    obtain ⟨b, off, rfl, hb, c0, c1, c2, c3⟩ := (H1.out.below HB.out.b).at_ hkN
    obtain ⟨⟨x, y, n, m⟩, hr⟩ : ∃ r, r = rs[k] := ⟨_, rfl⟩
    rw [← hr] at c0 c1 c2 c3
    simp only at c0 c1 c2 c3
    have d0 := HB.out.cell 0
    have d1 := HB.out.cell 1
    have d2 := HB.out.cell 2
    have d3 := HB.out.cell 3
    have dl := HB.out.head_lt
    simp at d0 d1 d2 d3
    have hk0 : (0 : Int) ≤ (k : Int) := by omega
    have HD := Lib.hid (fun nq => HB.out.step (below_drewN (Below.refl _ _) nq))
    by_cases he : (x, y, n, m) = (p, q, r, s)
    · simp only [Prod.mk.injEq] at he
      obtain ⟨rfl, rfl, rfl, rfl⟩ := he
      clear hr
      go_wp2_with fail
      go_quiet (fail)
      go_wp2
      go_ret
      exact ⟨k, rfl, (HD.out _).b⟩
    · have HN2 : Hid (∀ j (hj : j < rs.length), j < k + 1 → rs[j] ≠ (p, q, r, s)) := Lib.hid (fun j hj hlt e => by
        by_cases ej : j = k
        · subst ej; rw [← hr] at e; exact he e
        · exact HNO.out j hj (by omega) e)
      have hk2 := mem_idx HMM.out HN2.out
      simp only [Prod.mk.injEq] at he
      clear hr
      by_cases e0 : p = x
      · by_cases e1 : q = y
        · by_cases e2 : r = n
          · have e3 : ¬ s = m := fun e => he ⟨e0.symm, e1.symm, e2.symm, e.symm⟩
            have g0 : (p == x) = true := by rw [e0]; simp
            have g1 : (q == y) = true := by rw [e1]; simp
            have g2 : (r == n) = true := by rw [e2]; simp
            have g3 : (s == m) = false := by rw [beq_eq_false_iff_ne]; exact e3
            clear he e0 e1 e2 e3
            go_wp2_with fail
            go_quiet (fail)
            go_wp2
            go_roundw
            case rel => exact ⟨k + 1, hk2, by go_num, HN2, Lib.hid (HD.out _)⟩
            case measure => simp [intOf]; omega
          · have g0 : (p == x) = true := by rw [e0]; simp
            have g1 : (q == y) = true := by rw [e1]; simp
            have g2 : (r == n) = false := by rw [beq_eq_false_iff_ne]; exact e2
            clear he e0 e1 e2
            go_wp2_with fail
            go_quiet (fail)
            go_wp2
            go_roundw
            case rel => exact ⟨k + 1, hk2, by go_num, HN2, Lib.hid (HD.out _)⟩
            case measure => simp [intOf]; omega
        · have g0 : (p == x) = true := by rw [e0]; simp
          have g1 : (q == y) = false := by rw [beq_eq_false_iff_ne]; exact e1
          clear he e0 e1
          go_wp2_with fail
          go_quiet (fail)
          go_wp2
          go_roundw
          case rel => exact ⟨k + 1, hk2, by go_num, HN2, Lib.hid (HD.out _)⟩
          case measure => simp [intOf]; omega
      · have g0 : (p == x) = false := by rw [beq_eq_false_iff_ne]; exact e0
        clear he e0
        go_wp2_with fail
        go_quiet (fail)
        go_wp2
        go_roundw
        case rel => exact ⟨k + 1, hk2, by go_num, HN2, Lib.hid (HD.out _)⟩
        case measure => simp [intOf]; omega

set_option maxRecDepth 100000 in
theorem containsR_any (a : Option Addr) (cap : Nat) (rs : List Rc) (hl : (rs.length : Int) ≤ 9223372036854775807) (p q r s : Int) (hm : (p, q, r, s) ∈ rs) (w : World) (h : RecS w a rs) :
    Calls Try.prog 14 #[.slice a rs.length cap, .agg #[.int .i64 p, .int .i64 q, .int .i64 r, .int .i64 s]] w fun e w' => e = .returned (.bool true) ∧ Below w.heap.size w w' := by
  have hA : Below w.heap.size w (w.alloc (.cells #[.int .i64 p, .int .i64 q, .int .i64 r, .int .i64 s] 29)) := (Below.refl _ _).alloc (Nat.le_refl _) _
  have HI := Lib.hid (indexR_any a cap rs hl p q r s hm _ (h.below hA))
  have HA := Lib.hid hA
  clear h hm hA
  go_enter Try.func14, Try.ntmps14
  go_wp2_with fail
  refine HI.out.mono ?_
  rintro e w1 ⟨i, rfl, hb⟩
  have HE := Lib.hid (HA.out.trans (hb.mono (by simp)))
  have i0 : (0 : Int) ≤ i := by omega
  clear hb
  go_wp2
  go_ret
  exact ⟨rfl, HE.out⟩

end Go.Proofs.Ytndhnpljdldlpab

/- Pairs: Cost, the program's and the reference's; gloves and rules of the law turned into the program's. -/
import Derived.Test.YtchhadkmemckbaaPaD
namespace Go.Proofs.Ytchhadkmemckbaa
open Go.RowKit
set_option linter.unusedSimpArgs false
set_option linter.unusedVariables false

/-- What Cost answers. -/
def costE (a b : Gl) (u : Ru) : Int × Bool × Int :=
  if okB a && okB b && ruB u then (if costB a b u = -1 then (0, false, 0) else (costB a b u, true, 0)) else (0, false, 2)
theorem costE_bad {a b : Gl} {u : Ru} (h : (okB a && okB b && ruB u) = false) : costE a b u = (0, false, 2) := by unfold costE; rw [h]; rfl
theorem costE_no {a b : Gl} {u : Ru} (h : (okB a && okB b && ruB u) = true) (hc : costB a b u = -1) : costE a b u = (0, false, 0) := by unfold costE; rw [h, if_pos rfl, if_pos hc]
theorem costE_yes {a b : Gl} {u : Ru} (h : (okB a && okB b && ruB u) = true) (hc : costB a b u ≠ -1) : costE a b u = (costB a b u, true, 0) := by unfold costE; rw [h, if_pos rfl, if_neg hc]

set_option maxRecDepth 100000 in
set_option maxHeartbeats 3200000 in
theorem Cost_any (a0 a1 a2 a3 p0 p1 p2 p3 x0 x1 x2 x3 y0 y1 y2 y3 : Int) (w : World) : Calls Try.prog 15 #[.agg #[.int .i64 a0, .int .i64 a1, .int .i64 a2, .int .i64 a3], .agg #[.int .i64 p0, .int .i64 p1, .int .i64 p2, .int .i64 p3], .agg #[.int .i64 x0, .int .i64 x1, .int .i64 x2, .int .i64 x3, .int .i64 y0, .int .i64 y1, .int .i64 y2, .int .i64 y3]] w fun e w' => e = .returned (.tuple #[.int .i64 (costE (a0, a1, a2, a3) (p0, p1, p2, p3) ((x0, x1, x2, x3), (y0, y1, y2, y3))).1, .bool (costE (a0, a1, a2, a3) (p0, p1, p2, p3) ((x0, x1, x2, x3), (y0, y1, y2, y3))).2.1, .int .i64 (costE (a0, a1, a2, a3) (p0, p1, p2, p3) ((x0, x1, x2, x3), (y0, y1, y2, y3))).2.2]) ∧ Below w.heap.size w w' := by
  have HM := Lib.hid (((((Mem.nil w).alloc_at (H := w.heap.size) rfl #[.int .i64 a0, .int .i64 a1, .int .i64 a2, .int .i64 a3] 29).alloc_at (H := w.heap.size + 1) (by simp) #[.int .i64 p0, .int .i64 p1, .int .i64 p2, .int .i64 p3] 29).alloc_at (H := w.heap.size + 1 + 1) (by simp) #[.int .i64 x0, .int .i64 x1, .int .i64 x2, .int .i64 x3, .int .i64 y0, .int .i64 y1, .int .i64 y2, .int .i64 y3] 32))
  have HX := Lib.hid (fun w' => isGlove_any a0 a1 a2 a3 w')
  have HY := Lib.hid (fun w' => isGlove_any p0 p1 p2 p3 w')
  have HZ := Lib.hid (fun w' => isRule_any x0 x1 x2 x3 y0 y1 y2 y3 w')
  obtain ⟨r0, r1, r2, hr⟩ : ∃ r0 r1 r2, costE (a0, a1, a2, a3) (p0, p1, p2, p3) ((x0, x1, x2, x3), (y0, y1, y2, y3)) = (r0, r1, r2) := ⟨_, _, _, rfl⟩
  have HR := Lib.hid hr
  rw [hr]
  clear hr
  obtain ⟨x, hx⟩ : ∃ x, x = okB (a0, a1, a2, a3) := ⟨_, rfl⟩
  obtain ⟨y, hy⟩ : ∃ y, y = okB (p0, p1, p2, p3) := ⟨_, rfl⟩
  obtain ⟨z, hz⟩ : ∃ z, z = ruB ((x0, x1, x2, x3), (y0, y1, y2, y3)) := ⟨_, rfl⟩
  rw [← hx] at HX
  rw [← hy] at HY
  rw [← hz] at HZ
  have HX0 := Lib.hid hx
  have HY0 := Lib.hid hy
  have HZ0 := Lib.hid hz
  clear hx hy hz
  have HS : Hid (∀ w', Below w.heap.size w w' → True) := Lib.hid (fun _ _ => trivial)
  go_enter Try.func15, Try.ntmps15
  go_wp2_with fail
  refine (HX.out _).mono ?_
  rintro e w1 ⟨rfl, hb1⟩
  have HM1 := Lib.hid (HM.out.step hb1)
  clear hb1 HM
  cases x with
  | false =>
    have hr := HR.out
    rw [costE_bad (by rw [← HX0.out]; rfl)] at hr
    simp only [Prod.mk.injEq] at hr
    obtain ⟨rfl, rfl, rfl⟩ := hr
    clear HR
    go_wp2
    go_ret3
    exact ⟨rfl, HM1.out.b⟩
  | true =>
  have h1 := HM1.out.tail
  have k0 := h1.cell 0
  have k1 := h1.cell 1
  have k2 := h1.cell 2
  have k3 := h1.cell 3
  simp at k0 k1 k2 k3
  clear h1
  go_wp2_with fail
  refine (HY.out _).mono ?_
  rintro e w2 ⟨rfl, hb2⟩
  have HM2 := Lib.hid (HM1.out.step hb2)
  clear hb2 HM1 k0 k1 k2 k3
  cases y with
  | false =>
    have hr := HR.out
    rw [costE_bad (by rw [← HX0.out, ← HY0.out]; rfl)] at hr
    simp only [Prod.mk.injEq] at hr
    obtain ⟨rfl, rfl, rfl⟩ := hr
    clear HR
    go_wp2
    go_ret3
    exact ⟨rfl, HM2.out.b⟩
  | true =>
  have k0 := HM2.out.cell 0
  have k1 := HM2.out.cell 1
  have k2 := HM2.out.cell 2
  have k3 := HM2.out.cell 3
  have k4 := HM2.out.cell 4
  have k5 := HM2.out.cell 5
  have k6 := HM2.out.cell 6
  have k7 := HM2.out.cell 7
  simp at k0 k1 k2 k3 k4 k5 k6 k7
  go_wp2_with fail
  refine (HZ.out _).mono ?_
  rintro e w3 ⟨rfl, hb3⟩
  have HM3 := Lib.hid (HM2.out.step hb3)
  clear hb3 HM2 k0 k1 k2 k3 k4 k5 k6 k7
  cases z with
  | false =>
    have hr := HR.out
    rw [costE_bad (by rw [← HX0.out, ← HY0.out, ← HZ0.out]; rfl)] at hr
    simp only [Prod.mk.injEq] at hr
    obtain ⟨rfl, rfl, rfl⟩ := hr
    clear HR
    go_wp2
    go_ret3
    exact ⟨rfl, HM3.out.b⟩
  | true =>
  have h2 := HM3.out.tail
  have h3 := h2.tail
  have k0 := HM3.out.cell 0
  have k1 := HM3.out.cell 1
  have k2 := HM3.out.cell 2
  have k3 := HM3.out.cell 3
  have k4 := HM3.out.cell 4
  have k5 := HM3.out.cell 5
  have k6 := HM3.out.cell 6
  have k7 := HM3.out.cell 7
  have m0 := h2.cell 0
  have m1 := h2.cell 1
  have m2 := h2.cell 2
  have m3 := h2.cell 3
  have n0 := h3.cell 0
  have n1 := h3.cell 1
  have n2 := h3.cell 2
  have n3 := h3.cell 3
  simp at k0 k1 k2 k3 k4 k5 k6 k7 m0 m1 m2 m3 n0 n1 n2 n3
  clear h2 h3
  go_wp2_with fail
  refine (cost_any a0 a1 a2 a3 p0 p1 p2 p3 x0 x1 x2 x3 y0 y1 y2 y3 HX0.out.symm HY0.out.symm HZ0.out.symm _).mono ?_
  rintro e w4 ⟨rfl, hb4⟩
  have HM4 := Lib.hid (HM3.out.step hb4)
  clear hb4 HM3 k0 k1 k2 k3 k4 k5 k6 k7 m0 m1 m2 m3 n0 n1 n2 n3
  have hc2 := costB_range HX0.out.symm HY0.out.symm HZ0.out.symm
  obtain ⟨c, hcc⟩ : ∃ c, c = costB (a0, a1, a2, a3) (p0, p1, p2, p3) ((x0, x1, x2, x3), (y0, y1, y2, y3)) := ⟨_, rfl⟩
  rw [← hcc] at hc2 ⊢
  by_cases hc : c = -1
  · have hr := HR.out
    rw [costE_no (by rw [← HX0.out, ← HY0.out, ← HZ0.out]; rfl) (by rw [← hcc]; exact hc)] at hr
    simp only [Prod.mk.injEq] at hr
    obtain ⟨rfl, rfl, rfl⟩ := hr
    clear HR hcc
    subst hc
    go_wp2
    go_ret3
    exact ⟨rfl, HM4.out.b⟩
  · have hr := HR.out
    rw [costE_yes (by rw [← HX0.out, ← HY0.out, ← HZ0.out]; rfl) (by rw [← hcc]; exact hc), ← hcc] at hr
    simp only [Prod.mk.injEq] at hr
    obtain ⟨rfl, rfl, rfl⟩ := hr
    clear HR hcc
    have t0 : (c == -1) = false := by simpa using hc
    go_wp2
    go_ret3
    exact ⟨rfl, HM4.out.b⟩

set_option maxRecDepth 100000 in
set_option maxHeartbeats 3200000 in
theorem qCost_any (a0 a1 a2 a3 p0 p1 p2 p3 x0 x1 x2 x3 y0 y1 y2 y3 : Int) (w : World) : Calls Try.prog 18 #[.agg #[.int .i64 a0, .int .i64 a1, .int .i64 a2, .int .i64 a3], .agg #[.int .i64 p0, .int .i64 p1, .int .i64 p2, .int .i64 p3], .agg #[.int .i64 x0, .int .i64 x1, .int .i64 x2, .int .i64 x3, .int .i64 y0, .int .i64 y1, .int .i64 y2, .int .i64 y3]] w fun e w' => e = .returned (.tuple #[.int .i64 (costE (a0, a1, a2, a3) (p0, p1, p2, p3) ((x0, x1, x2, x3), (y0, y1, y2, y3))).1, .bool (costE (a0, a1, a2, a3) (p0, p1, p2, p3) ((x0, x1, x2, x3), (y0, y1, y2, y3))).2.1, .int .i64 (costE (a0, a1, a2, a3) (p0, p1, p2, p3) ((x0, x1, x2, x3), (y0, y1, y2, y3))).2.2]) ∧ Below w.heap.size w w' := by
  have HM := Lib.hid (((((Mem.nil w).alloc_at (H := w.heap.size) rfl #[.int .i64 a0, .int .i64 a1, .int .i64 a2, .int .i64 a3] 23).alloc_at (H := w.heap.size + 1) (by simp) #[.int .i64 p0, .int .i64 p1, .int .i64 p2, .int .i64 p3] 23).alloc_at (H := w.heap.size + 1 + 1) (by simp) #[.int .i64 x0, .int .i64 x1, .int .i64 x2, .int .i64 x3, .int .i64 y0, .int .i64 y1, .int .i64 y2, .int .i64 y3] 25))
  have HX := Lib.hid (fun w' => qValid_any a0 a1 a2 a3 w')
  have HY := Lib.hid (fun w' => qValid_any p0 p1 p2 p3 w')
  have HZ := Lib.hid (fun w' => qLaw_any x0 x1 x2 x3 y0 y1 y2 y3 w')
  obtain ⟨r0, r1, r2, hr⟩ : ∃ r0 r1 r2, costE (a0, a1, a2, a3) (p0, p1, p2, p3) ((x0, x1, x2, x3), (y0, y1, y2, y3)) = (r0, r1, r2) := ⟨_, _, _, rfl⟩
  have HR := Lib.hid hr
  rw [hr]
  clear hr
  obtain ⟨x, hx⟩ : ∃ x, x = okB (a0, a1, a2, a3) := ⟨_, rfl⟩
  obtain ⟨y, hy⟩ : ∃ y, y = okB (p0, p1, p2, p3) := ⟨_, rfl⟩
  obtain ⟨z, hz⟩ : ∃ z, z = ruB ((x0, x1, x2, x3), (y0, y1, y2, y3)) := ⟨_, rfl⟩
  rw [← hx] at HX
  rw [← hy] at HY
  rw [← hz] at HZ
  have HX0 := Lib.hid hx
  have HY0 := Lib.hid hy
  have HZ0 := Lib.hid hz
  clear hx hy hz
  have HS : Hid (∀ w', Below w.heap.size w w' → True) := Lib.hid (fun _ _ => trivial)
  go_enter Try.func18, Try.ntmps18
  go_wp2_with fail
  refine (HX.out _).mono ?_
  rintro e w1 ⟨rfl, hb1⟩
  have HM1 := Lib.hid (HM.out.step hb1)
  clear hb1 HM
  cases x with
  | false =>
    have hr := HR.out
    rw [costE_bad (by rw [← HX0.out]; rfl)] at hr
    simp only [Prod.mk.injEq] at hr
    obtain ⟨rfl, rfl, rfl⟩ := hr
    clear HR
    go_wp2
    go_ret3
    exact ⟨rfl, HM1.out.b⟩
  | true =>
  have h1 := HM1.out.tail
  have k0 := h1.cell 0
  have k1 := h1.cell 1
  have k2 := h1.cell 2
  have k3 := h1.cell 3
  simp at k0 k1 k2 k3
  clear h1
  go_wp2_with fail
  refine (HY.out _).mono ?_
  rintro e w2 ⟨rfl, hb2⟩
  have HM2 := Lib.hid (HM1.out.step hb2)
  clear hb2 HM1 k0 k1 k2 k3
  cases y with
  | false =>
    have hr := HR.out
    rw [costE_bad (by rw [← HX0.out, ← HY0.out]; rfl)] at hr
    simp only [Prod.mk.injEq] at hr
    obtain ⟨rfl, rfl, rfl⟩ := hr
    clear HR
    go_wp2
    go_ret3
    exact ⟨rfl, HM2.out.b⟩
  | true =>
  have k0 := HM2.out.cell 0
  have k1 := HM2.out.cell 1
  have k2 := HM2.out.cell 2
  have k3 := HM2.out.cell 3
  have k4 := HM2.out.cell 4
  have k5 := HM2.out.cell 5
  have k6 := HM2.out.cell 6
  have k7 := HM2.out.cell 7
  simp at k0 k1 k2 k3 k4 k5 k6 k7
  go_wp2_with fail
  refine (HZ.out _).mono ?_
  rintro e w3 ⟨rfl, hb3⟩
  have HM3 := Lib.hid (HM2.out.step hb3)
  clear hb3 HM2 k0 k1 k2 k3 k4 k5 k6 k7
  cases z with
  | false =>
    have hr := HR.out
    rw [costE_bad (by rw [← HX0.out, ← HY0.out, ← HZ0.out]; rfl)] at hr
    simp only [Prod.mk.injEq] at hr
    obtain ⟨rfl, rfl, rfl⟩ := hr
    clear HR
    go_wp2
    go_ret3
    exact ⟨rfl, HM3.out.b⟩
  | true =>
  have h2 := HM3.out.tail
  have h3 := h2.tail
  have k0 := HM3.out.cell 0
  have k1 := HM3.out.cell 1
  have k2 := HM3.out.cell 2
  have k3 := HM3.out.cell 3
  have k4 := HM3.out.cell 4
  have k5 := HM3.out.cell 5
  have k6 := HM3.out.cell 6
  have k7 := HM3.out.cell 7
  have m0 := h2.cell 0
  have m1 := h2.cell 1
  have m2 := h2.cell 2
  have m3 := h2.cell 3
  have n0 := h3.cell 0
  have n1 := h3.cell 1
  have n2 := h3.cell 2
  have n3 := h3.cell 3
  simp at k0 k1 k2 k3 k4 k5 k6 k7 m0 m1 m2 m3 n0 n1 n2 n3
  clear h2 h3
  go_wp2_with fail
  refine (rPrice_any a0 a1 a2 a3 p0 p1 p2 p3 x0 x1 x2 x3 y0 y1 y2 y3 HX0.out.symm HY0.out.symm HZ0.out.symm _).mono ?_
  rintro e w4 ⟨rfl, hb4⟩
  have HM4 := Lib.hid (HM3.out.step hb4)
  clear hb4 HM3 k0 k1 k2 k3 k4 k5 k6 k7 m0 m1 m2 m3 n0 n1 n2 n3
  have hc2 := costB_range HX0.out.symm HY0.out.symm HZ0.out.symm
  obtain ⟨c, hcc⟩ : ∃ c, c = costB (a0, a1, a2, a3) (p0, p1, p2, p3) ((x0, x1, x2, x3), (y0, y1, y2, y3)) := ⟨_, rfl⟩
  rw [← hcc] at hc2 ⊢
  by_cases hc : c = -1
  · have hr := HR.out
    rw [costE_no (by rw [← HX0.out, ← HY0.out, ← HZ0.out]; rfl) (by rw [← hcc]; exact hc)] at hr
    simp only [Prod.mk.injEq] at hr
    obtain ⟨rfl, rfl, rfl⟩ := hr
    clear HR hcc
    subst hc
    go_wp2
    go_ret3
    exact ⟨rfl, HM4.out.b⟩
  · have hr := HR.out
    rw [costE_yes (by rw [← HX0.out, ← HY0.out, ← HZ0.out]; rfl) (by rw [← hcc]; exact hc), ← hcc] at hr
    simp only [Prod.mk.injEq] at hr
    obtain ⟨rfl, rfl, rfl⟩ := hr
    clear HR hcc
    have t0 : decide (c < 0) = false := decide_eq_false (by omega)
    go_wp2
    go_ret3
    exact ⟨rfl, HM4.out.b⟩

set_option maxRecDepth 100000 in
theorem glove_any (a b c d : Int) (w : World) : Calls Try.prog 16 #[.agg #[.int .i64 a, .int .i64 b, .int .i64 c, .int .i64 d]] w fun e w' => e = .returned (.agg #[.int .i64 a, .int .i64 b, .int .i64 c, .int .i64 d]) ∧ Below w.heap.size w w' := by
  go_enter Try.func16, Try.ntmps16
  go_wp2
  (try simp only [Exit.inBlock, Exit.then])
  refine bodyPost_ret (v := .agg #[.int .i64 a, .int .i64 b, .int .i64 c, .int .i64 d]) (by simp [results, Try.results16, go_sem]) rfl ⟨rfl, ?_⟩
  exact ((Below.refl _ _).alloc (Nat.le_refl _) _).alloc (by simp) _

set_option maxRecDepth 100000 in
set_option maxHeartbeats 1600000 in
theorem rule_any (a b c d p q r s : Int) (w : World) : Calls Try.prog 17 #[.agg #[.int .i64 a, .int .i64 b, .int .i64 c, .int .i64 d, .int .i64 p, .int .i64 q, .int .i64 r, .int .i64 s]] w fun e w' => e = .returned (.agg #[.int .i64 a, .int .i64 b, .int .i64 c, .int .i64 d, .int .i64 p, .int .i64 q, .int .i64 r, .int .i64 s]) ∧ Below w.heap.size w w' := by
  have hm := ((((Mem.nil w).alloc_at (H := w.heap.size) rfl #[.int .i64 a, .int .i64 b, .int .i64 c, .int .i64 d, .int .i64 p, .int .i64 q, .int .i64 r, .int .i64 s] 25).alloc_at (H := w.heap.size + 1) (by simp) #[.int .i64 0, .int .i64 0, .int .i64 0, .int .i64 0, .int .i64 0, .int .i64 0, .int .i64 0, .int .i64 0] 32)).drew
  have HM := Lib.hid hm
  clear hm
  go_enter Try.func17, Try.ntmps17
  go_upto_region 1 with fail
  obtain ⟨wd, hwd⟩ : ∃ z, z = ((w.alloc (.cells #[.int .i64 a, .int .i64 b, .int .i64 c, .int .i64 d, .int .i64 p, .int .i64 q, .int .i64 r, .int .i64 s] 25)).alloc (.cells #[.int .i64 0, .int .i64 0, .int .i64 0, .int .i64 0, .int .i64 0, .int .i64 0, .int .i64 0, .int .i64 0] 32)).drew := ⟨_, rfl⟩
  rw [← hwd] at HM
  refine wp_region_held_drew (S := fun w' => w'.cell? ⟨w.heap.size, 0, none⟩ = some (.int .i64 a) ∧ w'.cell? ⟨w.heap.size, 1, none⟩ = some (.int .i64 b) ∧ w'.cell? ⟨w.heap.size, 2, none⟩ = some (.int .i64 c) ∧ w'.cell? ⟨w.heap.size, 3, none⟩ = some (.int .i64 d) ∧ w'.cell? ⟨w.heap.size, 4, none⟩ = some (.int .i64 p) ∧ w'.cell? ⟨w.heap.size, 5, none⟩ = some (.int .i64 q) ∧ w'.cell? ⟨w.heap.size, 6, none⟩ = some (.int .i64 r) ∧ w'.cell? ⟨w.heap.size, 7, none⟩ = some (.int .i64 s)) (by kernel_rfl) (by rw [← hwd]; exact ⟨(HM.out.tail).cell 0, (HM.out.tail).cell 1, (HM.out.tail).cell 2, (HM.out.tail).cell 3, (HM.out.tail).cell 4, (HM.out.tail).cell 5, (HM.out.tail).cell 6, (HM.out.tail).cell 7⟩) (fun hHeld => ?_)
  rw [← hwd] at hHeld ⊢
  clear hwd
  refine wpAnyH_take (i := 0) (oi := { dst := some 3, op := Op.fieldAddr 25 (Operand.tmp 1) 0, type := 0, pos := "law.go:29", after := #[], guard := none }) (v := ?_) rfl (by kernel_rfl) (by kernel_rfl) (by kernel_rfl) (fun _ _ _ h => h) (Or.inl ⟨by rfl, ?_⟩) (by assumption) ?_
  rotate_left
  · intro w' hSw
    (try dsimp only at hSw)
    (try go_split_ands)
    go_simp
    try with_reducible rfl
  (try simp only [Act.put, List.setIfInBounds_toArray, List.set_cons_zero, List.set_cons_succ])
  refine wpAnyH_take (i := 1) (oi := { dst := some 4, op := Op.load 23 (Operand.tmp 3), type := 23, pos := "law.go:29", after := #[{ on := 0, ground := Ground.data }], guard := none }) (v := ?_) rfl (by kernel_rfl) (by kernel_rfl) (by kernel_rfl) (fun _ _ _ h => h) (Or.inl ⟨by rfl, ?_⟩) (by assumption) ?_
  rotate_left
  · intro w' hSw
    (try dsimp only at hSw)
    (try go_split_ands)
    go_simp
    try with_reducible rfl
  (try simp only [Act.put, List.setIfInBounds_toArray, List.set_cons_zero, List.set_cons_succ])
  refine wpAnyH_take (i := 3) (oi := { dst := some 6, op := Op.fieldAddr 25 (Operand.tmp 1) 1, type := 0, pos := "law.go:29", after := #[], guard := none }) (v := ?_) rfl (by kernel_rfl) (by kernel_rfl) (by kernel_rfl) (fun _ _ _ h => h) (Or.inl ⟨by rfl, ?_⟩) (by assumption) ?_
  rotate_left
  · intro w' hSw
    (try dsimp only at hSw)
    (try go_split_ands)
    go_simp
    try with_reducible rfl
  (try simp only [Act.put, List.setIfInBounds_toArray, List.set_cons_zero, List.set_cons_succ])
  refine wpAnyH_take (i := 4) (oi := { dst := some 7, op := Op.load 23 (Operand.tmp 6), type := 23, pos := "law.go:29", after := #[{ on := 3, ground := Ground.data }], guard := none }) (v := ?_) rfl (by kernel_rfl) (by kernel_rfl) (by kernel_rfl) (fun _ _ _ h => h) (Or.inl ⟨by rfl, ?_⟩) (by assumption) ?_
  rotate_left
  · intro w' hSw
    (try dsimp only at hSw)
    (try go_split_ands)
    go_simp
    try with_reducible rfl
  (try simp only [Act.put, List.setIfInBounds_toArray, List.set_cons_zero, List.set_cons_succ])
  refine wpAnyH_ready (rs := [2]) (by kernel_rfl) (by simp) ?_
  refine (AllReadyH.cons (o := { dst := some 5, op := Op.call { callee := Callee.value (Operand.func 16), args := #[Operand.tmp 4], argTypes := #[23] }, type := 29, pos := "law.go:29", after := #[{ on := 1, ground := Ground.data }], guard := none }) rfl (fun K hK => ?_) AllReadyH.nil)
  go_simp
  go_at_call 16
  with_reducible (refine (glove_any a b c d _).mono ?_)
  rintro e w1 ⟨rfl, hb1⟩
  have HM1 := Lib.hid (HM.out.step hb1)
  (try go_wp2_with fail)
  refine hK.out _ _ (⟨(HM1.out.tail).cell 0, (HM1.out.tail).cell 1, (HM1.out.tail).cell 2, (HM1.out.tail).cell 3, (HM1.out.tail).cell 4, (HM1.out.tail).cell 5, (HM1.out.tail).cell 6, (HM1.out.tail).cell 7⟩) (fun hHeld => ?_)
  clear hK K
  (try simp only [Act.put, List.setIfInBounds_toArray, List.set_cons_zero, List.set_cons_succ])
  refine wpAnyH_ready (rs := [5]) (by kernel_rfl) (by simp) ?_
  refine (AllReadyH.cons (o := { dst := some 8, op := Op.call { callee := Callee.value (Operand.func 16), args := #[Operand.tmp 7], argTypes := #[23] }, type := 29, pos := "law.go:29", after := #[{ on := 4, ground := Ground.data }, { on := 2, ground := Ground.chain }], guard := none }) rfl (fun K hK => ?_) AllReadyH.nil)
  go_simp
  go_at_call 16
  with_reducible (refine (glove_any p q r s _).mono ?_)
  rintro e w2 ⟨rfl, hb2⟩
  have HM2 := Lib.hid (HM1.out.step hb2)
  (try go_wp2_with fail)
  refine hK.out _ _ (⟨(HM2.out.tail).cell 0, (HM2.out.tail).cell 1, (HM2.out.tail).cell 2, (HM2.out.tail).cell 3, (HM2.out.tail).cell 4, (HM2.out.tail).cell 5, (HM2.out.tail).cell 6, (HM2.out.tail).cell 7⟩) (fun hHeld => ?_)
  clear hK K
  (try simp only [Act.put, List.setIfInBounds_toArray, List.set_cons_zero, List.set_cons_succ])
  refine wpAnyH_take (i := 6) (oi := { dst := some 9, op := Op.build 32 #[(0, Operand.tmp 5), (1, Operand.tmp 8)], type := 32, pos := "law.go:29", after := #[{ on := 2, ground := Ground.data }, { on := 5, ground := Ground.data }], guard := none }) (v := ?_) rfl (by kernel_rfl) (by kernel_rfl) (by kernel_rfl) (fun _ _ _ h => h) (Or.inl ⟨by rfl, ?_⟩) (by assumption) ?_
  rotate_left
  · intro w' hSw
    (try dsimp only at hSw)
    (try go_split_ands)
    go_simp
    try with_reducible rfl
  (try simp only [Act.put, List.setIfInBounds_toArray, List.set_cons_zero, List.set_cons_succ])
  have g := HM2.out
  have y0 := g.cell 0
  have f0 := g.frozen 0
  have y1 := g.cell 1
  have f1 := g.frozen 1
  have y2 := g.cell 2
  have f2 := g.frozen 2
  have y3 := g.cell 3
  have f3 := g.frozen 3
  have y4 := g.cell 4
  have f4 := g.frozen 4
  have y5 := g.cell 5
  have f5 := g.frozen 5
  have y6 := g.cell 6
  have f6 := g.frozen 6
  have y7 := g.cell 7
  have f7 := g.frozen 7
  simp at y0 y1 y2 y3 y4 y5 y6 y7
  have gl := g.head_lt
  have HE := Lib.hid (((((((((g).set0 0 (.int .i64 a)).set0 1 (.int .i64 b)).set0 2 (.int .i64 c)).set0 3 (.int .i64 d)).set0 4 (.int .i64 p)).set0 5 (.int .i64 q)).set0 6 (.int .i64 r)).set0 7 (.int .i64 s))
  clear g
  refine wpAnyH_ready (rs := [7]) (by kernel_rfl) (by simp) ?_
  refine (AllReadyH.cons (o := { dst := none, op := Op.store 32 (Operand.tmp 2) (Operand.tmp 9), type := 0, pos := "law.go:29", after := #[{ on := 6, ground := Ground.data }, { on := 5, ground := Ground.chain }, { on := 0, ground := Ground.phase }, { on := 1, ground := Ground.phase }, { on := 2, ground := Ground.phase }, { on := 3, ground := Ground.phase }, { on := 4, ground := Ground.phase }, { on := 5, ground := Ground.phase }, { on := 6, ground := Ground.phase }], guard := none }) rfl (fun K hK => ?_) AllReadyH.nil)
  go_simp
  refine hK.out _ _ (⟨(HE.out.tail).cell 0, (HE.out.tail).cell 1, (HE.out.tail).cell 2, (HE.out.tail).cell 3, (HE.out.tail).cell 4, (HE.out.tail).cell 5, (HE.out.tail).cell 6, (HE.out.tail).cell 7⟩) (fun hHeld => ?_)
  clear hK K
  (try simp only [Act.put, List.setIfInBounds_toArray, List.set_cons_zero, List.set_cons_succ])
  clear y0 f0 y1 f1 y2 f2 y3 f3 y4 f4 y5 f5 y6 f6 y7 f7 gl hHeld
  obtain ⟨wz, hwz⟩ : ∃ z, z = ((((((((w2.setCell ⟨w.heap.size + 1, 0, none⟩ (.int .i64 a)).setCell ⟨w.heap.size + 1, 1, none⟩ (.int .i64 b)).setCell ⟨w.heap.size + 1, 2, none⟩ (.int .i64 c)).setCell ⟨w.heap.size + 1, 3, none⟩ (.int .i64 d)).setCell ⟨w.heap.size + 1, 4, none⟩ (.int .i64 p)).setCell ⟨w.heap.size + 1, 5, none⟩ (.int .i64 q)).setCell ⟨w.heap.size + 1, 6, none⟩ (.int .i64 r)).setCell ⟨w.heap.size + 1, 7, none⟩ (.int .i64 s)) := ⟨_, rfl⟩
  rw [← hwz] at HE ⊢
  clear hwz
  have g := HE.out
  have y0 := g.cell 0
  have y1 := g.cell 1
  have y2 := g.cell 2
  have y3 := g.cell 3
  have y4 := g.cell 4
  have y5 := g.cell 5
  have y6 := g.cell 6
  have y7 := g.cell 7
  simp at y0 y1 y2 y3 y4 y5 y6 y7
  have HF := Lib.hid g.b
  clear g
  refine wpAnyH_done (by kernel_rfl) ?_ _
  (try simp only [Exit.inBlock, Exit.then])
  go_wp2_with fail
  refine bodyPost_ret (v := .agg #[.int .i64 a, .int .i64 b, .int .i64 c, .int .i64 d, .int .i64 p, .int .i64 q, .int .i64 r, .int .i64 s]) (by simp [results, Try.results17, go_sem, *]) rfl ⟨rfl, ?_⟩
  exact HF.out

end Go.Proofs.Ytchhadkmemckbaa

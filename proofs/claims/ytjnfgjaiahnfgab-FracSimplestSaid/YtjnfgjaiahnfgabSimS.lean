/- The reference's simple on any interval, and its Simplest. -/
import Derived.Test.YtjnfgjaiahnfgabSimR
import Derived.Test.YtjnfgjaiahnfgabSmpB
import Derived.Test.YtjnfgjaiahnfgabRndG
namespace Go.Proofs.Ytjnfgjaiahnfgab
open Go.RowKit
set_option linter.unusedSimpArgs false
set_option linter.unusedVariables false

theorem neg_q (x : Value) (a b c : Int) (hc : c = -a) (w : World) (h : IsQ w x (qof a b)) :
    Calls Try.prog 62 #[x] w fun e w' => ∃ z, e = .returned z ∧ IsQ w' z (qof c b) ∧ Below w.heap.size w w' := by
  subst hc
  have e : qof (-a) b = -(qof a b) := by unfold qof; rw [Rat.intCast_neg]; grind
  rw [e]
  exact minus_any x _ w h

theorem zero_q (w : World) : Calls Try.prog 61 #[.int .i64 0] w fun e w' => ∃ b u k c u2 k2 c2, e = .returned (.agg #[.bool b, .slice u k c, .slice u2 k2 c2]) ∧ IsQ w' (.agg #[.bool b, .slice u k c, .slice u2 k2 c2]) (qof 0 1) ∧ Below w.heap.size w w' := by
  have := int_any 0 (by decide) (by decide) w
  have e : ((0 : Int) : Rat) = qof 0 1 := by unfold qof; decide +kernel
  rw [e] at this
  exact calls_q this

set_option maxRecDepth 100000 in
set_option maxHeartbeats 3200000 in
theorem simple_zero (n1 d1 n2 d2 : Int) (hd1 : 0 < d1) (hd2 : 0 < d2) (h1 : n1 ≤ 0) (h2 : 0 ≤ n2) (x y : Value) (w : World) (hx : IsQ w x (qof n1 d1)) (hy : IsQ w y (qof n2 d2)) :
    Calls Try.prog 34 #[x, y] w fun e w' => ∃ z, e = .returned z ∧ IsQ w' z (qof 0 1) ∧ Below w.heap.size w w' := by
  obtain ⟨xb, a1, k1, c1, a2, k2, c2, rfl, hx⟩ := hx.agg
  obtain ⟨yb, b1, m1, r1, b2, m2, r2, rfl, hy⟩ := hy.agg
  obtain ⟨s1, hs1⟩ : ∃ s, cmpI n1 0 = s := ⟨_, rfl⟩
  obtain ⟨s2, hs2⟩ : ∃ s, cmpI n2 0 = s := ⟨_, rfl⟩
  have hb1 : s1 ≤ 0 := by rcases cmpI_cases n1 0 with ⟨_, _⟩ | ⟨_, _⟩ | ⟨_, _⟩ <;> omega
  have hb2 : 0 ≤ s2 := by rcases cmpI_cases n2 0 with ⟨_, _⟩ | ⟨_, _⟩ | ⟨_, _⟩ <;> omega
  have HS1 := Lib.hid hs1
  have HS2 := Lib.hid hs2
  have hM := (((⟨Mem.nil w, by
      intro x hx0
      simp only [List.mem_cons, List.not_mem_nil, or_false] at hx0
      rcases hx0 with rfl | rfl
      · exact hy
      · exact hx⟩ : MQ w [] [(.agg #[.bool yb, .slice b1 m1 r1, .slice b2 m2 r2], qof n2 d2), (.agg #[.bool xb, .slice a1 k1 c1, .slice a2 k2 c2], qof n1 d1)] w).alloc #[.bool xb, .slice a1 k1 c1, .slice a2 k2 c2] 54).alloc #[.bool yb, .slice b1 m1 r1, .slice b2 m2 r2] 54).alloc #[.bool false, .slice none 0 0, .slice none 0 0] 54
  simp only [World.size_alloc] at hM
  have HM := Lib.hid hM
  clear hx hy hM hs1 hs2
  go_enter Try.func34, Try.ntmps34
  go_wp2_with fail
  refine (sign_n _ n1 d1 s1 hd1 HS1.out _ HM.out.q1).mono ?_
  rintro e w1 ⟨rfl, hb⟩
  have hM1 := HM.out.step hb
  have HM1 := Lib.hid hM1
  obtain ⟨⟨e0, e1, e2⟩, ⟨f0, f1, f2⟩, ⟨g0, g1, g2⟩⟩ := blocks3 hM1
  clear hb hM1
  go_wp2_with fail
  refine (sign_n _ n2 d2 s2 hd2 HS2.out _ HM1.out.q0).mono ?_
  rintro e w2 ⟨rfl, hb⟩
  have HM2 := Lib.hid (HM1.out.step hb)
  clear hb e0 e1 e2 f0 f1 f2 g0 g1 g2
  go_wp2_with fail
  refine (zero_q _).mono ?_
  rintro e w3 ⟨y0, y1, y2, y3, y4, y5, y6, rfl, hz, hb⟩
  have hM3 := (HM2.out.step hb).push hz
  have HX := Lib.hid (hM3.put3 y0 (.slice y1 y2 y3) (.slice y4 y5 y6))
  obtain ⟨q0, q1, q2, q3, q4, q5, q6⟩ := hM3.m.c3
  clear hb hz hM3
  go_wp2
  refine bodyPost_ret (v := .agg #[.bool y0, .slice y1 y2 y3, .slice y4 y5 y6]) (by simp [results, Try.results34, go_sem, q0, q1, q2]) rfl ⟨_, rfl, ?_, ?_⟩
  · exact HX.out.q0
  · exact HX.out.m.b

set_option maxRecDepth 100000 in
set_option maxHeartbeats 6400000 in
theorem simple_neg (n1 d1 n2 d2 : Int) (h1 : VF n1 d1) (h2 : VF n2 d2) (hle : n1 * d2 ≤ n2 * d1) (hn : n2 < 0) (x y : Value) (w : World) (hx : IsQ w x (qof n1 d1)) (hy : IsQ w y (qof n2 d2)) :
    Calls Try.prog 34 #[x, y] w fun e w' => ∃ z, e = .returned z ∧ IsQ w' z (qof (-(smp (d2 + d1).toNat (-n2) d2 (-n1) d1).1) (smp (d2 + d1).toNat (-n2) d2 (-n1) d1).2) ∧ Below w.heap.size w w' := by
  have a1' := h1.d1; have a2' := h1.d2; have a3' := h1.n1; have a4' := h2.d1; have a5' := h2.d2; have a6' := h2.n1
  obtain ⟨g1, g2, g3, g4, g5, -⟩ := smp_good h2.negN h1.negN (by omega) (show -n2 * d1 ≤ -n1 * d2 by rw [Int.neg_mul, Int.neg_mul]; omega)
  have hn1 : n1 < 0 := by omega
  obtain ⟨xb, a1, k1, c1, a2, k2, c2, rfl, hx⟩ := hx.agg
  obtain ⟨yb, b1, m1, r1, b2, m2, r2, rfl, hy⟩ := hy.agg
  have hM := (((⟨Mem.nil w, by
      intro x hx0
      simp only [List.mem_cons, List.not_mem_nil, or_false] at hx0
      rcases hx0 with rfl | rfl
      · exact hy
      · exact hx⟩ : MQ w [] [(.agg #[.bool yb, .slice b1 m1 r1, .slice b2 m2 r2], qof n2 d2), (.agg #[.bool xb, .slice a1 k1 c1, .slice a2 k2 c2], qof n1 d1)] w).alloc #[.bool xb, .slice a1 k1 c1, .slice a2 k2 c2] 54).alloc #[.bool yb, .slice b1 m1 r1, .slice b2 m2 r2] 54).alloc #[.bool false, .slice none 0 0, .slice none 0 0] 54
  simp only [World.size_alloc] at hM
  have HM := Lib.hid hM
  have HR := Lib.hid (simple_pos (d2 + d1).toNat (-n2) d2 (-n1) d1 (by omega) (by omega) (by omega) (by omega) (by omega) (by omega) (by omega) (by omega) (by rw [Int.neg_mul, Int.neg_mul]; omega) (by omega))
  obtain ⟨X, hX⟩ : ∃ X, (smp (d2 + d1).toNat (-n2) d2 (-n1) d1).1 = X := ⟨_, rfl⟩
  obtain ⟨Y, hY⟩ : ∃ X, (smp (d2 + d1).toNat (-n2) d2 (-n1) d1).2 = X := ⟨_, rfl⟩
  rw [hX, hY] at HR ⊢
  have HNY := Lib.hid (fun x w h => neg_q x n2 d2 (-n2) rfl w h)
  have HNX := Lib.hid (fun x w h => neg_q x n1 d1 (-n1) rfl w h)
  have HNZ := Lib.hid (fun x w h => calls_q (neg_q x X Y (-X) rfl w h))
  have HSX := Lib.hid (cmpI_lt hn1)
  have HSY := Lib.hid (cmpI_lt hn)
  have hd1 : 0 < d1 := by omega
  have hd2 : 0 < d2 := by omega
  clear hx hy hM hX hY g1 g2 g3 g4 g5 hle h1 h2 a1' a2' a3' a4' a5' a6'
  go_enter Try.func34, Try.ntmps34
  go_wp2_with fail
  refine (sign_n _ n1 d1 (-1) hd1 HSX.out _ HM.out.q1).mono ?_
  rintro e w1 ⟨rfl, hb⟩
  have hM1 := HM.out.step hb
  have HM1 := Lib.hid hM1
  obtain ⟨⟨e0, e1, e2⟩, ⟨f0, f1, f2⟩, ⟨g0, g1, g2⟩⟩ := blocks3 hM1
  clear hb hM1
  go_wp2_with fail
  refine (sign_n _ n2 d2 (-1) hd2 HSY.out _ HM1.out.q0).mono ?_
  rintro e w2 ⟨rfl, hb⟩
  have hM2 := HM1.out.step hb
  have HM2 := Lib.hid hM2
  clear e0 e1 e2 f0 f1 f2 g0 g1 g2
  obtain ⟨⟨e0, e1, e2⟩, ⟨f0, f1, f2⟩, ⟨g0, g1, g2⟩⟩ := blocks3 hM2
  clear hb hM2
  go_wp2_with fail
  refine (sign_n _ n2 d2 (-1) hd2 HSY.out _ HM2.out.q0).mono ?_
  rintro e w3 ⟨rfl, hb⟩
  have hM3 := HM2.out.step hb
  have HM3 := Lib.hid hM3
  have HQX := Lib.hid hM3.q1
  have HQY := Lib.hid hM3.q0
  have HM7 := Lib.hid (hM3.sub (Q' := []) (by simp)).tail
  have hM7 := HM7.out
  have HC : Hid (∀ w', MQ w [(w.heap.size + 1, #[.bool yb, .slice b1 m1 r1, .slice b2 m2 r2], 54), (w.heap.size, #[.bool xb, .slice a1 k1 c1, .slice a2 k2 c2], 54)] [] w' → MQ w [(w.heap.size + 1, #[.bool yb, .slice b1 m1 r1, .slice b2 m2 r2], 54), (w.heap.size, #[.bool xb, .slice a1 k1 c1, .slice a2 k2 c2], 54)] [] w' ∧ w'.cell? ⟨w.heap.size + 1, 0, none⟩ = some (.bool yb) ∧ w'.cell? ⟨w.heap.size + 1, 1, none⟩ = some (.slice b1 m1 r1) ∧ w'.cell? ⟨w.heap.size + 1, 2, none⟩ = some (.slice b2 m2 r2) ∧ w'.cell? ⟨w.heap.size, 0, none⟩ = some (.bool xb) ∧ w'.cell? ⟨w.heap.size, 1, none⟩ = some (.slice a1 k1 c1) ∧ w'.cell? ⟨w.heap.size, 2, none⟩ = some (.slice a2 k2 c2)) := Lib.hid (fun w' h => ⟨h, h.m.cell 0, h.m.cell 1, h.m.cell 2, h.m.tail.cell 0, h.m.tail.cell 1, h.m.tail.cell 2⟩)
  have HNE : Hid (∀ x ∈ ([(w.heap.size + 1, #[.bool yb, .slice b1 m1 r1, .slice b2 m2 r2], 54), (w.heap.size, #[.bool xb, .slice a1 k1 c1, .slice a2 k2 c2], 54)] : List (Nat × Array Value × TypeId)), x.1 ≠ w.heap.size + 1 + 1) := Lib.hid (by
    intro x hx
    simp only [List.mem_cons, List.not_mem_nil, or_false] at hx
    rcases hx with rfl | rfl <;> simp only <;> omega)
  clear hb hM3 e0 e1 e2 f0 f1 f2 g0 g1 g2
  go_wp2_with fail
  go_region_held3 (fun w' => MQ w [(w.heap.size + 1, #[.bool yb, .slice b1 m1 r1, .slice b2 m2 r2], 54), (w.heap.size, #[.bool xb, .slice a1 k1 c1, .slice a2 k2 c2], 54)] [] w' ∧ w'.cell? ⟨w.heap.size + 1, 0, none⟩ = some (.bool yb) ∧ w'.cell? ⟨w.heap.size + 1, 1, none⟩ = some (.slice b1 m1 r1) ∧ w'.cell? ⟨w.heap.size + 1, 2, none⟩ = some (.slice b2 m2 r2) ∧ w'.cell? ⟨w.heap.size, 0, none⟩ = some (.bool xb) ∧ w'.cell? ⟨w.heap.size, 1, none⟩ = some (.slice a1 k1 c1) ∧ w'.cell? ⟨w.heap.size, 2, none⟩ = some (.slice a2 k2 c2))
    (first | exact HC.out _ hM7 | exact HC.out _ hM7.drew | (go_split_ands; first | exact HC.out _ (MQ.step (by assumption) (by assumption)) | exact HC.out _ (MQ.far3 (by assumption) (by omega) HNE.out)))
    (first
      | (go_at_call 62; go_split_ands; with_reducible (refine (HNY.out _ _ HQY.out.dr).mono ?_); rintro e x1 ⟨t1, rfl, hz1, hb1⟩)
      | (go_at_call 62; go_split_ands; with_reducible (refine (HNX.out _ _ (HQX.out.dr.below hb1)).mono ?_); rintro e x2 ⟨t2, rfl, hz2, hb2⟩)
      | (go_at_call 34; go_split_ands; with_reducible (refine (HR.out _ _ _ (hz1.below hb2) hz2).mono ?_); rintro e x3 ⟨t3, rfl, hz3, hb3⟩)
      | (go_at_call 62; go_split_ands; with_reducible (refine (HNZ.out _ _ hz3).mono ?_); rintro e x4 ⟨y0, y1, y2, y3, y4, y5, y6, rfl, hz4, hb4⟩; obtain ⟨q0, q1, q2, q3, q4, q5, q6⟩ := ((((HM3.out.drew.step hb1).step hb2).step hb3).step hb4).m.c3))
  go_wp2
  have hX7 := (((((HM3.out.drew.step hb1).step hb2).step hb3).step hb4).push hz4).put3 y0 (.slice y1 y2 y3) (.slice y4 y5 y6)
  have HX7 := Lib.hid hX7
  clear hX7
  refine bodyPost_ret (v := .agg #[.bool y0, .slice y1 y2 y3, .slice y4 y5 y6]) (by simp [results, Try.results34, go_sem, q0, q1, q2]) rfl ⟨_, rfl, ?_, ?_⟩
  · exact HX7.out.q0
  · exact HX7.out.m.b

theorem simple_q (n1 d1 n2 d2 : Int) (h : simOk n1 d1 n2 d2) (x y : Value) (w : World) (hx : IsQ w x (qof n1 d1)) (hy : IsQ w y (qof n2 d2)) :
    Calls Try.prog 34 #[x, y] w fun e w' => ∃ z, e = .returned z ∧ IsQ w' z (qof (smpV n1 d1 n2 d2).1 (smpV n1 d1 n2 d2).2) ∧ Below w.heap.size w w' := by
  obtain ⟨h1, h2, hle⟩ := h
  have a1 := h1.d1; have a2 := h1.d2; have a3 := h1.n1; have a4 := h1.n2
  have b1 := h2.d1; have b2 := h2.d2; have b3 := h2.n1; have b4 := h2.n2
  unfold smpV
  by_cases hp : 0 < n1
  · rw [if_pos hp]
    have hr := (smp_good h1 h2 hp hle).1
    exact simple_pos (d1 + d2).toNat n1 d1 n2 d2 hp (by omega) hr (by omega) (by omega) (by omega) (by omega) (by omega) hle (by omega) x y w hx hy
  · rw [if_neg hp]
    by_cases hn : n2 < 0
    · rw [if_pos hn]
      exact simple_neg n1 d1 n2 d2 h1 h2 hle hn x y w hx hy
    · rw [if_neg hn]
      exact simple_zero n1 d1 n2 d2 (by omega) (by omega) (by omega) (by omega) x y w hx hy

end Go.Proofs.Ytjnfgjaiahnfgab

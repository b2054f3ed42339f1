/- The reference's Plus. -/
import Derived.Test.YtpghhfobaionkaaQB
namespace Go.Proofs.Ytpghhfobaionkaa
open Go.RowKit

theorem digs_len_add (a b : Nat) : (digs (a + b)).length ≤ (digs a).length + (digs b).length + 1 := by
  rw [digs_length_le_iff]
  have h1 := lt_pow_digs a
  have h2 := lt_pow_digs b
  have h3 : Bse ^ (digs a).length ≤ Bse ^ ((digs a).length + (digs b).length) := Nat.pow_le_pow_right Bse_pos (by omega)
  have h4 : Bse ^ (digs b).length ≤ Bse ^ ((digs a).length + (digs b).length) := Nat.pow_le_pow_right Bse_pos (by omega)
  have h5 : Bse ^ ((digs a).length + (digs b).length) * 2 ≤ Bse ^ ((digs a).length + (digs b).length) * Bse := Nat.mul_le_mul_left _ (by decide)
  rw [Nat.pow_succ]
  omega

theorem plus_same {p q : Rat} {pn qn : Bool} (hp : decide (p < 0) = pn) (hqn : decide (q < 0) = qn) (h : pn = qn) : mkQ pn (p.num.natAbs * q.den + q.num.natAbs * p.den) (p.den * q.den) = p + q := by
  have e1 := natAbs_of_neg hp
  have e2 := natAbs_of_neg hqn
  rw [Rat.add_def']
  unfold mkQ
  generalize p.num.natAbs = a at e1
  generalize q.num.natAbs = b at e2
  rw [← e1, ← e2]
  subst h
  cases pn
  · simp only [Bool.false_eq_true, if_false, Int.natCast_add, Int.natCast_mul]
  · simp only [if_true, Int.natCast_add, Int.natCast_mul, Int.neg_add, Int.neg_mul]

theorem plus_ge {p q : Rat} {pn qn : Bool} (hp : decide (p < 0) = pn) (hqn : decide (q < 0) = qn) (h : pn ≠ qn) (hle : q.num.natAbs * p.den ≤ p.num.natAbs * q.den) : mkQ pn (p.num.natAbs * q.den - q.num.natAbs * p.den) (p.den * q.den) = p + q := by
  have e1 := natAbs_of_neg hp
  have e2 := natAbs_of_neg hqn
  rw [Rat.add_def']
  unfold mkQ
  generalize p.num.natAbs = a at e1 hle ⊢
  generalize q.num.natAbs = b at e2 hle ⊢
  rw [← e1, ← e2, Int.natCast_sub hle]
  cases pn <;> cases qn
  · exact absurd rfl h
  · simp only [Bool.false_eq_true, if_false, if_true, Int.natCast_mul, Int.neg_mul]; congr 1
  · simp only [Bool.false_eq_true, if_false, if_true, Int.natCast_mul, Int.neg_mul]; congr 1; omega
  · exact absurd rfl h

theorem plus_lt {p q : Rat} {pn qn : Bool} (hp : decide (p < 0) = pn) (hqn : decide (q < 0) = qn) (h : pn ≠ qn) (hle : p.num.natAbs * q.den ≤ q.num.natAbs * p.den) : mkQ qn (q.num.natAbs * p.den - p.num.natAbs * q.den) (p.den * q.den) = p + q := by
  rw [Rat.add_comm p q, Nat.mul_comm p.den q.den]
  exact plus_ge hqn hp h.symm hle

set_option maxRecDepth 100000 in
set_option maxHeartbeats 3200000 in
theorem plus_q_any (x y : Value) (p q : Rat) (w : World) (h : IsQ w x p) (g : IsQ w y q)
    (l1 : ((digs p.num.natAbs).length : Int) ≤ 10000000) (l2 : ((digs p.den).length : Int) ≤ 10000000) (l3 : ((digs q.num.natAbs).length : Int) ≤ 10000000) (l4 : ((digs q.den).length : Int) ≤ 10000000) :
    Calls Try.prog 25 #[x, y] w fun e w' => ∃ z, e = .returned z ∧ IsQ w' z (p + q) ∧ Below w.heap.size w w' := by
  obtain ⟨a1, a2, n1, n2, c1, c2, rfl, hx1, hx2⟩ := h
  obtain ⟨b1, b2, m1, m2, d1, d2, rfl, hy1, hy2⟩ := g
  generalize hpn : decide (p < 0) = pn
  generalize hqn : decide (q < 0) = qn
  have HN := Lib.hid (And.intro hpn hqn)
  have HX := Lib.hid (And.intro hx1 (And.intro hx2 (And.intro hy1 hy2)))
  have HL := Lib.hid (And.intro l1 (And.intro l2 (And.intro l3 l4)))
  clear hpn hqn hx1 hx2 hy1 hy2 l1 l2 l3 l4
  have HNE : Hid (p.den * q.den ≠ 0) := Lib.hid (Nat.mul_ne_zero p.den_nz q.den_nz)
  have HLL : Hid (((digs (p.num.natAbs * q.den)).length : Int) ≤ 20000000 ∧ ((digs (q.num.natAbs * p.den)).length : Int) ≤ 20000000 ∧ ((digs (p.den * q.den)).length : Int) ≤ 20000000) := Lib.hid (by
    have h1 := digs_len_mul p.num.natAbs q.den
    have h2 := digs_len_mul q.num.natAbs p.den
    have h4 := digs_len_mul p.den q.den
    have h3 := HL.out
    omega)
  go_enter Try.func25, Try.ntmps25
  go_wp2_with fail
  have hS0 := S2.start w (.bool pn) (.slice a1 n1 c1) (.slice a2 n2 c2) (.bool qn) (.slice b1 m1 d1) (.slice b2 m2 d2) false (.slice none 0 0) (.slice none 0 0) 52
  have HE := Lib.hid (S2.drew hS0).l
  clear hS0
  go_region_held3 (fun w' => S2 w (.bool pn) (.slice a1 n1 c1) (.slice a2 n2 c2) (.bool qn) (.slice b1 m1 d1) (.slice b2 m2 d2) w' ∧ w'.cell? ⟨w.heap.size, 0, none⟩ = some (.bool pn) ∧ w'.cell? ⟨w.heap.size, 1, none⟩ = some (.slice a1 n1 c1) ∧ w'.cell? ⟨w.heap.size, 2, none⟩ = some (.slice a2 n2 c2) ∧
      w'.cell? ⟨w.heap.size + 1, 0, none⟩ = some (.bool qn) ∧ w'.cell? ⟨w.heap.size + 1, 1, none⟩ = some (.slice b1 m1 d1) ∧ w'.cell? ⟨w.heap.size + 1, 2, none⟩ = some (.slice b2 m2 d2))
    (first | exact HE.out | (go_split_ands; exact (S2.step (by assumption) (by assumption)).l))
    (first
      | (go_at_call 35; go_split_ands; with_reducible (refine (times_any (.slice a1 n1 c1) (.slice b2 m2 d2) p.num.natAbs q.den _ (HX.out.1.below (S2.b (by assumption))) (HX.out.2.2.2.below (S2.b (by assumption))) (by have := HL.out.1; omega) (by have := HL.out.2.2.2; omega)).mono ?_); rintro e w1 ⟨z1, rfl, hz1, _, hb1⟩)
      | (go_at_call 35; go_split_ands; with_reducible (refine (times_any (.slice b1 m1 d1) (.slice a2 n2 c2) q.num.natAbs p.den _ (HX.out.2.2.1.below (S2.b (by assumption))) (HX.out.2.1.below (S2.b (by assumption))) (by have := HL.out.2.2.1; omega) (by have := HL.out.2.1; omega)).mono ?_); rintro e w2 ⟨z2, rfl, hz2, _, hb2⟩)
      | (go_at_call 35; go_split_ands; with_reducible (refine (times_any (.slice a2 n2 c2) (.slice b2 m2 d2) p.den q.den _ (HX.out.2.1.below (S2.b (by assumption))) (HX.out.2.2.2.below (S2.b (by assumption))) (by have := HL.out.2.1; omega) (by have := HL.out.2.2.2; omega)).mono ?_); rintro e w3 ⟨z3, rfl, hz3, _, hb3⟩))
  have HZ := Lib.hid (And.intro ((hz1.below hb2).below hb3) (And.intro (hz2.below hb3) hz3))
  clear hz1 hz2 hz3 hb1 hb2 hb3
  go_split_ands
  by_cases hpq : pn = qn
  · have hb : (pn == qn) = true := by simp [hpq]
    have HPQ := Lib.hid hpq
    clear hpq
    have HLM : Hid (((digs (p.num.natAbs * q.den + q.num.natAbs * p.den)).length : Int) ≤ 100000000) := Lib.hid (by
      have h := digs_len_add (p.num.natAbs * q.den) (q.num.natAbs * p.den)
      have h2 := HLL.out
      omega)
    go_wp2
    go_region_held3 (fun w' => S2 w (.bool pn) (.slice a1 n1 c1) (.slice a2 n2 c2) (.bool qn) (.slice b1 m1 d1) (.slice b2 m2 d2) w' ∧ w'.cell? ⟨w.heap.size, 0, none⟩ = some (.bool pn) ∧ w'.cell? ⟨w.heap.size, 1, none⟩ = some (.slice a1 n1 c1) ∧ w'.cell? ⟨w.heap.size, 2, none⟩ = some (.slice a2 n2 c2) ∧
          w'.cell? ⟨w.heap.size + 1, 0, none⟩ = some (.bool qn) ∧ w'.cell? ⟨w.heap.size + 1, 1, none⟩ = some (.slice b1 m1 d1) ∧ w'.cell? ⟨w.heap.size + 1, 2, none⟩ = some (.slice b2 m2 d2))
      (first | (go_split_ands; exact (S2.step (by assumption) (by assumption)).l) | (go_split_ands; exact (S2.store (by assumption) _ _ _).l) | (go_split_ands; exact (S2.drew (by assumption)).l))
      (first
        | (go_at_call 37; go_split_ands; with_reducible (refine (plus_any z1 z2 (p.num.natAbs * q.den) (q.num.natAbs * p.den) _ (HZ.out.1.below ((Below.refl _ _).drew)) (HZ.out.2.1.below ((Below.refl _ _).drew)) (by have := HLL.out.1; omega) (by have := HLL.out.2.1; omega)).mono ?_); rintro e w4 ⟨z4, rfl, hz4, _, hb4⟩)
        | (go_at_call 36; go_split_ands; with_reducible (refine (calls_q (made_any pn z4 z3 (p.num.natAbs * q.den + q.num.natAbs * p.den) (p.den * q.den) HNE.out _ hz4 ((HZ.out.2.2.below ((Below.refl _ _).drew)).below hb4) HLM.out (by have := HLL.out.2.2; omega))).mono ?_); rintro e w5 ⟨e0, u1, k1, f1, u2, k2, f2, rfl, hq3, hb3⟩; obtain ⟨r0, r1, r2, hr0, hr1, hr2, hr3, hr4, hr5, hr6⟩ := S2.blk (by assumption) hb3))
    go_wp2
    refine bodyPost_ret (v := .agg #[.bool e0, .slice u1 k1 f1, .slice u2 k2 f2]) (by simp [results, Try.results25, go_sem, hr0, hr1, hr2]) rfl ⟨_, rfl, ?_, ?_⟩
    · rw [← plus_same HN.out.1 HN.out.2 HPQ.out]
      exact hq3.store (fun n h => by rw [hr0] at h; cases h)
    · go_split_ands; exact S2.b (by assumption)
  · have hb : (pn == qn) = false := by simp [hpq]
    have HPQ := Lib.hid hpq
    clear hpq
    by_cases hge : q.num.natAbs * p.den ≤ p.num.natAbs * q.den
    · have hcmp := cmpN_ge hge
      have HLM : Hid (((digs (p.num.natAbs * q.den - q.num.natAbs * p.den)).length : Int) ≤ 100000000) := Lib.hid (by
        have h := digs_length_mono (Nat.sub_le (p.num.natAbs * q.den) (q.num.natAbs * p.den))
        have h2 := HLL.out
        omega)
      have HGE := Lib.hid hge
      clear hge
      go_wp2_with fail
      refine (compare_any z1 z2 _ _ _ HZ.out.1 HZ.out.2.1).mono ?_
      rintro e w3' ⟨rfl, q3, rfl⟩
      have hS5 : S2 w (.bool pn) (.slice a1 n1 c1) (.slice a2 n2 c2) (.bool qn) (.slice b1 m1 d1) (.slice b2 m2 d2) (w3.drewN q3) := S2.step (by assumption) (below_drewN (Below.refl _ _) q3)
      go_wp2
      go_region_held3 (fun w' => S2 w (.bool pn) (.slice a1 n1 c1) (.slice a2 n2 c2) (.bool qn) (.slice b1 m1 d1) (.slice b2 m2 d2) w' ∧ w'.cell? ⟨w.heap.size, 0, none⟩ = some (.bool pn) ∧ w'.cell? ⟨w.heap.size, 1, none⟩ = some (.slice a1 n1 c1) ∧ w'.cell? ⟨w.heap.size, 2, none⟩ = some (.slice a2 n2 c2) ∧
            w'.cell? ⟨w.heap.size + 1, 0, none⟩ = some (.bool qn) ∧ w'.cell? ⟨w.heap.size + 1, 1, none⟩ = some (.slice b1 m1 d1) ∧ w'.cell? ⟨w.heap.size + 1, 2, none⟩ = some (.slice b2 m2 d2))
        (first | (go_split_ands; exact (S2.step (by assumption) (by assumption)).l) | (go_split_ands; exact (S2.store (by assumption) _ _ _).l) | (go_split_ands; exact (S2.drew (by assumption)).l))
        (first
          | (go_at_call 39; go_split_ands; with_reducible (refine (less_any z1 z2 (p.num.natAbs * q.den) (q.num.natAbs * p.den) _ (HZ.out.1.below (below_drewN (Below.refl _ _) _)) (HZ.out.2.1.below (below_drewN (Below.refl _ _) _)) HGE.out (by have := HLL.out.1; omega)).mono ?_); rintro e w4 ⟨z4, rfl, hz4, _, hb4⟩)
          | (go_at_call 36; go_split_ands; with_reducible (refine (calls_q (made_any pn z4 z3 (p.num.natAbs * q.den - q.num.natAbs * p.den) (p.den * q.den) HNE.out _ hz4 ((HZ.out.2.2.below ((below_drewN (Below.refl _ _) _))).below hb4) HLM.out (by have := HLL.out.2.2; omega))).mono ?_); rintro e w5 ⟨e0, u1, k1, f1, u2, k2, f2, rfl, hq3, hb3⟩; obtain ⟨r0, r1, r2, hr0, hr1, hr2, hr3, hr4, hr5, hr6⟩ := S2.blk (by assumption) hb3))
      go_wp2
      refine bodyPost_ret (v := .agg #[.bool e0, .slice u1 k1 f1, .slice u2 k2 f2]) (by simp [results, Try.results25, go_sem, hr0, hr1, hr2]) rfl ⟨_, rfl, ?_, ?_⟩
      · rw [← plus_ge HN.out.1 HN.out.2 HPQ.out HGE.out]
        exact hq3.store (fun n h => by rw [hr0] at h; cases h)
      · go_split_ands; exact S2.b (by assumption)
    · have hcmp := cmpN_lt (Nat.lt_of_not_le hge)
      have hle : p.num.natAbs * q.den ≤ q.num.natAbs * p.den := Nat.le_of_lt (Nat.lt_of_not_le hge)
      have HLM : Hid (((digs (q.num.natAbs * p.den - p.num.natAbs * q.den)).length : Int) ≤ 100000000) := Lib.hid (by
        have h := digs_length_mono (Nat.sub_le (q.num.natAbs * p.den) (p.num.natAbs * q.den))
        have h2 := HLL.out
        omega)
      have HGE := Lib.hid hle
      clear hge hle
      go_wp2_with fail
      refine (compare_any z1 z2 _ _ _ HZ.out.1 HZ.out.2.1).mono ?_
      rintro e w3' ⟨rfl, q3, rfl⟩
      have hS5 : S2 w (.bool pn) (.slice a1 n1 c1) (.slice a2 n2 c2) (.bool qn) (.slice b1 m1 d1) (.slice b2 m2 d2) (w3.drewN q3) := S2.step (by assumption) (below_drewN (Below.refl _ _) q3)
      go_wp2
      go_region_held3 (fun w' => S2 w (.bool pn) (.slice a1 n1 c1) (.slice a2 n2 c2) (.bool qn) (.slice b1 m1 d1) (.slice b2 m2 d2) w' ∧ w'.cell? ⟨w.heap.size, 0, none⟩ = some (.bool pn) ∧ w'.cell? ⟨w.heap.size, 1, none⟩ = some (.slice a1 n1 c1) ∧ w'.cell? ⟨w.heap.size, 2, none⟩ = some (.slice a2 n2 c2) ∧
            w'.cell? ⟨w.heap.size + 1, 0, none⟩ = some (.bool qn) ∧ w'.cell? ⟨w.heap.size + 1, 1, none⟩ = some (.slice b1 m1 d1) ∧ w'.cell? ⟨w.heap.size + 1, 2, none⟩ = some (.slice b2 m2 d2))
        (first | (go_split_ands; exact (S2.step (by assumption) (by assumption)).l) | (go_split_ands; exact (S2.store (by assumption) _ _ _).l) | (go_split_ands; exact (S2.drew (by assumption)).l))
        (first
          | (go_at_call 39; go_split_ands; with_reducible (refine (less_any z2 z1 (q.num.natAbs * p.den) (p.num.natAbs * q.den) _ (HZ.out.2.1.below (below_drewN (Below.refl _ _) _)) (HZ.out.1.below (below_drewN (Below.refl _ _) _)) HGE.out (by have := HLL.out.2.1; omega)).mono ?_); rintro e w4 ⟨z4, rfl, hz4, _, hb4⟩)
          | (go_at_call 36; go_split_ands; with_reducible (refine (calls_q (made_any qn z4 z3 (q.num.natAbs * p.den - p.num.natAbs * q.den) (p.den * q.den) HNE.out _ hz4 ((HZ.out.2.2.below ((below_drewN (Below.refl _ _) _))).below hb4) HLM.out (by have := HLL.out.2.2; omega))).mono ?_); rintro e w5 ⟨e0, u1, k1, f1, u2, k2, f2, rfl, hq3, hb3⟩; obtain ⟨r0, r1, r2, hr0, hr1, hr2, hr3, hr4, hr5, hr6⟩ := S2.blk (by assumption) hb3))
      go_wp2
      refine bodyPost_ret (v := .agg #[.bool e0, .slice u1 k1 f1, .slice u2 k2 f2]) (by simp [results, Try.results25, go_sem, hr0, hr1, hr2]) rfl ⟨_, rfl, ?_, ?_⟩
      · rw [← plus_lt HN.out.1 HN.out.2 HPQ.out HGE.out]
        exact hq3.store (fun n h => by rw [hr0] at h; cases h)
      · go_split_ands; exact S2.b (by assumption)

end Go.Proofs.Ytpghhfobaionkaa

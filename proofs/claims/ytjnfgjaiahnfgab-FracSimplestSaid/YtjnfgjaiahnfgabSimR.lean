/- The reference's simple, on positive intervals. -/
import Derived.Deep.RegionHeld3
import Derived.Deep.DeepCutAuto
import Derived.Test.YtjnfgjaiahnfgabSmp
import Derived.Test.YtjnfgjaiahnfgabQn
namespace Go.Proofs.Ytjnfgjaiahnfgab
open Go.RowKit
set_option linter.unusedSimpArgs false
set_option linter.unusedVariables false

theorem blocks3 {w0 w : World} {Q : List (Value × Rat)} {g1 g2 g3 : Nat} {a1 b1 c1 a2 b2 c2 a3 b3 c3 : Value} {T1 T2 T3 : TypeId} {L : List (Nat × Array Value × TypeId)} (h : MQ w0 ((g1, #[a1, b1, c1], T1) :: (g2, #[a2, b2, c2], T2) :: (g3, #[a3, b3, c3], T3) :: L) Q w) :
    (w.cell? ⟨g1, 0, none⟩ = some a1 ∧ w.cell? ⟨g1, 1, none⟩ = some b1 ∧ w.cell? ⟨g1, 2, none⟩ = some c1) ∧ (w.cell? ⟨g2, 0, none⟩ = some a2 ∧ w.cell? ⟨g2, 1, none⟩ = some b2 ∧ w.cell? ⟨g2, 2, none⟩ = some c2) ∧ (w.cell? ⟨g3, 0, none⟩ = some a3 ∧ w.cell? ⟨g3, 1, none⟩ = some b3 ∧ w.cell? ⟨g3, 2, none⟩ = some c3) :=
  ⟨⟨h.m.cell 0, h.m.cell 1, h.m.cell 2⟩, ⟨h.m.tail.cell 0, h.m.tail.cell 1, h.m.tail.cell 2⟩, ⟨h.m.tail.tail.cell 0, h.m.tail.tail.cell 1, h.m.tail.tail.cell 2⟩⟩

theorem plus_one (x y : Value) (m c : Int) (hc : c = m + 1) (h1 : 0 ≤ m) (h2 : m ≤ 1000000000) (w : World) (h : IsQ w x (qof m 1)) (g : IsQ w y oneQ) :
    Calls Try.prog 64 #[x, y] w fun e w' => ∃ b u k c' u2 k2 c2, e = .returned (.agg #[.bool b, .slice u k c', .slice u2 k2 c2]) ∧ IsQ w' (.agg #[.bool b, .slice u k c', .slice u2 k2 c2]) (qof c 1) ∧ Below w.heap.size w w' := by
  rw [oneQ_eq] at g
  exact calls_q (plus_n x y m 1 1 c (by decide) (by omega) (by decide) (by decide) (by omega) w h g)

set_option maxRecDepth 100000 in
set_option maxHeartbeats 6400000 in
theorem simple_pos : ∀ (k : Nat) (p q r s : Int), 0 < p → 0 < q → 0 < r → 0 < s → p ≤ 1000000000 → q ≤ 1000000000 → r ≤ 1000000000 → s ≤ 1000000000 → p * s ≤ r * q → q + s ≤ (k : Int) + 1 → ∀ (x y : Value) (w : World), IsQ w x (qof p q) → IsQ w y (qof r s) →
    Calls Try.prog 34 #[x, y] w fun e w' => ∃ z, e = .returned z ∧ IsQ w' z (qof (smp k p q r s).1 (smp k p q r s).2) ∧ Below w.heap.size w w' := by
  intro k
  induction k with
  | zero => intro p q r s hp hq hr hs _ _ _ _ hle hk; omega
  | succ k ih =>
    intro p q r s hp hq hr hs p9 q9 r9 s9 hle hk x y w hx hy
    obtain ⟨xb, a1, k1, c1, a2, k2, c2, rfl, hx⟩ := hx.agg
    obtain ⟨yb, b1, m1, d1, b2, m2, d2, rfl, hy⟩ := hy.agg
    have HIH := Lib.hid ih
    have HALL := Lib.hid (smp_all (k + 1) p q r s hp hq hr hs hle hk)
    have HMIN := Lib.hid (HALL.out.2.2.2.2 p q hq (Int.le_refl _) hle)
    have HLE := Lib.hid hle
    have HK := Lib.hid hk
    have hM := (((⟨Mem.nil w, by
      intro x hx0
      simp only [List.mem_cons, List.not_mem_nil, or_false] at hx0
      rcases hx0 with rfl | rfl
      · exact hy
      · exact hx⟩ : MQ w [] [(.agg #[.bool yb, .slice b1 m1 d1, .slice b2 m2 d2], qof r s), (.agg #[.bool xb, .slice a1 k1 c1, .slice a2 k2 c2], qof p q)] w).alloc #[.bool xb, .slice a1 k1 c1, .slice a2 k2 c2] 54).alloc #[.bool yb, .slice b1 m1 d1, .slice b2 m2 d2] 54).alloc #[.bool false, .slice none 0 0, .slice none 0 0] 54
    simp only [World.size_alloc] at hM
    have HM := Lib.hid hM
    clear hx hy ih hle hk hM
    go_enter Try.func34, Try.ntmps34
    go_wp2_with fail
    refine (sign_n _ p q 1 hq (cmpI_gt hp) _ HM.out.q1).mono ?_
    rintro e w1 ⟨rfl, hb⟩
    have hM1 := HM.out.step hb
    have HM1 := Lib.hid hM1
    obtain ⟨⟨e0, e1, e2⟩, ⟨f0, f1, f2⟩, ⟨g0, g1, g2⟩⟩ := blocks3 hM1
    clear hb hM1
    go_wp2_with fail
    refine (sign_n _ r s 1 hs (cmpI_gt hr) _ HM1.out.q0).mono ?_
    rintro e w2 ⟨rfl, hb⟩
    have hM2 := HM1.out.step hb
    have HM2 := Lib.hid hM2
    clear e0 e1 e2 f0 f1 f2 g0 g1 g2
    obtain ⟨⟨e0, e1, e2⟩, ⟨f0, f1, f2⟩, ⟨g0, g1, g2⟩⟩ := blocks3 hM2
    clear hb hM2
    obtain ⟨m, hm⟩ : ∃ m, p / q = m := ⟨_, rfl⟩
    have HMM := Lib.hid hm
    have hmf : m * q ≤ p ∧ p < m * q + q := by
      have e := Int.emod_add_mul_ediv p q
      have e1 := Int.emod_nonneg p (show q ≠ 0 by omega)
      have e2 := Int.emod_lt_of_pos p hq
      have e3 : q * (p / q) = m * q := by rw [hm, Int.mul_comm]
      omega
    have hm0 : 0 ≤ m := by rw [← hm]; exact Int.ediv_nonneg (by omega) (by omega)
    have hm9 : m ≤ 1000000000 := by
      rcases Int.lt_or_le 1000000000 m with h | h
      · have i1 := Int.mul_le_mul_of_nonneg_right (show 1000000001 ≤ m by omega) (show 0 ≤ q by omega)
        omega
      · exact h
    have HMF := Lib.hid hmf
    clear hm hmf
    go_wp2_with fail
    refine (calls_q (down_n _ p q m hq HMM.out (by omega) (by omega) _ HM2.out.q1)).mono ?_
    rintro e w3 ⟨lb, u1, v1, z1, u2, v2, z2, rfl, hql, hb⟩
    have hM3 := (HM2.out.step hb).push hql
    have HM3 := Lib.hid (hM3.alloc #[.bool lb, .slice u1 v1 z1, .slice u2 v2 z2] 54)
    have hs3 := hM3.m.head_lt
    have hs3' : w.heap.size + 1 < w3.heap.size := by omega
    have hs3'' : w.heap.size < w3.heap.size := by omega
    clear e0 e1 e2 f0 f1 f2 g0 g1 g2
    obtain ⟨⟨e0, e1, e2⟩, ⟨f0, f1, f2⟩, ⟨g0, g1, g2⟩⟩ := blocks3 hM3
    clear hb hql hM3
    obtain ⟨o1, ho1⟩ : ∃ o, cmpI (m * q) (p * 1) = o := ⟨_, rfl⟩
    have HO1 := Lib.hid ho1
    clear ho1
    go_wp2_with fail
    refine (order_n _ _ m 1 p q o1 (by decide) hq HO1.out (by omega) (by decide) (by omega) (by omega) _ HM3.out.q0 HM3.out.q2).mono ?_
    rintro e w4 ⟨rfl, hb⟩
    have hM4 := HM3.out.step hb
    have HM4 := Lib.hid hM4
    clear e0 e1 e2 f0 f1 f2 g0 g1 g2
    obtain ⟨⟨l0, l1, l2⟩, ⟨e0, e1, e2⟩, ⟨f0, f1, f2⟩⟩ := blocks3 hM4
    obtain ⟨-, -, ⟨g0, g1, g2⟩⟩ := blocks3 hM4.tail
    obtain ⟨-, -, -, e3, e4, e5, e6⟩ := hM4.tail.m.c3
    have hs4 := hM4.m.head_lt
    clear hb hM4
    by_cases hz : o1 = 0
    · subst hz
      have hme : m * q = p := by
        have := HO1.out
        rcases cmpI_cases (m * q) (p * 1) with ⟨_, h2⟩ | ⟨_, h2⟩ | ⟨h1, _⟩ <;> omega
      have HX : Hid (qof m 1 = qof (smp (k + 1) p q r s).1 (smp (k + 1) p q r s).2) := Lib.hid (by
        have hc : -(-p / q) = m := by
          rw [← hme, ← Int.neg_mul, Int.mul_ediv_cancel _ (show q ≠ 0 by omega), Int.neg_neg]
        have h : -(-p / q) * s ≤ r := by
          rw [hc]
          have h1 : m * q * s ≤ r * q := by rw [hme]; exact HLE.out
          have h2 : m * q * s = m * s * q := by grind
          rw [h2] at h1
          exact Int.le_of_mul_le_mul_right h1 hq
        rw [smp_yes h, hc])
      go_wp2
      refine bodyPost_ret (v := .agg #[.bool lb, .slice u1 v1 z1, .slice u2 v2 z2]) (by simp [results, Try.results34, go_sem, e0, e1, e2]) rfl ⟨_, rfl, ?_, ?_⟩
      · rw [← HX.out]; exact (HM4.out.tail.put3 _ _ _).q0
      · exact (HM4.out.tail.put3 _ _ _).m.b
    · have hzz : (o1 == 0) = false := by simpa using hz
      have hlt : m * q < p := by
        have h1 := HO1.out; have h2 := HMF.out.1
        rcases cmpI_cases (m * q) (p * 1) with ⟨h3, _⟩ | ⟨h3, _⟩ | ⟨_, h3⟩ <;> omega
      obtain ⟨m', hm'⟩ : ∃ m', m' = m + 1 := ⟨_, rfl⟩
      have HM' := Lib.hid hm'
      have HCE : Hid (-(-p / q) = m') := Lib.hid (by
        have h2 := HMF.out.2
        have e : -p / q = -m' := by
          have e := Int.emod_add_mul_ediv (-p) q
          have e1 := Int.emod_nonneg (-p) (show q ≠ 0 by omega)
          have e2 := Int.emod_lt_of_pos (-p) hq
          have i1 : -m' * q ≤ -p := by rw [hm', Int.neg_mul, Int.add_mul, Int.one_mul]; omega
          have i2 : -p < (-m' + 1) * q := by rw [show -m' + 1 = -m by omega, Int.neg_mul]; omega
          have i3 := Int.le_ediv_of_mul_le hq i1
          have i4 := Int.ediv_lt_of_lt_mul hq i2
          omega
        rw [e, Int.neg_neg])
      have hQL := HM4.out.q0
      have HQL := Lib.hid hQL
      have HPL := Lib.hid (fun x y w h g => plus_one x y m m' hm' hm0 hm9 w h g)
      have HM4' := Lib.hid (HM4.out.sub (Q' := []) (by simp))
      have HC : Hid (∀ w', MQ w [(w3.heap.size, #[.bool lb, .slice u1 v1 z1, .slice u2 v2 z2], 54), (w.heap.size + 1 + 1, #[.bool false, .slice none 0 0, .slice none 0 0], 54), (w.heap.size + 1, #[.bool yb, .slice b1 m1 d1, .slice b2 m2 d2], 54), (w.heap.size, #[.bool xb, .slice a1 k1 c1, .slice a2 k2 c2], 54)] [] w' → MQ w [(w3.heap.size, #[.bool lb, .slice u1 v1 z1, .slice u2 v2 z2], 54), (w.heap.size + 1 + 1, #[.bool false, .slice none 0 0, .slice none 0 0], 54), (w.heap.size + 1, #[.bool yb, .slice b1 m1 d1, .slice b2 m2 d2], 54), (w.heap.size, #[.bool xb, .slice a1 k1 c1, .slice a2 k2 c2], 54)] [] w' ∧ w'.cell? ⟨w3.heap.size, 0, none⟩ = some (.bool lb) ∧ w'.cell? ⟨w3.heap.size, 1, none⟩ = some (.slice u1 v1 z1) ∧ w'.cell? ⟨w3.heap.size, 2, none⟩ = some (.slice u2 v2 z2)) := Lib.hid (fun w' h => ⟨h, (blocks3 h).1⟩)
      clear hm' hz hlt hQL l0 l1 l2 e0 e1 e2 f0 f1 f2 g0 g1 g2 e3 e4 e5 e6
      go_upto_region 8 with fail
      go_cut [6] (fun s6 wx => ∃ (gn : Nat) (nb : Bool) (n1 : Option Addr) (n2 n3 : Nat) (n4 : Option Addr) (n5 n6 : Nat), s6 = .pointer (some ⟨gn, 0, none⟩) ∧ Hid (MQ w [(gn, #[.bool nb, .slice n1 n2 n3, .slice n4 n5 n6], 54), (w3.heap.size, #[.bool lb, .slice u1 v1 z1, .slice u2 v2 z2], 54), (w.heap.size + 1 + 1, #[.bool false, .slice none 0 0, .slice none 0 0], 54), (w.heap.size + 1, #[.bool yb, .slice b1 m1 d1, .slice b2 m2 d2], 54), (w.heap.size, #[.bool xb, .slice a1 k1 c1, .slice a2 k2 c2], 54)] [(.agg #[.bool nb, .slice n1 n2 n3, .slice n4 n5 n6], qof m' 1), (.agg #[.bool lb, .slice u1 v1 z1, .slice u2 v2 z2], qof m 1), (.agg #[.bool yb, .slice b1 m1 d1, .slice b2 m2 d2], qof r s), (.agg #[.bool xb, .slice a1 k1 c1, .slice a2 k2 c2], qof p q)] wx))
      case first =>
        have hM4 := HM4'.out
        go_wp2_with fail
        go_region_held3 (fun w' => MQ w [(w3.heap.size, #[.bool lb, .slice u1 v1 z1, .slice u2 v2 z2], 54), (w.heap.size + 1 + 1, #[.bool false, .slice none 0 0, .slice none 0 0], 54), (w.heap.size + 1, #[.bool yb, .slice b1 m1 d1, .slice b2 m2 d2], 54), (w.heap.size, #[.bool xb, .slice a1 k1 c1, .slice a2 k2 c2], 54)] [] w' ∧ w'.cell? ⟨w3.heap.size, 0, none⟩ = some (.bool lb) ∧ w'.cell? ⟨w3.heap.size, 1, none⟩ = some (.slice u1 v1 z1) ∧ w'.cell? ⟨w3.heap.size, 2, none⟩ = some (.slice u2 v2 z2))
          (first | exact HC.out _ hM4 | exact HC.out _ hM4.drew | (go_split_ands; first | exact HC.out _ (MQ.step (by assumption) (by assumption)) | exact HC.out _ (MQ.realloc (by assumption) (by omega) _) | exact HC.out _ (MQ.skip (by assumption) _) | exact HC.out _ (MQ.set_new3 (by assumption) (by omega))))
          (first
            | (go_at_call 61; go_split_ands; with_reducible (refine (one_q _).mono ?_); rintro e x1 ⟨t0, t1, t2, t3, t4, t5, t6, rfl, hz1, hb1⟩; obtain ⟨oc1, of1, os1⟩ := old_cells hb1; (try simp only [World.size_alloc, World.size_drew] at oc1 of1 os1); (try have l41 : w4.heap.size < x1.heap.size := by omega))
            | (go_at_call 64; go_split_ands; with_reducible (refine (HPL.out _ _ _ (by first | exact HQL.out.dr.below hb1 | exact (HQL.out.dr.below hb1).al | exact HQL.out.al.dr.below hb1) (by first | exact hz1 | exact hz1.al)).mono ?_); rintro e x2 ⟨nb, n1, n2, n3, n4, n5, n6, rfl, hz2, hb2⟩; obtain ⟨oc2, of2, os2⟩ := old_cells hb2; (try simp only [World.size_alloc, World.size_drew] at oc2 of2 os2)))
        all_goals go_wp2_with fail
        all_goals go_meet
        all_goals exact ⟨_, nb, n1, n2, n3, n4, n5, n6, rfl, Lib.hid (by
          first
            | exact (((HM4.out.drew.step hb1).step hb2).push hz2).alloc _ _
            | exact ((((HM4.out.drew.step hb1).alloc #[.bool false, .slice none 0 0, .slice none 0 0] 54).step hb2).push hz2).put3 _ _ _
            | exact ((((HM4.out.alloc #[.bool false, .slice none 0 0, .slice none 0 0] 54).drew.step hb1).step hb2).push hz2).put3 _ _ _)⟩
      case rest =>
      obtain ⟨gn, nb, n1, n2, n3, n4, n5, n6, rfl, HN⟩ := hcut
      clear HC HPL HM4' HM4 HM3 HM2 HM1 HM HQL hs4
      obtain ⟨⟨l0, l1, l2⟩, -, -⟩ := blocks3 HN.out
      obtain ⟨⟨j0, j1, j2⟩, ⟨e0, e1, e2⟩, ⟨f0, f1, f2⟩⟩ := blocks3 HN.out.tail
      have hsn := HN.out.m.head_lt
      have hsg : w3.heap.size < gn := HN.out.m.gt
      obtain ⟨o2, ho2⟩ : ∃ o, cmpI (m' * s) (r * 1) = o := ⟨_, rfl⟩
      have HO2 := Lib.hid ho2
      clear ho2
      have hm'0 : 0 ≤ m' ∧ m' ≤ 1000000001 := by have := HM'.out; omega
      go_wp2_with fail
      refine (order_n _ _ m' 1 r s o2 (by decide) hs HO2.out (by omega) (by decide) (by omega) (by omega) _ HN.out.q0 HN.out.q2).mono ?_
      rintro e w5 ⟨rfl, hb⟩
      have hM5 := HN.out.step hb
      have HM5 := Lib.hid hM5
      clear l0 l1 l2 j0 j1 j2 e0 e1 e2 f0 f1 f2 hsn
      obtain ⟨⟨l0, l1, l2⟩, -, -⟩ := blocks3 hM5
      obtain ⟨⟨j0, j1, j2⟩, ⟨e0, e1, e2⟩, ⟨f0, f1, f2⟩⟩ := blocks3 hM5.tail
      obtain ⟨-, -, -, e3, e4, e5, e6⟩ := hM5.tail.tail.m.c3
      have hsn := hM5.m.head_lt
      clear hb hM5
      by_cases hz : o2 ≤ 0
      · have HX : Hid (qof m' 1 = qof (smp (k + 1) p q r s).1 (smp (k + 1) p q r s).2) := Lib.hid (by
          have h : -(-p / q) * s ≤ r := by
            rw [HCE.out]
            have := HO2.out
            rcases cmpI_cases (m' * s) (r * 1) with ⟨h1, h2⟩ | ⟨h1, h2⟩ | ⟨h1, _⟩ <;> omega
          rw [smp_yes h, HCE.out])
        go_wp2
        refine bodyPost_ret (v := .agg #[.bool nb, .slice n1 n2 n3, .slice n4 n5 n6]) (by simp [results, Try.results34, go_sem, e0, e1, e2]) rfl ⟨_, rfl, ?_, ?_⟩
        · rw [← HX.out]; exact (HM5.out.tail.tail.put3 _ _ _).q0
        · exact (HM5.out.tail.tail.put3 _ _ _).m.b
      · have hno : ¬ -(-p / q) * s ≤ r := by
          rw [HCE.out]
          have := HO2.out
          rcases cmpI_cases (m' * s) (r * 1) with ⟨_, h2⟩ | ⟨h1, h2⟩ | ⟨h1, h2⟩ <;> omega
        have hn' : m = -(-p / q) - 1 := by rw [HCE.out, HM'.out]; omega
        obtain ⟨n0, i1, i2, i3, i4, i5⟩ := smp_left hq hs hp hr HLE.out hn' hno
        have HS := Lib.hid (smp_no (k := k) hn' hno)
        have hk := HK.out
        have HR := Lib.hid (HIH.out s (r - m * s) q (p - m * q) hs i3 hq i1 s9 (by omega) q9 (by omega) i5 (by omega))
        obtain ⟨X, hX⟩ : ∃ X, X = (smp k s (r - m * s) q (p - m * q)).1 := ⟨_, rfl⟩
        obtain ⟨Y, hY⟩ : ∃ Y, Y = (smp k s (r - m * s) q (p - m * q)).2 := ⟨_, rfl⟩
        have hall := HALL.out
        have hmin := HMIN.out
        rw [HS.out, ← hX, ← hY] at hall hmin
        rw [← hX, ← hY] at HS HR
        simp only at hall hmin
        have hyy := smp_all k s (r - m * s) q (p - m * q) hs i3 hq i1 i5 (by omega)
        rw [← hX, ← hY] at hyy
        have gY := hyy.2.1
        have gX := hyy.1
        have gX9 := hmin.2
        have g5 : 0 ≤ m * X := Int.mul_nonneg n0 (by omega)
        have gY9 : Y ≤ 1000000000 := by omega
        have HYX := Lib.hid (And.intro gX (And.intro (show X ≤ 1000000000 by omega) (And.intro gY gY9)))
        obtain ⟨P, hP⟩ : ∃ P, P = p - m * q := ⟨_, rfl⟩
        obtain ⟨R, hR⟩ : ∃ R, R = r - m * s := ⟨_, rfl⟩
        rw [← hP, ← hR] at HR
        rw [← hP] at i1
        rw [← hR] at i3
        have HPR := Lib.hid (And.intro hP hR)
        have HPB := Lib.hid (And.intro i1 (And.intro (show P ≤ 1000000000 by omega) (And.intro i3 (show R ≤ 1000000000 by omega))))
        have HLY := Lib.hid (fun x y w h g => less_n x y r s m R hs HPR.out.2 (by omega) (by omega) (by omega) w h g)
        have HLX := Lib.hid (fun x y w h g => less_n x y p q m P hq HPR.out.1 (by omega) (by omega) (by omega) w h g)
        have HV1 := Lib.hid (fun x y w h g => inv_q x y R s HPB.out.2.2.1 hs (by have := HPB.out; omega) (by omega) w h g)
        have HV2 := Lib.hid (fun x y w h g => inv_q x y P q HPB.out.1 hq (by have := HPB.out; omega) (by omega) w h g)
        have HV3 := Lib.hid (fun x y w h g => inv_q x y X Y HYX.out.1 HYX.out.2.2.1 (by have := HYX.out; omega) (by have := HYX.out; omega) w h g)
        have HPN := Lib.hid (fun x y w h g => calls_q (plus_n x y m Y X (m * X + Y) HYX.out.1 rfl (by have := HYX.out; omega) (by have := HYX.out; omega) (by omega) w h g))
        clear hall hmin hyy hX hY hk hno hn' hP hR n0 i1 i2 i3 i4 i5 gY gX gX9 g5 gY9 HALL HMIN HIH HCE HO2 HO1 HMM HMF HLE HK HN
        go_wp2_with fail
        refine (one_q _).mono ?_
        rintro e w6 ⟨ob, o3, o4, o5, o6, o7, o8, rfl, hzo, hb⟩
        have hM6 := (HM5.out.step hb).push hzo
        have hM6' := hM6.alloc #[.bool ob, .slice o3 o4 o5, .slice o6 o7 o8] 54
        have HM6 := Lib.hid hM6'
        have hs6 := hM6.m.head_lt
        have HQO := Lib.hid hM6'.q0
        have HQL := Lib.hid hM6'.q2
        have HQY := Lib.hid hM6'.q3
        have HQX := Lib.hid hM6'.q4
        have hM7 := hM6'.sub (Q' := []) (by simp)
        have HM7 : Hid (MQ w [(w6.heap.size, #[.bool ob, .slice o3 o4 o5, .slice o6 o7 o8], 54), (w3.heap.size, #[.bool lb, .slice u1 v1 z1, .slice u2 v2 z2], 54), (w.heap.size + 1, #[.bool yb, .slice b1 m1 d1, .slice b2 m2 d2], 54), (w.heap.size, #[.bool xb, .slice a1 k1 c1, .slice a2 k2 c2], 54)] [] (w6.alloc (.cells #[.bool ob, .slice o3 o4 o5, .slice o6 o7 o8] 54))) := Lib.hid (hM7.sl (.cons_cons _ (.cons _ (.cons_cons _ (.cons _ (List.Sublist.refl _))))))
        have HC : Hid (∀ w', MQ w [(w6.heap.size, #[.bool ob, .slice o3 o4 o5, .slice o6 o7 o8], 54), (w3.heap.size, #[.bool lb, .slice u1 v1 z1, .slice u2 v2 z2], 54), (w.heap.size + 1, #[.bool yb, .slice b1 m1 d1, .slice b2 m2 d2], 54), (w.heap.size, #[.bool xb, .slice a1 k1 c1, .slice a2 k2 c2], 54)] [] w' → MQ w [(w6.heap.size, #[.bool ob, .slice o3 o4 o5, .slice o6 o7 o8], 54), (w3.heap.size, #[.bool lb, .slice u1 v1 z1, .slice u2 v2 z2], 54), (w.heap.size + 1, #[.bool yb, .slice b1 m1 d1, .slice b2 m2 d2], 54), (w.heap.size, #[.bool xb, .slice a1 k1 c1, .slice a2 k2 c2], 54)] [] w' ∧ w'.cell? ⟨w6.heap.size, 0, none⟩ = some (.bool ob) ∧ w'.cell? ⟨w6.heap.size, 1, none⟩ = some (.slice o3 o4 o5) ∧ w'.cell? ⟨w6.heap.size, 2, none⟩ = some (.slice o6 o7 o8) ∧ w'.cell? ⟨w3.heap.size, 0, none⟩ = some (.bool lb) ∧ w'.cell? ⟨w3.heap.size, 1, none⟩ = some (.slice u1 v1 z1) ∧ w'.cell? ⟨w3.heap.size, 2, none⟩ = some (.slice u2 v2 z2) ∧ w'.cell? ⟨w.heap.size + 1, 0, none⟩ = some (.bool yb) ∧ w'.cell? ⟨w.heap.size + 1, 1, none⟩ = some (.slice b1 m1 d1) ∧ w'.cell? ⟨w.heap.size + 1, 2, none⟩ = some (.slice b2 m2 d2) ∧ w'.cell? ⟨w.heap.size, 0, none⟩ = some (.bool xb) ∧ w'.cell? ⟨w.heap.size, 1, none⟩ = some (.slice a1 k1 c1) ∧ w'.cell? ⟨w.heap.size, 2, none⟩ = some (.slice a2 k2 c2)) := Lib.hid (fun w' h => ⟨h, h.m.cell 0, h.m.cell 1, h.m.cell 2, h.m.tail.cell 0, h.m.tail.cell 1, h.m.tail.cell 2, h.m.tail.tail.cell 0, h.m.tail.tail.cell 1, h.m.tail.tail.cell 2, h.m.tail.tail.tail.cell 0, h.m.tail.tail.tail.cell 1, h.m.tail.tail.tail.cell 2⟩)
        have HNE : Hid (∀ x ∈ ([(w6.heap.size, #[.bool ob, .slice o3 o4 o5, .slice o6 o7 o8], 54), (w3.heap.size, #[.bool lb, .slice u1 v1 z1, .slice u2 v2 z2], 54), (w.heap.size + 1, #[.bool yb, .slice b1 m1 d1, .slice b2 m2 d2], 54), (w.heap.size, #[.bool xb, .slice a1 k1 c1, .slice a2 k2 c2], 54)] : List (Nat × Array Value × TypeId)), x.1 ≠ w.heap.size + 1 + 1) := Lib.hid (by
          intro x hx
          simp only [List.mem_cons, List.not_mem_nil, or_false] at hx
          rcases hx with rfl | rfl | rfl | rfl <;> simp only <;> omega)
        clear hb hzo hM6 hM6' hM7 l0 l1 l2 j0 j1 j2 e0 e1 e2 f0 f1 f2 e3 e4 e5 e6
        have hM7 := HM7.out
        go_wp2_with fail
        go_region_held3 (fun w' => MQ w [(w6.heap.size, #[.bool ob, .slice o3 o4 o5, .slice o6 o7 o8], 54), (w3.heap.size, #[.bool lb, .slice u1 v1 z1, .slice u2 v2 z2], 54), (w.heap.size + 1, #[.bool yb, .slice b1 m1 d1, .slice b2 m2 d2], 54), (w.heap.size, #[.bool xb, .slice a1 k1 c1, .slice a2 k2 c2], 54)] [] w' ∧ w'.cell? ⟨w6.heap.size, 0, none⟩ = some (.bool ob) ∧ w'.cell? ⟨w6.heap.size, 1, none⟩ = some (.slice o3 o4 o5) ∧ w'.cell? ⟨w6.heap.size, 2, none⟩ = some (.slice o6 o7 o8) ∧ w'.cell? ⟨w3.heap.size, 0, none⟩ = some (.bool lb) ∧ w'.cell? ⟨w3.heap.size, 1, none⟩ = some (.slice u1 v1 z1) ∧ w'.cell? ⟨w3.heap.size, 2, none⟩ = some (.slice u2 v2 z2) ∧ w'.cell? ⟨w.heap.size + 1, 0, none⟩ = some (.bool yb) ∧ w'.cell? ⟨w.heap.size + 1, 1, none⟩ = some (.slice b1 m1 d1) ∧ w'.cell? ⟨w.heap.size + 1, 2, none⟩ = some (.slice b2 m2 d2) ∧ w'.cell? ⟨w.heap.size, 0, none⟩ = some (.bool xb) ∧ w'.cell? ⟨w.heap.size, 1, none⟩ = some (.slice a1 k1 c1) ∧ w'.cell? ⟨w.heap.size, 2, none⟩ = some (.slice a2 k2 c2))
          (first | exact HC.out _ hM7 | exact HC.out _ hM7.drew | (go_split_ands; first | exact HC.out _ (MQ.step (by assumption) (by assumption)) | exact HC.out _ (MQ.far3 (by assumption) (by omega) HNE.out)))
          (first
            | (go_at_call 59; go_split_ands; with_reducible (refine (HLY.out _ _ _ HQY.out.dr HQL.out.dr).mono ?_); rintro e x1 ⟨t1, rfl, hz1, hb1⟩)
            | (go_at_call 60; go_split_ands; with_reducible (refine (HV1.out _ _ _ (HQO.out.dr.below hb1) hz1).mono ?_); rintro e x2 ⟨t2, rfl, hz2, hb2⟩)
            | (go_at_call 59; go_split_ands; with_reducible (refine (HLX.out _ _ _ ((HQX.out.dr.below hb1).below hb2) ((HQL.out.dr.below hb1).below hb2)).mono ?_); rintro e x3 ⟨t3, rfl, hz3, hb3⟩)
            | (go_at_call 60; go_split_ands; with_reducible (refine (HV2.out _ _ _ (((HQO.out.dr.below hb1).below hb2).below hb3) hz3).mono ?_); rintro e x4 ⟨t4, rfl, hz4, hb4⟩)
            | (go_at_call 34; go_split_ands; with_reducible (refine (HR.out _ _ _ ((hz2.below hb3).below hb4) hz4).mono ?_); rintro e x5 ⟨t5, rfl, hz5, hb5⟩)
            | (go_at_call 60; go_split_ands; with_reducible (refine (HV3.out _ _ _ (((((HQO.out.dr.below hb1).below hb2).below hb3).below hb4).below hb5) hz5).mono ?_); rintro e x6 ⟨t6, rfl, hz6, hb6⟩)
            | (go_at_call 64; go_split_ands; with_reducible (refine (HPN.out _ _ _ ((((((HQL.out.dr.below hb1).below hb2).below hb3).below hb4).below hb5).below hb6) hz6).mono ?_); rintro e x7 ⟨y0, y1, y2, y3, y4, y5, y6, rfl, hz7, hb7⟩; obtain ⟨q0, q1, q2, q3, q4, q5, q6⟩ := (((((((HM6.out.drew.step hb1).step hb2).step hb3).step hb4).step hb5).step hb6).step hb7).tail.tail.tail.m.c3))
        go_wp2
        have hX7 := ((((((((HM6.out.drew.step hb1).step hb2).step hb3).step hb4).step hb5).step hb6).step hb7).tail.tail.tail.push hz7).put3 y0 (.slice y1 y2 y3) (.slice y4 y5 y6)
        have HX7 := Lib.hid hX7
        clear hX7
        refine bodyPost_ret (v := .agg #[.bool y0, .slice y1 y2 y3, .slice y4 y5 y6]) (by simp [results, Try.results34, go_sem, q0, q1, q2]) rfl ⟨_, rfl, ?_, ?_⟩
        · rw [HS.out]; exact HX7.out.q0
        · exact HX7.out.m.b

end Go.Proofs.Ytjnfgjaiahnfgab

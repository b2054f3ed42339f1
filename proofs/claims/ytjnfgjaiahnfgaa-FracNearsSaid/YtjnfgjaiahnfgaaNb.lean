/- The program's neighbours. -/
import Derived.Deep.RegionHeld3
import Derived.Deep.DeepCutAuto
import Derived.Deep.QuietTactic
import Derived.BigQuiet
import Derived.Test.YtjnfgjaiahnfgaaMem
import Derived.Test.YtjnfgjaiahnfgaaNbA
import Derived.Test.YtjnfgjaiahnfgaaRnd
namespace Go.Proofs.Ytjnfgjaiahnfgaa
open Go.RowKit

set_option maxRecDepth 100000 in
set_option maxHeartbeats 1600000 in
theorem nb_near (p q D : Int) (hq : q ≤ D) (w : World) :
    Calls Try.prog 85 #[.agg #[.int .i64 p, .int .i64 q], .int .i64 D] w fun e w' => e = .returned (.tuple #[.agg #[.int .i64 p, .int .i64 q], .agg #[.int .i64 p, .int .i64 q]]) ∧ Below w.heap.size w w' := by
  go_enter Try.func85, Try.ntmps85
  go_wp2
  go_region
  go_wp2
  refine bodyPost_ret (v := .tuple #[.agg #[.int .i64 p, .int .i64 q], .agg #[.int .i64 p, .int .i64 q]]) (by simp [results, Try.results85, go_sem]) rfl ⟨rfl, ?_⟩
  exact (Below3 _ _ _ _).drew

set_option maxRecDepth 100000 in
set_option maxHeartbeats 1600000 in
theorem nb_far (p q D : Int) (hq : D < q) (hD : 1 ≤ D) (q9 : q ≤ 1000000000) (p1 : -1000000000 ≤ p) (p2 : p ≤ 1000000000) (hg : Int.gcd p q = 1) (w : World) :
    Calls Try.prog 85 #[.agg #[.int .i64 p, .int .i64 q], .int .i64 D] w fun e w' => ∃ a b c d, e = .returned (.tuple #[.agg #[.int .i64 a, .int .i64 b], .agg #[.int .i64 c, .int .i64 d]]) ∧ Hid (NB p q D a b c d ∧ D < b + d ∧ 0 < d) ∧ Below w.heap.size w w' := by
  have HN0 := Lib.hid (NB.start hq hD hg)
  obtain ⟨fl, hfl⟩ : ∃ x, x = p / q := ⟨_, rfl⟩
  rw [← hfl] at HN0
  have HFL := Lib.hid hfl
  have HG := Lib.hid hg
  clear hg hfl
  have hM := (((Mem.nil w).alloc #[.int .i64 p, .int .i64 q] 67).alloc #[.int .i64 0, .int .i64 0] 67).alloc #[.int .i64 0, .int .i64 0] 67
  simp only [World.size_alloc] at hM
  have HM := Lib.hid hM
  clear hM
  go_enter Try.func85, Try.ntmps85
  go_wp2_with fail
  refine (floor_r p q (by omega) (by omega) (by omega) _).mono ?_
  rintro e w1 ⟨rfl, hb⟩
  rw [← HFL.out]
  have hM := HM.out.step hb
  have HM1 := Lib.hid hM
  obtain ⟨a0, a1, a2, a3, a4⟩ := hM.c2
  obtain ⟨b0, b1, b2, b3, b4⟩ := hM.tail.c2
  obtain ⟨c0, c1, c2, c3, c4⟩ := hM.tail.tail.c2
  clear hb hM
  have hlo : 0 < p - fl * q := by have := HN0.out.lo; omega
  have hup : p - fl * q < q := by
    have e := Int.emod_add_mul_ediv p q
    have e2 := Int.emod_lt_of_pos p (show 0 < q by omega)
    rw [← HFL.out] at e
    have := Int.mul_comm q fl
    omega
  have g1 : -2000000000 ≤ fl * q := by omega
  have g2 : fl * q ≤ 1000000000 := by omega
  go_wp2
  go_quiet (fail)
  go_wp2_with fail
  go_loopw [6, 7] (fun s6 s7 wr => ∃ a b c d A B : Int, s6 = .int .i64 B ∧ s7 = .int .i64 A ∧ Hid (NB p q D a b c d ∧ (0 < d ∨ B ≤ A) ∧ B = p * b - a * q ∧ A = c * q - p * d ∧ -1000000000 ≤ a ∧ a ≤ 1000000000 ∧ -1000000000 ≤ c ∧ c ≤ 1000000000 ∧ B ≤ 2000000000 ∧ A ≤ 2000000000) ∧
    Hid (Mem w [(w.heap.size + 1 + 1, #[.int .i64 c, .int .i64 d], 67), (w.heap.size + 1, #[.int .i64 a, .int .i64 b], 67), (w.heap.size, #[.int .i64 p, .int .i64 q], 67)] wr)) (fun s6 s7 _ => (intOf s6).toNat + (intOf s7).toNat)
  case atStart =>
    refine ⟨fl, 1, 1, 0, q, p - fl * q, rfl, rfl, Lib.hid ⟨HN0.out, .inr (by omega), by omega, by omega, ?_, ?_, by decide, by decide, by omega, by omega⟩, Lib.hid ?_⟩
    · rcases Int.lt_or_le fl (-1000000000) with h | h
      · have := Int.mul_le_mul_of_nonneg_right (show fl ≤ -1000000001 by omega) (show 0 ≤ q by omega)
        omega
      · exact h
    · rcases Int.lt_or_le 1000000000 fl with h | h
      · have := Int.mul_le_mul_of_nonneg_right (show 1000000001 ≤ fl by omega) (show 0 ≤ q by omega)
        omega
      · exact h
    · exact (((HM1.out.put2s _ _).put2 _ _).step (below_drewN (Below.refl _ _) _))
  case round =>
    obtain ⟨a, b, c, d, A, B, rfl, rfl, HI, HR⟩ := hrel
    obtain ⟨a0, a1, a2, a3, a4⟩ := HR.out.c2
    obtain ⟨b0, b1, b2, b3, b4⟩ := HR.out.tail.c2
    obtain ⟨c0, c1, c2, c3, c4⟩ := HR.out.tail.tail.c2
    have i1 := HI.out.1.b1
    have i2 := HI.out.1.d1
    have i3 := HI.out.1.bD
    have i4 := HI.out.1.dD
    have j1 : 0 < B := by rw [HI.out.2.2.1]; exact HI.out.1.lo
    have j2 : 0 < A := by rw [HI.out.2.2.2.1]; exact HI.out.1.hi
    by_cases hs : b + d ≤ D
    · obtain ⟨k, hk⟩ : ∃ k, k = min (A / B) ((D - d) / b) := ⟨_, rfl⟩
      have HK := Lib.hid (HI.out.1.half1 hq HG.out hs HI.out.2.1 HI.out.2.2.1 HI.out.2.2.2.1 hk)
      have j3 : A ≤ 2000000000 := HI.out.2.2.2.2.2.2.2.2.2
      have j4 : B ≤ 2000000000 := HI.out.2.2.2.2.2.2.2.2.1
      have j5 : (B == 0) = false := by simp; omega
      have j6 : (b == 0) = false := by simp; omega
      have HKE := Lib.hid hk
      clear hk
      go_upto_region 7 with fail
      go_cut [8] (fun s8 wx => s8 = .int .i64 k ∧ Hid (Mem w [(w.heap.size + 1 + 1, #[.int .i64 c, .int .i64 d], 67), (w.heap.size + 1, #[.int .i64 a, .int .i64 b], 67), (w.heap.size, #[.int .i64 p, .int .i64 q], 67)] wx))
      case first =>
        go_region
        all_goals go_wp2_with fail
        all_goals (go_meet; exact ⟨by have := HKE.out; congr 1; omega, Lib.hid HR.out.drew⟩)
      case rest =>
      obtain ⟨rfl, HR2⟩ := hcut
      have hsm := HK.out.1.small hq HK.out.2.1 q9 p1 p2
      obtain ⟨hn, hd0, k0, kB, kb, he, -, -, -, -, hA1, -⟩ := HK.out
      have kb0 := Int.mul_nonneg k0 (show 0 ≤ b by omega)
      have kB0 := Int.mul_nonneg k0 (show 0 ≤ B by omega)
      have hab := hn.ab_le hd0
      clear a0 a1 a2 a3 a4 b0 b1 b2 b3 b4 c0 c1 c2 c3 c4 HR
      obtain ⟨a0, a1, a2, a3, a4⟩ := HR2.out.c2
      obtain ⟨b0, b1, b2, b3, b4⟩ := HR2.out.tail.c2
      obtain ⟨c0, c1, c2, c3, c4⟩ := HR2.out.tail.tail.c2
      have hcb := HI.out.2.2.2.2
      have m1 : -3000000000 ≤ k * a := by omega
      have m2 : k * a ≤ 3000000000 := by omega
      have HSM := Lib.hid hsm
      have HE := Lib.hid he
      have HN := Lib.hid hn
      have HAB := Lib.hid hab
      have HCB := Lib.hid hcb
      clear hsm he hn hab hcb
      go_wp2_with fail
      refine (mediant_r c d k a b (by omega) (by omega) (by omega) (by omega) (by have := HCB.out; omega) (by have := HCB.out; omega) (by omega) (by omega) _).mono ?_
      rintro e w3 ⟨rfl, hb⟩
      have HK1 : Hid (B ≤ A → 1 ≤ k) := Lib.hid HK.out.2.2.2.2.2.2.2.2.2.2.2
      clear HK
      generalize hc' : c + k * a = c' at *
      generalize hd' : d + k * b = d' at *
      have HC := Lib.hid (And.intro hc' hd')
      clear hc' hd'
      obtain ⟨A', hA'⟩ : ∃ x, A - k * B = x := ⟨_, rfl⟩
      rw [hA'] at HE hA1
      have HM3 := Lib.hid ((HR2.out.step hb).put2 (.int .i64 c') (.int .i64 d'))
      have hM3 := HR2.out.step hb
      clear a0 a1 a2 a3 a4 b0 b1 b2 b3 b4 c0 c1 c2 c3 c4 hb
      obtain ⟨a0, a1, a2, a3, a4⟩ := hM3.c2
      obtain ⟨b0, b1, b2, b3, b4⟩ := hM3.tail.c2
      obtain ⟨c0, c1, c2, c3, c4⟩ := hM3.tail.tail.c2
      clear hM3
      obtain ⟨k2, hk2⟩ : ∃ k, k = min (B / A') ((D - b) / d') := ⟨_, rfl⟩
      have HK2 := Lib.hid (HN.out.half2 hq HG.out hd0 HI.out.2.2.1 HE.out hk2)
      have HK2E := Lib.hid hk2
      clear hk2
      have l1 : A' ≤ 2000000000 := by omega
      have l2 : (A' == 0) = false := by simp; omega
      have l3 : (d' == 0) = false := by simp; omega
      have l4 : d' ≤ D := HN.out.dD
      go_upto_region 9 with fail
      go_cut [7, 8] (fun s7 s8 wx => s7 = .int .i64 A' ∧ s8 = .int .i64 k2 ∧ Hid (Mem w [(w.heap.size + 1 + 1, #[.int .i64 c', .int .i64 d'], 67), (w.heap.size + 1, #[.int .i64 a, .int .i64 b], 67), (w.heap.size, #[.int .i64 p, .int .i64 q], 67)] wx))
      case first =>
        go_wp2
        go_region
        all_goals go_wp2_with fail
        all_goals (go_meet; exact ⟨rfl, by have := HK2E.out; congr 1; omega, Lib.hid HM3.out.drew⟩)
      case rest =>
      obtain ⟨rfl, rfl, HR3⟩ := hcut
      have hsm := HK2.out.1.small hq hd0 q9 p1 p2
      obtain ⟨hn, k20, kA, kd, he, -, -, hB1, hone⟩ := HK2.out
      have kd0 := Int.mul_nonneg k20 (show 0 ≤ d' by omega)
      have kA0 := Int.mul_nonneg k20 (show 0 ≤ A' by omega)
      have hab := hn.ab_le hd0
      have n1 : -3000000000 ≤ k2 * c' := by have := HSM.out; omega
      have n2 : k2 * c' ≤ 3000000000 := by have := HSM.out; omega
      have HSM2 := Lib.hid hsm
      have HE2 := Lib.hid he
      have HN2 := Lib.hid hn
      have HAB2 := Lib.hid hab
      have HK3 : Hid (B - k2 * A' + A' < B + A) := Lib.hid (by
        rcases Int.lt_or_le A B with hlt | hge
        · rcases Int.lt_or_le 0 k with hk0 | hk0
          · have := Int.mul_le_mul_of_nonneg_right (show 1 ≤ k by omega) (show 0 ≤ B by omega)
            omega
          · obtain rfl : k = 0 := by omega
            have e1 : A' = A := by omega
            have e2 : d' = d := by have := HC.out.2; omega
            have := Int.mul_le_mul_of_nonneg_right (hone (by omega) (by omega)) (show 0 ≤ A' by omega)
            omega
        · have := Int.mul_le_mul_of_nonneg_right (HK1.out hge) (show 0 ≤ B by omega)
          omega)
      clear hsm he hn hab hone a0 a1 a2 a3 a4 b0 b1 b2 b3 b4 c0 c1 c2 c3 c4 hA'
      obtain ⟨a0, a1, a2, a3, a4⟩ := HR3.out.c2
      obtain ⟨b0, b1, b2, b3, b4⟩ := HR3.out.tail.c2
      obtain ⟨c0, c1, c2, c3, c4⟩ := HR3.out.tail.tail.c2
      go_wp2_with fail
      refine (mediant_r a b k2 c' d' (by omega) (by omega) (by omega) (by omega) (by have := HCB.out; omega) (by have := HCB.out; omega) (by omega) (by omega) _).mono ?_
      rintro e w4 ⟨rfl, hb⟩
      generalize ha' : a + k2 * c' = a' at *
      generalize hb' : b + k2 * d' = b' at *
      clear ha' hb'
      have HM4 := Lib.hid ((HR3.out.step hb).put2s (.int .i64 a') (.int .i64 b'))
      have hM4 := HR3.out.step hb
      clear a0 a1 a2 a3 a4 b0 b1 b2 b3 b4 c0 c1 c2 c3 c4 hb
      obtain ⟨b0, b1, b2, b3, b4⟩ := hM4.tail.c2
      clear hM4
      go_wp2
      go_roundw
      case rel => exact ⟨a', b', c', d', A', B - k2 * A', rfl, rfl, Lib.hid ⟨HN2.out, .inl hd0, HE2.out, HE.out, HSM2.out.1, HSM2.out.2.1, HSM2.out.2.2.1, HSM2.out.2.2.2, by have := HAB2.out; have := HE2.out; omega, l1⟩, HM4⟩
      case measure => simp only [intOf]; have := HK3.out; omega
    · have hd0 : 0 < d := by omega
      have HX := Lib.hid (And.intro HI.out.1 (And.intro (show D < b + d by omega) hd0))
      clear hd0
      go_wp2
      go_region
      all_goals go_wp2_with fail
      refine bodyPost_ret (v := .tuple #[.agg #[.int .i64 a, .int .i64 b], .agg #[.int .i64 c, .int .i64 d]]) (by simp [results, Try.results85, go_sem, a0, a1, b0, b1]) rfl ⟨_, _, _, _, rfl, HX, ?_⟩
      exact ((HR.out.put2s _ _).put2 _ _).b.drew

end Go.Proofs.Ytjnfgjaiahnfgaa

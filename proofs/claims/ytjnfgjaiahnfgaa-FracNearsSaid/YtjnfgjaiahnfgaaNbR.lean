/- The reference's between. -/
import Derived.Deep.RegionHeld3
import Derived.Deep.DeepCutAuto
import Derived.BigRegion
import Derived.Test.YtjnfgjaiahnfgaaNbB
namespace Go.Proofs.Ytjnfgjaiahnfgaa
open Go.RowKit

set_option maxRecDepth 100000 in
set_option maxHeartbeats 3200000 in
theorem between_any (p q D : Int) (hq : D < q) (hD : 1 ≤ D) (q9 : q ≤ 1000000000) (p1 : 0 < p) (p2 : p < q) (hg : Int.gcd p q = 1) (w : World) :
    Calls Try.prog 86 #[.int .i64 p, .int .i64 q, .int .i64 D] w fun e w' => ∃ a b c d, e = .returned (.tuple #[.agg #[.int .i64 a, .int .i64 b], .agg #[.int .i64 c, .int .i64 d]]) ∧ Hid (NB p q D a b c d ∧ D < b + d ∧ 0 < d ∧ -1000000000 ≤ a ∧ a ≤ 1000000000 ∧ -1000000000 ≤ c ∧ c ≤ 1000000000) ∧ Below w.heap.size w w' := by
  have HG := Lib.hid hg
  clear hg
  have hM := ((((Mem.nil w).alloc #[.int .i64 0, .int .i64 0] 23).alloc #[.int .i64 0, .int .i64 0] 23).alloc #[.int .i64 0, .int .i64 1] 23).alloc #[.int .i64 1, .int .i64 1] 23
  simp only [World.size_alloc] at hM
  have HM := Lib.hid hM
  clear hM
  go_enter Try.func86, Try.ntmps86
  go_wp2
  go_loopw [] (fun wr => ∃ a b c d A B : Int, Hid (NB p q D a b c d ∧ 0 < d ∧ B = p * b - a * q ∧ A = c * q - p * d ∧ -1000000000 ≤ a ∧ a ≤ 1000000000 ∧ -1000000000 ≤ c ∧ c ≤ 1000000000 ∧ B ≤ 2000000000 ∧ A ≤ 2000000000) ∧
    Hid (Mem w [(w.heap.size + 1 + 1 + 1, #[.int .i64 c, .int .i64 d], 23), (w.heap.size + 1 + 1, #[.int .i64 a, .int .i64 b], 23), (w.heap.size + 1, #[.int .i64 0, .int .i64 0], 23), (w.heap.size, #[.int .i64 0, .int .i64 0], 23)] wr)) (fun wr => match wr.cell? ⟨w.heap.size + 1 + 1 + 1, 1, none⟩, wr.cell? ⟨w.heap.size + 1 + 1, 1, none⟩ with | some (.int _ x), some (.int _ y) => (2 * D - x - y).toNat | _, _ => 0)
  case atStart =>
    refine ⟨0, 1, 1, 1, q - p, p, Lib.hid ⟨⟨by decide, by decide, hD, hD, by omega, by omega, by omega⟩, by decide, by omega, by omega, by decide, by decide, by decide, by decide, by omega, by omega⟩, HM⟩
  case round =>
    obtain ⟨a, b, c, d, A, B, HI, HR⟩ := hrel
    obtain ⟨a0, a1, a2, a3, a4⟩ := HR.out.c2
    obtain ⟨b0, b1, b2, b3, b4⟩ := HR.out.tail.c2
    obtain ⟨i1, -, i3, i4, j1, j2, -⟩ := HI.out.1
    have i2 := HI.out.2.1
    rw [← HI.out.2.2.1] at j1
    rw [← HI.out.2.2.2.1] at j2
    have j3 : A ≤ 2000000000 := HI.out.2.2.2.2.2.2.2.2.2
    have j4 : B ≤ 2000000000 := HI.out.2.2.2.2.2.2.2.2.1
    have m1 := mul_bd (a := b) (b := p) (by omega) (by omega) (by omega) (by omega)
    have m2 := mul_bd (a := d) (b := p) (by omega) (by omega) (by omega) (by omega)
    have e1 : b * p - a * q = B := by rw [HI.out.2.2.1, Int.mul_comm b p]
    have e2 : c * q - d * p = A := by rw [HI.out.2.2.2.1, Int.mul_comm d p]
    have m3 : -2000000000000000000 ≤ a * q := by omega
    have m4 : a * q ≤ 2000000000000000000 := by omega
    have m5 : -2000000000000000000 ≤ c * q := by omega
    have m6 : c * q ≤ 2000000000000000000 := by omega
    obtain ⟨m1a, m1b⟩ := m1
    obtain ⟨m2a, m2b⟩ := m2
    have j5 : (A == 0) = false := by simp; omega
    have j6 : (d == 0) = false := by simp; omega
    obtain ⟨k, hk⟩ : ∃ k, k = min (B / A) ((D - b) / d) := ⟨_, rfl⟩
    have HK := Lib.hid (HI.out.1.half2 hq HG.out i2 HI.out.2.2.1 HI.out.2.2.2.1 hk)
    have HKE := Lib.hid hk
    clear hk
    go_upto_region 3 with fail
    go_cut [10] (fun s10 wx => s10 = .int .i64 k ∧ Hid (Mem w [(w.heap.size + 1 + 1 + 1, #[.int .i64 c, .int .i64 d], 23), (w.heap.size + 1 + 1, #[.int .i64 a, .int .i64 b], 23), (w.heap.size + 1, #[.int .i64 0, .int .i64 0], 23), (w.heap.size, #[.int .i64 0, .int .i64 0], 23)] wx))
    case first =>
      go_region
      all_goals go_wp2_with fail
      all_goals (go_meet; exact ⟨by have := HKE.out; congr 1; omega, Lib.hid HR.out.drew⟩)
    case rest =>
    obtain ⟨rfl, HR2⟩ := hcut
    have hsm := HK.out.1.small hq i2 q9 (by omega) (by omega)
    obtain ⟨hn, k0, kA, kd, he, -, -, hB1, hone⟩ := HK.out
    have kd0 := Int.mul_nonneg k0 (show 0 ≤ d by omega)
    have kA0 := Int.mul_nonneg k0 (show 0 ≤ A by omega)
    have hab := hn.ab_le i2
    obtain ⟨-, -, -, -, hb5, hb6, hb7, hb8, -, -⟩ := HI.out
    have n1 : -3000000000 ≤ k * c := by omega
    have n2 : k * c ≤ 3000000000 := by omega
    have HSM := Lib.hid hsm
    have HN := Lib.hid hn
    have HAB := Lib.hid hab
    have HE := Lib.hid he
    have HK1 : Hid (A ≤ B → b + d ≤ D → 1 ≤ k) := Lib.hid hone
    clear HK hsm hn hab he hone
    generalize ha' : a + k * c = a' at *
    generalize hb' : b + k * d = b' at *
    obtain ⟨B', hB'⟩ : ∃ x, B - k * A = x := ⟨_, rfl⟩
    rw [hB'] at HE hB1
    have HC := Lib.hid (And.intro ha' (And.intro hb' hB'))
    have g1 : B' ≤ 2000000000 := by omega
    have g2 : b' ≤ D := HN.out.bD
    have g3 : 1 ≤ b' := HN.out.b1
    have e3 : b' * p - a' * q = B' := by rw [HE.out, Int.mul_comm b' p]
    obtain ⟨r1, r2⟩ := mul_bd (a := b') (b := p) (by omega) (by omega) (by omega) (by omega)
    have r3 : -2000000000000000000 ≤ a' * q := by omega
    have r4 : a' * q ≤ 2000000000000000000 := by omega
    have l2 : (B' == 0) = false := by simp; omega
    have l3 : (b' == 0) = false := by simp; omega
    clear e1 m1a m1b m3 m4 hB'
    obtain ⟨n, hn⟩ : ∃ k, k = min (A / B') ((D - d) / b') := ⟨_, rfl⟩
    have hdp : -1000000000 ≤ a' ∧ a' ≤ 1000000000 := ⟨HSM.out.1, HSM.out.2.1⟩
    have HK2 := Lib.hid (HN.out.half1' hq HG.out i2 (by omega) HE.out HI.out.2.2.2.1 hn)
    have HNE := Lib.hid hn
    clear hn
    have HM3 := Lib.hid (HR2.out.put2s (.int .i64 a') (.int .i64 b'))
    clear a0 a1 a2 a3 a4 b0 b1 b2 b3 b4
    obtain ⟨a0, a1, a2, a3, a4⟩ := HR2.out.c2
    obtain ⟨b0, b1, b2, b3, b4⟩ := HR2.out.tail.c2
    go_upto_region 5 with fail
    go_cut [11] (fun s11 wx => s11 = .int .i64 n ∧ Hid (Mem w [(w.heap.size + 1 + 1 + 1, #[.int .i64 c, .int .i64 d], 23), (w.heap.size + 1 + 1, #[.int .i64 a', .int .i64 b'], 23), (w.heap.size + 1, #[.int .i64 0, .int .i64 0], 23), (w.heap.size, #[.int .i64 0, .int .i64 0], 23)] wx))
    case first =>
      go_wp2
      go_region
      all_goals go_wp2_with fail
      all_goals (go_meet; exact ⟨by have := HNE.out; congr 1; omega, Lib.hid HM3.out.drew⟩)
    case rest =>
    obtain ⟨rfl, HR3⟩ := hcut
    have hsm := HK2.out.1.small hq HK2.out.2.1 q9 (by omega) (by omega)
    obtain ⟨hn, hd0, k20, kB, kb, he, -, -, hA1, hone⟩ := HK2.out
    have kb0 := Int.mul_nonneg k20 (show 0 ≤ b' by omega)
    have kB0 := Int.mul_nonneg k20 (show 0 ≤ B' by omega)
    have hab := hn.ab_le hd0
    have u1 : -3000000000 ≤ n * a' := by omega
    have u2 : n * a' ≤ 3000000000 := by omega
    have HSM2 := Lib.hid hsm
    have HN2 := Lib.hid hn
    have HAB2 := Lib.hid hab
    have HE2 := Lib.hid he
    have HN1 : Hid (B' ≤ A → b' + d ≤ D → 1 ≤ n) := Lib.hid hone
    clear HK2 hsm hn hab he hone a0 a1 a2 a3 a4 b0 b1 b2 b3 b4 hdp
    generalize hc' : c + n * a' = c' at *
    generalize hd' : d + n * b' = d' at *
    have HC2 := Lib.hid (And.intro hc' hd')
    obtain ⟨a0, a1, a2, a3, a4⟩ := HR3.out.c2
    obtain ⟨b0, b1, b2, b3, b4⟩ := HR3.out.tail.c2
    have HM4 := Lib.hid (HR3.out.put2 (.int .i64 c') (.int .i64 d'))
    by_cases hz : k = 0 ∧ n = 0
    · obtain ⟨rfl, rfl⟩ := hz
      have HX : Hid (NB p q D a' b' c' d' ∧ D < b' + d' ∧ 0 < d' ∧ -1000000000 ≤ a' ∧ a' ≤ 1000000000 ∧ -1000000000 ≤ c' ∧ c' ≤ 1000000000) := Lib.hid ⟨HN2.out, by
        have q1 := HC.out.2.1; have q2 := HC.out.2.2; have q3 := HC2.out.2
        have q4 := HK1.out; have q5 := HN1.out
        omega, hd0, HSM2.out.1, HSM2.out.2.1, HSM2.out.2.2.1, HSM2.out.2.2.2⟩
      have ec : c' = c := by have := HC2.out.1; omega
      have ed : d' = d := by have := HC2.out.2; omega
      subst ec ed
      clear HK1 HN1 HNE HKE HC HC2 HE2 ha' hb' hc' hd' k0 kA kd kd0 kA0 n1 n2 k20 kB kb hA1 kb0 kB0 u1 u2
      obtain ⟨t0, t1, t2, t3, t4⟩ := HR3.out.tail.tail.c2
      obtain ⟨v0, v1, v2, v3, v4⟩ := HR3.out.tail.tail.tail.c2
      go_wp2
      go_region
      go_wp2
      refine bodyPost_ret (v := .tuple #[.agg #[.int .i64 a', .int .i64 b'], .agg #[.int .i64 c', .int .i64 d']]) (by simp [results, Try.results86, go_sem, t0, t1, v0, v1]) rfl ⟨_, _, _, _, rfl, HX, ?_⟩
      exact ((((HM4.out.b.setCell (by simp) _).setCell (by simp) _).setCell (by simp) _).setCell (by simp) _).drew
    · have HMS : Hid ((2 * D - d' - b').toNat < (2 * D - d - b).toNat) := Lib.hid (by
        have q1 := HC.out.2.1; have q3 := HC2.out.2
        have q6 : d' ≤ D := HN2.out.dD
        rcases Int.lt_or_le 0 k with h1 | h1
        · have := Int.mul_le_mul_of_nonneg_right (show 1 ≤ k by omega) (show 0 ≤ d by omega)
          omega
        · have := Int.mul_le_mul_of_nonneg_right (show 1 ≤ n by omega) (show 0 ≤ b' by omega)
          omega)
      have HREL : Hid (NB p q D a' b' c' d' ∧ 0 < d' ∧ p * b' - a' * q = p * b' - a' * q ∧ c' * q - p * d' = c' * q - p * d' ∧ -1000000000 ≤ a' ∧ a' ≤ 1000000000 ∧ -1000000000 ≤ c' ∧ c' ≤ 1000000000 ∧ p * b' - a' * q ≤ 2000000000 ∧ c' * q - p * d' ≤ 2000000000) := ⟨HN2.out, hd0, rfl, rfl, HSM2.out.1, HSM2.out.2.1, HSM2.out.2.2.1, HSM2.out.2.2.2, by have := HAB2.out; omega, by have := HAB2.out; omega⟩
      obtain ⟨y0, y1, -, -, -⟩ := HR.out.c2
      obtain ⟨x0, x1, -, -, -⟩ := HR.out.tail.c2
      have HXY := Lib.hid (And.intro y1 x1)
      have HZ4 := HM4.out.c2
      have HZ5 := HM4.out.tail.c2
      have HZZ := Lib.hid (And.intro HZ4.2.1 HZ5.2.1)
      clear HZ4 HZ5 y0 y1 x0 x1
      by_cases hk0 : k = 0
      · subst hk0
        have hn0 : (n == 0) = false := by simp; omega
        go_wp2
        go_roundw
        case rel => exact ⟨a', b', c', d', _, _, HREL, HM4⟩
        case measure => simp only [HZZ.out.1, HZZ.out.2, HXY.out.1, HXY.out.2]; exact HMS.out
      · have hk1 : (k == 0) = false := by simpa using hk0
        go_wp2
        go_roundw
        case rel => exact ⟨a', b', c', d', _, _, HREL, HM4⟩
        case measure => simp only [HZZ.out.1, HZZ.out.2, HXY.out.1, HXY.out.2]; exact HMS.out

end Go.Proofs.Ytjnfgjaiahnfgaa

/- The program's simplest. -/
import Derived.Deep.RegionHeld3
import Derived.Deep.DeepCutAuto
import Derived.Test.YtjnfgjaiahnfgabMem
import Derived.Test.YtjnfgjaiahnfgabSmpA
import Derived.Test.YtjnfgjaiahnfgabRnd
namespace Go.Proofs.Ytjnfgjaiahnfgab
open Go.RowKit
set_option linter.unusedSimpArgs false

theorem ceil_eq {p q : Int} (hq : 0 < q) : rndI 1 p q = -(-p / q) := by
  have e := Int.emod_add_mul_ediv p q
  have e1 := Int.emod_nonneg p (show q ≠ 0 by omega)
  have e2 := Int.emod_lt_of_pos p hq
  have f := Int.emod_add_mul_ediv (-p) q
  have f1 := Int.emod_nonneg (-p) (show q ≠ 0 by omega)
  have f2 := Int.emod_lt_of_pos (-p) hq
  have e3 : p / q * q = q * (p / q) := Int.mul_comm _ _
  unfold rndI upB
  rw [if_pos (show (1 : Int) = 1 from rfl)]
  generalize p / q = a at *
  generalize -p / q = b at *
  have hab : q * (a + b) = -(p % q) - (-p) % q := by rw [Int.mul_add]; omega
  have h1 : -2 < a + b := by
    rcases Int.lt_or_le (-2) (a + b) with h | h
    · exact h
    · have := Int.mul_le_mul_of_nonneg_left h (show 0 ≤ q by omega)
      omega
  have h2 : a + b ≤ 0 := by
    rcases Int.lt_or_le 0 (a + b) with h | h
    · have := Int.mul_le_mul_of_nonneg_left (show 1 ≤ a + b by omega) (show 0 ≤ q by omega)
      omega
    · exact h
  by_cases hr : 0 < p - a * q
  · have : a + b ≠ 0 := fun h0 => by rw [h0, Int.mul_zero] at hab; omega
    simp [hr]; omega
  · have : a + b = 0 := by
      rcases Int.lt_or_le (a + b) 0 with h | h
      · have hm : a + b = -1 := by omega
        rw [hm] at hab; omega
      · omega
    simp [hr]; omega

set_option maxRecDepth 100000 in
set_option maxHeartbeats 3200000 in
theorem simplest_p : ∀ (k : Nat) (p q r s : Int), 0 < p → 0 < q → 0 < r → 0 < s → p ≤ 1000000000 → q ≤ 1000000000 → r ≤ 1000000000 → s ≤ 1000000000 → p * s ≤ r * q → q + s ≤ (k : Int) + 1 → ∀ w : World,
    Calls Try.prog 27 #[.agg #[.int .i64 p, .int .i64 q], .agg #[.int .i64 r, .int .i64 s]] w fun e w' => e = .returned (.agg #[.int .i64 (smp k p q r s).1, .int .i64 (smp k p q r s).2]) ∧ Below w.heap.size w w' := by
  intro k
  induction k with
  | zero => intro p q r s hp hq hr hs _ _ _ _ hle hk; omega
  | succ k ih =>
    intro p q r s hp hq hr hs p9 q9 r9 s9 hle hk w
    have HIH := Lib.hid ih
    have HALL := Lib.hid (smp_all (k + 1) p q r s hp hq hr hs hle hk)
    have HMIN := Lib.hid (HALL.out.2.2.2.2 p q hq (Int.le_refl _) hle)
    have HLE := Lib.hid hle
    have HK := Lib.hid hk
    have hM := (((Mem.nil w).alloc #[.int .i64 p, .int .i64 q] 43).alloc #[.int .i64 r, .int .i64 s] 43).alloc #[.int .i64 0, .int .i64 0] 43
    simp only [World.size_alloc] at hM
    have HM := Lib.hid hM
    obtain ⟨m, hm⟩ : ∃ m, m = -(-p / q) := ⟨_, rfl⟩
    have HME := Lib.hid hm
    have hmb : 0 < m ∧ m ≤ 1000000000 := by
      have e := Int.emod_add_mul_ediv (-p) q
      have e1 := Int.emod_nonneg (-p) (show q ≠ 0 by omega)
      have e2 := Int.emod_lt_of_pos (-p) hq
      have hm' : -p / q = -m := by omega
      rw [hm'] at e
      have m1 : q * -m = -(m * q) := by rw [Int.mul_neg, Int.mul_comm]
      rw [m1] at e
      constructor
      · rcases Int.lt_or_le 0 m with h | h
        · exact h
        · have := Int.mul_le_mul_of_nonneg_right h (show 0 ≤ q by omega)
          omega
      · rcases Int.lt_or_le 1000000000 m with h | h
        · have i1 := Int.mul_le_mul_of_nonneg_right (show 1000000001 ≤ m by omega) (show 0 ≤ q by omega)
          omega
        · exact h
    obtain ⟨m0, m9⟩ := hmb
    have HCMP : Hid (∀ w, Calls Try.prog 26 #[.agg #[.int .i64 m, .int .i64 1], .agg #[.int .i64 r, .int .i64 s]] w fun e w' => e = .returned (.int .i64 (cmpI (m * s) r)) ∧ Below w.heap.size w w') := Lib.hid (fun w => by
      refine (compare_r m 1 r s (by omega) (by decide) (by omega) (by omega) w).mono ?_
      rintro e w' ⟨t, rfl, HRR, hb⟩
      refine ⟨?_, hb⟩
      rw [HRR.out, ordQ_cross (by decide) hs, Int.mul_one])
    clear ih hle hk hM hm
    go_enter Try.func27, Try.ntmps27
    go_wp2_with fail
    refine (round_r p q 1 (by omega) (by omega) (by omega) (by omega) _).mono ?_
    rintro e w1 ⟨rfl, hb⟩
    rw [ceil_eq hq, ← HME.out]
    have HM1 := Lib.hid ((HM.out.step hb).alloc #[.int .i64 m, .int .i64 1] 43)
    obtain ⟨b0, b1, -, -, b4⟩ := (HM.out.step hb).tail.c2
    clear hb
    go_wp2_with fail
    refine (HCMP.out _).mono ?_
    rintro e w2 ⟨rfl, hb⟩
    have hM2 := HM1.out.step hb
    have HM2 := Lib.hid hM2
    clear b0 b1 b4
    obtain ⟨a0, a1, -, -, a4⟩ := hM2.c2
    obtain ⟨t0, t1, t2, t3, t4⟩ := hM2.tail.c2
    obtain ⟨b0, b1, -, -, b4⟩ := hM2.tail.tail.c2
    obtain ⟨c0, c1, -, -, c4⟩ := hM2.tail.tail.tail.c2
    clear hb hM2
    generalize hcs : cmpI (m * s) r = cs
    have HCS := Lib.hid hcs
    clear hcs
    by_cases hc : cs ≤ 0
    · have HX : Hid ((smp (k + 1) p q r s).1 = m ∧ (smp (k + 1) p q r s).2 = 1) := Lib.hid (by
        have h : -(-p / q) * s ≤ r := by
          rw [← HME.out]
          have := HCS.out
          rcases cmpI_cases (m * s) r with ⟨_, h2⟩ | ⟨h1, h2⟩ | ⟨h1, _⟩ <;> omega
        rw [smp_yes h, HME.out]; exact ⟨rfl, rfl⟩)
      go_wp2
      refine bodyPost_ret (v := .agg #[.int .i64 m, .int .i64 1]) (by simp [results, Try.results27, go_sem, t0, t1]) rfl ⟨by rw [HX.out.1, HX.out.2], ?_⟩
      exact (HM2.out.tail.put2 _ _).b
    · have hno : ¬ -(-p / q) * s ≤ r := by
        rw [← HME.out]
        have := HCS.out
        rcases cmpI_cases (m * s) r with ⟨_, h2⟩ | ⟨h1, h2⟩ | ⟨h1, h2⟩ <;> omega
      obtain ⟨n, hn⟩ : ∃ n, n = m - 1 := ⟨_, rfl⟩
      have hn' : n = -(-p / q) - 1 := by rw [hn, HME.out]
      have hl := smp_left hq hs hp hr HLE.out hn' hno
      have HS := Lib.hid (smp_no (k := k) hn' hno)
      have hk := HK.out
      obtain ⟨n0, l1, l2, l3, l4, l5⟩ := hl
      have HR := Lib.hid (HIH.out s (r - n * s) q (p - n * q) hs l3 hq l1 s9 (by omega) q9 (by omega) l5 (by omega))
      obtain ⟨x, hx⟩ : ∃ x, x = (smp k s (r - n * s) q (p - n * q)).1 := ⟨_, rfl⟩
      obtain ⟨y, hy⟩ : ∃ y, y = (smp k s (r - n * s) q (p - n * q)).2 := ⟨_, rfl⟩
      have hall := HALL.out
      have hmin := HMIN.out
      rw [HS.out, ← hx, ← hy] at hall hmin
      rw [← hx, ← hy] at HS HR
      simp only at hall hmin
      have g1 : 0 ≤ n * s := Int.mul_nonneg n0 (by omega)
      have g2 : 0 ≤ n * q := Int.mul_nonneg n0 (by omega)
      have g3 : n * s ≤ 1000000000 := by omega
      have g4 : n * q ≤ 1000000000 := by omega
      have g5 : 0 ≤ n * x := Int.mul_nonneg n0 (by omega)
      have hyy := smp_all k s (r - n * s) q (p - n * q) hs l3 hq l1 l5 (by omega)
      rw [← hx, ← hy] at hyy
      have g6 : 0 < y := hyy.2.1
      have g7 : n * x ≤ 1000000000 := by omega
      have g8 : y ≤ 1000000000 := by omega
      have hmn : m - 1 = n := hn.symm
      clear hall hmin hyy hx hy hk hn hn' hno HALL HMIN HIH
      go_wp2_with fail
      refine (HR.out _).mono ?_
      rintro e w3 ⟨rfl, hb⟩
      have HM3 := Lib.hid ((HM2.out.step hb).skip (.cells #[.int .i64 x, .int .i64 y] 43))
      have HMW := Lib.hid (HM2.out.step hb)
      clear a0 a1 a4 t0 t1 t2 t3 t4 b0 b1 b4 c0 c1 c4
      obtain ⟨t0, t1, t2, t3, t4⟩ := (HM2.out.step hb).tail.c2
      clear hb
      go_wp2
      refine bodyPost_ret (v := .agg #[.int .i64 (n * x + y), .int .i64 x]) (by simp [results, Try.results27, go_sem, t0, t1, t4]) rfl ⟨by rw [HS.out], ?_⟩
      exact ((HMW.out.tail.put2 _ _).skip _).b

end Go.Proofs.Ytjnfgjaiahnfgab

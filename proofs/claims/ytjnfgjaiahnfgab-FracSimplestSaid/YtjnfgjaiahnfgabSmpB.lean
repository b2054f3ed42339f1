/- The program's Simplest. -/
import Derived.Test.YtjnfgjaiahnfgabSmp
import Derived.Test.YtjnfgjaiahnfgabSum
import Derived.Test.YtjnfgjaiahnfgabBackA
namespace Go.Proofs.Ytjnfgjaiahnfgab
open Go.RowKit
set_option linter.unusedSimpArgs false

/-- The simplest fraction of an interval, of any sign. -/
def smpV (n1 d1 n2 d2 : Int) : Int × Int :=
  if 0 < n1 then smp (d1 + d2).toNat n1 d1 n2 d2 else if n2 < 0 then (-(smp (d2 + d1).toNat (-n2) d2 (-n1) d1).1, (smp (d2 + d1).toNat (-n2) d2 (-n1) d1).2) else (0, 1)

def simOk (n1 d1 n2 d2 : Int) : Prop := VF n1 d1 ∧ VF n2 d2 ∧ n1 * d2 ≤ n2 * d1

open Classical in
noncomputable def simS (n1 d1 n2 d2 : Int) : Int × Int × Int := if simOk n1 d1 n2 d2 then ansQ (qof (smpV n1 d1 n2 d2).1 (smpV n1 d1 n2 d2).2) else (0, 0, 2)
open Classical in
theorem simS_yes {n1 d1 n2 d2 : Int} (h : simOk n1 d1 n2 d2) : simS n1 d1 n2 d2 = ansQ (qof (smpV n1 d1 n2 d2).1 (smpV n1 d1 n2 d2).2) := by unfold simS; rw [if_pos h]
open Classical in
theorem simS_no {n1 d1 n2 d2 : Int} (h : ¬ simOk n1 d1 n2 d2) : simS n1 d1 n2 d2 = (0, 0, 2) := by unfold simS; rw [if_neg h]

/-- A positive interval. -/
theorem smp_good {p q r s : Int} (h1 : VF p q) (h2 : VF r s) (hp : 0 < p) (hle : p * s ≤ r * q) :
    0 < r ∧ 0 < (smp (q + s).toNat p q r s).1 ∧ (smp (q + s).toNat p q r s).1 ≤ p ∧ 0 < (smp (q + s).toNat p q r s).2 ∧ (smp (q + s).toNat p q r s).2 ≤ q ∧
    p * (smp (q + s).toNat p q r s).2 ≤ (smp (q + s).toNat p q r s).1 * q ∧ (smp (q + s).toNat p q r s).1 * s ≤ r * (smp (q + s).toNat p q r s).2 ∧
    ∀ u v : Int, 0 < v → p * v ≤ u * q → u * s ≤ r * v → (smp (q + s).toNat p q r s).1 ≤ u ∧ (smp (q + s).toNat p q r s).2 ≤ v := by
  have a1 := h1.d1; have a2 := h2.d1
  have hr : 0 < r := by
    rcases Int.lt_or_le 0 r with h | h
    · exact h
    · have i1 := Int.mul_pos hp (show 0 < s by omega)
      have i2 := Int.mul_le_mul_of_nonneg_right h (show 0 ≤ q by omega)
      omega
  obtain ⟨b1, b2, b3, b4, b5⟩ := smp_all (q + s).toNat p q r s hp (by omega) hr (by omega) hle (by omega)
  have hm := b5 p q (by omega) (Int.le_refl _) hle
  exact ⟨hr, b1, hm.1, b2, hm.2, b3, b4, b5⟩

theorem HasFr.drew {w : World} {g : Nat} {fs : List (Int × Int)} (h : HasFr w g fs) : HasFr w.drew g fs := h

theorem VF.negN {n d : Int} (h : VF n d) : VF (-n) d := ⟨h.d1, h.d2, by have := h.n2; omega, by have := h.n1; omega, by rw [Int.natAbs_neg]; exact h.g⟩

set_option maxRecDepth 100000 in
set_option maxHeartbeats 3200000 in
theorem simplest_no (n1 d1 n2 d2 : Int) (hv : ¬ (VF n1 d1 ∧ VF n2 d2)) (w : World) :
    Calls Try.prog 10 #[.agg #[.int .i64 n1, .int .i64 d1], .agg #[.int .i64 n2, .int .i64 d2]] w fun e w' => e = .returned (.tuple #[.agg #[.int .i64 0, .int .i64 0], .int .i64 2]) ∧ Below w.heap.size w w' := by
  have hM := (((Mem.nil w).alloc #[.int .i64 n1, .int .i64 d1] 23).alloc #[.int .i64 n2, .int .i64 d2] 23).alloc #[.int .i64 0, .int .i64 0] 23
  simp only [World.size_alloc] at hM
  have HM := Lib.hid hM
  have HAB : Hid (allB [(n1, d1), (n2, d2)] = false) := Lib.hid (by rw [allB_two, vf_nand hv])
  clear hM hv
  go_enter Try.func10, Try.ntmps10
  go_wp2_with fail
  go_region_with ((go_at_call 24; refine (allValid_some (w.heap.size + 1 + 1 + 1) 2 [(n1, d1), (n2, d2)] (by simp) _ (by first | exact HasFr.two3 w n1 d1 n2 d2 0 0 23 | exact (HasFr.two3 w n1 d1 n2 d2 0 0 23).drew)).mono ?_; rintro e w1 ⟨rfl, hb1⟩; rw [HAB.out]))
  all_goals
    have HM1 : Hid (Mem w [(w.heap.size + 1 + 1, #[.int .i64 0, .int .i64 0], 23), (w.heap.size + 1, #[.int .i64 n2, .int .i64 d2], 23), (w.heap.size, #[.int .i64 n1, .int .i64 d1], 23)] w1) := Lib.hid (by first | exact (HM.out.skip _).step hb1 | exact (HM.out.skip _).drew.step hb1)
    clear hb1
    obtain ⟨a0, a1, a2, a3, a4⟩ := HM1.out.c2
    go_wp2_with fail
    refine bodyPost_ret (v := .tuple #[.agg #[.int .i64 0, .int .i64 0], .int .i64 2]) (by simp [results, Try.results10, go_sem, a0, a1]) rfl ⟨rfl, ?_⟩
    exact (HM1.out.put2 _ _).b

theorem simplest_in (n1 d1 n2 d2 ct : Int) (h1 : VF n1 d1) (h2 : VF n2 d2) (hct : cmpI (n1 * d2) (n2 * d1) = ct) (w : World) : Calls Try.prog 26 #[.agg #[.int .i64 n1, .int .i64 d1], .agg #[.int .i64 n2, .int .i64 d2]] w fun e w' => e = .returned (.int .i64 ct) ∧ Below w.heap.size w w' := by
  have a1 := h1.n1; have a2 := h1.n2; have a3 := h1.d1; have a4 := h1.d2
  have b1 := h2.n1; have b2 := h2.n2; have b3 := h2.d1; have b4 := h2.d2
  refine (compare_r n1 d1 n2 d2 (by omega) (by omega) (by omega) (by omega) w).mono ?_
  rintro e w' ⟨t, rfl, HRR, hb⟩
  refine ⟨?_, hb⟩
  rw [HRR.out, ordQ_cross (by omega) (by omega), hct]

theorem smp_run (p q r s : Int) (h1 : VF p q) (h2 : VF r s) (hp : 0 < p) (hle : p * s ≤ r * q) (x y : Int) (hx : (smp (q + s).toNat p q r s).1 = x) (hy : (smp (q + s).toNat p q r s).2 = y) (w : World) :
    Calls Try.prog 27 #[.agg #[.int .i64 p, .int .i64 q], .agg #[.int .i64 r, .int .i64 s]] w fun e w' => e = .returned (.agg #[.int .i64 x, .int .i64 y]) ∧ Below w.heap.size w w' := by
  subst hx hy
  have a1 := h1.n2; have a2 := h1.d1; have a3 := h1.d2; have b1 := h2.n2; have b2 := h2.d1; have b3 := h2.d2
  have hr := (smp_good h1 h2 hp hle).1
  exact simplest_p (q + s).toNat p q r s hp (by omega) hr (by omega) (by omega) (by omega) (by omega) (by omega) hle (by omega) w

set_option maxRecDepth 100000 in
set_option maxHeartbeats 6400000 in
theorem simplest_yes (n1 d1 n2 d2 : Int) (h1 : VF n1 d1) (h2 : VF n2 d2) (w : World) :
    Calls Try.prog 10 #[.agg #[.int .i64 n1, .int .i64 d1], .agg #[.int .i64 n2, .int .i64 d2]] w fun e w' => ∃ x y z, e = .returned (.tuple #[.agg #[.int .i64 x, .int .i64 y], .int .i64 z]) ∧ Hid (simS n1 d1 n2 d2 = (x, y, z)) ∧ Below w.heap.size w w' := by
  have hM := (((Mem.nil w).alloc #[.int .i64 n1, .int .i64 d1] 23).alloc #[.int .i64 n2, .int .i64 d2] 23).alloc #[.int .i64 0, .int .i64 0] 23
  simp only [World.size_alloc] at hM
  have HM := Lib.hid hM
  have HAB : Hid (allB [(n1, d1), (n2, d2)] = true) := Lib.hid (by rw [allB_two, vf_and ⟨h1, h2⟩])
  have HV := Lib.hid (And.intro h1 h2)
  obtain ⟨ct, hct⟩ : ∃ t, cmpI (n1 * d2) (n2 * d1) = t := ⟨_, rfl⟩
  have HCT := Lib.hid hct
  have HCMP := Lib.hid (simplest_in n1 d1 n2 d2 ct h1 h2 hct)
  have hn1 := h1.n1; have hn2 := h1.n2; have hm1 := h2.n1; have hm2 := h2.n2
  have HC : Hid (∀ w', Mem w [(w.heap.size + 1 + 1, #[.int .i64 0, .int .i64 0], 23), (w.heap.size + 1, #[.int .i64 n2, .int .i64 d2], 23), (w.heap.size, #[.int .i64 n1, .int .i64 d1], 23)] w' →
      Mem w [(w.heap.size + 1 + 1, #[.int .i64 0, .int .i64 0], 23), (w.heap.size + 1, #[.int .i64 n2, .int .i64 d2], 23), (w.heap.size, #[.int .i64 n1, .int .i64 d1], 23)] w' ∧
      w'.cell? ⟨w.heap.size + 1, 0, none⟩ = some (.int .i64 n2) ∧ w'.cell? ⟨w.heap.size + 1, 1, none⟩ = some (.int .i64 d2) ∧ w'.cell? ⟨w.heap.size, 0, none⟩ = some (.int .i64 n1) ∧ w'.cell? ⟨w.heap.size, 1, none⟩ = some (.int .i64 d1)) := Lib.hid (fun w' h => ⟨h, h.tail.all2⟩)
  clear hM hct h1 h2
  go_enter Try.func10, Try.ntmps10
  go_upto_region 2 with fail
  go_cut [18] (fun s18 wx => s18 = .bool (decide (0 < ct)) ∧ Hid (Mem w [(w.heap.size + 1 + 1, #[.int .i64 0, .int .i64 0], 23), (w.heap.size + 1, #[.int .i64 n2, .int .i64 d2], 23), (w.heap.size, #[.int .i64 n1, .int .i64 d1], 23)] wx))
  case first =>
    go_wp2_with fail
    have hM := HM.out
    go_region_held3 (fun w' => Mem w [(w.heap.size + 1 + 1, #[.int .i64 0, .int .i64 0], 23), (w.heap.size + 1, #[.int .i64 n2, .int .i64 d2], 23), (w.heap.size, #[.int .i64 n1, .int .i64 d1], 23)] w' ∧
      w'.cell? ⟨w.heap.size + 1, 0, none⟩ = some (.int .i64 n2) ∧ w'.cell? ⟨w.heap.size + 1, 1, none⟩ = some (.int .i64 d2) ∧ w'.cell? ⟨w.heap.size, 0, none⟩ = some (.int .i64 n1) ∧ w'.cell? ⟨w.heap.size, 1, none⟩ = some (.int .i64 d1))
      (first | exact HC.out _ hM | exact HC.out _ hM.drew | (go_split_ands; first | exact HC.out _ (Mem.step (by assumption) (by assumption)) | exact HC.out _ (Mem.skip (by assumption) _) | exact HC.out _ (Mem.skip hM _) | exact HC.out _ (Mem.skip hM _).drew))
      (first
        | (go_at_call 24; go_split_ands; refine (allValid_some (w.heap.size + 1 + 1 + 1) 2 [(n1, d1), (n2, d2)] (by simp) _ (by first | exact HasFr.two3 w n1 d1 n2 d2 0 0 23 | exact (HasFr.two3 w n1 d1 n2 d2 0 0 23).drew)).mono ?_; rintro e w1 ⟨rfl, hb1⟩; rw [HAB.out])
        | (go_at_call 25; go_split_ands; with_reducible (refine (of_p n1 d1 _).mono ?_); rintro e w2 ⟨rfl, hb2⟩)
        | (go_at_call 25; go_split_ands; with_reducible (refine (of_p n2 d2 _).mono ?_); rintro e w3 ⟨rfl, hb3⟩)
        | (go_at_call 26; go_split_ands; with_reducible (refine (HCMP.out _).mono ?_); rintro e w4 ⟨rfl, hb4⟩))
    go_wp2_with fail
    go_meet
    exact ⟨rfl, Lib.hid (by first | exact (((((HM.out.skip _).step hb1).step hb2).step hb3).step hb4) | exact ((((((HM.out.skip _).drew).step hb1).step hb2).step hb3).step hb4))⟩
  case rest =>
  obtain ⟨rfl, HR⟩ := hcut
  obtain ⟨a0, a1, a2, a3, a4⟩ := HR.out.c2
  obtain ⟨b0, b1, c0, c1⟩ := HR.out.tail.all2
  by_cases hc : 0 < ct
  · have HSIM : Hid (simS n1 d1 n2 d2 = (0, 0, 2)) := Lib.hid (simS_no fun h => by
      have := HCT.out; have := h.2.2
      rcases cmpI_cases (n1 * d2) (n2 * d1) with ⟨_, h2⟩ | ⟨h1, h2⟩ | ⟨h1, h2⟩ <;> omega)
    go_wp2
    refine bodyPost_ret (v := .tuple #[.agg #[.int .i64 0, .int .i64 0], .int .i64 2]) (by simp [results, Try.results10, go_sem, a0, a1]) rfl ⟨_, _, _, rfl, HSIM, ?_⟩
    exact (HR.out.put2 _ _).b
  · have hle : n1 * d2 ≤ n2 * d1 := by
      have := HCT.out
      rcases cmpI_cases (n1 * d2) (n2 * d1) with ⟨_, h2⟩ | ⟨h1, h2⟩ | ⟨h1, h2⟩ <;> omega
    have HSY := Lib.hid (simS_yes ⟨HV.out.1, HV.out.2, hle⟩)
    have hMt := HR.out.tail
    have HC2 : Hid (∀ w', Mem w [(w.heap.size + 1, #[.int .i64 n2, .int .i64 d2], 23), (w.heap.size, #[.int .i64 n1, .int .i64 d1], 23)] w' → Mem w [(w.heap.size + 1, #[.int .i64 n2, .int .i64 d2], 23), (w.heap.size, #[.int .i64 n1, .int .i64 d1], 23)] w' ∧ w'.cell? ⟨w.heap.size + 1, 0, none⟩ = some (.int .i64 n2) ∧ w'.cell? ⟨w.heap.size + 1, 1, none⟩ = some (.int .i64 d2) ∧ w'.cell? ⟨w.heap.size, 0, none⟩ = some (.int .i64 n1) ∧ w'.cell? ⟨w.heap.size, 1, none⟩ = some (.int .i64 d1)) := Lib.hid (fun w' h => ⟨h, h.all2⟩)
    by_cases hp : 0 < n1
    · obtain ⟨g1, g2, g3, g4, g5, -⟩ := smp_good HV.out.1 HV.out.2 hp hle
      have hVV : smpV n1 d1 n2 d2 = smp (d1 + d2).toNat n1 d1 n2 d2 := by unfold smpV; rw [if_pos hp]
      obtain ⟨x, hx⟩ : ∃ x, (smp (d1 + d2).toNat n1 d1 n2 d2).1 = x := ⟨_, rfl⟩
      obtain ⟨y, hy⟩ : ∃ x, (smp (d1 + d2).toNat n1 d1 n2 d2).2 = x := ⟨_, rfl⟩
      have HRUN := Lib.hid (smp_run n1 d1 n2 d2 HV.out.1 HV.out.2 hp hle x y hx hy)
      have HSIM : Hid (simS n1 d1 n2 d2 = ansQ (qof x y)) := Lib.hid (by rw [HSY.out, hVV, hx, hy])
      have hy9 := HV.out.1.d2
      rw [hx] at g2 g3
      rw [hy] at g4 g5
      clear hVV hx hy hle
      have tok1 : True := trivial
      have tok2 : True := trivial
      have tok3 : True := trivial
      have tok4 : True := trivial
      go_wp2_with fail
      go_region_held3 (fun w' => Mem w [(w.heap.size + 1, #[.int .i64 n2, .int .i64 d2], 23), (w.heap.size, #[.int .i64 n1, .int .i64 d1], 23)] w' ∧ w'.cell? ⟨w.heap.size + 1, 0, none⟩ = some (.int .i64 n2) ∧ w'.cell? ⟨w.heap.size + 1, 1, none⟩ = some (.int .i64 d2) ∧ w'.cell? ⟨w.heap.size, 0, none⟩ = some (.int .i64 n1) ∧ w'.cell? ⟨w.heap.size, 1, none⟩ = some (.int .i64 d1))
        (first | exact HC2.out _ hMt | exact HC2.out _ hMt.drew | (go_split_ands; first | exact HC2.out _ (Mem.step (by assumption) (by assumption)) | exact HC2.out _ (Mem.set_new2 (by assumption) (Nat.lt_succ_self _) _ _)))
        (first
          | (go_at_call 25; go_split_ands; have _t := tok1; with_reducible (refine (of_p n1 d1 _).mono ?_); rintro e v1 ⟨rfl, hb1⟩; have HZ1 : Mem w [(w.heap.size + 1 + 1, #[.int .i64 0, .int .i64 0], 23), (w.heap.size + 1, #[.int .i64 n2, .int .i64 d2], 23), (w.heap.size, #[.int .i64 n1, .int .i64 d1], 23)] v1 := (by first | exact HR.out.step hb1 | exact HR.out.drew.step hb1); obtain ⟨p0_1, p1_1, p2_1, p3_1, p4_1⟩ := HZ1.c2; clear tok1)
          | (go_at_call 25; go_split_ands; have _t := tok2; with_reducible (refine (of_p n2 d2 _).mono ?_); rintro e v2 ⟨rfl, hb2⟩; have HZ2 := HZ1.step hb2; obtain ⟨p0_2, p1_2, p2_2, p3_2, p4_2⟩ := HZ2.c2; clear tok2)
          | (go_at_call 27; go_split_ands; have _t := tok3; with_reducible (refine (HRUN.out _).mono ?_); rintro e v3 ⟨rfl, hb3⟩; have HZ3 := HZ2.step hb3; obtain ⟨p0_3, p1_3, p2_3, p3_3, p4_3⟩ := HZ3.c2; clear tok3)
          | (go_at_call 28; go_split_ands; have _t := tok4; with_reducible (refine (rfrac_var x y (by omega) (by omega) (by omega) (by omega) (by omega) _ rfl _).mono ?_); rintro e v4 ⟨ra, rb, rc, rfl, HANS, hb4⟩; have HZ4 := HZ3.step hb4; obtain ⟨p0_4, p1_4, p2_4, p3_4, p4_4⟩ := HZ4.c2; clear tok4))
      have HMZ : Hid (Mem w [(w.heap.size + 1 + 1, #[.int .i64 0, .int .i64 0], 23), (w.heap.size + 1, #[.int .i64 n2, .int .i64 d2], 23), (w.heap.size, #[.int .i64 n1, .int .i64 d1], 23)] v4) := Lib.hid (by first | exact ((((HR.out).step hb1).step hb2).step hb3).step hb4 | exact ((((HR.out.drew).step hb1).step hb2).step hb3).step hb4)
      obtain ⟨r0, r1, -, -, -⟩ := HMZ.out.c2
      go_wp2_with fail
      refine bodyPost_ret (v := .tuple #[.agg #[.int .i64 ra, .int .i64 rb], .int .i64 rc]) (by simp [results, Try.results10, go_sem, r0, r1]) rfl ⟨_, _, _, rfl, Lib.hid (by rw [HSIM.out]; exact HANS.out), ?_⟩
      exact (HMZ.out.put2 _ _).b
    · by_cases hneg : n2 < 0
      · obtain ⟨g1, g2, g3, g4, g5, -⟩ := smp_good HV.out.2.negN HV.out.1.negN (by omega) (show -n2 * d1 ≤ -n1 * d2 by rw [Int.neg_mul, Int.neg_mul]; omega)
        have hVV : smpV n1 d1 n2 d2 = (-(smp (d2 + d1).toNat (-n2) d2 (-n1) d1).1, (smp (d2 + d1).toNat (-n2) d2 (-n1) d1).2) := by unfold smpV; rw [if_neg hp, if_pos hneg]
        obtain ⟨x, hx⟩ : ∃ x, (smp (d2 + d1).toNat (-n2) d2 (-n1) d1).1 = x := ⟨_, rfl⟩
        obtain ⟨y, hy⟩ : ∃ x, (smp (d2 + d1).toNat (-n2) d2 (-n1) d1).2 = x := ⟨_, rfl⟩
        have HRUN := Lib.hid (smp_run (-n2) d2 (-n1) d1 HV.out.2.negN HV.out.1.negN (by omega) (show -n2 * d1 ≤ -n1 * d2 by rw [Int.neg_mul, Int.neg_mul]; omega) x y hx hy)
        have HSIM : Hid (simS n1 d1 n2 d2 = ansQ (qof (-x) y)) := Lib.hid (by rw [HSY.out, hVV, hx, hy])
        have hy9 := HV.out.2.d2
        rw [hx] at g2 g3
        rw [hy] at g4 g5
        clear hVV hx hy hle
        have tok1 : True := trivial
        have tok2 : True := trivial
        have tok3 : True := trivial
        have tok4 : True := trivial
        have tok5 : True := trivial
        have tok6 : True := trivial
        have tok7 : True := trivial
        go_wp2_with fail
        go_region_held3 (fun w' => Mem w [(w.heap.size + 1, #[.int .i64 n2, .int .i64 d2], 23), (w.heap.size, #[.int .i64 n1, .int .i64 d1], 23)] w' ∧ w'.cell? ⟨w.heap.size + 1, 0, none⟩ = some (.int .i64 n2) ∧ w'.cell? ⟨w.heap.size + 1, 1, none⟩ = some (.int .i64 d2) ∧ w'.cell? ⟨w.heap.size, 0, none⟩ = some (.int .i64 n1) ∧ w'.cell? ⟨w.heap.size, 1, none⟩ = some (.int .i64 d1))
          (first | exact HC2.out _ hMt | exact HC2.out _ hMt.drew | (go_split_ands; first | exact HC2.out _ (Mem.step (by assumption) (by assumption)) | exact HC2.out _ (Mem.set_new2 (by assumption) (Nat.lt_succ_self _) _ _)))
          (first
            | (go_at_call 25; go_split_ands; have _t := tok1; with_reducible (refine (of_p n2 d2 _).mono ?_); rintro e v1 ⟨rfl, hb1⟩; have HZ1 : Mem w [(w.heap.size + 1 + 1, #[.int .i64 0, .int .i64 0], 23), (w.heap.size + 1, #[.int .i64 n2, .int .i64 d2], 23), (w.heap.size, #[.int .i64 n1, .int .i64 d1], 23)] v1 := (by first | exact HR.out.step hb1 | exact HR.out.drew.step hb1); obtain ⟨p0_1, p1_1, p2_1, p3_1, p4_1⟩ := HZ1.c2; clear tok1)
            | (go_at_call 29; go_split_ands; have _t := tok2; with_reducible (refine (neg_r n2 d2 (by omega) (by omega) _).mono ?_); rintro e v2 ⟨rfl, hb2⟩; have HZ2 := HZ1.step hb2; obtain ⟨p0_2, p1_2, p2_2, p3_2, p4_2⟩ := HZ2.c2; clear tok2)
            | (go_at_call 25; go_split_ands; have _t := tok3; with_reducible (refine (of_p n1 d1 _).mono ?_); rintro e v3 ⟨rfl, hb3⟩; have HZ3 := HZ2.step hb3; obtain ⟨p0_3, p1_3, p2_3, p3_3, p4_3⟩ := HZ3.c2; clear tok3)
            | (go_at_call 29; go_split_ands; have _t := tok4; with_reducible (refine (neg_r n1 d1 (by omega) (by omega) _).mono ?_); rintro e v4 ⟨rfl, hb4⟩; have HZ4 := HZ3.step hb4; obtain ⟨p0_4, p1_4, p2_4, p3_4, p4_4⟩ := HZ4.c2; clear tok4)
            | (go_at_call 27; go_split_ands; have _t := tok5; with_reducible (refine (HRUN.out _).mono ?_); rintro e v5 ⟨rfl, hb5⟩; have HZ5 := HZ4.step hb5; obtain ⟨p0_5, p1_5, p2_5, p3_5, p4_5⟩ := HZ5.c2; clear tok5)
            | (go_at_call 29; go_split_ands; have _t := tok6; with_reducible (refine (neg_r x y (by omega) (by omega) _).mono ?_); rintro e v6 ⟨rfl, hb6⟩; have HZ6 := HZ5.step hb6; obtain ⟨p0_6, p1_6, p2_6, p3_6, p4_6⟩ := HZ6.c2; clear tok6)
            | (go_at_call 28; go_split_ands; have _t := tok7; with_reducible (refine (rfrac_var (-x) y (by omega) (by omega) (by omega) (by omega) (by omega) _ rfl _).mono ?_); rintro e v7 ⟨ra, rb, rc, rfl, HANS, hb7⟩; have HZ7 := HZ6.step hb7; obtain ⟨p0_7, p1_7, p2_7, p3_7, p4_7⟩ := HZ7.c2; clear tok7))
        have HMZ : Hid (Mem w [(w.heap.size + 1 + 1, #[.int .i64 0, .int .i64 0], 23), (w.heap.size + 1, #[.int .i64 n2, .int .i64 d2], 23), (w.heap.size, #[.int .i64 n1, .int .i64 d1], 23)] v7) := Lib.hid (by first | exact (((((((HR.out).step hb1).step hb2).step hb3).step hb4).step hb5).step hb6).step hb7 | exact (((((((HR.out.drew).step hb1).step hb2).step hb3).step hb4).step hb5).step hb6).step hb7)
        obtain ⟨r0, r1, -, -, -⟩ := HMZ.out.c2
        go_wp2_with fail
        refine bodyPost_ret (v := .tuple #[.agg #[.int .i64 ra, .int .i64 rb], .int .i64 rc]) (by simp [results, Try.results10, go_sem, r0, r1]) rfl ⟨_, _, _, rfl, Lib.hid (by rw [HSIM.out]; exact HANS.out), ?_⟩
        exact (HMZ.out.put2 _ _).b
      · have hVV : smpV n1 d1 n2 d2 = (0, 1) := by unfold smpV; rw [if_neg hp, if_neg hneg]
        have HSIM : Hid (simS n1 d1 n2 d2 = (0, 1, 0)) := Lib.hid (by
          rw [HSY.out, hVV]
          exact VF.ans ⟨by decide, by decide, by decide, by decide, by decide⟩)
        clear hVV hle
        go_wp2_with fail
        refine (wholeFrac_p 0 _).mono ?_
        rintro e v1 ⟨rfl, hb⟩
        have HMZ := Lib.hid (HR.out.step hb)
        obtain ⟨r0, r1, r2, r3, r4⟩ := HMZ.out.c2
        clear hb a0 a1 a2 a3 a4
        go_wp2
        refine bodyPost_ret (v := .tuple #[.agg #[.int .i64 0, .int .i64 1], .int .i64 0]) (by simp [results, Try.results10, go_sem, r0, r1]) rfl ⟨_, _, _, rfl, HSIM, ?_⟩
        exact (HMZ.out.put2 _ _).b

theorem simplest_any (n1 d1 n2 d2 : Int) (w : World) :
    Calls Try.prog 10 #[.agg #[.int .i64 n1, .int .i64 d1], .agg #[.int .i64 n2, .int .i64 d2]] w fun e w' => ∃ x y z, e = .returned (.tuple #[.agg #[.int .i64 x, .int .i64 y], .int .i64 z]) ∧ Hid (simS n1 d1 n2 d2 = (x, y, z)) ∧ Below w.heap.size w w' := by
  by_cases hv : VF n1 d1 ∧ VF n2 d2
  · exact simplest_yes n1 d1 n2 d2 hv.1 hv.2 w
  · exact (simplest_no n1 d1 n2 d2 hv w).mono fun _ _ ⟨he, hb⟩ => ⟨_, _, _, he, Lib.hid (simS_no fun h => hv ⟨h.1, h.2.1⟩), hb⟩

theorem qof_crs {a b c d : Int} (hb : 0 < b) (hd : 0 < d) (h : qof a b = qof c d) : a * d = c * b := by
  have e := ordQ_cross (n1 := a) (d1 := b) (n2 := c) (d2 := d) hb hd
  rw [h] at e
  have e0 : ordQ (qof c d) (qof c d) = 0 := by unfold ordQ; simp [Rat.lt_irrefl]
  rw [e0] at e
  rcases cmpI_cases (a * d) (c * b) with ⟨_, h2⟩ | ⟨_, h2⟩ | ⟨h1, _⟩
  · omega
  · omega
  · exact h1

/-- The simplest fraction of any interval. -/
theorem smpV_all {n1 d1 n2 d2 : Int} (h : simOk n1 d1 n2 d2) : ∃ p q : Int, smpV n1 d1 n2 d2 = (p, q) ∧ 0 < q ∧ q ≤ 1000000000 ∧ -1000000000 ≤ p ∧ p ≤ 1000000000 ∧ n1 * q ≤ p * d1 ∧ p * d2 ≤ n2 * q ∧
    ∀ u v : Int, 0 < v → n1 * v ≤ u * d1 → u * d2 ≤ n2 * v → q ≤ v ∧ p.natAbs ≤ u.natAbs ∧ (p.natAbs = u.natAbs → p = u) := by
  obtain ⟨h1, h2, hle⟩ := h
  have a1 := h1.d1; have a2 := h1.d2; have a3 := h1.n1; have a4 := h1.n2
  have b1 := h2.d1; have b2 := h2.d2; have b3 := h2.n1; have b4 := h2.n2
  by_cases hp : 0 < n1
  · obtain ⟨hr, c1, c2, c3, c4, c5, c6, c7⟩ := smp_good h1 h2 hp hle
    refine ⟨_, _, by unfold smpV; rw [if_pos hp], c3, by omega, by omega, by omega, c5, c6, fun u v hv i1 i2 => ?_⟩
    obtain ⟨k1, k2⟩ := c7 u v hv i1 i2
    exact ⟨k2, by omega, by omega⟩
  · by_cases hn : n2 < 0
    · have hle' : -n2 * d1 ≤ -n1 * d2 := by rw [Int.neg_mul, Int.neg_mul]; omega
      obtain ⟨hr, c1, c2, c3, c4, c5, c6, c7⟩ := smp_good h2.negN h1.negN (by omega) hle'
      refine ⟨_, _, by unfold smpV; rw [if_neg hp, if_pos hn], c3, by omega, by omega, by omega, ?_, ?_, fun u v hv i1 i2 => ?_⟩
      · rw [Int.neg_mul] at c6 ⊢; omega
      · rw [Int.neg_mul] at c5 ⊢; omega
      · obtain ⟨k1, k2⟩ := c7 (-u) v hv (by rw [Int.neg_mul, Int.neg_mul]; omega) (by rw [Int.neg_mul, Int.neg_mul]; omega)
        exact ⟨k2, by omega, by omega⟩
    · refine ⟨0, 1, by unfold smpV; rw [if_neg hp, if_neg hn], by decide, by decide, by decide, by decide, by omega, by omega, fun u v hv _ _ => ⟨by omega, by omega, by omega⟩⟩

/-- What is said of an answer that is no error. -/
theorem simS_all {n1 d1 n2 d2 x y z : Int} (h : simOk n1 d1 n2 d2) (hs : simS n1 d1 n2 d2 = (x, y, z)) : z = 0 ∧ VF x y ∧ n1 * y ≤ x * d1 ∧ x * d2 ≤ n2 * y ∧
    ∀ u v : Int, VF u v → n1 * v ≤ u * d1 → u * d2 ≤ n2 * v → y < v ∨ (y = v ∧ (u = x ∨ (x.natAbs : Int) < u.natAbs)) := by
  obtain ⟨p, q, hV, q0, q9, p1, p2, i1, i2, hl⟩ := smpV_all h
  rw [simS_yes h, hV] at hs
  simp only at hs
  have hrep : Rep (qof p q) := by
    obtain ⟨g1, g2⟩ := qof_parts (n := p) (d := q) (by omega)
    refine ⟨?_, ?_⟩
    · rw [g1]; exact Nat.le_trans (Nat.div_le_self _ _) (by omega)
    · rw [g2]; exact Nat.le_trans (Nat.div_le_self _ _) (by omega)
  rw [ansQ_yes hrep] at hs
  simp only [Prod.mk.injEq] at hs
  obtain ⟨rfl, rfl, rfl⟩ := hs
  have hvf := hrep.vf
  have hself := qof_self (qof p q)
  have hc := qof_crs (a := (qof p q).num) (b := ((qof p q).den : Int)) (c := p) (d := q) (by have := hvf.d1; omega) q0 hself
  obtain ⟨g1, g2⟩ := qof_parts (n := p) (d := q) (by omega)
  have hx : (qof p q).num.natAbs ≤ p.natAbs := by rw [g1]; exact Nat.div_le_self _ _
  have hy : ((qof p q).den : Int) ≤ q := by
    have : (qof p q).den ≤ q.natAbs := by rw [g2]; exact Nat.div_le_self _ _
    omega
  generalize (qof p q).num = x at *
  generalize ((qof p q).den : Int) = y at *
  have y1 := hvf.d1
  have b1 := h.1.d1; have b2 := h.2.1.d1
  refine ⟨rfl, hvf, ?_, ?_, fun u v huv j1 j2 => ?_⟩
  · have k1 := Int.mul_le_mul_of_nonneg_right i1 (show 0 ≤ y by omega)
    have k2 : n1 * q * y = n1 * y * q := by grind
    have k3 : p * d1 * y = x * d1 * q := by grind
    rw [k2, k3] at k1
    exact Int.le_of_mul_le_mul_right k1 q0
  · have k1 := Int.mul_le_mul_of_nonneg_right i2 (show 0 ≤ y by omega)
    have k2 : p * d2 * y = x * d2 * q := by grind
    have k3 : n2 * q * y = n2 * y * q := by grind
    rw [k2, k3] at k1
    exact Int.le_of_mul_le_mul_right k1 q0
  · obtain ⟨l1, l2, l3⟩ := hl u v (by have := huv.d1; omega) j1 j2
    rcases Int.lt_or_le y v with hlt | hge
    · exact .inl hlt
    · right
      have hqy : q = y := by omega
      subst hqy
      have hxp : x = p := Int.eq_of_mul_eq_mul_right (by omega) hc
      subst hxp
      refine ⟨by omega, ?_⟩
      by_cases he : x.natAbs = u.natAbs
      · exact .inl (l3 he).symm
      · exact .inr (by omega)

theorem simS_self {n d x y z : Int} (h : VF n d) (hs : simS n d n d = (x, y, z)) : x = n ∧ y = d ∧ z = 0 := by
  obtain ⟨rfl, hv, i1, i2, _⟩ := simS_all ⟨h, h, Int.le_refl _⟩ hs
  have hd := h.d1; have hy := hv.d1
  have e : n * y = x * d := by omega
  have hq : qof x y = qof n d := by
    unfold qof
    have a1 := ratne (show d ≠ 0 by omega)
    have a2 := ratne (show y ≠ 0 by omega)
    have e2 : (n : Rat) * (y : Rat) = (x : Rat) * (d : Rat) := by
      rw [← Rat.intCast_mul, ← Rat.intCast_mul, e]
    grind
  have h1 := hv.ans
  rw [hq, h.ans] at h1
  simp only [Prod.mk.injEq] at h1
  exact ⟨h1.1.symm, h1.2.1.symm, rfl⟩

end Go.Proofs.Ytjnfgjaiahnfgab

/- RoundTo of the program. -/
import Derived.Test.YtjnfgjaiahnfgaaRndA
namespace Go.Proofs.Ytjnfgjaiahnfgaa
open Go.RowKit

theorem rnd_bound {n1 d1 n2 d2 m : Int} (h1 : VF n1 d1) (h2 : VF n2 d2) (hp : 0 < n2) :
    -2000000000000000000 ≤ rndI m (n1 * d2) (d1 * n2) * n2 ∧ rndI m (n1 * d2) (d1 * n2) * n2 ≤ 2000000000000000000 ∧ 0 < d1 * n2 ∧ d1 * n2 ≤ 1000000000000000000 ∧ -1000000000000000000 ≤ n1 * d2 ∧ n1 * d2 ≤ 1000000000000000000 ∧
      -2000000000000000000 ≤ rndI m (n1 * d2) (d1 * n2) ∧ rndI m (n1 * d2) (d1 * n2) ≤ 2000000000000000000 := by
  have b1 := h1.n1
  have b2 := h1.n2
  have b3 := h1.d1
  have b4 := h1.d2
  have c1 := h2.n1
  have c2 := h2.n2
  have c3 := h2.d1
  have c4 := h2.d2
  have m1 := mul_bd (a := n1) (b := d2) (by omega) (by omega) (by omega) (by omega)
  have m2 := mul_bd (a := d1) (b := n2) (by omega) (by omega) (by omega) (by omega)
  have hD : 0 < d1 * n2 := Int.mul_pos (by omega) hp
  obtain ⟨f1, f2, f3, f4, f5, f6⟩ := floor_facts hD (by omega) (show -2000000000000000000 ≤ n1 * d2 by omega) (by omega)
  generalize hN : n1 * d2 = N at *
  generalize hk : rndI m N (d1 * n2) = k
  have hk2 : k = N / (d1 * n2) ∨ k = N / (d1 * n2) + 1 := by
    rw [← hk]; unfold rndI; split
    · exact .inr rfl
    · exact .inl rfl
  have hkD : N - d1 * n2 ≤ k * (d1 * n2) ∧ k * (d1 * n2) ≤ N + d1 * n2 := by
    rcases hk2 with e | e
    · rw [e]; omega
    · rw [e, Int.add_mul, Int.one_mul]; omega
  have e3 : k * (d1 * n2) = (k * n2) * d1 := by rw [Int.mul_comm d1 n2, Int.mul_assoc]
  have hb : -2000000000000000000 ≤ k * n2 ∧ k * n2 ≤ 2000000000000000000 := by
    rw [e3] at hkD
    generalize k * n2 = x at hkD
    have g1 : x ≤ x * d1 ∨ x ≤ 0 := by
      by_cases hx : 0 ≤ x
      · left
        have := Int.mul_le_mul_of_nonneg_left b3 hx
        omega
      · right; omega
    have g2 : x * d1 ≤ x ∨ 0 ≤ x := by
      by_cases hx : x ≤ 0
      · left
        have := Int.mul_le_mul_of_nonneg_left b3 (show 0 ≤ -x by omega)
        rw [Int.neg_mul, Int.neg_mul] at this
        omega
      · right; omega
    omega
  have hkb : -2000000000000000000 ≤ k ∧ k ≤ 2000000000000000000 := by
    generalize d1 * n2 = D at *
    have g1 : k ≤ k * D ∨ k ≤ 0 := by
      by_cases hx : 0 ≤ k
      · left
        have := Int.mul_le_mul_of_nonneg_left (show (1 : Int) ≤ D by omega) hx
        omega
      · right; omega
    have g2 : k * D ≤ k ∨ 0 ≤ k := by
      by_cases hx : k ≤ 0
      · left
        have := Int.mul_le_mul_of_nonneg_left (show (1 : Int) ≤ D by omega) (show 0 ≤ -k by omega)
        rw [Int.neg_mul, Int.neg_mul] at this
        omega
      · right; omega
    omega
  exact ⟨hb.1, hb.2, hD, by omega, by omega, by omega, hkb.1, hkb.2⟩

/-- What RoundTo answers. -/
noncomputable def rtoS (n1 d1 n2 d2 m : Int) : Int × Int × Int := if vfB n1 d1 = true ∧ vfB n2 d2 = true ∧ 0 < n2 ∧ modeB m = true then ansQ (qof (rndI m (n1 * d2) (d1 * n2) * n2) d2) else (0, 0, 2)
theorem rtoS_yes {n1 d1 n2 d2 m : Int} (h1 : VF n1 d1) (h2 : VF n2 d2) (hp : 0 < n2) (hm : modeB m = true) : rtoS n1 d1 n2 d2 m = ansQ (qof (rndI m (n1 * d2) (d1 * n2) * n2) d2) := by unfold rtoS; rw [if_pos ⟨(vfB_iff _ _).2 h1, (vfB_iff _ _).2 h2, hp, hm⟩]
theorem rtoS_no {n1 d1 n2 d2 m : Int} (h : ¬ (VF n1 d1 ∧ VF n2 d2 ∧ 0 < n2 ∧ modeB m = true)) : rtoS n1 d1 n2 d2 m = (0, 0, 2) := by unfold rtoS; rw [if_neg (fun h2 => h ⟨(vfB_iff _ _).1 h2.1, (vfB_iff _ _).1 h2.2.1, h2.2.2⟩)]

set_option maxRecDepth 100000 in
set_option maxHeartbeats 3200000 in
theorem roundTo_good (n1 d1 n2 d2 m : Int) (h1 : VF n1 d1) (h2 : VF n2 d2) (hp : 0 < n2) (hm : modeB m = true) (w : World) :
    Calls Try.prog 35 #[.agg #[.int .i64 n1, .int .i64 d1], .agg #[.int .i64 n2, .int .i64 d2], .int .i64 m] w fun e w' => ∃ a b c, e = .returned (.tuple #[.agg #[.int .i64 a, .int .i64 b], .int .i64 c]) ∧ Hid (rtoS n1 d1 n2 d2 m = (a, b, c)) ∧ Below w.heap.size w w' := by
  rw [rtoS_yes h1 h2 hp hm]
  have HB := Lib.hid (rnd_bound (m := m) h1 h2 hp)
  obtain ⟨k1, k2, -, -, -, -, k3, k4⟩ := HB.out
  have HM := Lib.hid hm
  have HD2 : Hid (d2 ≠ 0 ∧ -9223372036854775808 ≤ d2 ∧ d2 ≤ 9223372036854775807) := Lib.hid (by have := h2.d1; have := h2.d2; omega)
  have HAB : Hid (allB [(n1, d1), (n2, d2)] = true) := Lib.hid (by simp [allB, (vfB_iff n1 d1).2 h1, (vfB_iff n2 d2).2 h2])
  have hp1 : ¬ n2 ≤ 0 := by omega
  clear h1 h2 hp hm
  generalize hk : rndI m (n1 * d2) (d1 * n2) = k at *
  have HK := Lib.hid hk
  clear hk
  have HS := Lib.hid (S22.start w n1 d1 n2 d2 0 0 23 23)
  go_enter Try.func35, Try.ntmps35
  go_wp2_with fail
  refine (allValid_some (w.heap.size + 1 + 1 + 1) 2 [(n1, d1), (n2, d2)] (by simp) _ (HasFr.two3 w n1 d1 n2 d2 0 0 23)).mono ?_
  rintro e w1 ⟨rfl, hb1⟩
  rw [HAB.out]
  have hS1 := (HS.out.step ((Below.refl _ _).alloc (Nat.le_refl _) _)).step hb1
  obtain ⟨-, hc0, hc1, hc2, hc3⟩ := hS1.l
  have HS1 := Lib.hid hS1
  clear hb1 hS1
  go_wp2_with fail
  refine (isMode_r m _).mono ?_
  rintro e w2 ⟨rfl, hb⟩
  rw [HM.out]
  have hS2 := HS1.out.step hb
  clear hb hc0 hc1 hc2 hc3
  go_wp2
  go_region_held3 (fun w' => S22 w n1 d1 n2 d2 23 w' ∧ w'.cell? ⟨w.heap.size, 0, none⟩ = some (.int .i64 n1) ∧ w'.cell? ⟨w.heap.size, 1, none⟩ = some (.int .i64 d1) ∧ w'.cell? ⟨w.heap.size + 1, 0, none⟩ = some (.int .i64 n2) ∧ w'.cell? ⟨w.heap.size + 1, 1, none⟩ = some (.int .i64 d2))
    (first | (go_split_ands; exact (S22.step (by assumption) (by assumption)).l) | (go_split_ands; exact (S22.store (by assumption) _ _).l) | (exact hS2.drew.l))
    (first
      | (go_at_call 63; go_split_ands; with_reducible (refine (of_p n1 d1 _).mono ?_); rintro e w3 ⟨rfl, hb3⟩)
      | (go_at_call 63; go_split_ands; with_reducible (refine (of_p n2 d2 _).mono ?_); rintro e w4 ⟨rfl, hb4⟩)
      | (go_at_call 70; go_split_ands; with_reducible (refine (over_r n1 d1 n2 d2 ⟨by have := HB.out.2.2.2.2.1; omega, by have := HB.out.2.2.2.2.2.1; omega⟩ ⟨by have := HB.out.2.2.1; omega, by have := HB.out.2.2.2.1; omega⟩ _).mono ?_); rintro e w5 ⟨rfl, hb5⟩)
      | (go_at_call 73; go_split_ands; with_reducible (refine (round_r (n1 * d2) (d1 * n2) m HB.out.2.2.1 (by have := HB.out.2.2.2.1; omega) (by have := HB.out.2.2.2.2.1; omega) (by have := HB.out.2.2.2.2.2.1; omega) _).mono ?_); rintro e w6 ⟨rfl, hb6⟩))
  rw [HK.out]
  rename_i hH
  obtain ⟨hS6, g0, g1, g2, g3⟩ := hH
  go_wp2_with fail
  refine (rfrac_var (k * n2) d2 (by have := HB.out.1; omega) (by have := HB.out.2.1; omega) HD2.out.2.1 HD2.out.2.2 HD2.out.1 _ rfl _).mono ?_
  rintro e w7 ⟨ra, rb, rc, rfl, HANS, hb7⟩
  obtain ⟨r0, r1, hr0, hr1, hr2, hr3, hr4⟩ := S22.blk hS6 hb7
  have HS7 := Lib.hid (hS6.step hb7)
  clear hS6 g0 g1 g2 g3 hb7
  go_wp2
  refine bodyPost_ret (v := .tuple #[.agg #[.int .i64 ra, .int .i64 rb], .int .i64 rc]) (by simp [results, Try.results35, go_sem, hr0, hr1]) rfl ⟨_, _, _, rfl, HANS, ?_⟩
  exact (HS7.out.1.setCell (by simp; omega) _).setCell (by simp; omega) _

set_option maxRecDepth 100000 in
set_option maxHeartbeats 3200000 in
theorem roundTo_bad (n1 d1 n2 d2 m : Int) (h : ¬ (VF n1 d1 ∧ VF n2 d2 ∧ 0 < n2 ∧ modeB m = true)) (w : World) :
    Calls Try.prog 35 #[.agg #[.int .i64 n1, .int .i64 d1], .agg #[.int .i64 n2, .int .i64 d2], .int .i64 m] w fun e w' => ∃ a b c, e = .returned (.tuple #[.agg #[.int .i64 a, .int .i64 b], .int .i64 c]) ∧ Hid (rtoS n1 d1 n2 d2 m = (a, b, c)) ∧ Below w.heap.size w w' := by
  have HFIN := Lib.hid (rtoS_no h)
  have HS := Lib.hid (S22.start w n1 d1 n2 d2 0 0 23 23)
  cases hab : allB [(n1, d1), (n2, d2)]
  · have HAB := Lib.hid hab
    clear h hab
    go_enter Try.func35, Try.ntmps35
    go_wp2_with fail
    refine (allValid_some (w.heap.size + 1 + 1 + 1) 2 [(n1, d1), (n2, d2)] (by simp) _ (HasFr.two3 w n1 d1 n2 d2 0 0 23)).mono ?_
    rintro e w1 ⟨rfl, hb1⟩
    rw [HAB.out]
    have hS1 := (HS.out.step ((Below.refl _ _).alloc (Nat.le_refl _) _)).step hb1
    obtain ⟨r0, r1, hr0, hr1, hr2, hr3, hr4⟩ := hS1.2.2.2.facts
    have HS1 := Lib.hid hS1
    clear hb1 hS1
    go_wp2
    refine bodyPost_ret (v := .tuple #[.agg #[.int .i64 0, .int .i64 0], .int .i64 2]) (by simp [results, Try.results35, go_sem, hr0, hr1]) rfl ⟨_, _, _, rfl, HFIN, ?_⟩
    exact (HS1.out.1.setCell (by simp; omega) _).setCell (by simp; omega) _
  · have HAB := Lib.hid hab
    have hv : VF n1 d1 ∧ VF n2 d2 := by
      simp only [allB, List.all_cons, List.all_nil, Bool.and_true, Bool.and_eq_true] at hab
      exact ⟨(vfB_iff n1 d1).1 hab.1, (vfB_iff n2 d2).1 hab.2⟩
    by_cases hp : 0 < n2
    · have HM := Lib.hid (show modeB m = false by
        cases hm : modeB m
        · rfl
        · exact absurd ⟨hv.1, hv.2, hp, hm⟩ h)
      have hp1 : ¬ n2 ≤ 0 := by omega
      clear h hab hv hp
      go_enter Try.func35, Try.ntmps35
      go_wp2_with fail
      refine (allValid_some (w.heap.size + 1 + 1 + 1) 2 [(n1, d1), (n2, d2)] (by simp) _ (HasFr.two3 w n1 d1 n2 d2 0 0 23)).mono ?_
      rintro e w1 ⟨rfl, hb1⟩
      rw [HAB.out]
      have hS1 := (HS.out.step ((Below.refl _ _).alloc (Nat.le_refl _) _)).step hb1
      obtain ⟨-, hc0, hc1, hc2, hc3⟩ := hS1.l
      have HS1 := Lib.hid hS1
      clear hb1 hS1
      go_wp2_with fail
      refine (isMode_r m _).mono ?_
      rintro e w2 ⟨rfl, hb⟩
      rw [HM.out]
      have hS2 := HS1.out.step hb
      clear hb hc0 hc1 hc2 hc3
      obtain ⟨r0, r1, hr0, hr1, hr2, hr3, hr4⟩ := hS2.2.2.2.facts
      have HS2 := Lib.hid hS2
      clear hS2
      go_wp2
      refine bodyPost_ret (v := .tuple #[.agg #[.int .i64 0, .int .i64 0], .int .i64 2]) (by simp [results, Try.results35, go_sem, hr0, hr1]) rfl ⟨_, _, _, rfl, HFIN, ?_⟩
      exact (HS2.out.1.setCell (by simp; omega) _).setCell (by simp; omega) _
    · have hp1 : n2 ≤ 0 := by omega
      clear h hab hv hp
      go_enter Try.func35, Try.ntmps35
      go_wp2_with fail
      refine (allValid_some (w.heap.size + 1 + 1 + 1) 2 [(n1, d1), (n2, d2)] (by simp) _ (HasFr.two3 w n1 d1 n2 d2 0 0 23)).mono ?_
      rintro e w1 ⟨rfl, hb1⟩
      rw [HAB.out]
      have hS1 := (HS.out.step ((Below.refl _ _).alloc (Nat.le_refl _) _)).step hb1
      obtain ⟨-, hc0, hc1, hc2, hc3⟩ := hS1.l
      obtain ⟨r0, r1, hr0, hr1, hr2, hr3, hr4⟩ := hS1.2.2.2.facts
      have HS1 := Lib.hid hS1
      clear hb1 hS1
      go_wp2
      refine bodyPost_ret (v := .tuple #[.agg #[.int .i64 0, .int .i64 0], .int .i64 2]) (by simp [results, Try.results35, go_sem, hr0, hr1]) rfl ⟨_, _, _, rfl, HFIN, ?_⟩
      exact (HS1.out.1.setCell (by simp; omega) _).setCell (by simp; omega) _

theorem roundTo_p (n1 d1 n2 d2 m : Int) (w : World) :
    Calls Try.prog 35 #[.agg #[.int .i64 n1, .int .i64 d1], .agg #[.int .i64 n2, .int .i64 d2], .int .i64 m] w fun e w' => ∃ a b c, e = .returned (.tuple #[.agg #[.int .i64 a, .int .i64 b], .int .i64 c]) ∧ Hid (rtoS n1 d1 n2 d2 m = (a, b, c)) ∧ Below w.heap.size w w' := by
  by_cases h : VF n1 d1 ∧ VF n2 d2 ∧ 0 < n2 ∧ modeB m = true
  · exact roundTo_good n1 d1 n2 d2 m h.1 h.2.1 h.2.2.1 h.2.2.2 w
  · exact roundTo_bad n1 d1 n2 d2 m h w

end Go.Proofs.Ytjnfgjaiahnfgaa

/- The reference's Whole, Round and RoundTo. -/
import Derived.Test.YtjnfgjaiahnfgaaRndE
namespace Go.Proofs.Ytjnfgjaiahnfgaa
open Go.RowKit

theorem one_open {w : World} {a : Option Addr} {n cap : Nat} (h : IsNat w (.slice a n cap) 1) : n = 1 ∧ 1 ≤ cap ∧ cap ≤ maxLen ∧ ∃ g, a = some ⟨g, 0, none⟩ ∧ g < w.heap.size ∧ w.cell? ⟨g, 0, none⟩ = some (.int .u32 1) := by
  have e : digs 1 = [1] := by rw [digs_pos (by decide), show 1 / Bse = 0 from rfl, digs_zero]; rfl
  obtain ⟨h1, h2, h3, h4⟩ := IsDig.open_some h
  rw [e] at h1 h2 h4
  refine ⟨h1, h2, h3, ?_⟩
  rcases h4 with h4 | ⟨g, hg, hl, hc⟩
  · cases h4
  · exact ⟨g, hg, hl, hc 0 (by simp)⟩

theorem rnd_vf {n d m : Int} (h : VF n d) : -1000000000 ≤ rndI m n d ∧ rndI m n d ≤ 1000000000 := by
  have h1 := h.n1
  have h2 := h.n2
  have h3 := h.d1
  have h4 := h.d2
  obtain ⟨f1, f2, f3, f4, f5, f6⟩ := floor_facts (n := n) (d := d) (by omega) (by omega) (by omega) (by omega)
  have hup : upB m n d (n / d) (n - n / d * d) = true → 0 < n - n / d * d := by
    unfold upB
    generalize n - n / d * d = r at *
    intro hu
    split at hu
    · simpa using hu
    · split at hu
      · simp at hu; exact hu.1
      · split at hu
        · simp at hu; omega
        · split at hu
          · simp at hu; omega
          · cases hu
  have hq : n / d ≤ 1000000000 ∧ -1000000000 ≤ n / d := by
    generalize n / d = q at *
    have e1 : 0 ≤ q → q ≤ q * d := fun hq => by
      have := Int.mul_le_mul_of_nonneg_left h3 hq
      omega
    have e2 : q ≤ 0 → q * d ≤ q := fun hq => by
      have := Int.mul_le_mul_of_nonneg_left h3 (show 0 ≤ -q by omega)
      rw [Int.neg_mul, Int.neg_mul] at this
      omega
    constructor
    · by_cases hz : 0 ≤ q
      · have := e1 hz; omega
      · omega
    · by_cases hz : -1000000000 ≤ q
      · exact hz
      · exfalso
        have e3 : (q + 1000000001) * d ≤ 0 := Int.mul_nonpos_of_nonpos_of_nonneg (by omega) (by omega)
        rw [Int.add_mul] at e3
        omega
  unfold rndI
  split
  · rename_i hu
    have hr := hup hu
    have hd2 : 2 ≤ d := by omega
    have : n / d < 1000000000 := by
      generalize n / d = q at *
      by_cases hz : 0 ≤ q
      · have := Int.mul_le_mul_of_nonneg_left hd2 hz
        omega
      · omega
    omega
  · omega

set_option maxRecDepth 100000 in
set_option maxHeartbeats 3200000 in
theorem whole_int (x : Value) (k : Int) (hk1 : -1000000000 ≤ k) (hk2 : k ≤ 1000000000) (w : World) (h : IsQ w x (k : Rat)) :
    Calls Try.prog 41 #[x] w fun e w' => e = .returned (.tuple #[.int .i64 k, .bool true]) ∧ Below w.heap.size w w' := by
  obtain ⟨a1, a2, n1, n2, c1, c2, rfl, hx1, hx2⟩ := h
  rw [Rat.num_intCast] at hx1
  rw [Rat.den_intCast] at hx2
  have hneg : decide ((k : Rat) < 0) = decide (k < 0) := by
    have := rat_neg_iff (k : Rat)
    rw [Rat.num_intCast] at this
    exact decide_eq_decide.2 this
  rw [hneg]
  obtain ⟨rfl, hc1, hc2, g, rfl, hg, hgc⟩ := one_open hx2
  have HX := Lib.hid hx1
  have HS0 := Lib.hid ((Below.refl w.heap.size w).alloc (Nat.le_refl _) (.cells #[.bool (decide (k < 0)), .slice a1 n1 c1, .slice (some ⟨g, 0, none⟩) 1 c2] 43))
  obtain ⟨z, hz⟩ : ∃ z : Int, z = (k.natAbs : Int) := ⟨_, rfl⟩
  have hz0 : 0 ≤ z := by omega
  have hz1 : z ≤ 1000000000 := by omega
  have HZ := Lib.hid hz
  have HNA : Hid (k.natAbs ≤ 1000000000) := Lib.hid (by omega)
  have hgne : g ≠ w.heap.size := by omega
  by_cases hn : k < 0
  · have HK : Hid (-z = k) := Lib.hid (by omega)
    rw [decide_eq_true hn] at *
    clear hx1 hx2 hneg hz hn hk1 hk2
    go_enter Try.func41, Try.ntmps41
    go_wp2_with fail
    refine (small_yes _ k.natAbs HNA.out _ (HX.out.below HS0.out)).mono ?_
    rintro e w' ⟨rfl, rfl⟩
    rw [← HZ.out]
    go_wp2
    refine bodyPost_ret (v := .tuple #[.int .i64 k, .bool true]) (by rw [← HK.out]; simp [results, Try.results41, go_sem]) rfl ⟨rfl, HS0.out⟩
  · have HK : Hid (z = k) := Lib.hid (by omega)
    rw [decide_eq_false hn] at *
    clear hx1 hx2 hneg hz hn hk1 hk2
    go_enter Try.func41, Try.ntmps41
    go_wp2_with fail
    refine (small_yes _ k.natAbs HNA.out _ (HX.out.below HS0.out)).mono ?_
    rintro e w' ⟨rfl, rfl⟩
    rw [← HZ.out]
    go_wp2
    refine bodyPost_ret (v := .tuple #[.int .i64 k, .bool true]) (by rw [← HK.out]; simp [results, Try.results41, go_sem]) rfl ⟨rfl, HS0.out⟩

set_option maxRecDepth 100000 in
set_option maxHeartbeats 3200000 in
theorem round_rf (n d m : Int) (w : World) :
    Calls Try.prog 34 #[.agg #[.int .i64 n, .int .i64 d], .int .i64 m] w fun e w' => ∃ a c, e = .returned (.tuple #[.int .i64 a, .int .i64 c]) ∧ Hid (rndS n d m = (a, c)) ∧ Below w.heap.size w w' := by
  have HS := Lib.hid (S10.start w n d 23)
  by_cases hv : VF n d
  · have HV := Lib.hid ((vfB_iff n d).2 hv)
    by_cases hm0 : 0 ≤ m
    · by_cases hm4 : m ≤ 4
      · have HFIN := Lib.hid (rndS_yes hv ((modeB_iff m).2 ⟨hm0, hm4⟩))
        have hq0 : ¬ m < 0 := by omega
        have hq4 : ¬ 4 < m := by omega
        have HKB := Lib.hid (rnd_vf (m := m) hv)
        have HOF : Hid (∀ w, Calls Try.prog 38 #[.agg #[.int .i64 n, .int .i64 d]] w fun e w' => ∃ z, e = .returned z ∧ IsQ w' z (qof n d) ∧ Below w.heap.size w w') :=
          Lib.hid (of_q n d (by have := hv.n1; omega) (by have := hv.n2; omega) (by have := hv.d1; omega) (by have := hv.d2; omega) (by have := hv.d1; omega))
        have HRD : Hid (∀ x w, IsQ w x (qof n d) → Calls Try.prog 74 #[x, .int .i64 m] w fun e w' => ∃ z, e = .returned z ∧ IsQ w' z ((rndI m n d : Int) : Rat) ∧ Below w.heap.size w w') :=
          Lib.hid (fun x w h => rounded_any x n d m (by have := hv.d1; omega) (by have := hv.d2; omega) (by have := hv.n1; omega) (by have := hv.n2; omega) hm0 hm4 w h)
        clear hv hm0 hm4
        go_enter Try.func34, Try.ntmps34
        go_wp2_with fail
        refine (valid_r n d _).mono ?_
        rintro e w1 ⟨rfl, hb⟩
        rw [HV.out]
        have hS1 := HS.out.step hb
        obtain ⟨-, ka0, ka1⟩ := hS1.l
        have HS1 := Lib.hid hS1
        clear hb hS1
        go_wp2_with fail
        refine (HOF.out _).mono ?_
        rintro e w2 ⟨z2, rfl, hz2, hb⟩
        have HS2 := Lib.hid (HS1.out.step hb)
        have HZ2 := Lib.hid hz2
        clear hb hz2 ka0 ka1
        go_wp2_with fail
        refine (HRD.out z2 _ HZ2.out).mono ?_
        rintro e w3 ⟨z3, rfl, hz3, hb⟩
        have HS3 := Lib.hid (HS2.out.step hb)
        have HZ3 := Lib.hid hz3
        clear hb hz3
        go_wp2_with fail
        refine (whole_int z3 _ HKB.out.1 HKB.out.2 _ HZ3.out).mono ?_
        rintro e w4 ⟨rfl, hb⟩
        have HS4 := Lib.hid (HS3.out.step hb)
        clear hb
        go_wp2
        refine bodyPost_ret (v := .tuple #[.int .i64 (rndI m n d), .int .i64 0]) (by simp [results, Try.results34, go_sem]) rfl ⟨_, _, rfl, HFIN, HS4.out.1⟩
      · have HFIN := Lib.hid (rndS_no (n := n) (d := d) (m := m) (fun h => hm4 ((modeB_iff m).1 h.2).2))
        have hq0 : ¬ m < 0 := by omega
        have hq4 : 4 < m := by omega
        clear hv hm0 hm4
        go_enter Try.func34, Try.ntmps34
        go_wp2_with fail
        refine (valid_r n d _).mono ?_
        rintro e w1 ⟨rfl, hb⟩
        rw [HV.out]
        have HS1 := Lib.hid (HS.out.step hb)
        clear hb
        go_wp2
        refine bodyPost_ret (v := .tuple #[.int .i64 0, .int .i64 2]) (by simp [results, Try.results34, go_sem]) rfl ⟨_, _, rfl, HFIN, HS1.out.1⟩
    · have HFIN := Lib.hid (rndS_no (n := n) (d := d) (m := m) (fun h => hm0 ((modeB_iff m).1 h.2).1))
      have hq0 : m < 0 := by omega
      clear hv hm0
      go_enter Try.func34, Try.ntmps34
      go_wp2_with fail
      refine (valid_r n d _).mono ?_
      rintro e w1 ⟨rfl, hb⟩
      rw [HV.out]
      have HS1 := Lib.hid (HS.out.step hb)
      clear hb
      go_wp2
      refine bodyPost_ret (v := .tuple #[.int .i64 0, .int .i64 2]) (by simp [results, Try.results34, go_sem]) rfl ⟨_, _, rfl, HFIN, HS1.out.1⟩
  · have HV := Lib.hid (vfB_false hv)
    have HFIN := Lib.hid (rndS_no (n := n) (d := d) (m := m) (fun h => hv h.1))
    clear hv
    go_enter Try.func34, Try.ntmps34
    go_wp2_with fail
    refine (valid_r n d _).mono ?_
    rintro e w1 ⟨rfl, hb⟩
    rw [HV.out]
    have HS1 := Lib.hid (HS.out.step hb)
    clear hb
    go_wp2
    refine bodyPost_ret (v := .tuple #[.int .i64 0, .int .i64 2]) (by simp [results, Try.results34, go_sem]) rfl ⟨_, _, rfl, HFIN, HS1.out.1⟩

end Go.Proofs.Ytjnfgjaiahnfgaa

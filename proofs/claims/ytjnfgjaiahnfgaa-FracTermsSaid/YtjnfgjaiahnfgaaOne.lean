/- Neg, Abs, Div: the program's and the reference's. -/
import Derived.Test.YtjnfgjaiahnfgaaCmpB
namespace Go.Proofs.Ytjnfgjaiahnfgaa
open Go.RowKit

/-- One box of two numbers and the result's block. -/
def S12 (w : World) (x0 x1 : Int) (T : TypeId) (w' : World) : Prop :=
  Below w.heap.size w w' ∧ w'.heap[w.heap.size]? = some (.cells #[.int .i64 x0, .int .i64 x1] T (0, 0)) ∧ IsBlk2 w' (w.heap.size + 1)
theorem S12.start (w : World) (n d : Int) (T : TypeId) : S12 w n d T ((w.alloc (.cells #[.int .i64 n, .int .i64 d] T)).alloc (.cells #[.int .i64 0, .int .i64 0] T)) :=
  ⟨Below2 _ _ _, heap_alloc1 _ _ _, ⟨0, 0, T, heap_alloc2 _ _ _⟩⟩
theorem S12.step {w : World} {x0 x1 : Int} {T : TypeId} {w1 w2 : World} (h : S12 w x0 x1 T w1) (hb : Below w1.heap.size w1 w2) : S12 w x0 x1 T w2 :=
  ⟨h.1.trans (hb.mono h.1.size), (hb.block _ (Array.getElem?_eq_some_iff.1 h.2.1).1).trans h.2.1, h.2.2.below hb⟩
theorem S12.c {w : World} {x0 x1 : Int} {T : TypeId} {w1 : World} (h : S12 w x0 x1 T w1) : w1.cell? ⟨w.heap.size, 0, none⟩ = some (.int .i64 x0) ∧ w1.cell? ⟨w.heap.size, 1, none⟩ = some (.int .i64 x1) := ⟨cell_blk2 h.2.1 0, cell_blk2 h.2.1 1⟩
theorem S12.store {w : World} {x0 x1 : Int} {T : TypeId} {w1 : World} (h : S12 w x0 x1 T w1) (a b : Value) : Below w.heap.size w ((w1.setCell ⟨w.heap.size + 1, 0, none⟩ a).setCell ⟨w.heap.size + 1, 1, none⟩ b) :=
  (h.1.setCell (by simp) _).setCell (by simp) _

open Classical in
noncomputable def oneS (n d a : Int) : Int × Int × Int := if VF n d then (a, d, 0) else (0, 0, 2)
open Classical in
theorem oneS_yes {n d a : Int} (h : VF n d) : oneS n d a = (a, d, 0) := by unfold oneS; rw [if_pos h]
open Classical in
theorem oneS_no {n d a : Int} (h : ¬ VF n d) : oneS n d a = (0, 0, 2) := by unfold oneS; rw [if_neg h]

theorem VF.neg {n d : Int} (h : VF n d) : VF (-n) d := ⟨h.d1, h.d2, by have := h.n2; omega, by have := h.n1; omega, by rw [Int.natAbs_neg]; exact h.g⟩

theorem rfrac_vf (n d : Int) (h : VF n d) (w : World) :
    Calls Try.prog 59 #[.agg #[.int .i64 n, .int .i64 d]] w fun e w' => e = .returned (.tuple #[.agg #[.int .i64 n, .int .i64 d], .int .i64 0]) ∧ Below w.heap.size w w' := by
  have h1 := rfrac_yes n d (by have := h.n1; omega) (by have := h.n2; omega) (by have := h.d1; omega) (by have := h.d2; omega) (by have := h.d1; omega) h.rep w
  rwa [h.num.1, h.num.2] at h1

set_option maxRecDepth 100000 in
set_option maxHeartbeats 1600000 in
theorem neg_rf (n d : Int) (w : World) :
    Calls Try.prog 30 #[.agg #[.int .i64 n, .int .i64 d]] w fun e w' => ∃ a b c, e = .returned (.tuple #[.agg #[.int .i64 a, .int .i64 b], .int .i64 c]) ∧ Hid (oneS n d (-n) = (a, b, c)) ∧ Below w.heap.size w w' := by
  have HS := Lib.hid (S12.start w n d 23)
  by_cases hv : VF n d
  · have HV := Lib.hid ((vfB_iff n d).2 hv)
    have HVF := Lib.hid hv
    have HFIN := Lib.hid (oneS_yes (a := -n) hv)
    have hn1 := hv.n1
    have hn2 := hv.n2
    clear hv
    go_enter Try.func30, Try.ntmps30
    go_wp2_with fail
    refine (valid_r n d _).mono ?_
    rintro e w1 ⟨rfl, hb1⟩
    rw [HV.out]
    have hS1 := HS.out.step hb1
    obtain ⟨r0, r1, hr0, hr1, hr2, hr3, hr4⟩ := hS1.2.2.facts
    obtain ⟨hc0, hc1⟩ := hS1.c
    have HS1 := Lib.hid hS1
    clear hb1 hS1
    go_wp2
    refine bodyPost_ret (v := .tuple #[.agg #[.int .i64 (-n), .int .i64 d], .int .i64 0]) (by simp [results, Try.results30, go_sem, hr0, hr1]) rfl ⟨_, _, _, rfl, HFIN, HS1.out.store _ _⟩
  · have HV := Lib.hid (vfB_false hv)
    have HFIN := Lib.hid (oneS_no (a := -n) hv)
    clear hv
    go_enter Try.func30, Try.ntmps30
    go_wp2_with fail
    refine (valid_r n d _).mono ?_
    rintro e w1 ⟨rfl, hb1⟩
    rw [HV.out]
    have hS1 := HS.out.step hb1
    obtain ⟨r0, r1, hr0, hr1, hr2, hr3, hr4⟩ := hS1.2.2.facts
    have HS1 := Lib.hid hS1
    clear hb1 hS1
    go_wp2
    refine bodyPost_ret (v := .tuple #[.agg #[.int .i64 0, .int .i64 0], .int .i64 2]) (by simp [results, Try.results30, go_sem, hr0, hr1]) rfl ⟨_, _, _, rfl, HFIN, HS1.out.store _ _⟩

set_option maxRecDepth 100000 in
set_option maxHeartbeats 1600000 in
theorem neg_p (n d : Int) (w : World) :
    Calls Try.prog 29 #[.agg #[.int .i64 n, .int .i64 d]] w fun e w' => ∃ a b c, e = .returned (.tuple #[.agg #[.int .i64 a, .int .i64 b], .int .i64 c]) ∧ Hid (oneS n d (-n) = (a, b, c)) ∧ Below w.heap.size w w' := by
  have HS := Lib.hid (S12.start w n d 23)
  by_cases hv : VF n d
  · have HV := Lib.hid ((vfB_iff n d).2 hv)
    have HVF := Lib.hid hv
    have HFIN := Lib.hid (oneS_yes (a := -n) hv)
    have hn1 := hv.n1
    have hn2 := hv.n2
    clear hv
    go_enter Try.func29, Try.ntmps29
    go_wp2_with fail
    refine (valid_any n d _).mono ?_
    rintro e w1 ⟨rfl, hb1⟩
    rw [HV.out]
    have hS1 := HS.out.step hb1
    obtain ⟨r0, r1, hr0, hr1, hr2, hr3, hr4⟩ := hS1.2.2.facts
    obtain ⟨hc0, hc1⟩ := hS1.c
    have HS1 := Lib.hid hS1
    clear hb1 hS1
    go_wp2_with fail
    refine (of_p n d _).mono ?_
    rintro e w2 ⟨rfl, hb2⟩
    have HS2 := Lib.hid (HS1.out.step hb2)
    clear hb2 hr0 hr1 hr2 hr3 hr4 hc0 hc1
    go_wp2_with fail
    refine (neg_r n d (by omega) (by omega) _).mono ?_
    rintro e w3 ⟨rfl, hb3⟩
    have HS3 := Lib.hid (HS2.out.step hb3)
    clear hb3
    go_wp2_with fail
    refine (rfrac_vf (-n) d HVF.out.neg _).mono ?_
    rintro e w4 ⟨rfl, hb4⟩
    have hS4 := HS3.out.step hb4
    obtain ⟨s0, s1, hr0, hr1, hr2, hr3, hr4⟩ := hS4.2.2.facts
    have HS4 := Lib.hid hS4
    clear hb4 hS4
    go_wp2
    refine bodyPost_ret (v := .tuple #[.agg #[.int .i64 (-n), .int .i64 d], .int .i64 0]) (by simp [results, Try.results29, go_sem, hr0, hr1]) rfl ⟨_, _, _, rfl, HFIN, HS4.out.store _ _⟩
  · have HV := Lib.hid (vfB_false hv)
    have HFIN := Lib.hid (oneS_no (a := -n) hv)
    clear hv
    go_enter Try.func29, Try.ntmps29
    go_wp2_with fail
    refine (valid_any n d _).mono ?_
    rintro e w1 ⟨rfl, hb1⟩
    rw [HV.out]
    have hS1 := HS.out.step hb1
    obtain ⟨r0, r1, hr0, hr1, hr2, hr3, hr4⟩ := hS1.2.2.facts
    have HS1 := Lib.hid hS1
    clear hb1 hS1
    go_wp2
    refine bodyPost_ret (v := .tuple #[.agg #[.int .i64 0, .int .i64 0], .int .i64 2]) (by simp [results, Try.results29, go_sem, hr0, hr1]) rfl ⟨_, _, _, rfl, HFIN, HS1.out.store _ _⟩

set_option maxRecDepth 100000 in
set_option maxHeartbeats 1600000 in
theorem abs_rf (n d m : Int) (hm : m = (n.natAbs : Int)) (w : World) :
    Calls Try.prog 32 #[.agg #[.int .i64 n, .int .i64 d]] w fun e w' => ∃ a b c, e = .returned (.tuple #[.agg #[.int .i64 a, .int .i64 b], .int .i64 c]) ∧ Hid (oneS n d m = (a, b, c)) ∧ Below w.heap.size w w' := by
  have HS := Lib.hid (S12.start w n d 23)
  by_cases hv : VF n d
  · have HV := Lib.hid ((vfB_iff n d).2 hv)
    have HVF := Lib.hid hv
    have HFIN := Lib.hid (oneS_yes (a := m) hv)
    have hn1 := hv.n1
    have hn2 := hv.n2
    have HMM := Lib.hid hm
    clear hv hm
    go_enter Try.func32, Try.ntmps32
    go_wp2_with fail
    refine (valid_r n d _).mono ?_
    rintro e w1 ⟨rfl, hb1⟩
    rw [HV.out]
    have hS1 := HS.out.step hb1
    obtain ⟨r0, r1, hr0, hr1, hr2, hr3, hr4⟩ := hS1.2.2.facts
    obtain ⟨hc0, hc1⟩ := hS1.c
    have HS1 := Lib.hid hS1
    clear hb1 hS1
    by_cases hneg : n < 0
    · obtain rfl : m = -n := by have := HMM.out; omega
      go_wp2
      refine bodyPost_ret (v := .tuple #[.agg #[.int .i64 (-n), .int .i64 d], .int .i64 0]) (by simp [results, Try.results32, go_sem, hr0, hr1]) rfl ⟨_, _, _, rfl, HFIN, HS1.out.store _ _⟩
    · obtain rfl : m = n := by have := HMM.out; omega
      go_wp2
      refine bodyPost_ret (v := .tuple #[.agg #[.int .i64 m, .int .i64 d], .int .i64 0]) (by simp [results, Try.results32, go_sem, hr0, hr1]) rfl ⟨_, _, _, rfl, HFIN, HS1.out.store _ _⟩
  · have HV := Lib.hid (vfB_false hv)
    have HFIN := Lib.hid (oneS_no (a := m) hv)
    have HMM := Lib.hid hm
    clear hv hm
    go_enter Try.func32, Try.ntmps32
    go_wp2_with fail
    refine (valid_r n d _).mono ?_
    rintro e w1 ⟨rfl, hb1⟩
    rw [HV.out]
    have hS1 := HS.out.step hb1
    obtain ⟨r0, r1, hr0, hr1, hr2, hr3, hr4⟩ := hS1.2.2.facts
    have HS1 := Lib.hid hS1
    clear hb1 hS1
    go_wp2
    refine bodyPost_ret (v := .tuple #[.agg #[.int .i64 0, .int .i64 0], .int .i64 2]) (by simp [results, Try.results32, go_sem, hr0, hr1]) rfl ⟨_, _, _, rfl, HFIN, HS1.out.store _ _⟩

set_option maxRecDepth 100000 in
set_option maxHeartbeats 1600000 in
theorem abs_p (n d m : Int) (hm : m = (n.natAbs : Int)) (w : World) :
    Calls Try.prog 31 #[.agg #[.int .i64 n, .int .i64 d]] w fun e w' => ∃ a b c, e = .returned (.tuple #[.agg #[.int .i64 a, .int .i64 b], .int .i64 c]) ∧ Hid (oneS n d m = (a, b, c)) ∧ Below w.heap.size w w' := by
  have HS := Lib.hid (S12.start w n d 23)
  by_cases hv : VF n d
  · have HV := Lib.hid ((vfB_iff n d).2 hv)
    have HVF := Lib.hid hv
    have HFIN := Lib.hid (oneS_yes (a := m) hv)
    have hn1 := hv.n1
    have hn2 := hv.n2
    have HMM := Lib.hid hm
    clear hv hm
    go_enter Try.func31, Try.ntmps31
    go_wp2_with fail
    refine (valid_any n d _).mono ?_
    rintro e w1 ⟨rfl, hb1⟩
    rw [HV.out]
    have hS1 := HS.out.step hb1
    obtain ⟨r0, r1, hr0, hr1, hr2, hr3, hr4⟩ := hS1.2.2.facts
    obtain ⟨hc0, hc1⟩ := hS1.c
    have HS1 := Lib.hid hS1
    clear hb1 hS1
    by_cases hneg : n < 0
    · obtain rfl : m = -n := by have := HMM.out; omega
      go_wp2_with fail
      refine (neg_p n d _).mono ?_
      rintro e w2 ⟨a, b, c, rfl, H, hb2⟩
      have hS2 := HS1.out.step hb2
      obtain ⟨s0, s1, hr0', hr1', hr2', hr3', hr4'⟩ := hS2.2.2.facts
      have HS2 := Lib.hid hS2
      clear hb2 hS2 hr0 hr1 hr2 hr3 hr4 hc0 hc1
      go_wp2
      refine bodyPost_ret (v := .tuple #[.agg #[.int .i64 a, .int .i64 b], .int .i64 c]) (by simp [results, Try.results31, go_sem, hr0', hr1']) rfl ⟨_, _, _, rfl, H, HS2.out.store _ _⟩
    · obtain rfl : m = n := by have := HMM.out; omega
      go_wp2
      refine bodyPost_ret (v := .tuple #[.agg #[.int .i64 m, .int .i64 d], .int .i64 0]) (by simp [results, Try.results31, go_sem, hr0, hr1]) rfl ⟨_, _, _, rfl, HFIN, HS1.out.store _ _⟩
  · have HV := Lib.hid (vfB_false hv)
    have HFIN := Lib.hid (oneS_no (a := m) hv)
    have HMM := Lib.hid hm
    clear hv hm
    go_enter Try.func31, Try.ntmps31
    go_wp2_with fail
    refine (valid_any n d _).mono ?_
    rintro e w1 ⟨rfl, hb1⟩
    rw [HV.out]
    have hS1 := HS.out.step hb1
    obtain ⟨r0, r1, hr0, hr1, hr2, hr3, hr4⟩ := hS1.2.2.facts
    have HS1 := Lib.hid hS1
    clear hb1 hS1
    go_wp2
    refine bodyPost_ret (v := .tuple #[.agg #[.int .i64 0, .int .i64 0], .int .i64 2]) (by simp [results, Try.results31, go_sem, hr0, hr1]) rfl ⟨_, _, _, rfl, HFIN, HS1.out.store _ _⟩

set_option maxRecDepth 100000 in
set_option maxHeartbeats 3200000 in
theorem pdiv_any (n1 d1 n2 d2 : Int) (w : World) :
    Calls Try.prog 27 #[.agg #[.int .i64 n1, .int .i64 d1], .agg #[.int .i64 n2, .int .i64 d2]] w fun e w' => ∃ a b c, e = .returned (.tuple #[.agg #[.int .i64 a, .int .i64 b], .int .i64 c]) ∧ Hid (divS n1 d1 n2 d2 = (a, b, c)) ∧ Below w.heap.size w w' := by
  have HS := Lib.hid (S22.start w n1 d1 n2 d2 0 0 23 23)
  obtain ⟨vb, hvb⟩ : ∃ vb, vb = (vfB n1 d1 && vfB n2 d2) := ⟨_, rfl⟩
  have HAB : Hid (allB [(n1, d1), (n2, d2)] = vb) := Lib.hid (by rw [allB_two, hvb])
  by_cases hv : VF n1 d1 ∧ VF n2 d2
  · obtain rfl : vb = true := by rw [hvb, vf_and hv]
    have HV := Lib.hid hv
    by_cases hz : n2 = 0
    · have hzb : (n2 == 0) = true := by simpa using hz
      have HFIN := Lib.hid (divS_zero hv.1 hv.2 hz)
      clear hv hz hvb
      go_enter Try.func27, Try.ntmps27
      go_wp2_with fail
      refine (allValid_some (w.heap.size + 1 + 1 + 1) 2 [(n1, d1), (n2, d2)] (by simp) _ (HasFr.two3 w n1 d1 n2 d2 0 0 23)).mono ?_
      rintro e w1 ⟨rfl, hb1⟩
      rw [HAB.out]
      have hS1 := (HS.out.step ((Below.refl _ _).alloc (Nat.le_refl _) _)).step hb1
      obtain ⟨r0, r1, hr0, hr1, hr2, hr3, hr4⟩ := hS1.2.2.2.facts
      obtain ⟨-, hc0, hc1, hc2, hc3⟩ := hS1.l
      have HS1 := Lib.hid hS1
      clear hb1 hS1
      go_wp2
      refine bodyPost_ret (v := .tuple #[.agg #[.int .i64 0, .int .i64 0], .int .i64 4]) (by simp [results, Try.results27, go_sem, hr0, hr1]) rfl ⟨_, _, _, rfl, HFIN, ?_⟩
      exact (HS1.out.1.setCell (by simp; omega) _).setCell (by simp; omega) _
    · have hzb : (n2 == 0) = false := by simpa using hz
      have HFIN := Lib.hid (divS_yes hv.1 hv.2 hz)
      have HZ := Lib.hid hz
      clear hv hz hvb
      go_enter Try.func27, Try.ntmps27
      go_wp2_with fail
      refine (allValid_some (w.heap.size + 1 + 1 + 1) 2 [(n1, d1), (n2, d2)] (by simp) _ (HasFr.two3 w n1 d1 n2 d2 0 0 23)).mono ?_
      rintro e w1 ⟨rfl, hb1⟩
      rw [HAB.out]
      have hS1 := (HS.out.step ((Below.refl _ _).alloc (Nat.le_refl _) _)).step hb1
      obtain ⟨-, hc0, hc1, hc2, hc3⟩ := hS1.l
      have HS1 := Lib.hid hS1
      clear hb1 hS1
      go_wp2_with fail
      refine (comb_over n1 d1 n2 d2 HV.out.1 HV.out.2 HZ.out _).mono ?_
      rintro e w2 ⟨ra, rb, rc, rfl, HANS, hb2⟩
      have hS2 := HS1.out.step hb2
      obtain ⟨r0, r1, hr0, hr1, hr2, hr3, hr4⟩ := hS2.2.2.2.facts
      have HS2 := Lib.hid hS2
      clear hb2 hS2 hc0 hc1 hc2 hc3
      go_wp2
      refine bodyPost_ret (v := .tuple #[.agg #[.int .i64 ra, .int .i64 rb], .int .i64 rc]) (by simp [results, Try.results27, go_sem, hr0, hr1]) rfl ⟨_, _, _, rfl, Lib.hid (HFIN.out.trans HANS.out), ?_⟩
      exact (HS2.out.1.setCell (by simp; omega) _).setCell (by simp; omega) _
  · obtain rfl : vb = false := by rw [hvb, vf_nand hv]
    have HFIN := Lib.hid (divS_no hv)
    have HV := Lib.hid hv
    clear hv hvb
    go_enter Try.func27, Try.ntmps27
    go_wp2_with fail
    refine (allValid_some (w.heap.size + 1 + 1 + 1) 2 [(n1, d1), (n2, d2)] (by simp) _ (HasFr.two3 w n1 d1 n2 d2 0 0 23)).mono ?_
    rintro e w1 ⟨rfl, hb1⟩
    rw [HAB.out]
    have hS1 := (HS.out.step ((Below.refl _ _).alloc (Nat.le_refl _) _)).step hb1
    obtain ⟨-, hc0, hc1, hc2, hc3⟩ := hS1.l
    have HS1 := Lib.hid hS1
    clear hb1 hS1
    go_wp2_with fail
    refine (comb_bad_over n1 d1 n2 d2 HV.out _).mono ?_
    rintro e w2 ⟨rfl, hb2⟩
    have hS2 := HS1.out.step hb2
    obtain ⟨r0, r1, hr0, hr1, hr2, hr3, hr4⟩ := hS2.2.2.2.facts
    have HS2 := Lib.hid hS2
    clear hb2 hS2 hc0 hc1 hc2 hc3
    go_wp2
    refine bodyPost_ret (v := .tuple #[.agg #[.int .i64 0, .int .i64 0], .int .i64 2]) (by simp [results, Try.results27, go_sem, hr0, hr1]) rfl ⟨_, _, _, rfl, HFIN, ?_⟩
    exact (HS2.out.1.setCell (by simp; omega) _).setCell (by simp; omega) _

end Go.Proofs.Ytjnfgjaiahnfgaa

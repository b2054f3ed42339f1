/- Pairs: the call that each law ends with. -/
import Derived.Test.YtchhadkmemckbabPaN
namespace Go.Proofs.Ytchhadkmemckbab
open Go.RowKit
set_option linter.unusedSimpArgs false
set_option linter.unusedVariables false

set_option maxRecDepth 100000 in
set_option maxHeartbeats 1600000 in
theorem equalI_any (g g2 n : Nat) (hn : n ≤ 1000) (v : Nat → Int) (w : World) (l1 : g < w.heap.size) (l2 : g2 < w.heap.size) (h1 : ∀ i, i < n → w.cell? ⟨g, i, none⟩ = some (.int .i64 (v i))) (h2 : ∀ i, i < n → w.cell? ⟨g2, i, none⟩ = some (.int .i64 (v i))) :
    Calls Try.prog 39 #[.slice (some ⟨g, 0, none⟩) n n, .slice (some ⟨g2, 0, none⟩) n n] w fun e w' => e = .returned (.bool true) ∧ Below w.heap.size w w' := by
  have HA : Hid (∀ i, i < n → w.cell? ⟨g, i, none⟩ = some (.int .i64 (v i)) ∧ w.cell? ⟨g2, i, none⟩ = some (.int .i64 (v i))) := Lib.hid (fun i hi => ⟨h1 i hi, h2 i hi⟩)
  have HLT := Lib.hid (And.intro l1 l2)
  have hne : ((n : Int) != (n : Int)) = false := by simp
  clear h1 h2
  go_enter Try.func39, Try.ntmps39
  go_wp2_with fail
  go_loopw [13] (fun i wr => ∃ k : Nat, k ≤ n ∧ i = .int .i64 k ∧ Hid (Below w.heap.size w wr)) (fun i _ => n - (intOf i).toNat)
  case atStart => exact ⟨0, Nat.zero_le _, rfl, Lib.hid (Below.refl _ _)⟩
  case round =>
    obtain ⟨k, hk, rfl, HB⟩ := hrel
    by_cases hkN : k < n
    · have hkN' : (k : Int) < n := by omega
      have c1 := (HB.out.cell (p := ⟨g, k, none⟩) HLT.out.1).trans (HA.out k hkN).1
      have c2 := (HB.out.cell (p := ⟨g2, k, none⟩) HLT.out.2).trans (HA.out k hkN).2
      have m1 := Nat.lt_of_lt_of_le HLT.out.1 HB.out.size
      have m2 := Nat.lt_of_lt_of_le HLT.out.2 HB.out.size
      obtain ⟨x, hx⟩ : ∃ x, x = v k := ⟨_, rfl⟩
      rw [← hx] at c1 c2
      have hk0 : (0 : Int) ≤ (k : Int) := by omega
      have hvv : (x != x) = false := by simp
      have HD := Lib.hid HB.out.drew
      clear hx
      go_wp2_with fail
      go_region
      go_wp2
      go_roundw
      case rel => exact ⟨k + 1, by omega, by go_num, HD⟩
      case measure => simp [intOf]; omega
    · obtain rfl : k = n := by omega
      go_wp2
      go_ret
      exact ⟨rfl, HB.out⟩

def awL : List Gl := [(0, 0, 0, 0), (10, 0, 0, 0)]
def awR : List Gl := [(10, 0, 0, 0), (0, 0, 0, 0)]
def awU : Ru := ((1, 0, 0, 0), (10, 0, 0, 0))
def awT : Nat → Nat → Bool := tgt 2 2 (cosT awL awR awU) (fun _ => 1000000000) (fun _ => 0)
theorem aw_low : ∃ o1, lwF awT 4 4 200 2 0 (fun _ => -1) = some o1 := by
  have h : (lwF awT 4 4 200 2 0 (fun _ => -1)).isSome = true := by decide +kernel
  exact ⟨_, Option.some_get h |>.symm⟩
theorem aw_lg : ∃ o2 mm, lgF awT 4 4 200 4 0 (fun _ => -1) = some o2 ∧ chF awT 4 2 200 2 0 o2 (fun _ => false) (fun _ => -1) = some mm ∧ mm 0 = 1 ∧ mm 1 = 0 := by
  have h : ((lgF awT 4 4 200 4 0 (fun _ => -1)).bind fun o2 => (chF awT 4 2 200 2 0 o2 (fun _ => false) (fun _ => -1)).map fun mm => (mm 0, mm 1)) = some (1, 0) := by decide +kernel
  obtain ⟨o2, e2, h⟩ := Option.bind_eq_some_iff.1 h
  obtain ⟨mm, e3, h⟩ := Option.map_eq_some_iff.1 h
  simp only [Prod.mk.injEq] at h
  exact ⟨o2, mm, e2, e3, h.1, h.2⟩

set_option maxRecDepth 100000 in
set_option maxHeartbeats 3200000 in
theorem pAwake_any (w : World) : Calls Try.prog 14 #[] w fun e w' => e = .returned (.bool true) ∧ Below w.heap.size w w' := by
  obtain ⟨o1, e1⟩ := aw_low
  obtain ⟨o2, mm, e2, e3, m0, m1⟩ := aw_lg
  have HCH := Lib.hid (fun (a a2 : Option Addr) (cap cap2 : Nat) (w' : World) (hl : RecS w' a awL) (hr : RecS w' a2 awR) => cheapest_yes a a2 cap cap2 awL awR 1 0 0 0 10 0 0 0 (by decide +kernel) (by decide +kernel) (by decide +kernel) 2 2 200 rfl rfl o1 o2 mm e1 e2 e3 (by omega) w' hl hr)
  have HMM : Hid (∀ i, i < 2 → mm i = if i = 0 then 1 else 0) := Lib.hid (fun i hi => by
    match i, hi with
    | 0, _ => rw [m0]; rfl
    | 1, _ => rw [m1]; rfl)
  clear e1 e2 e3 m0 m1
  go_enter Try.func14, Try.ntmps14
  have hm := (((Mem.nil w).alloc_at (H := w.heap.size) rfl #[.int .i64 1, .int .i64 0, .int .i64 0, .int .i64 0, .int .i64 10, .int .i64 0, .int .i64 0, .int .i64 0] 34).alloc_at (H := w.heap.size + 1) (by simp) #[.int .i64 0, .int .i64 0, .int .i64 0, .int .i64 0, .int .i64 10, .int .i64 0, .int .i64 0, .int .i64 0] 32).alloc_at (H := w.heap.size + 1 + 1) (by simp) #[.int .i64 10, .int .i64 0, .int .i64 0, .int .i64 0, .int .i64 0, .int .i64 0, .int .i64 0, .int .i64 0] 32
  obtain ⟨w3, hw3⟩ : ∃ z, z = (((w.alloc (.cells #[.int .i64 1, .int .i64 0, .int .i64 0, .int .i64 0, .int .i64 10, .int .i64 0, .int .i64 0, .int .i64 0] 34)).alloc (.cells #[.int .i64 0, .int .i64 0, .int .i64 0, .int .i64 0, .int .i64 10, .int .i64 0, .int .i64 0, .int .i64 0] 32)).alloc (.cells #[.int .i64 10, .int .i64 0, .int .i64 0, .int .i64 0, .int .i64 0, .int .i64 0, .int .i64 0, .int .i64 0] 32)) := ⟨_, rfl⟩
  rw [← hw3] at hm
  have HRR : Hid (RecS w3 (some ⟨w.heap.size + 1 + 1, 0, none⟩) awR) := Lib.hid (.inr ⟨w.heap.size + 1 + 1, 0, rfl, hm.head_lt, fun j hj => by
    match j, hj with
    | 0, _ => exact ⟨hm.cell 0, hm.cell 1, hm.cell 2, hm.cell 3⟩
    | 1, _ => exact ⟨hm.cell 4, hm.cell 5, hm.cell 6, hm.cell 7⟩⟩)
  have HRL : Hid (RecS w3 (some ⟨w.heap.size + 1, 0, none⟩) awL) := Lib.hid (.inr ⟨w.heap.size + 1, 0, rfl, hm.tail.head_lt, fun j hj => by
    match j, hj with
    | 0, _ => exact ⟨hm.tail.cell 0, hm.tail.cell 1, hm.tail.cell 2, hm.tail.cell 3⟩
    | 1, _ => exact ⟨hm.tail.cell 4, hm.tail.cell 5, hm.tail.cell 6, hm.tail.cell 7⟩⟩)
  have HB3 := Lib.hid hm.b
  have HW := Lib.hid hw3
  clear hm hw3
  go_wp2_with fail
  rw [← HW.out]
  refine (HCH.out _ _ 2 2 w3 HRL.out HRR.out).mono ?_
  rintro e w4 ⟨g, rfl, hg1, hg2, hb⟩
  have HB4 := Lib.hid (HB3.out.trans (hb.mono HB3.out.size))
  have HG := Lib.hid hg2
  clear hg1 hg2 hb HRL HRR HB3 HW HCH
  obtain ⟨w5, hw5⟩ : ∃ z, z = w4.alloc (.cells #[.int .i64 1, .int .i64 0] 3) := ⟨_, rfl⟩
  have HEQ : Hid (Calls Try.prog 39 #[.slice (some ⟨g, 0, none⟩) 2 2, .slice (some ⟨w4.heap.size, 0, none⟩) 2 2] w5 fun e w' => e = .returned (.bool true) ∧ Below w.heap.size w w') := Lib.hid (by
    have hb : Below w4.heap.size w4 w5 := by rw [hw5]; exact (Below.refl _ _).alloc (Nat.le_refl _) _
    have h5 : w5.heap[w4.heap.size]? = some (.cells #[.int .i64 1, .int .i64 0] 3 (0, 0)) := by rw [hw5]; exact heap_alloc_new _ _
    have hbw := HB4.out.trans (hb.mono HB4.out.size)
    refine (equalI_any g w4.heap.size 2 (by omega) (fun i => if i = 0 then 1 else 0) w5 (block_lt (blk_keep HG.out hb)) (block_lt h5) (fun i hi => by rw [blkc (blk_keep HG.out hb), cA_get hi, HMM.out i hi]) (fun i hi => ?_)).mono ?_
    · rw [blkc h5]
      match i, hi with
      | 0, _ => rfl
      | 1, _ => rfl
    · rintro e w6 ⟨rfl, hb6⟩
      exact ⟨rfl, hbw.trans (hb6.mono hbw.size)⟩)
  have HW5 := Lib.hid hw5
  clear hw5 HMM HG
  go_wp2_with fail
  rw [← HW5.out]
  refine HEQ.out.mono ?_
  rintro e w6 ⟨rfl, hb6⟩
  have HE := Lib.hid hb6
  clear hb6 HEQ HW5
  go_wp2
  go_ret
  exact ⟨rfl, HE.out⟩

end Go.Proofs.Ytchhadkmemckbab

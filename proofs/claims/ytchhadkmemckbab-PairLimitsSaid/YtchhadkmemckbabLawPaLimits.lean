/- PairLimits: Most does not decrease if a limit increases, for every two sides, every rule and every number; no condition. -/
import Derived.Test.YtchhadkmemckbabRows
import Derived.ProofKit
import Derived.OpenShut
import Derived.Lib.SmallJoins
import Derived.Test.YtchhadkmemckbabPbW
import Derived.Test.YtchhadkmemckbabPaV
import Derived.Test.YtchhadkmemckbabPaO
namespace Go.Proofs.Ytchhadkmemckbab.lawPairLimits
open Go.ChangeShapes Go.WideShapes Go.ChangeAt Go.RowKit Go.Joins
set_option linter.unusedVariables false
set_option linter.unusedSimpArgs false

set_option maxRecDepth 100000 in
set_option maxHeartbeats 6400000 in
theorem walk (a : Option Addr) (cap : Nat) (ls : List Rc) (wf1 : ls.length ≤ maxLen ∧ ∀ r ∈ ls, (Lit.int .i64 r.1).wf = true ∧ (Lit.int .i64 r.2.1).wf = true ∧ (Lit.int .i64 r.2.2.1).wf = true ∧ (Lit.int .i64 r.2.2.2).wf = true) (a2 : Option Addr) (cap2 : Nat) (rs : List Rc) (wf2 : rs.length ≤ maxLen ∧ ∀ r ∈ rs, (Lit.int .i64 r.1).wf = true ∧ (Lit.int .i64 r.2.1).wf = true ∧ (Lit.int .i64 r.2.2.1).wf = true ∧ (Lit.int .i64 r.2.2.2).wf = true) (x0 x1 x2 x3 y0 y1 y2 y3 : Int) (mo : Int) (wmo : (Lit.int .i64 mo).wf = true) (w : World) (hl : RecS w a ls) (hr : RecS w a2 rs) :
    Calls Try.prog 4 #[.slice a ls.length cap, .slice a2 rs.length cap2, .agg #[.int .i64 x0, .int .i64 x1, .int .i64 x2, .int .i64 x3, .int .i64 y0, .int .i64 y1, .int .i64 y2, .int .i64 y3], .int .i64 mo] w fun e w' => e = .returned (.bool true) ∧ Below w.heap.size w w' := by
  have n1 : (ls.length : Int) ≤ 9223372036854775807 := by have := wf1.1; unfold maxLen at this; omega
  have n2 : (rs.length : Int) ≤ 9223372036854775807 := by have := wf2.1; unfold maxLen at this; omega
  have hm := (Mem.nil w).alloc_at (H := w.heap.size) rfl #[.int .i64 x0, .int .i64 x1, .int .i64 x2, .int .i64 x3, .int .i64 y0, .int .i64 y1, .int .i64 y2, .int .i64 y3] 26
  obtain ⟨wd, hwd⟩ : ∃ z, z = w.alloc (.cells #[.int .i64 x0, .int .i64 x1, .int .i64 x2, .int .i64 x3, .int .i64 y0, .int .i64 y1, .int .i64 y2, .int .i64 y3] 26) := ⟨_, rfl⟩
  rw [← hwd] at hm
  have HM := Lib.hid hm
  have HS : Hid (∀ w', Below wd.heap.size wd w' → w'.cell? ⟨w.heap.size, 0, none⟩ = some (.int .i64 x0) ∧ w'.cell? ⟨w.heap.size, 1, none⟩ = some (.int .i64 x1) ∧ w'.cell? ⟨w.heap.size, 2, none⟩ = some (.int .i64 x2) ∧ w'.cell? ⟨w.heap.size, 3, none⟩ = some (.int .i64 x3) ∧ w'.cell? ⟨w.heap.size, 4, none⟩ = some (.int .i64 y0) ∧ w'.cell? ⟨w.heap.size, 5, none⟩ = some (.int .i64 y1) ∧ w'.cell? ⟨w.heap.size, 6, none⟩ = some (.int .i64 y2) ∧ w'.cell? ⟨w.heap.size, 7, none⟩ = some (.int .i64 y3)) := Lib.hid (fun w' hb => by
    have h1 := hm.step hb
    exact ⟨h1.cell 0, h1.cell 1, h1.cell 2, h1.cell 3, h1.cell 4, h1.cell 5, h1.cell 6, h1.cell 7⟩)
  have HLL := Lib.hid hl
  have HRR := Lib.hid hr
  have HSL := Lib.hid (fun w' hb => side_any a cap ls n1 w' ((hl.below hm.b).below (w' := w') hb))
  have HSR := Lib.hid (fun w' hb => side_any a2 cap2 rs n2 w' ((hr.below hm.b).below (w' := w') hb))
  have HGU := Lib.hid (fun w' => rule_any x0 x1 x2 x3 y0 y1 y2 y3 w')
  have HWE := Lib.hid (fun z1 c1 z2 c2 w' (h1 : RecS w' z1 (ls.take 34)) (h2 : RecS w' z2 (rs.take 34)) (hb : Below wd.heap.size wd w') => pMost_any z1 z2 c1 c2 (ls.take 34) (rs.take 34) x0 x1 x2 x3 y0 y1 y2 y3 (by rw [List.length_take]; omega) (by rw [List.length_take]; omega) w' h1 h2)
  have HGO := Lib.hid (fun w' (hb : Below wd.heap.size wd w') => qGood_any a a2 cap cap2 ls rs x0 x1 x2 x3 y0 y1 y2 y3 n1 n2 w' ((hl.below hm.b).below hb) ((hr.below hm.b).below hb))
  simp only [mstE_take] at HWE
  simp only [List.length_take] at HWE
  obtain ⟨r0, r1, hres⟩ : ∃ r0 r1, mstE ls rs ((x0, x1, x2, x3), (y0, y1, y2, y3)) = (r0, r1) := ⟨_, _, rfl⟩
  rw [hres] at HWE
  have HRES := Lib.hid hres
  have HB0 := Lib.hid (Below.refl wd.heap.size wd)
  have HWD := Lib.hid hwd
  obtain ⟨g0, hg0⟩ : ∃ g0, g0 = (sidB ls && sidB rs && ruB ((x0, x1, x2, x3), (y0, y1, y2, y3))) := ⟨_, rfl⟩
  rw [← hg0] at HGO
  have HG0 := Lib.hid hg0
  clear hres hm hwd hl hr wf1 wf2 hg0
  go_enter Try.func4, Try.ntmps4
  go_upto_region 1 with fail
  rw [← HWD.out]
  go_cut [9, 10, 15, 17, 19] (fun s9 s10 s15 s17 s19 wx => s9 = .int .i64 r0 ∧ s10 = .int .i64 r1 ∧ Hid (Below wd.heap.size wd wx))
  case first =>
    refine wp_region_held_drew (S := fun w' => w'.cell? ⟨w.heap.size, 0, none⟩ = some (.int .i64 x0) ∧ w'.cell? ⟨w.heap.size, 1, none⟩ = some (.int .i64 x1) ∧ w'.cell? ⟨w.heap.size, 2, none⟩ = some (.int .i64 x2) ∧ w'.cell? ⟨w.heap.size, 3, none⟩ = some (.int .i64 x3) ∧ w'.cell? ⟨w.heap.size, 4, none⟩ = some (.int .i64 y0) ∧ w'.cell? ⟨w.heap.size, 5, none⟩ = some (.int .i64 y1) ∧ w'.cell? ⟨w.heap.size, 6, none⟩ = some (.int .i64 y2) ∧ w'.cell? ⟨w.heap.size, 7, none⟩ = some (.int .i64 y3)) (by kernel_rfl) (HS.out _ (Below.refl _ _).drew) (fun hHeld => ?_)
    refine wpAnyH_take (i := 0) (oi := { dst := some 16, op := Op.move (Operand.tmp 0), type := 22, pos := "law.go:200", after := #[], guard := none }) (v := ?_) rfl (by kernel_rfl) (by kernel_rfl) (by kernel_rfl) (fun _ _ _ h => h) (Or.inl ⟨by rfl, ?_⟩) (by assumption) ?_
    rotate_left
    · intro w' hSw
      (try dsimp only at hSw)
      (try go_split_ands)
      go_simp
      try with_reducible rfl
    (try simp only [Act.put, List.setIfInBounds_toArray, List.set_cons_zero, List.set_cons_succ])
    refine wpAnyH_take (i := 2) (oi := { dst := some 18, op := Op.move (Operand.tmp 1), type := 22, pos := "law.go:200", after := #[], guard := none }) (v := ?_) rfl (by kernel_rfl) (by kernel_rfl) (by kernel_rfl) (fun _ _ _ h => h) (Or.inl ⟨by rfl, ?_⟩) (by assumption) ?_
    rotate_left
    · intro w' hSw
      (try dsimp only at hSw)
      (try go_split_ands)
      go_simp
      try with_reducible rfl
    (try simp only [Act.put, List.setIfInBounds_toArray, List.set_cons_zero, List.set_cons_succ])
    refine wpAnyH_take (i := 4) (oi := { dst := some 20, op := Op.load 26 (Operand.tmp 6), type := 26, pos := "law.go:200", after := #[], guard := none }) (v := ?_) rfl (by kernel_rfl) (by kernel_rfl) (by kernel_rfl) (fun _ _ _ h => h) (Or.inl ⟨by rfl, ?_⟩) (by assumption) ?_
    rotate_left
    · intro w' hSw
      (try dsimp only at hSw)
      (try go_split_ands)
      go_simp
      try with_reducible rfl
    (try simp only [Act.put, List.setIfInBounds_toArray, List.set_cons_zero, List.set_cons_succ])
    refine wpAnyH_ready (rs := [1]) (by kernel_rfl) (by simp) ?_
    refine (AllReadyH.cons (o := { dst := some 17, op := Op.call { callee := Callee.value (Operand.func 10), args := #[Operand.tmp 16], argTypes := #[22] }, type := 30, pos := "law.go:200", after := #[{ on := 0, ground := Ground.data }], guard := none }) rfl (fun K hK => ?_) AllReadyH.nil)
    go_simp
    go_at_call 10
    with_reducible (refine (HSL.out _ HB0.out.drew).mono ?_)
    rintro e v1 ⟨a1, c1, rfl, hA, hb1⟩
    have HA := Lib.hid hA
    have HB1 := Lib.hid (HB0.out.drew.trans (hb1.mono HB0.out.drew.size))
    clear hA hb1
    (try go_wp2_with fail)
    refine hK.out _ _ (HS.out _ HB1.out) (fun hHeld => ?_)
    clear hK K
    (try simp only [Act.put, List.setIfInBounds_toArray, List.set_cons_zero, List.set_cons_succ])
    refine wpAnyH_ready (rs := [3]) (by kernel_rfl) (by simp) ?_
    refine (AllReadyH.cons (o := { dst := some 19, op := Op.call { callee := Callee.value (Operand.func 10), args := #[Operand.tmp 18], argTypes := #[22] }, type := 30, pos := "law.go:200", after := #[{ on := 2, ground := Ground.data }, { on := 1, ground := Ground.chain }], guard := none }) rfl (fun K hK => ?_) AllReadyH.nil)
    go_simp
    go_at_call 10
    with_reducible (refine (HSR.out _ HB1.out).mono ?_)
    rintro e v2 ⟨a2, c2, rfl, hA, hb2⟩
    have HC := Lib.hid hA
    have HA2 := Lib.hid (HA.out.below hb2)
    have HB2 := Lib.hid (HB1.out.trans (hb2.mono HB1.out.size))
    clear hA hb2
    (try go_wp2_with fail)
    refine hK.out _ _ (HS.out _ HB2.out) (fun hHeld => ?_)
    clear hK K
    (try simp only [Act.put, List.setIfInBounds_toArray, List.set_cons_zero, List.set_cons_succ])
    refine wpAnyH_ready (rs := [5]) (by kernel_rfl) (by simp) ?_
    refine (AllReadyH.cons (o := { dst := some 21, op := Op.call { callee := Callee.value (Operand.func 11), args := #[Operand.tmp 20], argTypes := #[26] }, type := 34, pos := "law.go:200", after := #[{ on := 4, ground := Ground.data }, { on := 3, ground := Ground.chain }], guard := none }) rfl (fun K hK => ?_) AllReadyH.nil)
    go_simp
    go_at_call 11
    with_reducible (refine (HGU.out _).mono ?_)
    rintro e v3 ⟨rfl, hb3⟩
    have HA3 := Lib.hid (HA2.out.below hb3)
    have HC3 := Lib.hid (HC.out.below hb3)
    have HB3 := Lib.hid (HB2.out.trans (hb3.mono HB2.out.size))
    clear hb3
    (try go_wp2_with fail)
    refine hK.out _ _ (HS.out _ HB3.out) (fun hHeld => ?_)
    clear hK K
    (try simp only [Act.put, List.setIfInBounds_toArray, List.set_cons_zero, List.set_cons_succ])
    refine wpAnyH_ready (rs := [6]) (by kernel_rfl) (by simp) ?_
    refine (AllReadyH.cons (o := { dst := some 22, op := Op.call { callee := Callee.value (Operand.func 9), args := #[Operand.tmp 17, Operand.tmp 19, Operand.tmp 21], argTypes := #[30, 30, 34] }, type := 28, pos := "law.go:200", after := #[{ on := 1, ground := Ground.data }, { on := 3, ground := Ground.data }, { on := 5, ground := Ground.data }, { on := 5, ground := Ground.chain }], guard := none }) rfl (fun K hK => ?_) AllReadyH.nil)
    go_simp
    go_at_call 9
    with_reducible (refine (HWE.out _ _ _ _ _ HA3.out HC3.out HB3.out).mono ?_)
    rintro e v4 ⟨rfl, hb4⟩
    have HB4 := Lib.hid (HB3.out.trans (hb4.mono HB3.out.size))
    clear hb4
    (try go_wp2_with fail)
    refine hK.out _ _ (HS.out _ HB4.out) (fun hHeld => ?_)
    clear hK K
    (try simp only [Act.put, List.setIfInBounds_toArray, List.set_cons_zero, List.set_cons_succ])
    refine wpAnyH_take (i := 7) (oi := { dst := some 15, op := Op.move (Operand.tmp 22), type := 28, pos := "law.go:200", after := #[{ on := 6, ground := Ground.data }], guard := none }) (v := ?_) rfl (by kernel_rfl) (by kernel_rfl) (by kernel_rfl) (fun _ _ _ h => h) (Or.inl ⟨by rfl, ?_⟩) (by assumption) ?_
    rotate_left
    · intro w' hSw
      (try dsimp only at hSw)
      (try go_split_ands)
      go_simp
      try with_reducible rfl
    (try simp only [Act.put, List.setIfInBounds_toArray, List.set_cons_zero, List.set_cons_succ])
    refine wpAnyH_take (i := 8) (oi := { dst := some 23, op := Op.extract (Operand.tmp 15) 0, type := 3, pos := "law.go:200", after := #[{ on := 7, ground := Ground.data }], guard := none }) (v := ?_) rfl (by kernel_rfl) (by kernel_rfl) (by kernel_rfl) (fun _ _ _ h => h) (Or.inl ⟨by rfl, ?_⟩) (by assumption) ?_
    rotate_left
    · intro w' hSw
      (try dsimp only at hSw)
      (try go_split_ands)
      go_simp
      try with_reducible rfl
    (try simp only [Act.put, List.setIfInBounds_toArray, List.set_cons_zero, List.set_cons_succ])
    refine wpAnyH_take (i := 9) (oi := { dst := some 24, op := Op.extract (Operand.tmp 15) 1, type := 27, pos := "law.go:200", after := #[{ on := 7, ground := Ground.data }, { on := 10, ground := Ground.gcOnly Departure.lateStores }], guard := none }) (v := ?_) rfl (by kernel_rfl) (by kernel_rfl) (by kernel_rfl) (fun _ _ _ h => h) (Or.inl ⟨by rfl, ?_⟩) (by assumption) ?_
    rotate_left
    · intro w' hSw
      (try dsimp only at hSw)
      (try go_split_ands)
      go_simp
      try with_reducible rfl
    (try simp only [Act.put, List.setIfInBounds_toArray, List.set_cons_zero, List.set_cons_succ])
    refine wpAnyH_take (i := 10) (oi := { dst := some 9, op := Op.assign (Operand.tmp 23), type := 3, pos := "law.go:200", after := #[{ on := 8, ground := Ground.data }, { on := 6, ground := Ground.chain }, { on := 0, ground := Ground.phase }, { on := 1, ground := Ground.phase }, { on := 2, ground := Ground.phase }, { on := 3, ground := Ground.phase }, { on := 4, ground := Ground.phase }, { on := 5, ground := Ground.phase }, { on := 6, ground := Ground.phase }, { on := 7, ground := Ground.phase }, { on := 8, ground := Ground.phase }, { on := 9, ground := Ground.textOnly Departure.lateStores }], guard := none }) (v := ?_) rfl (by kernel_rfl) (by kernel_rfl) (by kernel_rfl) (fun _ _ _ h => h) (Or.inl ⟨by rfl, ?_⟩) (by assumption) ?_
    rotate_left
    · intro w' hSw
      (try dsimp only at hSw)
      (try go_split_ands)
      go_simp
      try with_reducible rfl
    (try simp only [Act.put, List.setIfInBounds_toArray, List.set_cons_zero, List.set_cons_succ])
    refine wpAnyH_take (i := 11) (oi := { dst := some 10, op := Op.assign (Operand.tmp 24), type := 27, pos := "law.go:200", after := #[{ on := 9, ground := Ground.data }, { on := 10, ground := Ground.chain }, { on := 0, ground := Ground.phase }, { on := 1, ground := Ground.phase }, { on := 2, ground := Ground.phase }, { on := 3, ground := Ground.phase }, { on := 4, ground := Ground.phase }, { on := 5, ground := Ground.phase }, { on := 6, ground := Ground.phase }, { on := 7, ground := Ground.phase }, { on := 8, ground := Ground.phase }, { on := 9, ground := Ground.phase }, { on := 10, ground := Ground.phase }], guard := none }) (v := ?_) rfl (by kernel_rfl) (by kernel_rfl) (by kernel_rfl) (fun _ _ _ h => h) (Or.inl ⟨by rfl, ?_⟩) (by assumption) ?_
    rotate_left
    · intro w' hSw
      (try dsimp only at hSw)
      (try go_split_ands)
      go_simp
      try with_reducible rfl
    (try simp only [Act.put, List.setIfInBounds_toArray, List.set_cons_zero, List.set_cons_succ])
    refine wpAnyH_done (by kernel_rfl) ?_ _
    go_wp2_with fail
    go_meet
    exact ⟨rfl, rfl, HB4⟩
  case rest =>
  obtain ⟨rfl, rfl, HB⟩ := hcut
  obtain ⟨k0, k1, k2, k3, k4, k5, k6, k7⟩ := HS.out _ HB.out
  have LK : wd.heap.size ≤ wc.heap.size := HB.out.size
  have b0 : w.heap.size < wd.heap.size := HM.out.head_lt
  go_wp2_with fail
  refine (HGO.out _ HB.out).mono ?_
  rintro e w2 ⟨rfl, hb2⟩
  have HB2 := Lib.hid (HB.out.trans (hb2.mono HB.out.size))
  clear hb2 k0 k1 k2 k3 k4 k5 k6 k7 LK b0 HB HGO
  cases g0 with
  | false =>
    have hx := HRES.out
    rw [mstE_bad HG0.out.symm] at hx
    simp only [Prod.mk.injEq] at hx
    obtain ⟨rfl, rfl⟩ := hx
    clear HWE HRES
    go_wp2_with fail
    refine (pAwake_any _).mono ?_
    rintro e w9 ⟨rfl, hb⟩
    have HE := Lib.hid (HM.out.b.trans ((HB2.out.trans (hb.mono HB2.out.size)).mono HM.out.b.size))
    clear hb
    go_wp2
    go_ret
    exact ⟨rfl, HE.out⟩
  | true =>
  have hg1 : (sidB ls = true ∧ sidB rs = true) ∧ ruB ((x0, x1, x2, x3), (y0, y1, y2, y3)) = true := by simpa using HG0.out.symm
  have HG1 := Lib.hid hg1
  clear hg1 HG0
  go_upto_region 4 with fail
  go_cut [3] (fun s3 wx => (∃ M : Int, s3 = .int .i64 M ∧ Hid (0 ≤ M ∧ M ≤ 1000)) ∧ wx = w2)
  case first =>
    go_wp2_with fail
    go_meet
    refine ⟨⟨_, rfl, Lib.hid ?_⟩, rfl⟩
    have hu : 0 ≤ IntKind.u64.wrap mo := by rw [IntKind.wrap_u64]; omega
    rw [IntWalk.rem_in _ _ hu, IntWalk.wrap64_in _ (by omega)]
    omega
  case rest =>
  obtain ⟨⟨M, rfl, HMM⟩, rfl⟩ := hcut
  have HM2 := Lib.hid (HM.out.step HB2.out)
  obtain ⟨P, hP⟩ : ∃ z, z = wc.heap.size := ⟨_, rfl⟩
  obtain ⟨w5, hw5⟩ : ∃ z, z = wc.alloc (.cells #[.pointer (some ⟨w.heap.size, 4, none⟩), .pointer (some ⟨w.heap.size, 5, none⟩), .pointer (some ⟨w.heap.size, 6, none⟩), .pointer (some ⟨w.heap.size, 7, none⟩)] 44) := ⟨_, rfl⟩
  have HM5 : Hid (Mem w [(P, #[.pointer (some ⟨w.heap.size, 4, none⟩), .pointer (some ⟨w.heap.size, 5, none⟩), .pointer (some ⟨w.heap.size, 6, none⟩), .pointer (some ⟨w.heap.size, 7, none⟩)], 44), (w.heap.size, #[.int .i64 x0, .int .i64 x1, .int .i64 x2, .int .i64 x3, .int .i64 y0, .int .i64 y1, .int .i64 y2, .int .i64 y3], 26)] w5) := Lib.hid (by rw [hw5]; exact HM2.out.alloc_at hP.symm _ _)
  have HW5 := Lib.hid (And.intro hP hw5)
  clear hP hw5 HM2 HB2 HS HSL HSR HGU HWE HM HB0 HWD
  go_wp2_with fail
  rw [← HW5.out.1, ← HW5.out.2]
  clear HW5
  go_loopg [49] 4 (fun gk x wr => ∃ (k : Nat) (K m0 m1 m2 m3 : Int), k + gk = 4 ∧ K = k ∧ x = .int .i64 K ∧ Hid (m0 = (if 0 < k then max y0 M else y0) ∧ m1 = (if 1 < k then max y1 M else y1) ∧ m2 = (if 2 < k then max y2 M else y2) ∧ m3 = (if 3 < k then max y3 M else y3)) ∧ Hid (Mem w [(P, #[.pointer (some ⟨w.heap.size, 4, none⟩), .pointer (some ⟨w.heap.size, 5, none⟩), .pointer (some ⟨w.heap.size, 6, none⟩), .pointer (some ⟨w.heap.size, 7, none⟩)], 44), (w.heap.size, #[.int .i64 x0, .int .i64 x1, .int .i64 x2, .int .i64 x3, .int .i64 m0, .int .i64 m1, .int .i64 m2, .int .i64 m3], 26)] wr))
  case atStart => exact ⟨0, 0, y0, y1, y2, y3, by omega, rfl, rfl, Lib.hid (by simp), HM5⟩
  case round =>
    obtain ⟨k, K, m0, m1, m2, m3, hk, hK, rfl, HA4, HM6⟩ := hrel
    by_cases hk4 : k < 4
    · obtain ⟨gk', rfl⟩ : ∃ m, gk = m + 1 := ⟨gk - 1, by omega⟩
      have hcase : k = 0 ∨ k = 1 ∨ k = 2 ∨ k = 3 := by omega
      rcases hcase with hk0 | hk1 | hk2 | hk3
      · subst hk0
        obtain rfl : K = 0 := by omega
        clear hK hk4
        have p0 := HM6.out.cell 0
        have s0 := HM6.out.tail.cell 4
        have f0 := HM6.out.tail.frozen 4
        have l0 := HM6.out.head_lt
        have l1 := HM6.out.tail.head_lt
        have l2 := HM6.out.gt
        simp at p0 s0 l2
        by_cases hx : m0 < M
        · have HN : Hid (Mem w [(P, #[.pointer (some ⟨w.heap.size, 4, none⟩), .pointer (some ⟨w.heap.size, 5, none⟩), .pointer (some ⟨w.heap.size, 6, none⟩), .pointer (some ⟨w.heap.size, 7, none⟩)], 44), (w.heap.size, #[.int .i64 x0, .int .i64 x1, .int .i64 x2, .int .i64 x3, .int .i64 M, .int .i64 m1, .int .i64 m2, .int .i64 m3], 26)] (wr.setCell ⟨w.heap.size, 4, none⟩ (.int .i64 M))) := Lib.hid (HM6.out.set1 4 (.int .i64 M))
          have HAN : Hid (M = (if 0 < 1 then max y0 M else y0) ∧ m1 = (if 1 < 1 then max y1 M else y1) ∧ m2 = (if 2 < 1 then max y2 M else y2) ∧ m3 = (if 3 < 1 then max y3 M else y3)) := Lib.hid (by have h := HA4.out; simp at h ⊢; omega)
          clear HM6 HA4 HM5
          go_wp2
          go_roundg gk'
          case measure => exact Nat.lt_succ_self _
          case rel => exact ⟨1, 1, M, m1, m2, m3, by omega, rfl, by first | rfl | go_num, HAN, HN⟩
        · have HN : Hid (Mem w [(P, #[.pointer (some ⟨w.heap.size, 4, none⟩), .pointer (some ⟨w.heap.size, 5, none⟩), .pointer (some ⟨w.heap.size, 6, none⟩), .pointer (some ⟨w.heap.size, 7, none⟩)], 44), (w.heap.size, #[.int .i64 x0, .int .i64 x1, .int .i64 x2, .int .i64 x3, .int .i64 m0, .int .i64 m1, .int .i64 m2, .int .i64 m3], 26)] (wr.setCell ⟨w.heap.size, 4, none⟩ (.int .i64 m0))) := Lib.hid (HM6.out.set1 4 (.int .i64 m0))
          have HAN : Hid (m0 = (if 0 < 1 then max y0 M else y0) ∧ m1 = (if 1 < 1 then max y1 M else y1) ∧ m2 = (if 2 < 1 then max y2 M else y2) ∧ m3 = (if 3 < 1 then max y3 M else y3)) := Lib.hid (by have h := HA4.out; simp at h ⊢; omega)
          clear HM6 HA4 HM5
          go_wp2
          go_roundg gk'
          case measure => exact Nat.lt_succ_self _
          case rel => exact ⟨1, 1, m0, m1, m2, m3, by omega, rfl, by first | rfl | go_num, HAN, HN⟩
      · subst hk1
        obtain rfl : K = 1 := by omega
        clear hK hk4
        have p0 := HM6.out.cell 1
        have s0 := HM6.out.tail.cell 5
        have f0 := HM6.out.tail.frozen 5
        have l0 := HM6.out.head_lt
        have l1 := HM6.out.tail.head_lt
        have l2 := HM6.out.gt
        simp at p0 s0 l2
        by_cases hx : m1 < M
        · have HN : Hid (Mem w [(P, #[.pointer (some ⟨w.heap.size, 4, none⟩), .pointer (some ⟨w.heap.size, 5, none⟩), .pointer (some ⟨w.heap.size, 6, none⟩), .pointer (some ⟨w.heap.size, 7, none⟩)], 44), (w.heap.size, #[.int .i64 x0, .int .i64 x1, .int .i64 x2, .int .i64 x3, .int .i64 m0, .int .i64 M, .int .i64 m2, .int .i64 m3], 26)] (wr.setCell ⟨w.heap.size, 5, none⟩ (.int .i64 M))) := Lib.hid (HM6.out.set1 5 (.int .i64 M))
          have HAN : Hid (m0 = (if 0 < 2 then max y0 M else y0) ∧ M = (if 1 < 2 then max y1 M else y1) ∧ m2 = (if 2 < 2 then max y2 M else y2) ∧ m3 = (if 3 < 2 then max y3 M else y3)) := Lib.hid (by have h := HA4.out; simp at h ⊢; omega)
          clear HM6 HA4 HM5
          go_wp2
          go_roundg gk'
          case measure => exact Nat.lt_succ_self _
          case rel => exact ⟨2, 2, m0, M, m2, m3, by omega, rfl, by first | rfl | go_num, HAN, HN⟩
        · have HN : Hid (Mem w [(P, #[.pointer (some ⟨w.heap.size, 4, none⟩), .pointer (some ⟨w.heap.size, 5, none⟩), .pointer (some ⟨w.heap.size, 6, none⟩), .pointer (some ⟨w.heap.size, 7, none⟩)], 44), (w.heap.size, #[.int .i64 x0, .int .i64 x1, .int .i64 x2, .int .i64 x3, .int .i64 m0, .int .i64 m1, .int .i64 m2, .int .i64 m3], 26)] (wr.setCell ⟨w.heap.size, 5, none⟩ (.int .i64 m1))) := Lib.hid (HM6.out.set1 5 (.int .i64 m1))
          have HAN : Hid (m0 = (if 0 < 2 then max y0 M else y0) ∧ m1 = (if 1 < 2 then max y1 M else y1) ∧ m2 = (if 2 < 2 then max y2 M else y2) ∧ m3 = (if 3 < 2 then max y3 M else y3)) := Lib.hid (by have h := HA4.out; simp at h ⊢; omega)
          clear HM6 HA4 HM5
          go_wp2
          go_roundg gk'
          case measure => exact Nat.lt_succ_self _
          case rel => exact ⟨2, 2, m0, m1, m2, m3, by omega, rfl, by first | rfl | go_num, HAN, HN⟩
      · subst hk2
        obtain rfl : K = 2 := by omega
        clear hK hk4
        have p0 := HM6.out.cell 2
        have s0 := HM6.out.tail.cell 6
        have f0 := HM6.out.tail.frozen 6
        have l0 := HM6.out.head_lt
        have l1 := HM6.out.tail.head_lt
        have l2 := HM6.out.gt
        simp at p0 s0 l2
        by_cases hx : m2 < M
        · have HN : Hid (Mem w [(P, #[.pointer (some ⟨w.heap.size, 4, none⟩), .pointer (some ⟨w.heap.size, 5, none⟩), .pointer (some ⟨w.heap.size, 6, none⟩), .pointer (some ⟨w.heap.size, 7, none⟩)], 44), (w.heap.size, #[.int .i64 x0, .int .i64 x1, .int .i64 x2, .int .i64 x3, .int .i64 m0, .int .i64 m1, .int .i64 M, .int .i64 m3], 26)] (wr.setCell ⟨w.heap.size, 6, none⟩ (.int .i64 M))) := Lib.hid (HM6.out.set1 6 (.int .i64 M))
          have HAN : Hid (m0 = (if 0 < 3 then max y0 M else y0) ∧ m1 = (if 1 < 3 then max y1 M else y1) ∧ M = (if 2 < 3 then max y2 M else y2) ∧ m3 = (if 3 < 3 then max y3 M else y3)) := Lib.hid (by have h := HA4.out; simp at h ⊢; omega)
          clear HM6 HA4 HM5
          go_wp2
          go_roundg gk'
          case measure => exact Nat.lt_succ_self _
          case rel => exact ⟨3, 3, m0, m1, M, m3, by omega, rfl, by first | rfl | go_num, HAN, HN⟩
        · have HN : Hid (Mem w [(P, #[.pointer (some ⟨w.heap.size, 4, none⟩), .pointer (some ⟨w.heap.size, 5, none⟩), .pointer (some ⟨w.heap.size, 6, none⟩), .pointer (some ⟨w.heap.size, 7, none⟩)], 44), (w.heap.size, #[.int .i64 x0, .int .i64 x1, .int .i64 x2, .int .i64 x3, .int .i64 m0, .int .i64 m1, .int .i64 m2, .int .i64 m3], 26)] (wr.setCell ⟨w.heap.size, 6, none⟩ (.int .i64 m2))) := Lib.hid (HM6.out.set1 6 (.int .i64 m2))
          have HAN : Hid (m0 = (if 0 < 3 then max y0 M else y0) ∧ m1 = (if 1 < 3 then max y1 M else y1) ∧ m2 = (if 2 < 3 then max y2 M else y2) ∧ m3 = (if 3 < 3 then max y3 M else y3)) := Lib.hid (by have h := HA4.out; simp at h ⊢; omega)
          clear HM6 HA4 HM5
          go_wp2
          go_roundg gk'
          case measure => exact Nat.lt_succ_self _
          case rel => exact ⟨3, 3, m0, m1, m2, m3, by omega, rfl, by first | rfl | go_num, HAN, HN⟩
      · subst hk3
        obtain rfl : K = 3 := by omega
        clear hK hk4
        have p0 := HM6.out.cell 3
        have s0 := HM6.out.tail.cell 7
        have f0 := HM6.out.tail.frozen 7
        have l0 := HM6.out.head_lt
        have l1 := HM6.out.tail.head_lt
        have l2 := HM6.out.gt
        simp at p0 s0 l2
        by_cases hx : m3 < M
        · have HN : Hid (Mem w [(P, #[.pointer (some ⟨w.heap.size, 4, none⟩), .pointer (some ⟨w.heap.size, 5, none⟩), .pointer (some ⟨w.heap.size, 6, none⟩), .pointer (some ⟨w.heap.size, 7, none⟩)], 44), (w.heap.size, #[.int .i64 x0, .int .i64 x1, .int .i64 x2, .int .i64 x3, .int .i64 m0, .int .i64 m1, .int .i64 m2, .int .i64 M], 26)] (wr.setCell ⟨w.heap.size, 7, none⟩ (.int .i64 M))) := Lib.hid (HM6.out.set1 7 (.int .i64 M))
          have HAN : Hid (m0 = (if 0 < 4 then max y0 M else y0) ∧ m1 = (if 1 < 4 then max y1 M else y1) ∧ m2 = (if 2 < 4 then max y2 M else y2) ∧ M = (if 3 < 4 then max y3 M else y3)) := Lib.hid (by have h := HA4.out; simp at h ⊢; omega)
          clear HM6 HA4 HM5
          go_wp2
          go_roundg gk'
          case measure => exact Nat.lt_succ_self _
          case rel => exact ⟨4, 4, m0, m1, m2, M, by omega, rfl, by first | rfl | go_num, HAN, HN⟩
        · have HN : Hid (Mem w [(P, #[.pointer (some ⟨w.heap.size, 4, none⟩), .pointer (some ⟨w.heap.size, 5, none⟩), .pointer (some ⟨w.heap.size, 6, none⟩), .pointer (some ⟨w.heap.size, 7, none⟩)], 44), (w.heap.size, #[.int .i64 x0, .int .i64 x1, .int .i64 x2, .int .i64 x3, .int .i64 m0, .int .i64 m1, .int .i64 m2, .int .i64 m3], 26)] (wr.setCell ⟨w.heap.size, 7, none⟩ (.int .i64 m3))) := Lib.hid (HM6.out.set1 7 (.int .i64 m3))
          have HAN : Hid (m0 = (if 0 < 4 then max y0 M else y0) ∧ m1 = (if 1 < 4 then max y1 M else y1) ∧ m2 = (if 2 < 4 then max y2 M else y2) ∧ m3 = (if 3 < 4 then max y3 M else y3)) := Lib.hid (by have h := HA4.out; simp at h ⊢; omega)
          clear HM6 HA4 HM5
          go_wp2
          go_roundg gk'
          case measure => exact Nat.lt_succ_self _
          case rel => exact ⟨4, 4, m0, m1, m2, m3, by omega, rfl, by first | rfl | go_num, HAN, HN⟩
    · obtain rfl : gk = 0 := by omega
      obtain rfl : k = 4 := by omega
      obtain rfl : K = 4 := by omega
      clear hK hk4
      have hA := HA4.out
      simp only [Nat.zero_lt_succ, Nat.reduceLT, if_true] at hA
      obtain ⟨z0, hz0⟩ : ∃ z, z = m0 := ⟨_, rfl⟩
      obtain ⟨z1, hz1⟩ : ∃ z, z = m1 := ⟨_, rfl⟩
      obtain ⟨z2, hz2⟩ : ∃ z, z = m2 := ⟨_, rfl⟩
      obtain ⟨z3, hz3⟩ : ∃ z, z = m3 := ⟨_, rfl⟩
      rw [← hz0, ← hz1, ← hz2, ← hz3] at HM6 hA
      clear hz0 hz1 hz2 hz3 HA4 HM5
      obtain ⟨hA0, hA1, hA2, hA3⟩ := hA
      have hg1 := HG1.out
      obtain ⟨hr2, hle⟩ := ruB_max (M := M) hg1.2 HMM.out.1 HMM.out.2
      simp only at hr2 hle
      rw [← hA0, ← hA1, ← hA2, ← hA3] at hr2 hle
      have hmono := mstE_mono hle hg1.1.1 hg1.1.2 hg1.2 hr2
      obtain ⟨q0, q1, hq⟩ : ∃ q0 q1, mstE ls rs ((x0, x1, x2, x3), (z0, z1, z2, z3)) = (q0, q1) := ⟨_, _, rfl⟩
      rw [hq, HRES.out] at hmono
      simp only at hmono
      obtain ⟨hle2, rfl, rfl⟩ := hmono
      have t0 : decide (r0 ≤ q0) = true := decide_eq_true hle2
      have HSZ : Hid (∀ w', Below wr.heap.size wr w' → w'.cell? ⟨w.heap.size, 0, none⟩ = some (.int .i64 x0) ∧ w'.cell? ⟨w.heap.size, 1, none⟩ = some (.int .i64 x1) ∧ w'.cell? ⟨w.heap.size, 2, none⟩ = some (.int .i64 x2) ∧ w'.cell? ⟨w.heap.size, 3, none⟩ = some (.int .i64 x3) ∧ w'.cell? ⟨w.heap.size, 4, none⟩ = some (.int .i64 z0) ∧ w'.cell? ⟨w.heap.size, 5, none⟩ = some (.int .i64 z1) ∧ w'.cell? ⟨w.heap.size, 6, none⟩ = some (.int .i64 z2) ∧ w'.cell? ⟨w.heap.size, 7, none⟩ = some (.int .i64 z3)) := Lib.hid (fun w' hb => by
        have h1 := (HM6.out.step hb).tail
        exact ⟨h1.cell 0, h1.cell 1, h1.cell 2, h1.cell 3, h1.cell 4, h1.cell 5, h1.cell 6, h1.cell 7⟩)
      have HSLZ := Lib.hid (fun w' hb => side_any a cap ls n1 w' ((HLL.out.below HM6.out.b).below (w' := w') hb))
      have HSRZ := Lib.hid (fun w' hb => side_any a2 cap2 rs n2 w' ((HRR.out.below HM6.out.b).below (w' := w') hb))
      have HGUZ := Lib.hid (fun w' => rule_any x0 x1 x2 x3 z0 z1 z2 z3 w')
      have HWEZ := Lib.hid (fun u1 c1 u2 c2 w' (h1 : RecS w' u1 (ls.take 34)) (h2 : RecS w' u2 (rs.take 34)) (hb : Below wr.heap.size wr w') => pMost_any u1 u2 c1 c2 (ls.take 34) (rs.take 34) x0 x1 x2 x3 z0 z1 z2 z3 (by rw [List.length_take]; omega) (by rw [List.length_take]; omega) w' h1 h2)
      simp only [mstE_take] at HWEZ
      simp only [List.length_take] at HWEZ
      rw [hq] at HWEZ
      have HBL := Lib.hid (Below.refl wr.heap.size wr)
      have HEN := Lib.hid HM6.out.b
      obtain ⟨wl, hwl⟩ : ∃ z, z = wr := ⟨_, rfl⟩
      rw [← hwl] at HSZ HSLZ HSRZ HWEZ HBL HEN ⊢
      clear hwl hA0 hA1 hA2 hA3 hg1 hr2 hle hle2 hq HRES HM6 HMM HG1
      go_upto_region 10 with fail
      go_cut [13, 14, 61, 63, 65] (fun s13 s14 s61 s63 s65 wx => s13 = .int .i64 q0 ∧ s14 = .int .i64 0 ∧ Hid (Below wl.heap.size wl wx))
      case first =>
        refine wp_region_held_drew (S := fun w' => w'.cell? ⟨w.heap.size, 0, none⟩ = some (.int .i64 x0) ∧ w'.cell? ⟨w.heap.size, 1, none⟩ = some (.int .i64 x1) ∧ w'.cell? ⟨w.heap.size, 2, none⟩ = some (.int .i64 x2) ∧ w'.cell? ⟨w.heap.size, 3, none⟩ = some (.int .i64 x3) ∧ w'.cell? ⟨w.heap.size, 4, none⟩ = some (.int .i64 z0) ∧ w'.cell? ⟨w.heap.size, 5, none⟩ = some (.int .i64 z1) ∧ w'.cell? ⟨w.heap.size, 6, none⟩ = some (.int .i64 z2) ∧ w'.cell? ⟨w.heap.size, 7, none⟩ = some (.int .i64 z3)) (by kernel_rfl) (HSZ.out _ (Below.refl _ _).drew) (fun hHeld => ?_)
        refine wpAnyH_take (i := 0) (oi := { dst := some 62, op := Op.move (Operand.tmp 0), type := 22, pos := "law.go:208", after := #[], guard := none }) (v := ?_) rfl (by kernel_rfl) (by kernel_rfl) (by kernel_rfl) (fun _ _ _ h => h) (Or.inl ⟨by rfl, ?_⟩) (by assumption) ?_
        rotate_left
        · intro w' hSw
          (try dsimp only at hSw)
          (try go_split_ands)
          go_simp
          try with_reducible rfl
        (try simp only [Act.put, List.setIfInBounds_toArray, List.set_cons_zero, List.set_cons_succ])
        refine wpAnyH_take (i := 2) (oi := { dst := some 64, op := Op.move (Operand.tmp 1), type := 22, pos := "law.go:208", after := #[], guard := none }) (v := ?_) rfl (by kernel_rfl) (by kernel_rfl) (by kernel_rfl) (fun _ _ _ h => h) (Or.inl ⟨by rfl, ?_⟩) (by assumption) ?_
        rotate_left
        · intro w' hSw
          (try dsimp only at hSw)
          (try go_split_ands)
          go_simp
          try with_reducible rfl
        (try simp only [Act.put, List.setIfInBounds_toArray, List.set_cons_zero, List.set_cons_succ])
        refine wpAnyH_take (i := 4) (oi := { dst := some 66, op := Op.load 26 (Operand.tmp 6), type := 26, pos := "law.go:208", after := #[], guard := none }) (v := ?_) rfl (by kernel_rfl) (by kernel_rfl) (by kernel_rfl) (fun _ _ _ h => h) (Or.inl ⟨by rfl, ?_⟩) (by assumption) ?_
        rotate_left
        · intro w' hSw
          (try dsimp only at hSw)
          (try go_split_ands)
          go_simp
          try with_reducible rfl
        (try simp only [Act.put, List.setIfInBounds_toArray, List.set_cons_zero, List.set_cons_succ])
        refine wpAnyH_ready (rs := [1]) (by kernel_rfl) (by simp) ?_
        refine (AllReadyH.cons (o := { dst := some 63, op := Op.call { callee := Callee.value (Operand.func 10), args := #[Operand.tmp 62], argTypes := #[22] }, type := 30, pos := "law.go:208", after := #[{ on := 0, ground := Ground.data }], guard := none }) rfl (fun K hK => ?_) AllReadyH.nil)
        go_simp
        go_at_call 10
        with_reducible (refine (HSLZ.out _ HBL.out.drew).mono ?_)
        rintro e v1 ⟨a1, c1, rfl, hA, hb1⟩
        have HA := Lib.hid hA
        have HB1 := Lib.hid (HBL.out.drew.trans (hb1.mono HBL.out.drew.size))
        clear hA hb1
        (try go_wp2_with fail)
        refine hK.out _ _ (HSZ.out _ HB1.out) (fun hHeld => ?_)
        clear hK K
        (try simp only [Act.put, List.setIfInBounds_toArray, List.set_cons_zero, List.set_cons_succ])
        refine wpAnyH_ready (rs := [3]) (by kernel_rfl) (by simp) ?_
        refine (AllReadyH.cons (o := { dst := some 65, op := Op.call { callee := Callee.value (Operand.func 10), args := #[Operand.tmp 64], argTypes := #[22] }, type := 30, pos := "law.go:208", after := #[{ on := 2, ground := Ground.data }, { on := 1, ground := Ground.chain }], guard := none }) rfl (fun K hK => ?_) AllReadyH.nil)
        go_simp
        go_at_call 10
        with_reducible (refine (HSRZ.out _ HB1.out).mono ?_)
        rintro e v2 ⟨a2, c2, rfl, hA, hb2⟩
        have HC := Lib.hid hA
        have HA2 := Lib.hid (HA.out.below hb2)
        have HB2 := Lib.hid (HB1.out.trans (hb2.mono HB1.out.size))
        clear hA hb2
        (try go_wp2_with fail)
        refine hK.out _ _ (HSZ.out _ HB2.out) (fun hHeld => ?_)
        clear hK K
        (try simp only [Act.put, List.setIfInBounds_toArray, List.set_cons_zero, List.set_cons_succ])
        refine wpAnyH_ready (rs := [5]) (by kernel_rfl) (by simp) ?_
        refine (AllReadyH.cons (o := { dst := some 67, op := Op.call { callee := Callee.value (Operand.func 11), args := #[Operand.tmp 66], argTypes := #[26] }, type := 34, pos := "law.go:208", after := #[{ on := 4, ground := Ground.data }, { on := 3, ground := Ground.chain }], guard := none }) rfl (fun K hK => ?_) AllReadyH.nil)
        go_simp
        go_at_call 11
        with_reducible (refine (HGUZ.out _).mono ?_)
        rintro e v3 ⟨rfl, hb3⟩
        have HA3 := Lib.hid (HA2.out.below hb3)
        have HC3 := Lib.hid (HC.out.below hb3)
        have HB3 := Lib.hid (HB2.out.trans (hb3.mono HB2.out.size))
        clear hb3
        (try go_wp2_with fail)
        refine hK.out _ _ (HSZ.out _ HB3.out) (fun hHeld => ?_)
        clear hK K
        (try simp only [Act.put, List.setIfInBounds_toArray, List.set_cons_zero, List.set_cons_succ])
        refine wpAnyH_ready (rs := [6]) (by kernel_rfl) (by simp) ?_
        refine (AllReadyH.cons (o := { dst := some 68, op := Op.call { callee := Callee.value (Operand.func 9), args := #[Operand.tmp 63, Operand.tmp 65, Operand.tmp 67], argTypes := #[30, 30, 34] }, type := 28, pos := "law.go:208", after := #[{ on := 1, ground := Ground.data }, { on := 3, ground := Ground.data }, { on := 5, ground := Ground.data }, { on := 5, ground := Ground.chain }], guard := none }) rfl (fun K hK => ?_) AllReadyH.nil)
        go_simp
        go_at_call 9
        with_reducible (refine (HWEZ.out _ _ _ _ _ HA3.out HC3.out HB3.out).mono ?_)
        rintro e v4 ⟨rfl, hb4⟩
        have HB4 := Lib.hid (HB3.out.trans (hb4.mono HB3.out.size))
        clear hb4
        (try go_wp2_with fail)
        refine hK.out _ _ (HSZ.out _ HB4.out) (fun hHeld => ?_)
        clear hK K
        (try simp only [Act.put, List.setIfInBounds_toArray, List.set_cons_zero, List.set_cons_succ])
        refine wpAnyH_take (i := 7) (oi := { dst := some 61, op := Op.move (Operand.tmp 68), type := 28, pos := "law.go:208", after := #[{ on := 6, ground := Ground.data }], guard := none }) (v := ?_) rfl (by kernel_rfl) (by kernel_rfl) (by kernel_rfl) (fun _ _ _ h => h) (Or.inl ⟨by rfl, ?_⟩) (by assumption) ?_
        rotate_left
        · intro w' hSw
          (try dsimp only at hSw)
          (try go_split_ands)
          go_simp
          try with_reducible rfl
        (try simp only [Act.put, List.setIfInBounds_toArray, List.set_cons_zero, List.set_cons_succ])
        refine wpAnyH_take (i := 8) (oi := { dst := some 69, op := Op.extract (Operand.tmp 61) 0, type := 3, pos := "law.go:208", after := #[{ on := 7, ground := Ground.data }], guard := none }) (v := ?_) rfl (by kernel_rfl) (by kernel_rfl) (by kernel_rfl) (fun _ _ _ h => h) (Or.inl ⟨by rfl, ?_⟩) (by assumption) ?_
        rotate_left
        · intro w' hSw
          (try dsimp only at hSw)
          (try go_split_ands)
          go_simp
          try with_reducible rfl
        (try simp only [Act.put, List.setIfInBounds_toArray, List.set_cons_zero, List.set_cons_succ])
        refine wpAnyH_take (i := 9) (oi := { dst := some 70, op := Op.extract (Operand.tmp 61) 1, type := 27, pos := "law.go:208", after := #[{ on := 7, ground := Ground.data }, { on := 10, ground := Ground.gcOnly Departure.lateStores }], guard := none }) (v := ?_) rfl (by kernel_rfl) (by kernel_rfl) (by kernel_rfl) (fun _ _ _ h => h) (Or.inl ⟨by rfl, ?_⟩) (by assumption) ?_
        rotate_left
        · intro w' hSw
          (try dsimp only at hSw)
          (try go_split_ands)
          go_simp
          try with_reducible rfl
        (try simp only [Act.put, List.setIfInBounds_toArray, List.set_cons_zero, List.set_cons_succ])
        refine wpAnyH_take (i := 10) (oi := { dst := some 13, op := Op.assign (Operand.tmp 69), type := 3, pos := "law.go:208", after := #[{ on := 8, ground := Ground.data }, { on := 6, ground := Ground.chain }, { on := 0, ground := Ground.phase }, { on := 1, ground := Ground.phase }, { on := 2, ground := Ground.phase }, { on := 3, ground := Ground.phase }, { on := 4, ground := Ground.phase }, { on := 5, ground := Ground.phase }, { on := 6, ground := Ground.phase }, { on := 7, ground := Ground.phase }, { on := 8, ground := Ground.phase }, { on := 9, ground := Ground.textOnly Departure.lateStores }], guard := none }) (v := ?_) rfl (by kernel_rfl) (by kernel_rfl) (by kernel_rfl) (fun _ _ _ h => h) (Or.inl ⟨by rfl, ?_⟩) (by assumption) ?_
        rotate_left
        · intro w' hSw
          (try dsimp only at hSw)
          (try go_split_ands)
          go_simp
          try with_reducible rfl
        (try simp only [Act.put, List.setIfInBounds_toArray, List.set_cons_zero, List.set_cons_succ])
        refine wpAnyH_take (i := 11) (oi := { dst := some 14, op := Op.assign (Operand.tmp 70), type := 27, pos := "law.go:208", after := #[{ on := 9, ground := Ground.data }, { on := 10, ground := Ground.chain }, { on := 0, ground := Ground.phase }, { on := 1, ground := Ground.phase }, { on := 2, ground := Ground.phase }, { on := 3, ground := Ground.phase }, { on := 4, ground := Ground.phase }, { on := 5, ground := Ground.phase }, { on := 6, ground := Ground.phase }, { on := 7, ground := Ground.phase }, { on := 8, ground := Ground.phase }, { on := 9, ground := Ground.phase }, { on := 10, ground := Ground.phase }], guard := none }) (v := ?_) rfl (by kernel_rfl) (by kernel_rfl) (by kernel_rfl) (fun _ _ _ h => h) (Or.inl ⟨by rfl, ?_⟩) (by assumption) ?_
        rotate_left
        · intro w' hSw
          (try dsimp only at hSw)
          (try go_split_ands)
          go_simp
          try with_reducible rfl
        (try simp only [Act.put, List.setIfInBounds_toArray, List.set_cons_zero, List.set_cons_succ])
        refine wpAnyH_done (by kernel_rfl) ?_ _
        go_wp2_with fail
        go_meet
        exact ⟨rfl, rfl, HB4⟩
      case rest =>
      obtain ⟨rfl, rfl, HBE⟩ := hcut
      go_wp2_with fail
      refine (pAwake_any _).mono ?_
      rintro e w9 ⟨rfl, hb⟩
      have HE := Lib.hid (HEN.out.trans ((HBE.out.trans (hb.mono HBE.out.size)).mono HEN.out.size))
      clear hb
      go_wp2
      go_ret
      exact ⟨rfl, HE.out⟩

theorem own : ownKnob Try.prog.godebug = none := by kernel_rfl

set_option maxRecDepth 100000 in
theorem lifted (os : Os) (started : os.Started) (H : Type) (enc : TypeId × Value → H) :
    ReturnsInHanded {} Try.checked os 4 .any (Rows.pairLimitsSpec.pre6 enc Try.prog Try.f4 Rows.pairLimitsRow.domain false) (Rows.pairLimitsSpec.post enc Try.prog Try.f4 false true false false) := by
  refine returnsInHanded_of_change (C := Try.checked) own started (by kernel_rfl) Try.func4
    (ChangeSpec.witness6 (enc := enc) (C := Try.checked) false ⟨#[], #[.slice none 0 0, .slice none 0 0, .agg #[.int .i64 0, .int .i64 0, .int .i64 0, .int .i64 0, .int .i64 0, .int .i64 0, .int .i64 0, .int .i64 0], .int .i64 0], []⟩ 8 (by kernel_rfl) (by kernel_rfl) (by kernel_rfl) (by kernel_rfl)) ?_
  intro W base args ds gs before hval0 hW hcnd _
  have hval : ∀ (j : Nat) t v, Try.f4.params[j]? = some t → args[j]? = some v → Value.okWide Try.prog W .any base t v := hval0
  have hW' := hW
  obtain ⟨p, q, hA0, hV, rfl, hfz, hnd⟩ := hW
  have hA : DataW.TrodAll enc Try.prog W 0 (fun _ => true) true Try.f4.params.toList args.toList ds p := hA0
  rw [Try.params4] at hA hval
  obtain ⟨v0, vs0, d0, ds0, p0, q0, hargs, rfl, rfl, h0, r0⟩ := trodAll_cons hA
  obtain ⟨v1, vs1, d1, ds1, p1, q1, rfl, rfl, rfl, h1, r1⟩ := trodAll_cons r0
  obtain ⟨v2, vs2, d2, ds2, p2, q2, rfl, rfl, rfl, h2, r2⟩ := trodAll_cons r1
  obtain ⟨v3, vs3, d3, ds3, p3, q3, rfl, rfl, rfl, h3, r3⟩ := trodAll_cons r2
  obtain ⟨rfl, rfl, rfl⟩ := trodAll_nil r3
  obtain rfl : args = #[v0, v1, v2, v3] := by cases args; simp_all
  obtain ⟨rfl, rfl⟩ := trodVars_none hV
  obtain ⟨a0, len0, cap0, rfl⟩ := okWide_slice Try.underlying22 (hval 0 22 v0 rfl rfl)
  have k0 := h0
  have lt0 : ∀ x ∈ p0, x.block < W.heap.size := by obtain ⟨m, hm⟩ := k0; exact DataW.trod_lt m _ _ _ hm
  obtain ⟨fs0, hl0, hF0, wf0⟩ := open_recs h0
  subst hl0
  obtain ⟨a1, len1, cap1, rfl⟩ := okWide_slice Try.underlying22 (hval 1 22 v1 rfl rfl)
  have k1 := h1
  have lt1 : ∀ x ∈ p1, x.block < W.heap.size := by obtain ⟨m, hm⟩ := k1; exact DataW.trod_lt m _ _ _ hm
  obtain ⟨fs1, hl1, hF1, wf1⟩ := open_recs h1
  subst hl1
  obtain ⟨n2a, n2b, n2c, n2d, n2e, n2f, n2g, n2h, rfl⟩ := open_rule (hval 2 26 v2 rfl rfl) h2
  have k2 := h2
  have lt2 : ∀ x ∈ p2, x.block < W.heap.size := by obtain ⟨m, hm⟩ := k2; exact DataW.trod_lt m _ _ _ hm
  obtain ⟨n3, rfl, rfl, rfl, wn3⟩ := open_int Try.underlying3 (hval 3 3 v3 rfl rfl) h3
  clear hA0 hval0
  refine (walk a0 cap0 fs0 wf0 a1 cap1 fs1 wf1 n2a n2b n2c n2d n2e n2f n2g n2h n3 wn3 W hF0 hF1).mono fun e W' ⟨he, hb⟩ => ?_
  subst he
  exact ⟨_, rfl, _, _, _, [], _, [], hW', trodAll_mk1 (shut_bool Try.underlying4 _), (trodAll_cons_mk (Below.trod pLaidOut (by kernel_rfl) (of_decide_eq_true (by kernel_rfl)) k0 hb lt0) (trodAll_cons_mk (Below.trod pLaidOut (by kernel_rfl) (of_decide_eq_true (by kernel_rfl)) k1 hb lt1) (trodAll_cons_mk (Below.trod pLaidOut (by kernel_rfl) (of_decide_eq_true (by kernel_rfl)) k2 hb lt2) (trodAll_cons_mk (shut_int Try.underlying3 wn3) trodAll_mk0)))), rfl, hb.frame _, fun h => by cases h⟩

theorem over : Rows.pairLimitsRow.holds Try.pinned (OpenSpec.ofChange Rows.pairLimitsSpec) :=
  OpenClaim.holds_of_wide 4 Try.f4 rfl rfl rfl rfl rfl rfl rfl ⟨rfl, rfl, rfl, rfl, rfl⟩ rfl rfl rfl rfl rfl (by kernel_rfl) Try.func4 (by kernel_rfl)
    (of_decide_eq_true (by kernel_rfl)) (by unfold Func.isWrapper; first | (rw [if_pos (by decide +kernel)]; kernel_rfl) | (rw [if_neg (by decide +kernel)]; exact ⟨rfl, rfl⟩))
    (fun os started H enc _ => lifted os started H enc)

/-- THE STATEMENT. -/
theorem proved : Rows.PairLimitsSaid := over
#print axioms proved

end Go.Proofs.Ytchhadkmemckbab.lawPairLimits

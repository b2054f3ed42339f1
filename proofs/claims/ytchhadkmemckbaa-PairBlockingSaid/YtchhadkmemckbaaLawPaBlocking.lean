/- PairBlocking: Blocking answers as the document's own does, for every two sides, every rule and every slice; no condition. -/
import Derived.Test.YtchhadkmemckbaaRows
import Derived.ProofKit
import Derived.OpenShut
import Derived.Lib.SmallJoins
import Derived.Test.YtchhadkmemckbaaPbL
import Derived.Test.YtchhadkmemckbaaPbM
namespace Go.Proofs.Ytchhadkmemckbaa.lawPairBlocking
open Go.ChangeShapes Go.WideShapes Go.ChangeAt Go.RowKit Go.Joins
set_option linter.unusedVariables false
set_option linter.unusedSimpArgs false

set_option maxRecDepth 100000 in
set_option maxHeartbeats 6400000 in
theorem walk (a : Option Addr) (cap : Nat) (ls : List Rc) (wf1 : ls.length ≤ maxLen ∧ ∀ r ∈ ls, (Lit.int .i64 r.1).wf = true ∧ (Lit.int .i64 r.2.1).wf = true ∧ (Lit.int .i64 r.2.2.1).wf = true ∧ (Lit.int .i64 r.2.2.2).wf = true) (a2 : Option Addr) (cap2 : Nat) (rs : List Rc) (wf2 : rs.length ≤ maxLen ∧ ∀ r ∈ rs, (Lit.int .i64 r.1).wf = true ∧ (Lit.int .i64 r.2.1).wf = true ∧ (Lit.int .i64 r.2.2.1).wf = true ∧ (Lit.int .i64 r.2.2.2).wf = true) (x0 x1 x2 x3 y0 y1 y2 y3 : Int) (a3 : Option Addr) (cap3 : Nat) (m : List Int) (wf3 : m.length ≤ maxLen ∧ ∀ z ∈ m, (Lit.int .i64 z).wf = true) (w : World) (hl : RecS w a ls) (hr : RecS w a2 rs) (hk : IntK w a3 m) :
    Calls Try.prog 13 #[.slice a ls.length cap, .slice a2 rs.length cap2, .agg #[.int .i64 x0, .int .i64 x1, .int .i64 x2, .int .i64 x3, .int .i64 y0, .int .i64 y1, .int .i64 y2, .int .i64 y3], .slice a3 m.length cap3] w fun e w' => e = .returned (.bool true) ∧ Below w.heap.size w w' := by
  have n1 : (ls.length : Int) ≤ 9223372036854775807 := by have := wf1.1; unfold maxLen at this; omega
  have n2 : (rs.length : Int) ≤ 9223372036854775807 := by have := wf2.1; unfold maxLen at this; omega
  have hm := (Mem.nil w).alloc_at (H := w.heap.size) rfl #[.int .i64 x0, .int .i64 x1, .int .i64 x2, .int .i64 x3, .int .i64 y0, .int .i64 y1, .int .i64 y2, .int .i64 y3] 25
  obtain ⟨wd, hwd⟩ : ∃ z, z = w.alloc (.cells #[.int .i64 x0, .int .i64 x1, .int .i64 x2, .int .i64 x3, .int .i64 y0, .int .i64 y1, .int .i64 y2, .int .i64 y3] 25) := ⟨_, rfl⟩
  rw [← hwd] at hm
  have HM := Lib.hid hm
  have HS : Hid (∀ w', Below wd.heap.size wd w' → w'.cell? ⟨w.heap.size, 0, none⟩ = some (.int .i64 x0) ∧ w'.cell? ⟨w.heap.size, 1, none⟩ = some (.int .i64 x1) ∧ w'.cell? ⟨w.heap.size, 2, none⟩ = some (.int .i64 x2) ∧ w'.cell? ⟨w.heap.size, 3, none⟩ = some (.int .i64 x3) ∧ w'.cell? ⟨w.heap.size, 4, none⟩ = some (.int .i64 y0) ∧ w'.cell? ⟨w.heap.size, 5, none⟩ = some (.int .i64 y1) ∧ w'.cell? ⟨w.heap.size, 6, none⟩ = some (.int .i64 y2) ∧ w'.cell? ⟨w.heap.size, 7, none⟩ = some (.int .i64 y3)) := Lib.hid (fun w' hb => by
    have h1 := hm.step hb
    exact ⟨h1.cell 0, h1.cell 1, h1.cell 2, h1.cell 3, h1.cell 4, h1.cell 5, h1.cell 6, h1.cell 7⟩)
  have HSL := Lib.hid (fun w' hb => side_any a cap ls n1 w' ((hl.below hm.b).below (w' := w') hb))
  have HSR := Lib.hid (fun w' hb => side_any a2 cap2 rs n2 w' ((hr.below hm.b).below (w' := w') hb))
  have HGU := Lib.hid (fun w' => rule_any x0 x1 x2 x3 y0 y1 y2 y3 w')
  have HWE := Lib.hid (fun z1 c1 z2 c2 w' (h1 : RecS w' z1 (ls.take 34)) (h2 : RecS w' z2 (rs.take 34)) (hb : Below wd.heap.size wd w') => blocking_any z1 z2 a3 c1 c2 cap3 (ls.take 34) (rs.take 34) x0 x1 x2 x3 y0 y1 y2 y3 m (by rw [List.length_take]; omega) (by rw [List.length_take]; omega) w' h1 h2 ((hk.below hm.b).below hb))
  have HRW := Lib.hid (fun w' (hb : Below wd.heap.size wd w') => rBlocking_any a a2 a3 cap cap2 cap3 ls rs x0 x1 x2 x3 y0 y1 y2 y3 m n1 n2 w' ((hl.below hm.b).below hb) ((hr.below hm.b).below hb) ((hk.below hm.b).below hb))
  simp only [bloE_take] at HWE
  simp only [List.length_take] at HWE
  have hbl : (bloE ls rs ((x0, x1, x2, x3), (y0, y1, y2, y3)) m).1.length ≤ 20000 := by
    unfold bloE
    split
    · rename_i h0
      simp only [Bool.and_eq_true] at h0
      have k1 : ls.length ≤ 32 := by have := h0.1.1; unfold sidB at this; simp at this; omega
      have k2 : rs.length ≤ 32 := by have := h0.1.2; unfold sidB at this; simp at this; omega
      split
      · split
        · rename_i o s c he
          have h1 := pal_len (blkB (cosT ls rs ((x0, x1, x2, x3), (y0, y1, y2, y3))) m o) rs.length ls.length
          have h3 : ls.length * rs.length ≤ 32 * 32 := Nat.mul_le_mul k1 k2
          show (pal _ _ _).length ≤ 20000
          omega
        · simp
      · simp
    · simp
  obtain ⟨FL, ee, hres⟩ : ∃ FL ee, bloE ls rs ((x0, x1, x2, x3), (y0, y1, y2, y3)) m = (FL, ee) := ⟨_, _, rfl⟩
  rw [hres] at HWE HRW hbl
  simp only at hbl HWE HRW
  have HB0 := Lib.hid (Below.refl wd.heap.size wd)
  have HWD := Lib.hid hwd
  clear hres hm hwd hl hr hk wf1 wf2 wf3
  go_enter Try.func13, Try.ntmps13
  go_upto_region 1 with fail
  rw [← HWD.out]
  go_cut [9, 10, 15, 17, 19] (fun s9 s10 s15 s17 s19 wx => (∃ z1, (∃ d1, s9 = .slice z1 FL.length d1) ∧ Hid (PtS wx z1 FL)) ∧ s10 = .int .i64 ee ∧ Hid (Below wd.heap.size wd wx))
  case first =>
    refine wp_region_held_drew (S := fun w' => w'.cell? ⟨w.heap.size, 0, none⟩ = some (.int .i64 x0) ∧ w'.cell? ⟨w.heap.size, 1, none⟩ = some (.int .i64 x1) ∧ w'.cell? ⟨w.heap.size, 2, none⟩ = some (.int .i64 x2) ∧ w'.cell? ⟨w.heap.size, 3, none⟩ = some (.int .i64 x3) ∧ w'.cell? ⟨w.heap.size, 4, none⟩ = some (.int .i64 y0) ∧ w'.cell? ⟨w.heap.size, 5, none⟩ = some (.int .i64 y1) ∧ w'.cell? ⟨w.heap.size, 6, none⟩ = some (.int .i64 y2) ∧ w'.cell? ⟨w.heap.size, 7, none⟩ = some (.int .i64 y3)) (by kernel_rfl) (HS.out _ (Below.refl _ _).drew) (fun hHeld => ?_)
    refine wpAnyH_take (i := 0) (oi := { dst := some 14, op := Op.move (Operand.tmp 0), type := 37, pos := "law.go:140", after := #[], guard := none }) (v := ?_) rfl (by kernel_rfl) (by kernel_rfl) (by kernel_rfl) (fun _ _ _ h => h) (Or.inl ⟨by rfl, ?_⟩) (by assumption) ?_
    rotate_left
    · intro w' hSw
      (try dsimp only at hSw)
      (try go_split_ands)
      go_simp
      try with_reducible rfl
    (try simp only [Act.put, List.setIfInBounds_toArray, List.set_cons_zero, List.set_cons_succ])
    refine wpAnyH_take (i := 2) (oi := { dst := some 16, op := Op.move (Operand.tmp 1), type := 37, pos := "law.go:140", after := #[], guard := none }) (v := ?_) rfl (by kernel_rfl) (by kernel_rfl) (by kernel_rfl) (fun _ _ _ h => h) (Or.inl ⟨by rfl, ?_⟩) (by assumption) ?_
    rotate_left
    · intro w' hSw
      (try dsimp only at hSw)
      (try go_split_ands)
      go_simp
      try with_reducible rfl
    (try simp only [Act.put, List.setIfInBounds_toArray, List.set_cons_zero, List.set_cons_succ])
    refine wpAnyH_take (i := 4) (oi := { dst := some 18, op := Op.load 25 (Operand.tmp 6), type := 25, pos := "law.go:140", after := #[], guard := none }) (v := ?_) rfl (by kernel_rfl) (by kernel_rfl) (by kernel_rfl) (fun _ _ _ h => h) (Or.inl ⟨by rfl, ?_⟩) (by assumption) ?_
    rotate_left
    · intro w' hSw
      (try dsimp only at hSw)
      (try go_split_ands)
      go_simp
      try with_reducible rfl
    (try simp only [Act.put, List.setIfInBounds_toArray, List.set_cons_zero, List.set_cons_succ])
    refine wpAnyH_take (i := 6) (oi := { dst := some 20, op := Op.move (Operand.tmp 3), type := 38, pos := "law.go:140", after := #[], guard := none }) (v := ?_) rfl (by kernel_rfl) (by kernel_rfl) (by kernel_rfl) (fun _ _ _ h => h) (Or.inl ⟨by rfl, ?_⟩) (by assumption) ?_
    rotate_left
    · intro w' hSw
      (try dsimp only at hSw)
      (try go_split_ands)
      go_simp
      try with_reducible rfl
    (try simp only [Act.put, List.setIfInBounds_toArray, List.set_cons_zero, List.set_cons_succ])
    refine wpAnyH_ready (rs := [1]) (by kernel_rfl) (by simp) ?_
    refine (AllReadyH.cons (o := { dst := some 15, op := Op.call { callee := Callee.value (Operand.func 21), args := #[Operand.tmp 14], argTypes := #[37] }, type := 41, pos := "law.go:140", after := #[{ on := 0, ground := Ground.data }], guard := none }) rfl (fun K hK => ?_) AllReadyH.nil)
    go_simp
    go_at_call 21
    with_reducible (refine (HSL.out _ HB0.out.drew).mono ?_)
    rintro e w1 ⟨a1, c1, rfl, hA, hb1⟩
    have HA := Lib.hid hA
    have HB1 := Lib.hid (HB0.out.drew.trans (hb1.mono HB0.out.drew.size))
    clear hA hb1
    (try go_wp2_with fail)
    refine hK.out _ _ (HS.out _ HB1.out) (fun hHeld => ?_)
    clear hK K
    (try simp only [Act.put, List.setIfInBounds_toArray, List.set_cons_zero, List.set_cons_succ])
    refine wpAnyH_ready (rs := [3]) (by kernel_rfl) (by simp) ?_
    refine (AllReadyH.cons (o := { dst := some 17, op := Op.call { callee := Callee.value (Operand.func 21), args := #[Operand.tmp 16], argTypes := #[37] }, type := 41, pos := "law.go:140", after := #[{ on := 2, ground := Ground.data }, { on := 1, ground := Ground.chain }], guard := none }) rfl (fun K hK => ?_) AllReadyH.nil)
    go_simp
    go_at_call 21
    with_reducible (refine (HSR.out _ HB1.out).mono ?_)
    rintro e w2 ⟨a2, c2, rfl, hA, hb2⟩
    have HC := Lib.hid hA
    have HA2 := Lib.hid (HA.out.below hb2)
    have HB2 := Lib.hid (HB1.out.trans (hb2.mono HB1.out.size))
    clear hA hb2
    (try go_wp2_with fail)
    refine hK.out _ _ (HS.out _ HB2.out) (fun hHeld => ?_)
    clear hK K
    (try simp only [Act.put, List.setIfInBounds_toArray, List.set_cons_zero, List.set_cons_succ])
    refine wpAnyH_ready (rs := [5]) (by kernel_rfl) (by simp) ?_
    refine (AllReadyH.cons (o := { dst := some 19, op := Op.call { callee := Callee.value (Operand.func 17), args := #[Operand.tmp 18], argTypes := #[25] }, type := 32, pos := "law.go:140", after := #[{ on := 4, ground := Ground.data }, { on := 3, ground := Ground.chain }], guard := none }) rfl (fun K hK => ?_) AllReadyH.nil)
    go_simp
    go_at_call 17
    with_reducible (refine (HGU.out _).mono ?_)
    rintro e w3 ⟨rfl, hb3⟩
    have HA3 := Lib.hid (HA2.out.below hb3)
    have HC3 := Lib.hid (HC.out.below hb3)
    have HB3 := Lib.hid (HB2.out.trans (hb3.mono HB2.out.size))
    clear hb3
    (try go_wp2_with fail)
    refine hK.out _ _ (HS.out _ HB3.out) (fun hHeld => ?_)
    clear hK K
    (try simp only [Act.put, List.setIfInBounds_toArray, List.set_cons_zero, List.set_cons_succ])
    refine wpAnyH_ready (rs := [7]) (by kernel_rfl) (by simp) ?_
    refine (AllReadyH.cons (o := { dst := some 21, op := Op.call { callee := Callee.value (Operand.func 39), args := #[Operand.tmp 15, Operand.tmp 17, Operand.tmp 19, Operand.tmp 20], argTypes := #[41, 41, 32, 38] }, type := 61, pos := "law.go:140", after := #[{ on := 1, ground := Ground.data }, { on := 3, ground := Ground.data }, { on := 5, ground := Ground.data }, { on := 6, ground := Ground.data }, { on := 5, ground := Ground.chain }], guard := none }) rfl (fun K hK => ?_) AllReadyH.nil)
    go_simp
    go_at_call 39
    with_reducible (refine (HWE.out _ _ _ _ _ HA3.out HC3.out HB3.out).mono ?_)
    rintro e w4 ⟨z1, d1, rfl, hp4, hb4⟩
    have HP4 := Lib.hid hp4
    have HB4 := Lib.hid (HB3.out.trans (hb4.mono HB3.out.size))
    clear hb4 hp4
    (try go_wp2_with fail)
    refine hK.out _ _ (HS.out _ HB4.out) (fun hHeld => ?_)
    clear hK K
    (try simp only [Act.put, List.setIfInBounds_toArray, List.set_cons_zero, List.set_cons_succ])
    refine wpAnyH_take (i := 8) (oi := { dst := some 13, op := Op.move (Operand.tmp 21), type := 61, pos := "law.go:140", after := #[{ on := 7, ground := Ground.data }], guard := none }) (v := ?_) rfl (by kernel_rfl) (by kernel_rfl) (by kernel_rfl) (fun _ _ _ h => h) (Or.inl ⟨by rfl, ?_⟩) (by assumption) ?_
    rotate_left
    · intro w' hSw
      (try dsimp only at hSw)
      (try go_split_ands)
      go_simp
      try with_reducible rfl
    (try simp only [Act.put, List.setIfInBounds_toArray, List.set_cons_zero, List.set_cons_succ])
    refine wpAnyH_take (i := 9) (oi := { dst := some 22, op := Op.extract (Operand.tmp 13) 0, type := 60, pos := "law.go:140", after := #[{ on := 8, ground := Ground.data }], guard := none }) (v := ?_) rfl (by kernel_rfl) (by kernel_rfl) (by kernel_rfl) (fun _ _ _ h => h) (Or.inl ⟨by rfl, ?_⟩) (by assumption) ?_
    rotate_left
    · intro w' hSw
      (try dsimp only at hSw)
      (try go_split_ands)
      go_simp
      try with_reducible rfl
    (try simp only [Act.put, List.setIfInBounds_toArray, List.set_cons_zero, List.set_cons_succ])
    refine wpAnyH_take (i := 10) (oi := { dst := some 23, op := Op.extract (Operand.tmp 13) 1, type := 26, pos := "law.go:140", after := #[{ on := 8, ground := Ground.data }, { on := 11, ground := Ground.gcOnly Departure.lateStores }], guard := none }) (v := ?_) rfl (by kernel_rfl) (by kernel_rfl) (by kernel_rfl) (fun _ _ _ h => h) (Or.inl ⟨by rfl, ?_⟩) (by assumption) ?_
    rotate_left
    · intro w' hSw
      (try dsimp only at hSw)
      (try go_split_ands)
      go_simp
      try with_reducible rfl
    (try simp only [Act.put, List.setIfInBounds_toArray, List.set_cons_zero, List.set_cons_succ])
    refine wpAnyH_take (i := 11) (oi := { dst := some 9, op := Op.assign (Operand.tmp 22), type := 60, pos := "law.go:140", after := #[{ on := 9, ground := Ground.data }, { on := 7, ground := Ground.chain }, { on := 0, ground := Ground.phase }, { on := 1, ground := Ground.phase }, { on := 2, ground := Ground.phase }, { on := 3, ground := Ground.phase }, { on := 4, ground := Ground.phase }, { on := 5, ground := Ground.phase }, { on := 6, ground := Ground.phase }, { on := 7, ground := Ground.phase }, { on := 8, ground := Ground.phase }, { on := 9, ground := Ground.phase }, { on := 10, ground := Ground.textOnly Departure.lateStores }], guard := none }) (v := ?_) rfl (by kernel_rfl) (by kernel_rfl) (by kernel_rfl) (fun _ _ _ h => h) (Or.inl ⟨by rfl, ?_⟩) (by assumption) ?_
    rotate_left
    · intro w' hSw
      (try dsimp only at hSw)
      (try go_split_ands)
      go_simp
      try with_reducible rfl
    (try simp only [Act.put, List.setIfInBounds_toArray, List.set_cons_zero, List.set_cons_succ])
    refine wpAnyH_take (i := 12) (oi := { dst := some 10, op := Op.assign (Operand.tmp 23), type := 26, pos := "law.go:140", after := #[{ on := 10, ground := Ground.data }, { on := 11, ground := Ground.chain }, { on := 0, ground := Ground.phase }, { on := 1, ground := Ground.phase }, { on := 2, ground := Ground.phase }, { on := 3, ground := Ground.phase }, { on := 4, ground := Ground.phase }, { on := 5, ground := Ground.phase }, { on := 6, ground := Ground.phase }, { on := 7, ground := Ground.phase }, { on := 8, ground := Ground.phase }, { on := 9, ground := Ground.phase }, { on := 10, ground := Ground.phase }, { on := 11, ground := Ground.phase }], guard := none }) (v := ?_) rfl (by kernel_rfl) (by kernel_rfl) (by kernel_rfl) (fun _ _ _ h => h) (Or.inl ⟨by rfl, ?_⟩) (by assumption) ?_
    rotate_left
    · intro w' hSw
      (try dsimp only at hSw)
      (try go_split_ands)
      go_simp
      try with_reducible rfl
    (try simp only [Act.put, List.setIfInBounds_toArray, List.set_cons_zero, List.set_cons_succ])
    refine wpAnyH_done (by kernel_rfl) ?_ _
    go_wp2_with fail
    go_meet
    exact ⟨⟨z1, ⟨d1, rfl⟩, HP4⟩, rfl, HB4⟩
  case rest =>
  obtain ⟨⟨z1, ⟨d1, rfl⟩, HP⟩, rfl, HB⟩ := hcut
  obtain ⟨k0, k1, k2, k3, k4, k5, k6, k7⟩ := HS.out _ HB.out
  have LK : wd.heap.size ≤ wc.heap.size := HB.out.size
  have b0 : w.heap.size < wd.heap.size := HM.out.head_lt
  go_wp2_with fail
  refine (HRW.out _ HB.out).mono ?_
  rintro e w6 ⟨z2, d2, rfl, hp6, hb6⟩
  have HP1 := Lib.hid (HP.out.below hb6)
  have HB6 := Lib.hid (HB.out.trans (hb6.mono HB.out.size))
  have HEQ := Lib.hid (fun w' (hb : Below w6.heap.size w6 w') => equalP_any z1 z2 d1 d2 FL (by omega) w' (HP1.out.below hb) (hp6.below hb))
  clear hb6 hp6 k0 k1 k2 k3 k4 k5 k6 k7 LK b0 HB HP
  have t0 : (ee == ee) = true := by simp
  go_wp2_with fail
  refine (HEQ.out _ (Below.refl w6.heap.size w6)).mono ?_
  rintro e w7 ⟨rfl, hb7⟩
  have HB7 := Lib.hid (HB6.out.trans (hb7.mono HB6.out.size))
  clear hb7 HEQ HB6
  go_wp2_with fail
  refine (pAwake_any _).mono ?_
  rintro e w9 ⟨rfl, hb⟩
  have HE := Lib.hid (HM.out.b.trans ((HB7.out.trans (hb.mono HB7.out.size)).mono HM.out.b.size))
  clear hb
  go_wp2
  go_ret
  exact ⟨rfl, HE.out⟩

theorem own : ownKnob Try.prog.godebug = none := by kernel_rfl

set_option maxRecDepth 100000 in
theorem lifted (os : Os) (started : os.Started) (H : Type) (enc : TypeId × Value → H) :
    ReturnsInHanded {} Try.checked os 13 .any (Rows.pairBlockingSpec.pre6 enc Try.prog Try.f13 Rows.pairBlockingRow.domain false) (Rows.pairBlockingSpec.post enc Try.prog Try.f13 false true false false) := by
  refine returnsInHanded_of_change (C := Try.checked) own started (by kernel_rfl) Try.func13
    (ChangeSpec.witness6 (enc := enc) (C := Try.checked) false ⟨#[], #[.slice none 0 0, .slice none 0 0, .agg #[.int .i64 0, .int .i64 0, .int .i64 0, .int .i64 0, .int .i64 0, .int .i64 0, .int .i64 0, .int .i64 0], .slice none 0 0], []⟩ 8 (by kernel_rfl) (by kernel_rfl) (by kernel_rfl) (by kernel_rfl)) ?_
  intro W base args ds gs before hval0 hW hcnd _
  have hval : ∀ (j : Nat) t v, Try.f13.params[j]? = some t → args[j]? = some v → Value.okWide Try.prog W .any base t v := hval0
  have hW' := hW
  obtain ⟨p, q, hA0, hV, rfl, hfz, hnd⟩ := hW
  have hA : DataW.TrodAll enc Try.prog W 0 (fun _ => true) true Try.f13.params.toList args.toList ds p := hA0
  rw [Try.params13] at hA hval
  obtain ⟨v0, vs0, d0, ds0, p0, q0, hargs, rfl, rfl, h0, r0⟩ := trodAll_cons hA
  obtain ⟨v1, vs1, d1, ds1, p1, q1, rfl, rfl, rfl, h1, r1⟩ := trodAll_cons r0
  obtain ⟨v2, vs2, d2, ds2, p2, q2, rfl, rfl, rfl, h2, r2⟩ := trodAll_cons r1
  obtain ⟨v3, vs3, d3, ds3, p3, q3, rfl, rfl, rfl, h3, r3⟩ := trodAll_cons r2
  obtain ⟨rfl, rfl, rfl⟩ := trodAll_nil r3
  obtain rfl : args = #[v0, v1, v2, v3] := by cases args; simp_all
  obtain ⟨rfl, rfl⟩ := trodVars_none hV
  obtain ⟨a0, len0, cap0, rfl⟩ := okWide_slice Try.underlying37 (hval 0 37 v0 rfl rfl)
  have k0 := h0
  have lt0 : ∀ x ∈ p0, x.block < W.heap.size := by obtain ⟨m, hm⟩ := k0; exact DataW.trod_lt m _ _ _ hm
  obtain ⟨fs0, hl0, hF0, wf0⟩ := open_recs h0
  subst hl0
  obtain ⟨a1, len1, cap1, rfl⟩ := okWide_slice Try.underlying37 (hval 1 37 v1 rfl rfl)
  have k1 := h1
  have lt1 : ∀ x ∈ p1, x.block < W.heap.size := by obtain ⟨m, hm⟩ := k1; exact DataW.trod_lt m _ _ _ hm
  obtain ⟨fs1, hl1, hF1, wf1⟩ := open_recs h1
  subst hl1
  obtain ⟨n2a, n2b, n2c, n2d, n2e, n2f, n2g, n2h, rfl⟩ := open_rule (hval 2 25 v2 rfl rfl) h2
  have k2 := h2
  have lt2 : ∀ x ∈ p2, x.block < W.heap.size := by obtain ⟨m, hm⟩ := k2; exact DataW.trod_lt m _ _ _ hm
  obtain ⟨a3, len3, cap3, rfl⟩ := okWide_slice Try.underlying38 (hval 3 38 v3 rfl rfl)
  have k3 := h3
  have lt3 : ∀ x ∈ p3, x.block < W.heap.size := by obtain ⟨m, hm⟩ := k3; exact DataW.trod_lt m _ _ _ hm
  obtain ⟨fs3, hl3, hF3, wf3⟩ := open_intK h3
  subst hl3
  clear hA0 hval0
  refine (walk a0 cap0 fs0 wf0 a1 cap1 fs1 wf1 n2a n2b n2c n2d n2e n2f n2g n2h a3 cap3 fs3 wf3 W hF0 hF1 hF3).mono fun e W' ⟨he, hb⟩ => ?_
  subst he
  exact ⟨_, rfl, _, _, _, [], _, [], hW', trodAll_mk1 (shut_bool Try.underlying4 _), (trodAll_cons_mk (Below.trod pLaidOut (by kernel_rfl) (of_decide_eq_true (by kernel_rfl)) k0 hb lt0) (trodAll_cons_mk (Below.trod pLaidOut (by kernel_rfl) (of_decide_eq_true (by kernel_rfl)) k1 hb lt1) (trodAll_cons_mk (Below.trod pLaidOut (by kernel_rfl) (of_decide_eq_true (by kernel_rfl)) k2 hb lt2) (trodAll_cons_mk (Below.trod pLaidOut (by kernel_rfl) (of_decide_eq_true (by kernel_rfl)) k3 hb lt3) trodAll_mk0)))), rfl, hb.frame _, fun h => by cases h⟩

theorem over : Rows.pairBlockingRow.holds Try.pinned (OpenSpec.ofChange Rows.pairBlockingSpec) :=
  OpenClaim.holds_of_wide 13 Try.f13 rfl rfl rfl rfl rfl rfl rfl ⟨rfl, rfl, rfl, rfl, rfl⟩ rfl rfl rfl rfl rfl (by kernel_rfl) Try.func13 (by kernel_rfl)
    (of_decide_eq_true (by kernel_rfl)) (by unfold Func.isWrapper; first | (rw [if_pos (by decide +kernel)]; kernel_rfl) | (rw [if_neg (by decide +kernel)]; exact ⟨rfl, rfl⟩))
    (fun os started H enc _ => lifted os started H enc)

/-- THE STATEMENT. -/
theorem proved : Rows.PairBlockingSaid := over
#print axioms proved

end Go.Proofs.Ytchhadkmemckbaa.lawPairBlocking

/- PairCost: Cost answers as the document's own does, for every two gloves and every rule; no condition. -/
import Derived.Test.YtpihokfamcdbeaaRows
import Derived.ProofKit
import Derived.OpenShut
import Derived.Lib.SmallJoins
import Derived.Test.YtpihokfamcdbeaaPaP
namespace Go.Proofs.Ytpihokfamcdbeaa.lawPairCost
open Go.ChangeShapes Go.WideShapes Go.ChangeAt Go.RowKit Go.Joins
set_option linter.unusedVariables false

set_option maxRecDepth 100000 in
set_option maxHeartbeats 6400000 in
theorem walk (a0 a1 a2 a3 p0 p1 p2 p3 x0 x1 x2 x3 y0 y1 y2 y3 : Int) (w : World) : Calls Try.prog 3 #[.agg #[.int .i64 a0, .int .i64 a1, .int .i64 a2, .int .i64 a3], .agg #[.int .i64 p0, .int .i64 p1, .int .i64 p2, .int .i64 p3], .agg #[.int .i64 x0, .int .i64 x1, .int .i64 x2, .int .i64 x3, .int .i64 y0, .int .i64 y1, .int .i64 y2, .int .i64 y3]] w fun e w' => e = .returned (.bool true) ∧ Below w.heap.size w w' := by
  have HCO := Lib.hid (fun w' => Cost_any a0 a1 a2 a3 p0 p1 p2 p3 x0 x1 x2 x3 y0 y1 y2 y3 w')
  have HRC := Lib.hid (fun w' => qCost_any a0 a1 a2 a3 p0 p1 p2 p3 x0 x1 x2 x3 y0 y1 y2 y3 w')
  obtain ⟨r0, r1, r2, hr⟩ : ∃ r0 r1 r2, costE (a0, a1, a2, a3) (p0, p1, p2, p3) ((x0, x1, x2, x3), (y0, y1, y2, y3)) = (r0, r1, r2) := ⟨_, _, _, rfl⟩
  rw [hr] at HCO HRC
  clear hr
  have HGA := Lib.hid (fun w' => glove_any a0 a1 a2 a3 w')
  have HGB := Lib.hid (fun w' => glove_any p0 p1 p2 p3 w')
  have HGU := Lib.hid (fun w' => rule_any x0 x1 x2 x3 y0 y1 y2 y3 w')
  have hm := ((Mem.nil w).alloc_at (H := w.heap.size) rfl #[.int .i64 a0, .int .i64 a1, .int .i64 a2, .int .i64 a3] 23).alloc_at (H := w.heap.size + 1) (by simp) #[.int .i64 p0, .int .i64 p1, .int .i64 p2, .int .i64 p3] 23 |>.alloc_at (H := w.heap.size + 1 + 1) (by simp) #[.int .i64 x0, .int .i64 x1, .int .i64 x2, .int .i64 x3, .int .i64 y0, .int .i64 y1, .int .i64 y2, .int .i64 y3] 25
  obtain ⟨wd, hwd⟩ : ∃ z, z = ((w.alloc (.cells #[.int .i64 a0, .int .i64 a1, .int .i64 a2, .int .i64 a3] 23)).alloc (.cells #[.int .i64 p0, .int .i64 p1, .int .i64 p2, .int .i64 p3] 23)).alloc (.cells #[.int .i64 x0, .int .i64 x1, .int .i64 x2, .int .i64 x3, .int .i64 y0, .int .i64 y1, .int .i64 y2, .int .i64 y3] 25) := ⟨_, rfl⟩
  rw [← hwd] at hm
  have HM := Lib.hid hm
  have HS : Hid (∀ w', Below wd.heap.size wd w' → Below wd.heap.size wd w' ∧ w'.cell? ⟨w.heap.size, 0, none⟩ = some (.int .i64 a0) ∧ w'.cell? ⟨w.heap.size, 1, none⟩ = some (.int .i64 a1) ∧ w'.cell? ⟨w.heap.size, 2, none⟩ = some (.int .i64 a2) ∧ w'.cell? ⟨w.heap.size, 3, none⟩ = some (.int .i64 a3) ∧ w'.cell? ⟨w.heap.size + 1, 0, none⟩ = some (.int .i64 p0) ∧ w'.cell? ⟨w.heap.size + 1, 1, none⟩ = some (.int .i64 p1) ∧ w'.cell? ⟨w.heap.size + 1, 2, none⟩ = some (.int .i64 p2) ∧ w'.cell? ⟨w.heap.size + 1, 3, none⟩ = some (.int .i64 p3) ∧ w'.cell? ⟨w.heap.size + 1 + 1, 0, none⟩ = some (.int .i64 x0) ∧ w'.cell? ⟨w.heap.size + 1 + 1, 1, none⟩ = some (.int .i64 x1) ∧ w'.cell? ⟨w.heap.size + 1 + 1, 2, none⟩ = some (.int .i64 x2) ∧ w'.cell? ⟨w.heap.size + 1 + 1, 3, none⟩ = some (.int .i64 x3) ∧ w'.cell? ⟨w.heap.size + 1 + 1, 4, none⟩ = some (.int .i64 y0) ∧ w'.cell? ⟨w.heap.size + 1 + 1, 5, none⟩ = some (.int .i64 y1) ∧ w'.cell? ⟨w.heap.size + 1 + 1, 6, none⟩ = some (.int .i64 y2) ∧ w'.cell? ⟨w.heap.size + 1 + 1, 7, none⟩ = some (.int .i64 y3)) := Lib.hid (fun w' hb => by
    have h3 := hm.step hb
    have h2 := h3.tail
    have h1 := h2.tail
    exact ⟨hb, h1.cell 0, h1.cell 1, h1.cell 2, h1.cell 3, h2.cell 0, h2.cell 1, h2.cell 2, h2.cell 3, h3.cell 0, h3.cell 1, h3.cell 2, h3.cell 3, h3.cell 4, h3.cell 5, h3.cell 6, h3.cell 7⟩)
  have HWD := Lib.hid hwd
  clear hm hwd
  go_enter Try.func3, Try.ntmps3
  go_upto_region 1 with fail
  rw [← HWD.out]
  go_cut [7, 8, 9] (fun s7 s8 s9 wx => s7 = .int .i64 r0 ∧ s8 = .bool r1 ∧ s9 = .int .i64 r2 ∧ Hid (Below wd.heap.size wd wx))
  case first =>
    go_region_held3 (fun w' => Below wd.heap.size wd w' ∧ w'.cell? ⟨w.heap.size, 0, none⟩ = some (.int .i64 a0) ∧ w'.cell? ⟨w.heap.size, 1, none⟩ = some (.int .i64 a1) ∧ w'.cell? ⟨w.heap.size, 2, none⟩ = some (.int .i64 a2) ∧ w'.cell? ⟨w.heap.size, 3, none⟩ = some (.int .i64 a3) ∧ w'.cell? ⟨w.heap.size + 1, 0, none⟩ = some (.int .i64 p0) ∧ w'.cell? ⟨w.heap.size + 1, 1, none⟩ = some (.int .i64 p1) ∧ w'.cell? ⟨w.heap.size + 1, 2, none⟩ = some (.int .i64 p2) ∧ w'.cell? ⟨w.heap.size + 1, 3, none⟩ = some (.int .i64 p3) ∧ w'.cell? ⟨w.heap.size + 1 + 1, 0, none⟩ = some (.int .i64 x0) ∧ w'.cell? ⟨w.heap.size + 1 + 1, 1, none⟩ = some (.int .i64 x1) ∧ w'.cell? ⟨w.heap.size + 1 + 1, 2, none⟩ = some (.int .i64 x2) ∧ w'.cell? ⟨w.heap.size + 1 + 1, 3, none⟩ = some (.int .i64 x3) ∧ w'.cell? ⟨w.heap.size + 1 + 1, 4, none⟩ = some (.int .i64 y0) ∧ w'.cell? ⟨w.heap.size + 1 + 1, 5, none⟩ = some (.int .i64 y1) ∧ w'.cell? ⟨w.heap.size + 1 + 1, 6, none⟩ = some (.int .i64 y2) ∧ w'.cell? ⟨w.heap.size + 1 + 1, 7, none⟩ = some (.int .i64 y3))
      (first | exact HS.out _ (Below.refl _ _).drew | (go_split_ands; exact HS.out _ (Below.trans (by assumption) (Below.mono (by assumption) (Below.size (by assumption))))))
      (first
        | (go_at_call 16; go_split_ands; with_reducible (refine (HGA.out _).mono ?_); rintro e w5 ⟨rfl, hb5⟩)
        | (go_at_call 16; go_split_ands; with_reducible (refine (HGB.out _).mono ?_); rintro e w5 ⟨rfl, hb5⟩)
        | (go_at_call 17; go_split_ands; with_reducible (refine (HGU.out _).mono ?_); rintro e w5 ⟨rfl, hb5⟩)
        | (go_at_call 15; go_split_ands; with_reducible (refine (HCO.out _).mono ?_); rintro e w5 ⟨rfl, hb5⟩))
    go_split_ands
    have HBX := Lib.hid (show Below wd.heap.size wd _ from by assumption)
    go_wp2_with fail
    go_meet
    exact ⟨rfl, rfl, rfl, HBX⟩
  case rest =>
  obtain ⟨rfl, rfl, rfl, HB⟩ := hcut
  obtain ⟨-, k0, k1, k2, k3, m0, m1, m2, m3, x0', x1', x2', x3', y0', y1', y2', y3'⟩ := HS.out _ HB.out
  have LK : wd.heap.size ≤ wc.heap.size := HB.out.size
  have b0 : w.heap.size < wd.heap.size := HM.out.tail.tail.head_lt
  have b1 : w.heap.size + 1 < wd.heap.size := HM.out.tail.head_lt
  have b2 : w.heap.size + 1 + 1 < wd.heap.size := HM.out.head_lt
  go_wp2_with fail
  refine (HRC.out _).mono ?_
  rintro e w6 ⟨rfl, hb6⟩
  have HB6 := Lib.hid (HB.out.trans (hb6.mono HB.out.size))
  clear hb6 k0 k1 k2 k3 m0 m1 m2 m3 x0' x1' x2' x3' y0' y1' y2' y3' LK b0 b1 b2 HB
  have t0 : (r0 == r0) = true := by simp
  have t1 : (r1 == r1) = true := by simp
  have t2 : (r2 == r2) = true := by simp
  go_wp2_with fail
  refine (pAwake_any _).mono ?_
  rintro e w9 ⟨rfl, hb⟩
  have HE := Lib.hid (HM.out.b.trans ((HB6.out.trans (hb.mono HB6.out.size)).mono HM.out.b.size))
  clear hb
  go_wp2
  go_ret
  exact ⟨rfl, HE.out⟩

theorem own : ownKnob Try.prog.godebug = none := by kernel_rfl

set_option maxRecDepth 100000 in
theorem lifted (os : Os) (started : os.Started) (H : Type) (enc : TypeId × Value → H) :
    ReturnsInHanded {} Try.checked os 3 .any (Rows.pairCostSpec.pre6 enc Try.prog Try.f3 Rows.pairCostRow.domain false) (Rows.pairCostSpec.post enc Try.prog Try.f3 false true false false) := by
  refine returnsInHanded_of_change (C := Try.checked) own started (by kernel_rfl) Try.func3
    (ChangeSpec.witness6 (enc := enc) (C := Try.checked) false ⟨#[], #[.agg #[.int .i64 0, .int .i64 0, .int .i64 0, .int .i64 0], .agg #[.int .i64 0, .int .i64 0, .int .i64 0, .int .i64 0], .agg #[.int .i64 0, .int .i64 0, .int .i64 0, .int .i64 0, .int .i64 0, .int .i64 0, .int .i64 0, .int .i64 0]], []⟩ 8 (by kernel_rfl) (by kernel_rfl) (by kernel_rfl) (by kernel_rfl)) ?_
  intro W base args ds gs before hval0 hW hcnd _
  have hval : ∀ (j : Nat) t v, Try.f3.params[j]? = some t → args[j]? = some v → Value.okWide Try.prog W .any base t v := hval0
  have hW' := hW
  obtain ⟨p, q, hA0, hV, rfl, hfz, hnd⟩ := hW
  have hA : DataW.TrodAll enc Try.prog W 0 (fun _ => true) true Try.f3.params.toList args.toList ds p := hA0
  rw [Try.params3] at hA hval
  obtain ⟨v0, vs0, d0, ds0, p0, q0, hargs, rfl, rfl, h0, r0⟩ := trodAll_cons hA
  obtain ⟨v1, vs1, d1, ds1, p1, q1, rfl, rfl, rfl, h1, r1⟩ := trodAll_cons r0
  obtain ⟨v2, vs2, d2, ds2, p2, q2, rfl, rfl, rfl, h2, r2⟩ := trodAll_cons r1
  obtain ⟨rfl, rfl, rfl⟩ := trodAll_nil r2
  obtain rfl : args = #[v0, v1, v2] := by cases args; simp_all
  obtain ⟨rfl, rfl⟩ := trodVars_none hV
  obtain ⟨n0a, n0b, n0c, n0d, rfl⟩ := open_glove (hval 0 23 v0 rfl rfl) h0
  have k0 := h0
  have lt0 : ∀ x ∈ p0, x.block < W.heap.size := by obtain ⟨m, hm⟩ := k0; exact DataW.trod_lt m _ _ _ hm
  obtain ⟨n1a, n1b, n1c, n1d, rfl⟩ := open_glove (hval 1 23 v1 rfl rfl) h1
  have k1 := h1
  have lt1 : ∀ x ∈ p1, x.block < W.heap.size := by obtain ⟨m, hm⟩ := k1; exact DataW.trod_lt m _ _ _ hm
  obtain ⟨n2a, n2b, n2c, n2d, n2e, n2f, n2g, n2h, rfl⟩ := open_rule (hval 2 25 v2 rfl rfl) h2
  have k2 := h2
  have lt2 : ∀ x ∈ p2, x.block < W.heap.size := by obtain ⟨m, hm⟩ := k2; exact DataW.trod_lt m _ _ _ hm
  clear hA0 hval0
  refine (walk n0a n0b n0c n0d n1a n1b n1c n1d n2a n2b n2c n2d n2e n2f n2g n2h W ).mono fun e W' ⟨he, hb⟩ => ?_
  subst he
  exact ⟨_, rfl, _, _, _, [], _, [], hW', trodAll_mk1 (shut_bool Try.underlying4 _), (trodAll_cons_mk (Below.trod pLaidOut (by kernel_rfl) (of_decide_eq_true (by kernel_rfl)) k0 hb lt0) (trodAll_cons_mk (Below.trod pLaidOut (by kernel_rfl) (of_decide_eq_true (by kernel_rfl)) k1 hb lt1) (trodAll_cons_mk (Below.trod pLaidOut (by kernel_rfl) (of_decide_eq_true (by kernel_rfl)) k2 hb lt2) trodAll_mk0))), rfl, hb.frame _, fun h => by cases h⟩

theorem over : Rows.pairCostRow.holds Try.pinned (OpenSpec.ofChange Rows.pairCostSpec) :=
  OpenClaim.holds_of_wide 3 Try.f3 rfl rfl rfl rfl rfl rfl rfl ⟨rfl, rfl, rfl, rfl, rfl⟩ rfl rfl rfl rfl rfl (by kernel_rfl) Try.func3 (by kernel_rfl)
    (of_decide_eq_true (by kernel_rfl)) (by unfold Func.isWrapper; first | (rw [if_pos (by decide +kernel)]; kernel_rfl) | (rw [if_neg (by decide +kernel)]; exact ⟨rfl, rfl⟩))
    (fun os started H enc _ => lifted os started H enc)

/-- THE STATEMENT. -/
theorem proved : Rows.PairCostSaid := over
#print axioms proved

end Go.Proofs.Ytpihokfamcdbeaa.lawPairCost

/- FracLeast: no fraction of the interval has a lesser denominator than Simplest's answer, or the same and a numerator of a lesser absolute value; no condition. -/
import Derived.Test.YtjnfgjaiahnfgabRows
import Derived.ProofKit
import Derived.OpenShut
import Derived.Lib.SmallJoins
import Derived.Deep.DeepCutAuto
import Derived.Test.YtjnfgjaiahnfgabAwake
import Derived.Test.YtjnfgjaiahnfgabSmpB
namespace Go.Proofs.Ytjnfgjaiahnfgab.lawFracLeast
open Go.ChangeShapes Go.WideShapes Go.ChangeAt Go.RowKit Go.Joins
set_option linter.unusedVariables false

def undB (n1 d1 n2 d2 : Int) : Bool := decide (n1 * d2 ≤ n2 * d1)
theorem undB_iff {n1 d1 n2 d2 : Int} : undB n1 d1 n2 d2 = true ↔ n1 * d2 ≤ n2 * d1 := by unfold undB; simp

set_option maxRecDepth 100000 in
theorem under_any (n1 d1 n2 d2 : Int) (h1 : VF n1 d1) (h2 : VF n2 d2) (w : World) :
    Calls Try.prog 14 #[.agg #[.int .i64 n1, .int .i64 d1], .agg #[.int .i64 n2, .int .i64 d2]] w fun e w' => e = .returned (.bool (undB n1 d1 n2 d2)) ∧ Below w.heap.size w w' := by
  have hr : undB n1 d1 n2 d2 = decide (n1 * d2 ≤ n2 * d1) := rfl
  rw [hr]
  obtain ⟨m1, m2⟩ := mul_bd (a := n1) (b := d2) h1.n1 h1.n2 (by have := h2.d1; omega) h2.d2
  obtain ⟨m3, m4⟩ := mul_bd (a := n2) (b := d1) h2.n1 h2.n2 (by have := h1.d1; omega) h1.d2
  clear hr
  go_enter Try.func14, Try.ntmps14
  go_wp2
  go_ret
  exact ⟨rfl, Below2 _ _ _⟩

set_option maxRecDepth 100000 in
set_option maxHeartbeats 6400000 in
theorem walk (n1 d1 : Int) (_ : (Lit.int .i64 n1).wf = true) (_ : (Lit.int .i64 d1).wf = true) (n2 d2 : Int) (_ : (Lit.int .i64 n2).wf = true) (_ : (Lit.int .i64 d2).wf = true) (n3 d3 : Int) (hwn : (Lit.int .i64 n3).wf = true) (hwd : (Lit.int .i64 d3).wf = true) (w : World) :
    Calls Try.prog 4 #[.agg #[.int .i64 n1, .int .i64 d1], .agg #[.int .i64 n2, .int .i64 d2], .agg #[.int .i64 n3, .int .i64 d3]] w fun e w' => e = .returned (.bool true) ∧ Below w.heap.size w w' := by
  have hM := (((Mem.nil w).alloc #[.int .i64 n1, .int .i64 d1] 23).alloc #[.int .i64 n2, .int .i64 d2] 23).alloc #[.int .i64 n3, .int .i64 d3] 23
  simp only [World.size_alloc] at hM
  have HM := Lib.hid hM
  have HWF := Lib.hid (And.intro hwn hwd)
  clear hM hwn hwd
  go_enter Try.func4, Try.ntmps4
  go_wp2_with fail
  refine (simplest_any n3 d3 n3 d3 _).mono ?_
  rintro e w1 ⟨u0, u1, u2, rfl, H1, hb⟩
  have HM1 := Lib.hid ((HM.out.step hb).alloc #[.int .i64 u0, .int .i64 u1] 23)
  obtain ⟨a0, a1, -, -, a4⟩ := (HM.out.step hb).c2
  clear hb
  go_upto_region 2 with fail
  go_cut [29] (fun s29 wx => s29 = .bool false ∧ Hid (Mem w [(w.heap.size + 1 + 1, #[.int .i64 n3, .int .i64 d3], 23), (w.heap.size + 1, #[.int .i64 n2, .int .i64 d2], 23), (w.heap.size, #[.int .i64 n1, .int .i64 d1], 23)] wx))
  case first =>
    go_wp2_with fail
    refine (valid_r n3 d3 _).mono ?_
    rintro e w2 ⟨rfl, hb⟩
    have hM2 := HM1.out.step hb
    have HM2 := Lib.hid hM2
    clear a0 a1 a4 hb
    obtain ⟨b0, b1, a0, a1⟩ := hM2.all2
    clear hM2
    cases hv : vfB n3 d3
    · have HV := Lib.hid hv
      clear hv H1
      go_wp2_with fail
      go_meet
      exact ⟨rfl, Lib.hid HM2.out.tail⟩
    · obtain ⟨e1, e2, e3⟩ := simS_self ((vfB_iff _ _).1 hv) H1.out
      subst e1 e2 e3
      have HV := Lib.hid hv
      clear hv H1
      go_wp2_with fail
      go_meet
      exact ⟨rfl, Lib.hid HM2.out.tail⟩
  case rest =>
  obtain ⟨rfl, HR⟩ := hcut
  obtain ⟨kb0, kb1, kc0, kc1, kd0, kd1⟩ := HR.out.all3
  go_wp2_with fail
  refine (simplest_any n1 d1 n2 d2 _).mono ?_
  rintro e w3 ⟨x, y, z, rfl, H2, hb⟩
  have hM3 := HR.out.step hb
  have HMw3 := Lib.hid (hM3.alloc #[.int .i64 x, .int .i64 y] 23)
  clear hb kb0 kb1 kc0 kc1 kd0 kd1
  obtain ⟨kb0, kb1, kc0, kc1, kd0, kd1⟩ := hM3.all3
  have hlt : w.heap.size + 1 + 1 < w3.heap.size := hM3.head_lt
  have hlt2 : w.heap.size + 1 < w3.heap.size := by omega
  have hlt3 : w.heap.size < w3.heap.size := by omega
  clear hM3
  obtain ⟨ka0, ka1, -, -, -⟩ := HMw3.out.c2
  go_wp2_with fail
  refine (valid_r n1 d1 _).mono ?_
  rintro e w4 ⟨rfl, hb⟩
  have hM := HMw3.out.step hb
  have HMw4 := Lib.hid hM
  clear hb ka0 ka1 kb0 kb1 kc0 kc1 kd0 kd1
  obtain ⟨ka0, ka1, kb0, kb1, kc0, kc1, kd0, kd1⟩ := hM.all4
  clear hM
  cases h1 : vfB n1 d1
  · have hs := simS_no (n1 := n1) (d1 := d1) (n2 := n2) (d2 := d2) (fun h => by rw [(vfB_iff _ _).2 h.1] at h1; cases h1)
    rw [hs] at H2
    have he := H2.out
    simp only [Prod.mk.injEq] at he
    obtain ⟨rfl, rfl, rfl⟩ := he
    clear H2 hs h1
    go_wp2_with fail
    refine (awake_any _).mono ?_
    rintro e w5 ⟨rfl, hb⟩
    have HMw5 := Lib.hid (HMw4.out.step hb)
    clear hb
    go_wp2
    go_ret
    exact ⟨rfl, HMw5.out.b⟩
  · have HV1 := Lib.hid ((vfB_iff _ _).1 h1)
    clear h1
    go_wp2_with fail
    refine (valid_r n2 d2 _).mono ?_
    rintro e w5 ⟨rfl, hb⟩
    have hM := HMw4.out.step hb
    have HMw5 := Lib.hid hM
    clear hb ka0 ka1 kb0 kb1 kc0 kc1 kd0 kd1
    obtain ⟨ka0, ka1, kb0, kb1, kc0, kc1, kd0, kd1⟩ := hM.all4
    clear hM
    cases h2 : vfB n2 d2
    · have hs := simS_no (n1 := n1) (d1 := d1) (n2 := n2) (d2 := d2) (fun h => by rw [(vfB_iff _ _).2 h.2.1] at h2; cases h2)
      rw [hs] at H2
      have he := H2.out
      simp only [Prod.mk.injEq] at he
      obtain ⟨rfl, rfl, rfl⟩ := he
      clear H2 hs h2
      go_wp2_with fail
      refine (awake_any _).mono ?_
      rintro e w6 ⟨rfl, hb⟩
      have HMw6 := Lib.hid (HMw5.out.step hb)
      clear hb
      go_wp2
      go_ret
      exact ⟨rfl, HMw6.out.b⟩
    · have HV2 := Lib.hid ((vfB_iff _ _).1 h2)
      clear h2
      go_wp2_with fail
      refine (under_any n1 d1 n2 d2 HV1.out HV2.out _).mono ?_
      rintro e w6 ⟨rfl, hb⟩
      have hM := HMw5.out.step hb
      have HMw6 := Lib.hid hM
      clear hb ka0 ka1 kb0 kb1 kc0 kc1 kd0 kd1
      obtain ⟨ka0, ka1, kb0, kb1, kc0, kc1, kd0, kd1⟩ := hM.all4
      clear hM
      cases h3 : undB n1 d1 n2 d2
      · have hs := simS_no (n1 := n1) (d1 := d1) (n2 := n2) (d2 := d2) (fun h => by rw [undB_iff.2 h.2.2] at h3; cases h3)
        rw [hs] at H2
        have he := H2.out
        simp only [Prod.mk.injEq] at he
        obtain ⟨rfl, rfl, rfl⟩ := he
        clear H2 hs h3
        go_wp2_with fail
        refine (awake_any _).mono ?_
        rintro e w7 ⟨rfl, hb⟩
        have HMw7 := Lib.hid (HMw6.out.step hb)
        clear hb
        go_wp2
        go_ret
        exact ⟨rfl, HMw7.out.b⟩
      · obtain ⟨rfl, hx, g1, g2, g3⟩ := simS_all ⟨HV1.out, HV2.out, undB_iff.1 h3⟩ H2.out
        have HX := Lib.hid hx
        have HXB : Hid (vfB x y = true) := Lib.hid ((vfB_iff _ _).2 hx)
        have HU1 : Hid (undB n1 d1 x y = true) := Lib.hid (undB_iff.2 g1)
        have HU2 : Hid (undB x y n2 d2 = true) := Lib.hid (undB_iff.2 g2)
        have HL := Lib.hid g3
        have HB : Hid (-1000000000 ≤ x ∧ x ≤ 1000000000) := Lib.hid ⟨hx.n1, hx.n2⟩
        clear H2 h3 hx g1 g2 g3
        go_wp2_with fail
        refine (valid_r x y _).mono ?_
        rintro e w7 ⟨rfl, hb⟩
        rw [HXB.out]
        have hM := HMw6.out.step hb
        have HMw7 := Lib.hid hM
        clear hb ka0 ka1 kb0 kb1 kc0 kc1 kd0 kd1
        obtain ⟨ka0, ka1, kb0, kb1, kc0, kc1, kd0, kd1⟩ := hM.all4
        clear hM
        go_wp2_with fail
        refine (under_any n1 d1 x y HV1.out HX.out _).mono ?_
        rintro e w8 ⟨rfl, hb⟩
        rw [HU1.out]
        have hM := HMw7.out.step hb
        have HMw8 := Lib.hid hM
        clear hb ka0 ka1 kb0 kb1 kc0 kc1 kd0 kd1
        obtain ⟨ka0, ka1, kb0, kb1, kc0, kc1, kd0, kd1⟩ := hM.all4
        clear hM
        go_wp2_with fail
        refine (under_any x y n2 d2 HX.out HV2.out _).mono ?_
        rintro e w9 ⟨rfl, hb⟩
        rw [HU2.out]
        have hM := HMw8.out.step hb
        have HMw9 := Lib.hid hM
        clear hb ka0 ka1 kb0 kb1 kc0 kc1 kd0 kd1
        obtain ⟨ka0, ka1, kb0, kb1, kc0, kc1, kd0, kd1⟩ := hM.all4
        clear hM
        go_upto_region 9 with fail
        go_cut [11] (fun s11 wx => ∃ ib : Bool, s11 = .bool ib ∧ Hid (ib = true → VF n3 d3 ∧ n1 * d3 ≤ n3 * d1 ∧ n3 * d2 ≤ n2 * d3) ∧ Hid (Mem w [(w3.heap.size, #[.int .i64 x, .int .i64 y], 23), (w.heap.size + 1 + 1, #[.int .i64 n3, .int .i64 d3], 23), (w.heap.size + 1, #[.int .i64 n2, .int .i64 d2], 23), (w.heap.size, #[.int .i64 n1, .int .i64 d1], 23)] wx))
        case first =>
          go_wp2_with fail
          refine (valid_r n3 d3 _).mono ?_
          rintro e wA ⟨rfl, hb⟩
          have hM := HMw9.out.step hb
          have HMwA := Lib.hid hM
          clear hb ka0 ka1 kb0 kb1 kc0 kc1 kd0 kd1
          obtain ⟨ka0, ka1, kb0, kb1, kc0, kc1, kd0, kd1⟩ := hM.all4
          clear hM
          cases h4 : vfB n3 d3
          · clear h4
            go_wp2_with fail
            go_meet
            exact ⟨false, rfl, Lib.hid (fun h => by cases h), HMwA⟩
          · have HV3 := Lib.hid ((vfB_iff _ _).1 h4)
            clear h4
            go_wp2_with fail
            refine (under_any n1 d1 n3 d3 HV1.out HV3.out _).mono ?_
            rintro e wB ⟨rfl, hb⟩
            have hM := HMwA.out.step hb
            have HMwB := Lib.hid hM
            clear hb ka0 ka1 kb0 kb1 kc0 kc1 kd0 kd1
            obtain ⟨ka0, ka1, kb0, kb1, kc0, kc1, kd0, kd1⟩ := hM.all4
            clear hM
            cases h5 : undB n1 d1 n3 d3
            · clear h5
              go_wp2_with fail
              go_meet
              exact ⟨false, rfl, Lib.hid (fun h => by cases h), HMwB⟩
            · have HW5 := Lib.hid (undB_iff.1 h5)
              clear h5
              go_wp2_with fail
              refine (under_any n3 d3 n2 d2 HV3.out HV2.out _).mono ?_
              rintro e wC ⟨rfl, hb⟩
              have hM := HMwB.out.step hb
              have HMwC := Lib.hid hM
              clear hb ka0 ka1 kb0 kb1 kc0 kc1 kd0 kd1
              obtain ⟨ka0, ka1, kb0, kb1, kc0, kc1, kd0, kd1⟩ := hM.all4
              clear hM
              cases h6 : undB n3 d3 n2 d2
              · clear h6
                go_wp2_with fail
                go_meet
                exact ⟨false, rfl, Lib.hid (fun h => by cases h), HMwC⟩
              · have HW6 := Lib.hid (undB_iff.1 h6)
                clear h6
                go_wp2_with fail
                go_meet
                exact ⟨true, rfl, Lib.hid (fun _ => ⟨HV3.out, HW5.out, HW6.out⟩), HMwC⟩
        case rest =>
        obtain ⟨ib, rfl, HIB, HMR⟩ := hcut
        clear ka0 ka1 kb0 kb1 kc0 kc1 kd0 kd1
        obtain ⟨ka0, ka1, kb0, kb1, -, -, -, -⟩ := HMR.out.all4
        go_upto_region 10 with fail
        go_cut [2, 12] (fun s2 s12 wx => ∃ lb : Bool, s12 = .bool lb ∧ Hid (ib = true → lb = true) ∧ wc = wx)
        case first =>
          obtain ⟨hx1, hx2⟩ := HB.out
          cases ib
          · go_wp2
            all_goals (go_meet; exact ⟨_, rfl, Lib.hid (fun h => by cases h), rfl⟩)
          · obtain ⟨hv3, hw5, hw6⟩ := HIB.out rfl
            have hn3 := hv3.n1
            have hn4 := hv3.n2
            rcases HL.out n3 d3 hv3 hw5 hw6 with hlt | ⟨heq, hor⟩
            · clear hv3 hw5 hw6
              go_wp2
              all_goals (go_meet; exact ⟨_, rfl, Lib.hid (fun _ => rfl), rfl⟩)
            · subst heq
              rcases hor with rfl | hgt
              · go_wp2
                all_goals (go_meet; exact ⟨_, rfl, Lib.hid (fun _ => rfl), rfl⟩)
              · clear hv3 hw5 hw6
                go_wp2
                all_goals (go_meet; exact ⟨_, rfl, Lib.hid (fun _ => by first | rfl | (apply decide_eq_true; omega) | (simp; omega)), rfl⟩)
        case rest =>
        obtain ⟨lb, rfl, HLB, rfl⟩ := hcut
        have hil : ib = false ∨ (ib = true ∧ lb = true) := by
          cases ib
          · exact .inl rfl
          · exact .inr ⟨rfl, HLB.out rfl⟩
        clear HL HIB
        rcases hil with rfl | ⟨rfl, rfl⟩
        all_goals
          go_wp2_with fail
          refine (awake_any _).mono ?_
          rintro e wz ⟨rfl, hb⟩
          have HMz := Lib.hid (HMR.out.step hb)
          clear hb
          go_wp2
          go_ret
          exact ⟨rfl, HMz.out.b⟩

theorem own : ownKnob Try.prog.godebug = none := by kernel_rfl
theorem cellsFrac : Try.prog.cellsOf 23 = 2 := by kernel_rfl

set_option maxRecDepth 100000 in
theorem lifted (os : Os) (started : os.Started) (H : Type) (enc : TypeId × Value → H) :
    ReturnsInHanded {} Try.checked os 4 .any (Rows.fracLeastSpec.pre6 enc Try.prog Try.f4 Rows.fracLeastRow.domain false) (Rows.fracLeastSpec.post enc Try.prog Try.f4 false true false false) := by
  refine returnsInHanded_of_change (C := Try.checked) own started (by kernel_rfl) Try.func4
    (ChangeSpec.witness6 (enc := enc) (C := Try.checked) false ⟨#[], #[.agg #[.int .i64 0, .int .i64 0], .agg #[.int .i64 0, .int .i64 0], .agg #[.int .i64 0, .int .i64 0]], []⟩ 8 (by kernel_rfl) (by kernel_rfl) (by kernel_rfl) (by kernel_rfl)) ?_
  intro W base args ds gs before hval0 hW hcnd _
  have hval : ∀ (j : Nat) t v, Try.f4.params[j]? = some t → args[j]? = some v → Value.okWide Try.prog W .any base t v := hval0
  have hW' := hW
  obtain ⟨p, q, hA0, hV, rfl, hfz, hnd⟩ := hW
  have hA : DataW.TrodAll enc Try.prog W 0 (fun _ => true) true Try.f4.params.toList args.toList ds p := hA0
  rw [Try.params4] at hA hval
  obtain ⟨v0, vs0, d0, ds0, p0, q0, hargs, rfl, rfl, h0, r0⟩ := trodAll_cons hA
  obtain ⟨v1, vs1, d1, ds1, p1, q1, rfl, rfl, rfl, h1, r1⟩ := trodAll_cons r0
  obtain ⟨v2, vs2, d2, ds2, p2, q2, rfl, rfl, rfl, h2, r2⟩ := trodAll_cons r1
  obtain ⟨rfl, rfl, rfl⟩ := trodAll_nil r2
  obtain rfl : args = #[v0, v1, v2] := by cases args; simp_all
  obtain ⟨rfl, rfl⟩ := trodVars_none hV
  obtain ⟨c0a, c0b, y0a, y0b, m0, rfl, rfl, rfl, hy0a, hy0b⟩ := open_agg2 Try.underlying23 (by kernel_rfl) cellsFrac (hval 0 23 v0 rfl rfl) h0
  obtain ⟨n0, e0a, rfl, wn0⟩ := DataW.trod_int Try.underlying3 hy0a
  obtain ⟨k0, e0b, rfl, wk0⟩ := DataW.trod_int Try.underlying3 hy0b
  simp at e0a e0b
  subst e0a e0b
  obtain ⟨c1a, c1b, y1a, y1b, m1, rfl, rfl, rfl, hy1a, hy1b⟩ := open_agg2 Try.underlying23 (by kernel_rfl) cellsFrac (hval 1 23 v1 rfl rfl) h1
  obtain ⟨n1, e1a, rfl, wn1⟩ := DataW.trod_int Try.underlying3 hy1a
  obtain ⟨k1, e1b, rfl, wk1⟩ := DataW.trod_int Try.underlying3 hy1b
  simp at e1a e1b
  subst e1a e1b
  obtain ⟨c2a, c2b, y2a, y2b, m2, rfl, rfl, rfl, hy2a, hy2b⟩ := open_agg2 Try.underlying23 (by kernel_rfl) cellsFrac (hval 2 23 v2 rfl rfl) h2
  obtain ⟨n2, e2a, rfl, wn2⟩ := DataW.trod_int Try.underlying3 hy2a
  obtain ⟨k2, e2b, rfl, wk2⟩ := DataW.trod_int Try.underlying3 hy2b
  simp at e2a e2b
  subst e2a e2b
  clear hA0 hval0
  simp only [List.append_nil] at hW'
  refine (walk n0 k0 wn0 wk0 n1 k1 wn1 wk1 n2 k2 wn2 wk2 W ).mono fun e W' ⟨he, hb⟩ => ?_
  subst he
  refine ⟨_, rfl, _, _, _, [], [], [], hW', ?_, ?_, rfl, hb.frame _, fun h => by cases h⟩
  · exact trodAll_cons_mk (shut_bool Try.underlying4 _) trodAll_mk0
  · exact (trodAll_cons_mk (shut_agg2 (y0 := (.lit (.int .i64 n0), [])) (y1 := (.lit (.int .i64 k0), [])) Try.underlying23 (by kernel_rfl) cellsFrac ⟨1, by simp [DataW.trod, Try.underlying3, wn0]⟩ ⟨1, by simp [DataW.trod, Try.underlying3, wk0]⟩) (trodAll_cons_mk (shut_agg2 (y0 := (.lit (.int .i64 n1), [])) (y1 := (.lit (.int .i64 k1), [])) Try.underlying23 (by kernel_rfl) cellsFrac ⟨1, by simp [DataW.trod, Try.underlying3, wn1]⟩ ⟨1, by simp [DataW.trod, Try.underlying3, wk1]⟩) (trodAll_cons_mk (shut_agg2 (y0 := (.lit (.int .i64 n2), [])) (y1 := (.lit (.int .i64 k2), [])) Try.underlying23 (by kernel_rfl) cellsFrac ⟨1, by simp [DataW.trod, Try.underlying3, wn2]⟩ ⟨1, by simp [DataW.trod, Try.underlying3, wk2]⟩) trodAll_mk0)))

theorem over : Rows.fracLeastRow.holds Try.pinned (OpenSpec.ofChange Rows.fracLeastSpec) :=
  OpenClaim.holds_of_wide 4 Try.f4 rfl rfl rfl rfl rfl rfl rfl ⟨rfl, rfl, rfl, rfl, rfl⟩ rfl rfl rfl rfl rfl (by kernel_rfl) Try.func4 (by kernel_rfl)
    (of_decide_eq_true (by kernel_rfl)) (by unfold Func.isWrapper; first | (rw [if_pos (by decide +kernel)]; kernel_rfl) | (rw [if_neg (by decide +kernel)]; exact ⟨rfl, rfl⟩))
    (fun os started H enc _ => lifted os started H enc)

/-- THE STATEMENT. -/
theorem proved : Rows.FracLeastSaid := over
#print axioms proved

end Go.Proofs.Ytjnfgjaiahnfgab.lawFracLeast

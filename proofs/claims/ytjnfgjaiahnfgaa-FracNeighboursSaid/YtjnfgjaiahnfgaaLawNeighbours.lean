/- FracNeighbours: Below and Above give the fraction itself or its two neighbours, between which no fraction has a denominator within the bound; no condition. -/
import Derived.Test.YtjnfgjaiahnfgaaRows
import Derived.ProofKit
import Derived.OpenShut
import Derived.Lib.SmallJoins
import Derived.Deep.DeepCutAuto
import Derived.Test.YtjnfgjaiahnfgaaNbB
namespace Go.Proofs.Ytjnfgjaiahnfgaa.lawFracNeighbours
open Go.ChangeShapes Go.WideShapes Go.ChangeAt Go.RowKit Go.Joins
set_option linter.unusedVariables false

def undB (n1 d1 n2 d2 : Int) : Bool := decide (n1 * d2 ≤ n2 * d1)

set_option maxRecDepth 100000 in
theorem under_any (n1 d1 n2 d2 : Int) (h1 : VF n1 d1) (h2 : VF n2 d2) (w : World) :
    Calls Try.prog 55 #[.agg #[.int .i64 n1, .int .i64 d1], .agg #[.int .i64 n2, .int .i64 d2]] w fun e w' => e = .returned (.bool (undB n1 d1 n2 d2)) ∧ Below w.heap.size w w' := by
  have hr : undB n1 d1 n2 d2 = decide (n1 * d2 ≤ n2 * d1) := rfl
  rw [hr]
  obtain ⟨m1, m2⟩ := mul_bd (a := n1) (b := d2) h1.n1 h1.n2 (by have := h2.d1; omega) h2.d2
  obtain ⟨m3, m4⟩ := mul_bd (a := n2) (b := d1) h2.n1 h2.n2 (by have := h1.d1; omega) h1.d2
  clear hr
  go_enter Try.func55, Try.ntmps55
  go_wp2
  go_ret
  exact ⟨rfl, Below2 _ _ _⟩

/-- The other answer to an inner fraction cannot be. -/
theorem inside {n d D a b c e x y : Int} (h : NB n d D a b c e) (hs : D < b + e) (he : 0 < e) (hx : VF x y) (h1 : undB x y a b = false) (h2 : undB c e x y = false) : D < y := by
  unfold undB at h1 h2
  have i1 := of_decide_eq_false h1
  have i2 := of_decide_eq_false h2
  exact h.gap hs (x := x) (y := y) (by have := hx.d1; omega) (by omega) (by omega)

theorem sides {n d D x0 x1 x2 y0 y1 y2 : Int} (h : SideR true n d D x0 x1 x2) (h' : SideR false n d D y0 y1 y2) (hb : bdB n d D = true) : x2 = 0 ∧ y2 = 0 ∧ NbR n d D x0 x1 y0 y1 := by
  have hv := ((bdB_iff _ _ _).1 hb).1
  obtain ⟨rfl, a, b, c, e, hN, hxa, hxb⟩ := h.2 hb
  obtain ⟨rfl, a', b', c', e', hN', hyc, hye⟩ := h'.2 hb
  have e1 : x0 = a := hxa
  have e2 : x1 = b := hxb
  have e3 : y0 = c' := hyc
  have e4 : y1 = e' := hye
  subst e1 e2 e3 e4
  refine ⟨rfl, rfl, fun hd => ⟨(hN.1 hd).1, (hN.1 hd).2.1, (hN'.1 hd).2.2.1, (hN'.1 hd).2.2.2⟩, fun hd => ?_⟩
  obtain ⟨h1, h2, h3⟩ := hN.2 hd
  obtain ⟨h1', h2', h3'⟩ := hN'.2 hd
  obtain ⟨u1, u2, u3, u4⟩ := h1.uniq (by have := hv.d1; omega) h2 h1' h2' h3 h3'
  rw [u1, u2]
  exact ⟨h1', h2', h3'⟩

set_option maxRecDepth 100000 in
set_option maxHeartbeats 1600000 in
theorem walk (n1 d1 : Int) (_ : (Lit.int .i64 n1).wf = true) (_ : (Lit.int .i64 d1).wf = true) (n2 d2 : Int) (_ : (Lit.int .i64 n2).wf = true) (_ : (Lit.int .i64 d2).wf = true) (D : Int) (_ : (Lit.int .i64 D).wf = true) (w : World) :
    Calls Try.prog 12 #[.agg #[.int .i64 n1, .int .i64 d1], .agg #[.int .i64 n2, .int .i64 d2], .int .i64 D] w fun e w' => e = .returned (.bool true) ∧ Below w.heap.size w w' := by
  have HM := Lib.hid (((Mem.nil w).alloc #[.int .i64 n1, .int .i64 d1] 23).alloc #[.int .i64 n2, .int .i64 d2] 23)
  rw [World.size_alloc] at HM
  go_enter Try.func12, Try.ntmps12
  go_wp2_with fail
  refine (below_p n1 d1 D _).mono ?_
  rintro e w1 ⟨x0, x1, x2, rfl, H1, hb⟩
  have HM1 := Lib.hid ((HM.out.step hb).alloc #[.int .i64 x0, .int .i64 x1] 23)
  obtain ⟨a0, a1, a2, a3, a4⟩ := (HM.out.step hb).tail.c2
  clear hb
  go_wp2_with fail
  refine (above_p n1 d1 D _).mono ?_
  rintro e w2 ⟨y0, y1, y2, rfl, H2, hb⟩
  have hM := HM1.out.step hb
  have HM2 := Lib.hid (hM.alloc #[.int .i64 y0, .int .i64 y1] 23)
  clear a0 a1 a2 a3 a4
  obtain ⟨ka0, ka1, kb0, kb1, kc0, kc1⟩ := hM.all3
  have hlt : w1.heap.size < w2.heap.size := hM.head_lt
  have hlt' : w.heap.size + 1 < w1.heap.size := hM.gt
  have hlt2 : w.heap.size < w1.heap.size := by omega
  have hlt3 : w.heap.size < w2.heap.size := by omega
  have hlt4 : w.heap.size + 1 < w2.heap.size := by omega
  clear hb hM
  cases hv : bdB n1 d1 D
  · obtain ⟨rfl, rfl, rfl⟩ := H1.out.1 hv
    obtain ⟨rfl, rfl, rfl⟩ := H2.out.1 hv
    have HV := Lib.hid hv
    clear H1 H2 hv
    go_wp2_with fail
    refine (valid_r n1 d1 _).mono ?_
    rintro e w3 ⟨rfl, hb⟩
    have HM3 := Lib.hid (HM2.out.step hb)
    clear hb ka0 ka1 kb0 kb1 kc0 kc1
    have hcase : vfB n1 d1 = false ∨ (vfB n1 d1 = true ∧ D < 1) ∨ (vfB n1 d1 = true ∧ 1 ≤ D ∧ 1000000000 < D) := by
      have := HV.out
      unfold bdB at this
      cases hc : vfB n1 d1
      · exact .inl rfl
      · rw [hc] at this; simp at this
        rcases Int.lt_or_le D 1 with hD | hD
        · exact .inr (.inl ⟨rfl, hD⟩)
        · exact .inr (.inr ⟨rfl, hD, this hD⟩)
    rcases hcase with h | ⟨h, h1⟩ | ⟨h, h1, h2⟩
    all_goals
      rw [h]
      clear h
      go_wp2_with fail
      refine (awake_any _).mono ?_
      rintro e w4 ⟨rfl, hb⟩
      have HM4 := Lib.hid (HM3.out.step hb)
      clear hb
      go_wp2
      go_ret
      exact ⟨rfl, HM4.out.b⟩
  · have hbd := (bdB_iff _ _ _).1 hv
    obtain ⟨rfl, rfl, hN⟩ := sides H1.out H2.out hv
    have HV := Lib.hid hbd.1
    have HV1 : Hid (vfB n1 d1 = true) := Lib.hid ((vfB_iff _ _).2 hbd.1)
    have hD1 := hbd.2.1
    have hD2 := hbd.2.2
    clear H1 H2 hv hbd
    obtain ⟨kd0, kd1, -, -, -⟩ := HM2.out.c2
    clear ka0 ka1 kb0 kb1 kc0 kc1
    obtain ⟨ka0, ka1, kb0, kb1, kc0, kc1⟩ := HM2.out.tail.all3
    by_cases hd : d1 ≤ D
    · obtain ⟨e1, e2, e3, e4⟩ := hN.1 hd
      subst e1 e2 e3 e4
      have HU : Hid (∀ x y : Int, undB x y x y = true) := Lib.hid (fun x y => by unfold undB; simp)
      clear hN
      go_wp2_with fail
      refine (valid_r _ _ _).mono ?_
      rintro e w3 ⟨rfl, hb⟩
      rw [HV1.out]
      have hM := HM2.out.step hb
      have HM3 := Lib.hid hM
      clear hb ka0 ka1 kb0 kb1 kc0 kc1 kd0 kd1
      obtain ⟨kd0, kd1, ka0, ka1, kb0, kb1, kc0, kc1⟩ := hM.all4
      clear hM
      go_wp2_with fail
      refine (valid_r _ _ _).mono ?_
      rintro e w4 ⟨rfl, hb⟩
      rw [HV1.out]
      have hM := HM3.out.step hb
      have HM4 := Lib.hid hM
      clear hb ka0 ka1 kb0 kb1 kc0 kc1 kd0 kd1
      obtain ⟨kd0, kd1, ka0, ka1, kb0, kb1, kc0, kc1⟩ := hM.all4
      clear hM
      go_wp2_with fail
      refine (valid_r _ _ _).mono ?_
      rintro e w5 ⟨rfl, hb⟩
      rw [HV1.out]
      have hM := HM4.out.step hb
      have HM5 := Lib.hid hM
      clear hb ka0 ka1 kb0 kb1 kc0 kc1 kd0 kd1
      obtain ⟨kd0, kd1, ka0, ka1, kb0, kb1, kc0, kc1⟩ := hM.all4
      clear hM
      go_wp2_with fail
      refine (under_any _ _ _ _ HV.out HV.out _).mono ?_
      rintro e w6 ⟨rfl, hb⟩
      rw [HU.out]
      have hM := HM5.out.step hb
      have HM6 := Lib.hid hM
      clear hb ka0 ka1 kb0 kb1 kc0 kc1 kd0 kd1
      obtain ⟨kd0, kd1, ka0, ka1, kb0, kb1, kc0, kc1⟩ := hM.all4
      clear hM
      go_wp2_with fail
      refine (under_any _ _ _ _ HV.out HV.out _).mono ?_
      rintro e w7 ⟨rfl, hb⟩
      rw [HU.out]
      have hM := HM6.out.step hb
      have HM7 := Lib.hid hM
      clear hb ka0 ka1 kb0 kb1 kc0 kc1 kd0 kd1
      obtain ⟨kd0, kd1, ka0, ka1, kb0, kb1, kc0, kc1⟩ := hM.all4
      clear hM
      go_wp2_with fail
      refine (awake_any _).mono ?_
      rintro e w8 ⟨rfl, hb⟩
      have HM8 := Lib.hid (HM7.out.step hb)
      clear hb
      go_wp2
      go_ret
      exact ⟨rfl, HM8.out.b⟩
    · obtain ⟨h1, h2, h3⟩ := hN.2 (by omega)
      obtain ⟨hL, hR⟩ := hN.vf HV.out hD1
      clear hN
      have HL := Lib.hid hL
      have HR := Lib.hid hR
      have HV2 : Hid (vfB x0 x1 = true) := Lib.hid ((vfB_iff _ _).2 hL)
      have HV3 : Hid (vfB y0 y1 = true) := Lib.hid ((vfB_iff _ _).2 hR)
      have HNB := Lib.hid (And.intro h1 (And.intro h2 h3))
      have q1 := h1.bD
      have q2 := h1.dD
      have q3 : (x1 == d1) = false := by simp; omega
      have q4 : (y1 == d1) = false := by simp; omega
      have HU1 : Hid (undB x0 x1 n1 d1 = true) := Lib.hid (by unfold undB; have := h1.lo; simp; omega)
      have HU2 : Hid (undB n1 d1 y0 y1 = true) := Lib.hid (by unfold undB; have := h1.hi; simp; omega)
      obtain ⟨m1, m2⟩ := mul_bd (a := y0) (b := x1) hR.n1 hR.n2 (by have := hL.d1; omega) hL.d2
      obtain ⟨m3, m4⟩ := mul_bd (a := x0) (b := y1) hL.n1 hL.n2 (by have := hR.d1; omega) hR.d2
      have hdet : y0 * x1 - x0 * y1 = 1 := h1.det
      clear h1 h2 h3 hL hR
      go_wp2_with fail
      refine (valid_r n1 d1 _).mono ?_
      rintro e w3 ⟨rfl, hb⟩
      rw [HV1.out]
      have hM := HM2.out.step hb
      have HM3 := Lib.hid hM
      clear hb ka0 ka1 kb0 kb1 kc0 kc1 kd0 kd1
      obtain ⟨kd0, kd1, ka0, ka1, kb0, kb1, kc0, kc1⟩ := hM.all4
      clear hM
      go_wp2_with fail
      refine (valid_r x0 x1 _).mono ?_
      rintro e w4 ⟨rfl, hb⟩
      rw [HV2.out]
      have hM := HM3.out.step hb
      have HM4 := Lib.hid hM
      clear hb ka0 ka1 kb0 kb1 kc0 kc1 kd0 kd1
      obtain ⟨kd0, kd1, ka0, ka1, kb0, kb1, kc0, kc1⟩ := hM.all4
      clear hM
      go_wp2_with fail
      refine (valid_r y0 y1 _).mono ?_
      rintro e w5 ⟨rfl, hb⟩
      rw [HV3.out]
      have hM := HM4.out.step hb
      have HM5 := Lib.hid hM
      clear hb ka0 ka1 kb0 kb1 kc0 kc1 kd0 kd1
      obtain ⟨kd0, kd1, ka0, ka1, kb0, kb1, kc0, kc1⟩ := hM.all4
      clear hM
      go_wp2_with fail
      refine (under_any x0 x1 n1 d1 HL.out HV.out _).mono ?_
      rintro e w6 ⟨rfl, hb⟩
      rw [HU1.out]
      have hM := HM5.out.step hb
      have HM6 := Lib.hid hM
      clear hb ka0 ka1 kb0 kb1 kc0 kc1 kd0 kd1
      obtain ⟨kd0, kd1, ka0, ka1, kb0, kb1, kc0, kc1⟩ := hM.all4
      clear hM
      go_wp2_with fail
      refine (under_any n1 d1 y0 y1 HV.out HR.out _).mono ?_
      rintro e w7 ⟨rfl, hb⟩
      rw [HU2.out]
      have hM := HM6.out.step hb
      have HM7 := Lib.hid hM
      clear hb ka0 ka1 kb0 kb1 kc0 kc1 kd0 kd1
      obtain ⟨kd0, kd1, ka0, ka1, kb0, kb1, kc0, kc1⟩ := hM.all4
      clear hM
      cases hb2 : vfB n2 d2
      · have HB2 := Lib.hid hb2
        clear hb2
        go_wp2_with fail
        refine (valid_r n2 d2 _).mono ?_
        rintro e w8 ⟨rfl, hb⟩
        rw [HB2.out]
        have hM := HM7.out.step hb
        have HM8 := Lib.hid hM
        clear hb ka0 ka1 kb0 kb1 kc0 kc1 kd0 kd1
        obtain ⟨kd0, kd1, ka0, ka1, kb0, kb1, kc0, kc1⟩ := hM.all4
        clear hM
        go_wp2_with fail
        refine (awake_any _).mono ?_
        rintro e w9 ⟨rfl, hb⟩
        have HM9 := Lib.hid (HM8.out.step hb)
        clear hb
        go_wp2
        go_ret
        exact ⟨rfl, HM9.out.b⟩
      · have HB2 := Lib.hid hb2
        clear hb2
        go_wp2_with fail
        refine (valid_r n2 d2 _).mono ?_
        rintro e w8 ⟨rfl, hb⟩
        rw [HB2.out]
        have hM := HM7.out.step hb
        have HM8 := Lib.hid hM
        clear hb ka0 ka1 kb0 kb1 kc0 kc1 kd0 kd1
        obtain ⟨kd0, kd1, ka0, ka1, kb0, kb1, kc0, kc1⟩ := hM.all4
        clear hM
        cases hu1 : undB n2 d2 x0 x1
        · have HW1 := Lib.hid hu1
          clear hu1
          go_wp2_with fail
          refine (under_any n2 d2 x0 x1 ((vfB_iff _ _).1 HB2.out) HL.out _).mono ?_
          rintro e w9 ⟨rfl, hb⟩
          rw [HW1.out]
          have hM := HM8.out.step hb
          have HM9 := Lib.hid hM
          clear hb ka0 ka1 kb0 kb1 kc0 kc1 kd0 kd1
          obtain ⟨kd0, kd1, ka0, ka1, kb0, kb1, kc0, kc1⟩ := hM.all4
          clear hM
          cases hu2 : undB y0 y1 n2 d2
          · have HW2 := Lib.hid hu2
            have hin : D < d2 := inside HNB.out.1 HNB.out.2.1 HNB.out.2.2 ((vfB_iff _ _).1 HB2.out) HW1.out hu2
            clear hu2
            go_wp2_with fail
            refine (under_any y0 y1 n2 d2 HR.out ((vfB_iff _ _).1 HB2.out) _).mono ?_
            rintro e w10 ⟨rfl, hb⟩
            rw [HW2.out]
            have hM := HM9.out.step hb
            have HM10 := Lib.hid hM
            clear hb ka0 ka1 kb0 kb1 kc0 kc1 kd0 kd1
            obtain ⟨kd0, kd1, ka0, ka1, kb0, kb1, kc0, kc1⟩ := hM.all4
            clear hM
            go_wp2_with fail
            refine (awake_any _).mono ?_
            rintro e w11 ⟨rfl, hb⟩
            have HM11 := Lib.hid (HM10.out.step hb)
            clear hb
            go_wp2
            go_ret
            exact ⟨rfl, HM11.out.b⟩
          · have HW2 := Lib.hid hu2
            clear hu2
            go_wp2_with fail
            refine (under_any y0 y1 n2 d2 HR.out ((vfB_iff _ _).1 HB2.out) _).mono ?_
            rintro e w10 ⟨rfl, hb⟩
            rw [HW2.out]
            have hM := HM9.out.step hb
            have HM10 := Lib.hid hM
            clear hb ka0 ka1 kb0 kb1 kc0 kc1 kd0 kd1
            obtain ⟨kd0, kd1, ka0, ka1, kb0, kb1, kc0, kc1⟩ := hM.all4
            clear hM
            go_wp2_with fail
            refine (awake_any _).mono ?_
            rintro e w11 ⟨rfl, hb⟩
            have HM11 := Lib.hid (HM10.out.step hb)
            clear hb
            go_wp2
            go_ret
            exact ⟨rfl, HM11.out.b⟩
        · have HW1 := Lib.hid hu1
          clear hu1
          go_wp2_with fail
          refine (under_any n2 d2 x0 x1 ((vfB_iff _ _).1 HB2.out) HL.out _).mono ?_
          rintro e w9 ⟨rfl, hb⟩
          rw [HW1.out]
          have hM := HM8.out.step hb
          have HM9 := Lib.hid hM
          clear hb ka0 ka1 kb0 kb1 kc0 kc1 kd0 kd1
          obtain ⟨kd0, kd1, ka0, ka1, kb0, kb1, kc0, kc1⟩ := hM.all4
          clear hM
          go_wp2_with fail
          refine (awake_any _).mono ?_
          rintro e w10 ⟨rfl, hb⟩
          have HM10 := Lib.hid (HM9.out.step hb)
          clear hb
          go_wp2
          go_ret
          exact ⟨rfl, HM10.out.b⟩

theorem own : ownKnob Try.prog.godebug = none := by kernel_rfl
theorem cellsFrac : Try.prog.cellsOf 23 = 2 := by kernel_rfl

set_option maxRecDepth 100000 in
theorem lifted (os : Os) (started : os.Started) (H : Type) (enc : TypeId × Value → H) :
    ReturnsInHanded {} Try.checked os 12 .any (Rows.fracNeighboursSpec.pre6 enc Try.prog Try.f12 Rows.fracNeighboursRow.domain false) (Rows.fracNeighboursSpec.post enc Try.prog Try.f12 false true false false) := by
  refine returnsInHanded_of_change (C := Try.checked) own started (by kernel_rfl) Try.func12
    (ChangeSpec.witness6 (enc := enc) (C := Try.checked) false ⟨#[], #[.agg #[.int .i64 0, .int .i64 0], .agg #[.int .i64 0, .int .i64 0], .int .i64 0], []⟩ 8 (by kernel_rfl) (by kernel_rfl) (by kernel_rfl) (by kernel_rfl)) ?_
  intro W base args ds gs before hval0 hW hcnd _
  have hval : ∀ (j : Nat) t v, Try.f12.params[j]? = some t → args[j]? = some v → Value.okWide Try.prog W .any base t v := hval0
  have hW' := hW
  obtain ⟨p, q, hA0, hV, rfl, hfz, hnd⟩ := hW
  have hA : DataW.TrodAll enc Try.prog W 0 (fun _ => true) true Try.f12.params.toList args.toList ds p := hA0
  rw [Try.params12] at hA hval
  obtain ⟨v0, vs0, d0, ds0, p0, q0, hargs, rfl, rfl, h0, r0⟩ := trodAll_cons hA
  obtain ⟨v1, vs1, d1, ds1, p1, q1, rfl, rfl, rfl, h1, r1⟩ := trodAll_cons r0
  obtain ⟨v2, vs2, d2, ds2, p2, q2, rfl, rfl, rfl, h2, r2⟩ := trodAll_cons r1
  obtain ⟨rfl, rfl, rfl⟩ := trodAll_nil r2
  obtain rfl : args = #[v0, v1, v2] := by cases args; simp_all
  obtain ⟨rfl, rfl⟩ := trodVars_none hV
  obtain ⟨c0a, c0b, y0a, y0b, m0, rfl, rfl, rfl, hy0a, hy0b⟩ := open_agg2 Try.underlying23 (by kernel_rfl) cellsFrac (hval 0 23 v0 rfl rfl) h0
  obtain ⟨n0, e0a, rfl, wn0⟩ := DataW.trod_int Try.underlying3 hy0a
  obtain ⟨k0, e0b, rfl, wk0⟩ := DataW.trod_int Try.underlying3 hy0b
  simp at e0a e0b
  subst e0a e0b
  obtain ⟨c1a, c1b, y1a, y1b, m1, rfl, rfl, rfl, hy1a, hy1b⟩ := open_agg2 Try.underlying23 (by kernel_rfl) cellsFrac (hval 1 23 v1 rfl rfl) h1
  obtain ⟨n1, e1a, rfl, wn1⟩ := DataW.trod_int Try.underlying3 hy1a
  obtain ⟨k1, e1b, rfl, wk1⟩ := DataW.trod_int Try.underlying3 hy1b
  simp at e1a e1b
  subst e1a e1b
  obtain ⟨n2, rfl, rfl, rfl, wn2⟩ := open_int Try.underlying3 (hval 2 3 v2 rfl rfl) h2
  clear hA0 hval0
  simp only [List.append_nil] at hW'
  refine (walk n0 k0 wn0 wk0 n1 k1 wn1 wk1 n2 wn2 W ).mono fun e W' ⟨he, hb⟩ => ?_
  subst he
  refine ⟨_, rfl, _, _, _, [], [], [], hW', ?_, ?_, rfl, hb.frame _, fun h => by cases h⟩
  · exact trodAll_cons_mk (shut_bool Try.underlying4 _) trodAll_mk0
  · exact (trodAll_cons_mk (shut_agg2 (y0 := (.lit (.int .i64 n0), [])) (y1 := (.lit (.int .i64 k0), [])) Try.underlying23 (by kernel_rfl) cellsFrac ⟨1, by simp [DataW.trod, Try.underlying3, wn0]⟩ ⟨1, by simp [DataW.trod, Try.underlying3, wk0]⟩) (trodAll_cons_mk (shut_agg2 (y0 := (.lit (.int .i64 n1), [])) (y1 := (.lit (.int .i64 k1), [])) Try.underlying23 (by kernel_rfl) cellsFrac ⟨1, by simp [DataW.trod, Try.underlying3, wn1]⟩ ⟨1, by simp [DataW.trod, Try.underlying3, wk1]⟩) (trodAll_cons_mk (shut_int Try.underlying3 wn2) trodAll_mk0)))

theorem over : Rows.fracNeighboursRow.holds Try.pinned (OpenSpec.ofChange Rows.fracNeighboursSpec) :=
  OpenClaim.holds_of_wide 12 Try.f12 rfl rfl rfl rfl rfl rfl rfl ⟨rfl, rfl, rfl, rfl, rfl⟩ rfl rfl rfl rfl rfl (by kernel_rfl) Try.func12 (by kernel_rfl)
    (of_decide_eq_true (by kernel_rfl)) (by unfold Func.isWrapper; first | (rw [if_pos (by decide +kernel)]; kernel_rfl) | (rw [if_neg (by decide +kernel)]; exact ⟨rfl, rfl⟩))
    (fun os started H enc _ => lifted os started H enc)

/-- THE STATEMENT. -/
theorem proved : Rows.FracNeighboursSaid := over
#print axioms proved

end Go.Proofs.Ytjnfgjaiahnfgaa.lawFracNeighbours

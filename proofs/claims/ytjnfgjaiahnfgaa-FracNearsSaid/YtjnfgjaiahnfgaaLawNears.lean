/- FracNears: Below, Above and Near give what the reference gives, for every fraction and bound; no condition. -/
import Derived.Test.YtjnfgjaiahnfgaaRows
import Derived.ProofKit
import Derived.OpenShut
import Derived.Lib.SmallJoins
import Derived.Test.YtjnfgjaiahnfgaaNearB
namespace Go.Proofs.Ytjnfgjaiahnfgaa.lawFracNears
open Go.ChangeShapes Go.WideShapes Go.ChangeAt Go.RowKit Go.Joins
set_option linter.unusedVariables false

theorem sides {n d D x0 x1 x2 y0 y1 y2 a b c e z : Int} (h : SideR true n d D x0 x1 x2) (h' : SideR false n d D y0 y1 y2) (ha : AroR n d D a b c e z) : a = x0 ∧ b = x1 ∧ c = y0 ∧ e = y1 ∧ x2 = z ∧ y2 = z := by
  cases hb : bdB n d D
  · obtain ⟨rfl, rfl, rfl⟩ := h.1 hb
    obtain ⟨rfl, rfl, rfl⟩ := h'.1 hb
    obtain ⟨rfl, rfl, rfl, rfl, rfl⟩ := ha.1 hb
    exact ⟨rfl, rfl, rfl, rfl, rfl, rfl⟩
  · have hv := ((bdB_iff _ _ _).1 hb).1
    obtain ⟨rfl, hN⟩ := ha.2 hb
    obtain ⟨rfl, a1, b1, c1, e1, hN1, hxa, hxb⟩ := h.2 hb
    obtain ⟨rfl, a2, b2, c2, e2, hN2, hyc, hye⟩ := h'.2 hb
    have k1 : x0 = a1 := hxa
    have k2 : x1 = b1 := hxb
    have k3 : y0 = c2 := hyc
    have k4 : y1 = e2 := hye
    obtain ⟨u1, u2, u3, u4⟩ := hN.uniq hv hN1
    obtain ⟨v1, v2, v3, v4⟩ := hN.uniq hv hN2
    exact ⟨u1.trans k1.symm, u2.trans k2.symm, v3.trans k3.symm, v4.trans k4.symm, rfl, rfl⟩

set_option maxRecDepth 100000 in
set_option maxHeartbeats 3200000 in
theorem walk (n1 d1 : Int) (_ : (Lit.int .i64 n1).wf = true) (_ : (Lit.int .i64 d1).wf = true) (D : Int) (_ : (Lit.int .i64 D).wf = true) (w : World) :
    Calls Try.prog 11 #[.agg #[.int .i64 n1, .int .i64 d1], .int .i64 D] w fun e w' => e = .returned (.bool true) ∧ Below w.heap.size w w' := by
  have HM := Lib.hid ((Mem.nil w).alloc #[.int .i64 n1, .int .i64 d1] 23)
  go_enter Try.func11, Try.ntmps11
  go_wp2_with fail
  refine (below_p n1 d1 D _).mono ?_
  rintro e w1 ⟨x0, x1, x2, rfl, H1, hb⟩
  have HM1 := Lib.hid ((HM.out.step hb).alloc #[.int .i64 x0, .int .i64 x1] 23)
  obtain ⟨a0, a1, a2, a3, a4⟩ := (HM.out.step hb).c2
  clear hb
  go_wp2_with fail
  refine (above_p n1 d1 D _).mono ?_
  rintro e w2 ⟨y0, y1, y2, rfl, H2, hb⟩
  have HM2 := Lib.hid ((HM1.out.step hb).alloc #[.int .i64 y0, .int .i64 y1] 23)
  clear a0 a1 a2 a3 a4
  obtain ⟨a0, a1, a2, a3, a4⟩ := (HM1.out.step hb).tail.c2
  clear hb
  go_wp2_with fail
  refine (near_p n1 d1 D _).mono ?_
  rintro e w3 ⟨g0, g1, g2, rfl, H3, hb⟩
  have HM3 := Lib.hid ((HM2.out.step hb).alloc #[.int .i64 g0, .int .i64 g1] 23)
  clear a0 a1 a2 a3 a4
  obtain ⟨a0, a1, a2, a3, a4⟩ := (HM2.out.step hb).tail.tail.c2
  clear hb
  go_wp2_with fail
  refine (around_any n1 d1 D _).mono ?_
  rintro e w4 ⟨a, b, c, f, z, rfl, H4, hb⟩
  obtain ⟨rfl, rfl, rfl, rfl, rfl, rfl⟩ := sides H1.out H2.out H4.out
  have hM4 := ((HM3.out.step hb).alloc #[.int .i64 a, .int .i64 b] 23).alloc #[.int .i64 c, .int .i64 f] 23
  rw [World.size_alloc] at hM4
  have HM4 := Lib.hid hM4
  have hlt4 : w.heap.size < w4.heap.size + 1 := by have := (HM3.out.step hb).tail.tail.tail.head_lt; omega
  clear a0 a1 a2 a3 a4
  obtain ⟨a0, a1, a2, a3, a4⟩ := (HM3.out.step hb).tail.tail.tail.c2
  clear hb hM4 H1 H2 H4
  go_wp2_with fail
  refine (near_r n1 d1 D _).mono ?_
  rintro e w5 ⟨h0, h1, h2, rfl, H5, hb⟩
  obtain ⟨rfl, rfl, rfl⟩ := H3.out.same H5.out
  have hM5 := HM4.out.step hb
  have HM5 := Lib.hid (hM5.skip (.cells #[.int .i64 h0, .int .i64 h1] 23))
  clear a0 a1 a2 a3 a4
  obtain ⟨ka0, ka1, -, -, ka4⟩ := hM5.c2
  obtain ⟨kb0, kb1, -, -, kb4⟩ := hM5.tail.c2
  obtain ⟨kc0, kc1, -, -, kc4⟩ := hM5.tail.tail.c2
  obtain ⟨kd0, kd1, -, -, kd4⟩ := hM5.tail.tail.tail.c2
  obtain ⟨ke0, ke1, -, -, ke4⟩ := hM5.tail.tail.tail.tail.c2
  clear hb hM5 H3 H5
  go_wp2_with fail
  refine (awake_any _).mono ?_
  rintro e w6 ⟨rfl, hb⟩
  have HM6 := Lib.hid (HM5.out.step hb)
  clear hb
  go_wp2
  go_ret
  exact ⟨rfl, HM6.out.b⟩

theorem own : ownKnob Try.prog.godebug = none := by kernel_rfl
theorem cellsFrac : Try.prog.cellsOf 23 = 2 := by kernel_rfl

set_option maxRecDepth 100000 in
theorem lifted (os : Os) (started : os.Started) (H : Type) (enc : TypeId × Value → H) :
    ReturnsInHanded {} Try.checked os 11 .any (Rows.fracNearsSpec.pre6 enc Try.prog Try.f11 Rows.fracNearsRow.domain false) (Rows.fracNearsSpec.post enc Try.prog Try.f11 false true false false) := by
  refine returnsInHanded_of_change (C := Try.checked) own started (by kernel_rfl) Try.func11
    (ChangeSpec.witness6 (enc := enc) (C := Try.checked) false ⟨#[], #[.agg #[.int .i64 0, .int .i64 0], .int .i64 0], []⟩ 8 (by kernel_rfl) (by kernel_rfl) (by kernel_rfl) (by kernel_rfl)) ?_
  intro W base args ds gs before hval0 hW hcnd _
  have hval : ∀ (j : Nat) t v, Try.f11.params[j]? = some t → args[j]? = some v → Value.okWide Try.prog W .any base t v := hval0
  have hW' := hW
  obtain ⟨p, q, hA0, hV, rfl, hfz, hnd⟩ := hW
  have hA : DataW.TrodAll enc Try.prog W 0 (fun _ => true) true Try.f11.params.toList args.toList ds p := hA0
  rw [Try.params11] at hA hval
  obtain ⟨v0, vs0, d0, ds0, p0, q0, hargs, rfl, rfl, h0, r0⟩ := trodAll_cons hA
  obtain ⟨v1, vs1, d1, ds1, p1, q1, rfl, rfl, rfl, h1, r1⟩ := trodAll_cons r0
  obtain ⟨rfl, rfl, rfl⟩ := trodAll_nil r1
  obtain rfl : args = #[v0, v1] := by cases args; simp_all
  obtain ⟨rfl, rfl⟩ := trodVars_none hV
  obtain ⟨c0a, c0b, y0a, y0b, m0, rfl, rfl, rfl, hy0a, hy0b⟩ := open_agg2 Try.underlying23 (by kernel_rfl) cellsFrac (hval 0 23 v0 rfl rfl) h0
  obtain ⟨n0, e0a, rfl, wn0⟩ := DataW.trod_int Try.underlying3 hy0a
  obtain ⟨k0, e0b, rfl, wk0⟩ := DataW.trod_int Try.underlying3 hy0b
  simp at e0a e0b
  subst e0a e0b
  obtain ⟨n1, rfl, rfl, rfl, wn1⟩ := open_int Try.underlying3 (hval 1 3 v1 rfl rfl) h1
  clear hA0 hval0
  simp only [List.append_nil] at hW'
  refine (walk n0 k0 wn0 wk0 n1 wn1 W ).mono fun e W' ⟨he, hb⟩ => ?_
  subst he
  refine ⟨_, rfl, _, _, _, [], [], [], hW', ?_, ?_, rfl, hb.frame _, fun h => by cases h⟩
  · exact trodAll_cons_mk (shut_bool Try.underlying4 _) trodAll_mk0
  · exact (trodAll_cons_mk (shut_agg2 (y0 := (.lit (.int .i64 n0), [])) (y1 := (.lit (.int .i64 k0), [])) Try.underlying23 (by kernel_rfl) cellsFrac ⟨1, by simp [DataW.trod, Try.underlying3, wn0]⟩ ⟨1, by simp [DataW.trod, Try.underlying3, wk0]⟩) (trodAll_cons_mk (shut_int Try.underlying3 wn1) trodAll_mk0))

theorem over : Rows.fracNearsRow.holds Try.pinned (OpenSpec.ofChange Rows.fracNearsSpec) :=
  OpenClaim.holds_of_wide 11 Try.f11 rfl rfl rfl rfl rfl rfl rfl ⟨rfl, rfl, rfl, rfl, rfl⟩ rfl rfl rfl rfl rfl (by kernel_rfl) Try.func11 (by kernel_rfl)
    (of_decide_eq_true (by kernel_rfl)) (by unfold Func.isWrapper; first | (rw [if_pos (by decide +kernel)]; kernel_rfl) | (rw [if_neg (by decide +kernel)]; exact ⟨rfl, rfl⟩))
    (fun os started H enc _ => lifted os started H enc)

/-- THE STATEMENT. -/
theorem proved : Rows.FracNearsSaid := over
#print axioms proved

end Go.Proofs.Ytjnfgjaiahnfgaa.lawFracNears

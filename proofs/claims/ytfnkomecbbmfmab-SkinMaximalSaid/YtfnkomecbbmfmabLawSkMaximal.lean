/- SkinMaximal: Maximal answers as the reference's, for every slice of strings and every least grade; no condition. -/
import Derived.Test.YtfnkomecbbmfmabRows
import Derived.ProofKit
import Derived.OpenShut
import Derived.Lib.SmallJoins
import Derived.Test.YtfnkomecbbmfmabSmU
import Derived.Test.YtfnkomecbbmfmabSmV
import Derived.Test.YtfnkomecbbmfmabSmW
namespace Go.Proofs.Ytfnkomecbbmfmab.lawSkinMaximal
open Go.ChangeShapes Go.WideShapes Go.ChangeAt Go.RowKit Go.Joins
set_option linter.unusedVariables false

set_option maxRecDepth 100000 in
set_option maxHeartbeats 1600000 in
theorem walk (a : Option Addr) (cap : Nat) (ss : List ByteArray) (wf : ss.length ≤ maxLen ∧ ∀ s ∈ ss, s.size ≤ maxLen) (g : Int) (wg : (Lit.int .i64 g).wf = true) (w : World) (h : StrS w a ss) :
    Calls Try.prog 3 #[.slice a ss.length cap, .int .i64 g] w fun e w' => e = .returned (.bool true) ∧ Below w.heap.size w w' := by
  obtain ⟨l1, l2⟩ := wf
  have l1' : (ss.length : Int) ≤ 9223372036854775807 := by unfold maxLen at l1; omega
  have l2' : ∀ s ∈ ss, s.size ≤ 9223372036854775807 := fun s hs => by have := l2 s hs; unfold maxLen at this; omega
  obtain ⟨M, E, hM, H1, H2⟩ : ∃ (M : List Rc) (E : Int), (M.length : Int) ≤ 9223372036854775807 ∧
      Hid (∀ w', Below w.heap.size w w' → Calls Try.prog 8 #[.slice a ss.length cap, .int .i64 g] w' fun e w'' => ∃ a' c', e = .returned (.tuple #[.slice a' M.length c', .int .i64 E]) ∧ RecS w'' a' M ∧ Below w'.heap.size w' w'') ∧
      Hid (∀ w', Below w.heap.size w w' → Calls Try.prog 9 #[.slice a ss.length cap, .int .i64 g] w' fun e w'' => ∃ a' c', e = .returned (.tuple #[.slice a' M.length c', .int .i64 E]) ∧ RecS w'' a' M ∧ Below w'.heap.size w' w'') := by
    by_cases hgood : skB ss = true ∧ 1 ≤ g ∧ g ≤ 9
    · obtain ⟨hs, h1, h9⟩ := hgood
      obtain ⟨⟨hl1, hl2⟩, ⟨hw1, hw2⟩, -⟩ := skB_iff.1 hs
      have := mxTo_len (usB ss g) (wid ss) ss.length ss.length 0 0 0 hw2 hl2 hl2 (by omega) (by omega) (by omega)
      exact ⟨_, 0, by omega, Lib.hid (fun w' hb => maximal_yes a cap ss hs g h1 h9 w' (h.below hb)), Lib.hid (fun w' hb => rMaximal_yes a cap ss hs g h1 h9 w' (h.below hb))⟩
    · exact ⟨[], 2, by simp, Lib.hid (fun w' hb => (maximal_no a cap ss l1' l2' g hgood w' (h.below hb)).mono (fun e w'' ⟨h1, h2⟩ => ⟨none, 0, h1, .inl rfl, h2⟩)), Lib.hid (fun w' hb => (rMaximal_no a cap ss l1' l2' g hgood w' (h.below hb)).mono (fun e w'' ⟨h1, h2⟩ => ⟨none, 0, h1, .inl rfl, h2⟩))⟩
  have hEE : (E == E) = true := by simp
  clear h l1 l2 l1' l2' wg
  go_enter Try.func3, Try.ntmps3
  go_wp2_with fail
  refine (H1.out _ (Below.refl _ _)).mono ?_
  rintro e w1 ⟨a1, c1, rfl, s1, hb⟩
  have S1 := Lib.hid (And.intro hb s1)
  clear hb s1
  go_wp2_with fail
  refine (H2.out _ S1.out.1).mono ?_
  rintro e w2 ⟨a2, c2, rfl, s2, hb⟩
  have S2 := Lib.hid (And.intro (S1.out.1.trans (hb.mono S1.out.1.size)) (And.intro (S1.out.2.below hb) s2))
  clear hb s2
  go_wp2_with fail
  refine (equalR_any _ _ _ _ M hM _ S2.out.2.1 S2.out.2.2).mono ?_
  rintro e w3 ⟨rfl, hb⟩
  have HB3 := Lib.hid (S2.out.1.trans (hb.mono S2.out.1.size))
  clear hb
  go_wp2_with fail
  refine (skAwake_any _).mono ?_
  rintro e w9 ⟨rfl, hb⟩
  have HE := Lib.hid (HB3.out.trans (hb.mono HB3.out.size))
  clear hb
  go_wp2
  go_ret
  exact ⟨rfl, HE.out⟩

theorem own : ownKnob Try.prog.godebug = none := by kernel_rfl

set_option maxRecDepth 100000 in
theorem lifted (os : Os) (started : os.Started) (H : Type) (enc : TypeId × Value → H) :
    ReturnsInHanded {} Try.checked os 3 .any (Rows.skinMaximalSpec.pre6 enc Try.prog Try.f3 Rows.skinMaximalRow.domain false) (Rows.skinMaximalSpec.post enc Try.prog Try.f3 false true false false) := by
  refine returnsInHanded_of_change (C := Try.checked) own started (by kernel_rfl) Try.func3
    (ChangeSpec.witness6 (enc := enc) (C := Try.checked) false ⟨#[], #[.slice none 0 0, .int .i64 0], []⟩ 8 (by kernel_rfl) (by kernel_rfl) (by kernel_rfl) (by kernel_rfl)) ?_
  intro W base args ds gs before hval0 hW hcnd _
  have hval : ∀ (j : Nat) t v, Try.f3.params[j]? = some t → args[j]? = some v → Value.okWide Try.prog W .any base t v := hval0
  have hW' := hW
  obtain ⟨p, q, hA0, hV, rfl, hfz, hnd⟩ := hW
  have hA : DataW.TrodAll enc Try.prog W 0 (fun _ => true) true Try.f3.params.toList args.toList ds p := hA0
  rw [Try.params3] at hA hval
  obtain ⟨v0, vs0, d0, ds0, p0, q0, hargs, rfl, rfl, h0, r0⟩ := trodAll_cons hA
  obtain ⟨v1, vs1, d1, ds1, p1, q1, rfl, rfl, rfl, h1, r1⟩ := trodAll_cons r0
  obtain ⟨rfl, rfl, rfl⟩ := trodAll_nil r1
  obtain rfl : args = #[v0, v1] := by cases args; simp_all
  obtain ⟨rfl, rfl⟩ := trodVars_none hV
  obtain ⟨a0, len0, cap0, rfl⟩ := okWide_slice Try.underlying22 (hval 0 22 v0 rfl rfl)
  have k0 := h0
  have lt0 : ∀ x ∈ p0, x.block < W.heap.size := by obtain ⟨m, hm⟩ := k0; exact DataW.trod_lt m _ _ _ hm
  obtain ⟨fs0, hl0, hF0, wf0⟩ := open_skS h0
  subst hl0
  obtain ⟨n1, rfl, rfl, rfl, wn1⟩ := open_int Try.underlying3 (hval 1 3 v1 rfl rfl) h1
  clear hA0 hval0
  refine (walk a0 cap0 fs0 wf0 n1 wn1 W hF0).mono fun e W' ⟨he, hb⟩ => ?_
  subst he
  exact ⟨_, rfl, _, _, _, [], _, [], hW', trodAll_mk1 (shut_bool Try.underlying4 _), (trodAll_cons_mk (Below.trod laidOut (by kernel_rfl) (of_decide_eq_true (by kernel_rfl)) k0 hb lt0) (trodAll_cons_mk (shut_int Try.underlying3 wn1) trodAll_mk0)), rfl, hb.frame _, fun h => by cases h⟩

theorem over : Rows.skinMaximalRow.holds Try.pinned (OpenSpec.ofChange Rows.skinMaximalSpec) :=
  OpenClaim.holds_of_wide 3 Try.f3 rfl rfl rfl rfl rfl rfl rfl ⟨rfl, rfl, rfl, rfl, rfl⟩ rfl rfl rfl rfl rfl (by kernel_rfl) Try.func3 (by kernel_rfl)
    (of_decide_eq_true (by kernel_rfl)) (by unfold Func.isWrapper; first | (rw [if_pos (by decide +kernel)]; kernel_rfl) | (rw [if_neg (by decide +kernel)]; exact ⟨rfl, rfl⟩))
    (fun os started H enc _ => lifted os started H enc)

/-- THE STATEMENT. -/
theorem proved : Rows.SkinMaximalSaid := over
#print axioms proved

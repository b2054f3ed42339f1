/- FracFromTerms: FromTerms gives what the reference gives, for every slice of ints; no condition. -/
import Derived.Test.YtjnfgjaiahnfgaaRows
import Derived.ProofKit
import Derived.OpenShut
import Derived.Lib.SmallJoins
import Derived.Test.YtjnfgjaiahnfgaaArg
import Derived.Test.YtjnfgjaiahnfgaaAwake
import Derived.Test.YtjnfgjaiahnfgaaFTr
namespace Go.Proofs.Ytjnfgjaiahnfgaa.lawFracFromTerms
open Go.ChangeShapes Go.WideShapes Go.ChangeAt Go.RowKit Go.Joins
set_option linter.unusedVariables false

theorem same3 {q : Int × Int × Int} {a b c a' b' c' : Int} (h : Hid (q = (a, b, c))) (h' : Hid (q = (a', b', c'))) : a' = a ∧ b' = b ∧ c' = c := by
  have e := h'.out.symm.trans h.out
  simpa using e

theorem open_capS {H : Type} {enc : TypeId × Value → H} {W : World} {a : Option Addr} {len cap : Nat} {d : DataW H} {p : List MemPlace}
    (h : DataW.Trod enc Try.prog W 0 (fun _ => true) true 51 (.slice a len cap) d p) : len ≤ cap ∧ (cap : Int) ≤ 9223372036854775807 := by
  obtain ⟨fuel, hf⟩ := h
  rcases open_ints Try.underlying51 Try.underlying3 (by kernel_rfl) hf with ⟨hcs, _⟩ | ⟨x, l, c, zs, hcs, _, hl, hm, hz, _, hcell, hwz⟩
  · simp [Value.cells] at hcs
    obtain ⟨rfl, rfl, rfl⟩ := hcs
    exact ⟨Nat.le_refl _, by decide⟩
  · simp [Value.cells] at hcs
    obtain ⟨rfl, rfl, rfl⟩ := hcs
    unfold maxLen at hm
    exact ⟨by simpa using hl, by omega⟩

theorem wf64 {n : Int} (h : (Lit.int .i64 n).wf = true) : -9223372036854775808 ≤ n ∧ n ≤ 9223372036854775807 := by
  have := bounds_i64 h
  omega

set_option maxRecDepth 100000 in
set_option maxHeartbeats 1600000 in
theorem walk (a : Option Addr) (cap : Nat) (zs : List Int) (hwf : ∀ z ∈ zs, (Lit.int .i64 z).wf = true) (hcap : zs.length ≤ cap) (hcm : (cap : Int) ≤ 9223372036854775807) (w : World) (h : IntS w a zs) :
    Calls Try.prog 10 #[.slice a zs.length cap] w fun e w' => e = .returned (.bool true) ∧ Below w.heap.size w w' := by
  have HF := Lib.hid h
  have HW := Lib.hid (fun z hz => wf64 (hwf z hz))
  clear h hwf
  go_enter Try.func10, Try.ntmps10
  go_wp2_with fail
  refine (fromTerms_p a cap zs HW.out hcap hcm w HF.out).mono ?_
  rintro e w1 ⟨x0, x1, x2, rfl, H1, hb⟩
  have HM1 := Lib.hid (((Mem.nil w).step hb).alloc #[.int .i64 x0, .int .i64 x1] 23)
  clear hb
  go_wp2_with fail
  refine (fromTerms_r a cap zs HW.out hcap hcm _ (HF.out.mem HM1.out)).mono ?_
  rintro e w2 ⟨y0, y1, y2, rfl, H2, hb⟩
  obtain ⟨rfl, rfl, rfl⟩ := same3 H1 H2
  have hM := HM1.out.step hb
  obtain ⟨k0, k1, -, -, hlt⟩ := hM.c2
  have HM2 := Lib.hid (hM.skip (.cells #[.int .i64 y0, .int .i64 y1] 23))
  clear H1 H2 hb hM
  go_wp2_with fail
  refine (awake_any _).mono ?_
  rintro e w3 ⟨rfl, hb⟩
  have HM3 := Lib.hid (HM2.out.step hb)
  clear hb
  go_wp2
  go_ret
  exact ⟨rfl, HM3.out.b⟩

theorem own : ownKnob Try.prog.godebug = none := by kernel_rfl

set_option maxRecDepth 100000 in
theorem lifted (os : Os) (started : os.Started) (H : Type) (enc : TypeId × Value → H) :
    ReturnsInHanded {} Try.checked os 10 .any (Rows.fracFromTermsSpec.pre6 enc Try.prog Try.f10 Rows.fracFromTermsRow.domain false) (Rows.fracFromTermsSpec.post enc Try.prog Try.f10 false true false false) := by
  refine returnsInHanded_of_change (C := Try.checked) own started (by kernel_rfl) Try.func10
    (ChangeSpec.witness6 (enc := enc) (C := Try.checked) false ⟨#[], #[.slice none 0 0], []⟩ 8 (by kernel_rfl) (by kernel_rfl) (by kernel_rfl) (by kernel_rfl)) ?_
  intro W base args ds gs before hval0 hW hcnd _
  have hval : ∀ (j : Nat) t v, Try.f10.params[j]? = some t → args[j]? = some v → Value.okWide Try.prog W .any base t v := hval0
  have hW' := hW
  obtain ⟨p, q, hA0, hV, rfl, hfz, hnd⟩ := hW
  have hA : DataW.TrodAll enc Try.prog W 0 (fun _ => true) true Try.f10.params.toList args.toList ds p := hA0
  rw [Try.params10] at hA hval
  obtain ⟨v0, vs0, d0, ds0, p0, q0, hargs, rfl, rfl, h0, r0⟩ := trodAll_cons hA
  obtain ⟨rfl, rfl, rfl⟩ := trodAll_nil r0
  obtain rfl : args = #[v0] := by cases args; simp_all
  obtain ⟨rfl, rfl⟩ := trodVars_none hV
  obtain ⟨a0, len0, cap0, rfl⟩ := okWide_slice Try.underlying51 (hval 0 51 v0 rfl rfl)
  have k0 := h0
  have lt0 : ∀ x ∈ p0, x.block < W.heap.size := by obtain ⟨m, hm⟩ := k0; exact DataW.trod_lt m _ _ _ hm
  obtain ⟨hc0, hm0⟩ := open_capS h0
  obtain ⟨fs0, hl0, hF0, wf0⟩ := open_intS h0
  subst hl0
  clear hA0 hval0
  refine (walk a0 cap0 fs0 wf0 hc0 hm0 W hF0).mono fun e W' ⟨he, hb⟩ => ?_
  subst he
  exact ⟨_, rfl, _, _, _, [], _, [], hW', trodAll_mk1 (shut_bool Try.underlying4 _), (trodAll_cons_mk (Below.trod laidOut (by kernel_rfl) (of_decide_eq_true (by kernel_rfl)) k0 hb lt0) trodAll_mk0), rfl, hb.frame _, fun h => by cases h⟩

theorem over : Rows.fracFromTermsRow.holds Try.pinned (OpenSpec.ofChange Rows.fracFromTermsSpec) :=
  OpenClaim.holds_of_wide 10 Try.f10 rfl rfl rfl rfl rfl rfl rfl ⟨rfl, rfl, rfl, rfl, rfl⟩ rfl rfl rfl rfl rfl (by kernel_rfl) Try.func10 (by kernel_rfl)
    (of_decide_eq_true (by kernel_rfl)) (by unfold Func.isWrapper; first | (rw [if_pos (by decide +kernel)]; kernel_rfl) | (rw [if_neg (by decide +kernel)]; exact ⟨rfl, rfl⟩))
    (fun os started H enc _ => lifted os started H enc)

/-- THE STATEMENT. -/
theorem proved : Rows.FracFromTermsSaid := over
#print axioms proved

end Go.Proofs.Ytjnfgjaiahnfgaa.lawFracFromTerms

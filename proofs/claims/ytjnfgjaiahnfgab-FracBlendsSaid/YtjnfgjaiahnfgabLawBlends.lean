/- FracBlends: Blend gives what the reference gives, for every slice of fractions and every slice of weights; no condition. -/
import Derived.Test.YtjnfgjaiahnfgabRows
import Derived.ProofKit
import Derived.OpenShut
import Derived.Lib.SmallJoins
import Derived.Test.YtjnfgjaiahnfgabArg
import Derived.Test.YtjnfgjaiahnfgabBlendR
namespace Go.Proofs.Ytjnfgjaiahnfgab.lawFracBlends
open Go.ChangeShapes Go.WideShapes Go.ChangeAt Go.RowKit Go.Joins
set_option linter.unusedVariables false

theorem same3 {q : Int × Int × Int} {a b c a' b' c' : Int} (h : Hid (q = (a, b, c))) (h' : Hid (q = (a', b', c'))) : a' = a ∧ b' = b ∧ c' = c := by
  have e := h'.out.symm.trans h.out
  simpa using e

set_option maxRecDepth 100000 in
set_option maxHeartbeats 1600000 in
theorem walk (a : Option Addr) (cap : Nat) (fs : List (Int × Int)) (_ : ∀ f ∈ fs, (Lit.int .i64 f.1).wf = true ∧ (Lit.int .i64 f.2).wf = true) (a2 : Option Addr) (cap2 : Nat) (ws : List Int) (_ : ∀ f ∈ ws, (Lit.int .i64 f).wf = true) (w : World) (h : FrS w a fs) (g : IntS w a2 ws) :
    Calls Try.prog 7 #[.slice a fs.length cap, .slice a2 ws.length cap2] w fun e w' => e = .returned (.bool true) ∧ Below w.heap.size w w' := by
  have HF := Lib.hid h
  have HG := Lib.hid g
  clear h g
  go_enter Try.func7, Try.ntmps7
  go_wp2_with fail
  refine (pblend_any a a2 cap cap2 fs ws w HF.out HG.out).mono ?_
  rintro e w1 ⟨x0, x1, x2, rfl, H1, hb⟩
  have HM1 := Lib.hid (((Mem.nil w).step hb).alloc #[.int .i64 x0, .int .i64 x1] 23)
  clear hb
  go_wp2_with fail
  refine (rblend_any a a2 cap cap2 fs ws _ (HF.out.mem HM1.out) (HG.out.mem HM1.out)).mono ?_
  rintro e w2 ⟨y0, y1, y2, rfl, H2, hb⟩
  obtain ⟨rfl, rfl, rfl⟩ := same3 H1 H2
  have hM := HM1.out.step hb
  obtain ⟨k0, k1, -, -, hlt⟩ := hM.c2
  have HM2 := Lib.hid (hM.skip (.cells #[.int .i64 y0, .int .i64 y1] 23))
  clear H1 H2 hb hM
  go_wp2_with fail
  refine (awake_any _).mono ?_
  rintro e w3 ⟨rfl, hb⟩
  have HM3 := Lib.hid (HM2.out.step hb)
  clear hb
  go_wp2
  go_ret
  exact ⟨rfl, HM3.out.b⟩

theorem own : ownKnob Try.prog.godebug = none := by kernel_rfl

set_option maxRecDepth 100000 in
theorem lifted (os : Os) (started : os.Started) (H : Type) (enc : TypeId × Value → H) :
    ReturnsInHanded {} Try.checked os 7 .any (Rows.fracBlendsSpec.pre6 enc Try.prog Try.f7 Rows.fracBlendsRow.domain false) (Rows.fracBlendsSpec.post enc Try.prog Try.f7 false true false false) := by
  refine returnsInHanded_of_change (C := Try.checked) own started (by kernel_rfl) Try.func7
    (ChangeSpec.witness6 (enc := enc) (C := Try.checked) false ⟨#[], #[.slice none 0 0, .slice none 0 0], []⟩ 8 (by kernel_rfl) (by kernel_rfl) (by kernel_rfl) (by kernel_rfl)) ?_
  intro W base args ds gs before hval0 hW hcnd _
  have hval : ∀ (j : Nat) t v, Try.f7.params[j]? = some t → args[j]? = some v → Value.okWide Try.prog W .any base t v := hval0
  have hW' := hW
  obtain ⟨p, q, hA0, hV, rfl, hfz, hnd⟩ := hW
  have hA : DataW.TrodAll enc Try.prog W 0 (fun _ => true) true Try.f7.params.toList args.toList ds p := hA0
  rw [Try.params7] at hA hval
  obtain ⟨v0, vs0, d0, ds0, p0, q0, hargs, rfl, rfl, h0, r0⟩ := trodAll_cons hA
  obtain ⟨v1, vs1, d1, ds1, p1, q1, rfl, rfl, rfl, h1, r1⟩ := trodAll_cons r0
  obtain ⟨rfl, rfl, rfl⟩ := trodAll_nil r1
  obtain rfl : args = #[v0, v1] := by cases args; simp_all
  obtain ⟨rfl, rfl⟩ := trodVars_none hV
  obtain ⟨a0, len0, cap0, rfl⟩ := okWide_slice Try.underlying31 (hval 0 31 v0 rfl rfl)
  have k0 := h0
  have lt0 : ∀ x ∈ p0, x.block < W.heap.size := by obtain ⟨m, hm⟩ := k0; exact DataW.trod_lt m _ _ _ hm
  obtain ⟨fs0, hl0, hF0, wf0⟩ := open_frs h0
  subst hl0
  obtain ⟨a1, len1, cap1, rfl⟩ := okWide_slice Try.underlying34 (hval 1 34 v1 rfl rfl)
  have k1 := h1
  have lt1 : ∀ x ∈ p1, x.block < W.heap.size := by obtain ⟨m, hm⟩ := k1; exact DataW.trod_lt m _ _ _ hm
  obtain ⟨fs1, hl1, hF1, wf1⟩ := open_intS h1
  subst hl1
  clear hA0 hval0
  refine (walk a0 cap0 fs0 wf0 a1 cap1 fs1 wf1 W hF0 hF1).mono fun e W' ⟨he, hb⟩ => ?_
  subst he
  exact ⟨_, rfl, _, _, _, [], _, [], hW', trodAll_mk1 (shut_bool Try.underlying4 _), (trodAll_cons_mk (Below.trod laidOut (by kernel_rfl) (of_decide_eq_true (by kernel_rfl)) k0 hb lt0) (trodAll_cons_mk (Below.trod laidOut (by kernel_rfl) (of_decide_eq_true (by kernel_rfl)) k1 hb lt1) trodAll_mk0)), rfl, hb.frame _, fun h => by cases h⟩

theorem over : Rows.fracBlendsRow.holds Try.pinned (OpenSpec.ofChange Rows.fracBlendsSpec) :=
  OpenClaim.holds_of_wide 7 Try.f7 rfl rfl rfl rfl rfl rfl rfl ⟨rfl, rfl, rfl, rfl, rfl⟩ rfl rfl rfl rfl rfl (by kernel_rfl) Try.func7 (by kernel_rfl)
    (of_decide_eq_true (by kernel_rfl)) (by unfold Func.isWrapper; first | (rw [if_pos (by decide +kernel)]; kernel_rfl) | (rw [if_neg (by decide +kernel)]; exact ⟨rfl, rfl⟩))
    (fun os started H enc _ => lifted os started H enc)

/-- THE STATEMENT. -/
theorem proved : Rows.FracBlendsSaid := over
#print axioms proved

end Go.Proofs.Ytjnfgjaiahnfgab.lawFracBlends

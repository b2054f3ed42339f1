/- FracShares: Share gives what the reference gives, for every number and every slice of weights; no condition. -/
import Derived.Test.YtpghhfobaionkaaRows
import Derived.ProofKit
import Derived.OpenShut
import Derived.Lib.SmallJoins
import Derived.Test.YtpghhfobaionkaaArg
import Derived.Test.YtpghhfobaionkaaAwake
import Derived.Test.YtpghhfobaionkaaSsQ
namespace Go.Proofs.Ytpghhfobaionkaa.lawFracShares
open Go.ChangeShapes Go.WideShapes Go.ChangeAt Go.RowKit Go.Joins
set_option linter.unusedVariables false

set_option maxRecDepth 100000 in
set_option maxHeartbeats 3200000 in
theorem walk (n : Int) (_ : (Lit.int .i64 n).wf = true) (a : Option Addr) (cap : Nat) (zs : List Int) (_ : ∀ z ∈ zs, (Lit.int .i64 z).wf = true) (w : World) (h : IntS w a zs) :
    Calls Try.prog 4 #[.int .i64 n, .slice a zs.length cap] w fun e w' => e = .returned (.bool true) ∧ Below w.heap.size w w' := by
  have HF := Lib.hid h
  clear h
  obtain ⟨z, hz⟩ : ∃ z, shrE n zs = z := ⟨_, rfl⟩
  by_cases h0 : z = 0
  · subst h0
    have HZ := Lib.hid hz
    have hlen : (zs.length : Int) ≤ 1000000 := by have := (shrE_ok hz).1; omega
    clear hz
    go_enter Try.func4, Try.ntmps4
    go_wp2_with fail
    refine (share_ok a cap zs n HZ.out w HF.out).mono ?_
    rintro e w1 ⟨g, L, f, rfl, HE, HG, hb⟩
    have HB1 := Lib.hid hb
    clear hb
    go_wp2_with fail
    refine (rshare_ok a cap zs n f L HZ.out HE.out.1 HE.out.2.1 HE.out.2.2 _ (HF.out.below HB1.out)).mono ?_
    rintro e w2 ⟨g2, rfl, HG2, hb⟩
    have HB2 := Lib.hid hb
    clear hb
    have HA : Hid (w2.heap[g]? = some (.cells (arrC zs.length (shr n zs.sum zs f L)) 3 (0, 0))) := Lib.hid ((HB2.out.block _ (Array.getElem?_eq_some_iff.1 HG.out.2).1).trans HG.out.2)
    go_wp2_with fail
    refine (equal_arr g g2 zs.length 3 3 (shr n zs.sum zs f L) hlen _ HA.out HG2.out.2).mono ?_
    rintro e w3 ⟨rfl, hb⟩
    have HB3 := Lib.hid (HB1.out.trans ((HB2.out.trans (hb.mono HB2.out.size)).mono HB1.out.size))
    clear hb
    go_wp2_with fail
    refine (awake_any _).mono ?_
    rintro e w4 ⟨rfl, hb⟩
    have HB4 := Lib.hid (HB3.out.trans (hb.mono HB3.out.size))
    clear hb
    go_wp2
    go_ret
    exact ⟨rfl, HB4.out⟩
  · have HZ := Lib.hid (And.intro hz h0)
    have hzz : (z == z) = true := by simp
    clear hz h0
    go_enter Try.func4, Try.ntmps4
    go_wp2_with fail
    refine (share_err a cap zs n z HZ.out.1 HZ.out.2 w HF.out).mono ?_
    rintro e w1 ⟨rfl, rfl⟩
    go_wp2_with fail
    refine (rshare_err a cap zs n z HZ.out.1 HZ.out.2 w HF.out).mono ?_
    rintro e w1 ⟨rfl, rfl⟩
    go_wp2_with fail
    refine (equal_nil _).mono ?_
    rintro e w3 ⟨rfl, hb⟩
    have HB3 := Lib.hid hb
    clear hb
    go_wp2_with fail
    refine (awake_any _).mono ?_
    rintro e w4 ⟨rfl, hb⟩
    have HB4 := Lib.hid (HB3.out.trans (hb.mono HB3.out.size))
    clear hb
    go_wp2
    go_ret
    exact ⟨rfl, HB4.out⟩

theorem own : ownKnob Try.prog.godebug = none := by kernel_rfl

set_option maxRecDepth 100000 in
theorem lifted (os : Os) (started : os.Started) (H : Type) (enc : TypeId × Value → H) :
    ReturnsInHanded {} Try.checked os 4 .any (Rows.fracSharesSpec.pre6 enc Try.prog Try.f4 Rows.fracSharesRow.domain false) (Rows.fracSharesSpec.post enc Try.prog Try.f4 false true false false) := by
  refine returnsInHanded_of_change (C := Try.checked) own started (by kernel_rfl) Try.func4
    (ChangeSpec.witness6 (enc := enc) (C := Try.checked) false ⟨#[], #[.int .i64 0, .slice none 0 0], []⟩ 8 (by kernel_rfl) (by kernel_rfl) (by kernel_rfl) (by kernel_rfl)) ?_
  intro W base args ds gs before hval0 hW hcnd _
  have hval : ∀ (j : Nat) t v, Try.f4.params[j]? = some t → args[j]? = some v → Value.okWide Try.prog W .any base t v := hval0
  have hW' := hW
  obtain ⟨p, q, hA0, hV, rfl, hfz, hnd⟩ := hW
  have hA : DataW.TrodAll enc Try.prog W 0 (fun _ => true) true Try.f4.params.toList args.toList ds p := hA0
  rw [Try.params4] at hA hval
  obtain ⟨v0, vs0, d0, ds0, p0, q0, hargs, rfl, rfl, h0, r0⟩ := trodAll_cons hA
  obtain ⟨v1, vs1, d1, ds1, p1, q1, rfl, rfl, rfl, h1, r1⟩ := trodAll_cons r0
  obtain ⟨rfl, rfl, rfl⟩ := trodAll_nil r1
  obtain rfl : args = #[v0, v1] := by cases args; simp_all
  obtain ⟨rfl, rfl⟩ := trodVars_none hV
  obtain ⟨n0, rfl, rfl, rfl, wn0⟩ := open_int Try.underlying3 (hval 0 3 v0 rfl rfl) h0
  obtain ⟨a1, len1, cap1, rfl⟩ := okWide_slice Try.underlying30 (hval 1 30 v1 rfl rfl)
  have k1 := h1
  have lt1 : ∀ x ∈ p1, x.block < W.heap.size := by obtain ⟨m, hm⟩ := k1; exact DataW.trod_lt m _ _ _ hm
  obtain ⟨fs1, hl1, hF1, wf1⟩ := open_intS h1
  subst hl1
  clear hA0 hval0
  refine (walk n0 wn0 a1 cap1 fs1 wf1 W hF1).mono fun e W' ⟨he, hb⟩ => ?_
  subst he
  exact ⟨_, rfl, _, _, _, [], _, [], hW', trodAll_mk1 (shut_bool Try.underlying4 _), (trodAll_cons_mk (shut_int Try.underlying3 wn0) (trodAll_cons_mk (Below.trod laidOut (by kernel_rfl) (of_decide_eq_true (by kernel_rfl)) k1 hb lt1) trodAll_mk0)), rfl, hb.frame _, fun h => by cases h⟩

theorem over : Rows.fracSharesRow.holds Try.pinned (OpenSpec.ofChange Rows.fracSharesSpec) :=
  OpenClaim.holds_of_wide 4 Try.f4 rfl rfl rfl rfl rfl rfl rfl ⟨rfl, rfl, rfl, rfl, rfl⟩ rfl rfl rfl rfl rfl (by kernel_rfl) Try.func4 (by kernel_rfl)
    (of_decide_eq_true (by kernel_rfl)) (by unfold Func.isWrapper; first | (rw [if_pos (by decide +kernel)]; kernel_rfl) | (rw [if_neg (by decide +kernel)]; exact ⟨rfl, rfl⟩))
    (fun os started H enc _ => lifted os started H enc)

/-- THE STATEMENT. -/
theorem proved : Rows.FracSharesSaid := over
#print axioms proved

end Go.Proofs.Ytpghhfobaionkaa.lawFracShares

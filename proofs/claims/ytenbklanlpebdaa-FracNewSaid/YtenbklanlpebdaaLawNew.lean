/- FracNew: New and Whole give what the reference gives, for all ints; no condition. -/
import Derived.Test.YtenbklanlpebdaaRows
import Derived.ProofKit
import Derived.OpenShut
import Derived.Lib.SmallJoins
import Derived.Test.YtenbklanlpebdaaNew
namespace Go.Proofs.Ytenbklanlpebdaa.lawFracNew
open Go.ChangeShapes Go.WideShapes Go.ChangeAt Go.RowKit Go.Joins
set_option linter.unusedVariables false

theorem wf64 {n : Int} (h : (Lit.int .i64 n).wf = true) : -9223372036854775808 ≤ n ∧ n ≤ 9223372036854775807 := by
  have := bounds_i64 h
  omega

theorem below_alloc_trans {w w1 : World} {o : Obj} (h : Below (w.heap.size + 1) (w.alloc o) w1) : Below w.heap.size w w1 := ((Below.refl _ _).alloc (Nat.le_refl _) _).trans (h.mono (by omega))

theorem same3 {q : Int × Int × Int} {a b c a' b' c' : Int} (h : Hid (q = (a, b, c))) (h' : Hid (q = (a', b', c'))) : a' = a ∧ b' = b ∧ c' = c := by
  have e := h'.out.symm.trans h.out
  simpa using e

set_option maxRecDepth 100000 in
set_option maxHeartbeats 1600000 in
theorem walk (n : Int) (wn : (Lit.int .i64 n).wf = true) (d : Int) (wd : (Lit.int .i64 d).wf = true) (w : World) : Calls Try.prog 4 #[.int .i64 n, .int .i64 d] w fun e w' => e = .returned (.bool true) ∧ Below w.heap.size w w' := by
  have HR := Lib.hid (And.intro (wf64 wn) (wf64 wd))
  clear wn wd
  go_enter Try.func4, Try.ntmps4
  go_wp2_with fail
  refine (new_p n d HR.out.1.1 HR.out.1.2 HR.out.2.1 HR.out.2.2 w).mono ?_
  rintro e w1 ⟨a, b, c, rfl, H1, hb1⟩
  have HB1 := Lib.hid hb1
  clear hb1
  go_wp2_with fail
  refine (new_r n d HR.out.1.1 HR.out.1.2 HR.out.2.1 HR.out.2.2 _).mono ?_
  rintro e w2 ⟨a', b', c', rfl, H2, hb2⟩
  obtain ⟨rfl, rfl, rfl⟩ := same3 H1 H2
  simp only [World.size_alloc] at hb2
  obtain ⟨hA0, hA1, -, -, hs1⟩ := blk2 hb2
  have HB2 := Lib.hid (below_alloc_trans hb2)
  clear hb2 H1 H2
  go_wp2_with fail
  refine (whole_p n HR.out.1.1 HR.out.1.2 _).mono ?_
  rintro e w3 ⟨a3, b3, c3, rfl, H3, hb3⟩
  simp only [World.size_alloc] at hb3
  obtain ⟨hC0, hC1, -, -, hs2⟩ := blk2 hb3
  have hb3' := below_alloc_trans hb3
  have hA0' := cell_keep hA0 hb3'
  have hA1' := cell_keep hA1 hb3'
  have HB3 := Lib.hid hb3'
  clear hA0 hA1 hb3 hb3'
  go_wp2_with fail
  refine (new_r n 1 HR.out.1.1 HR.out.1.2 (by decide) (by decide) _).mono ?_
  rintro e w4 ⟨a4, b4, c4, rfl, H4, hb4⟩
  obtain ⟨rfl, rfl, rfl⟩ := same3 H3 H4
  simp only [World.size_alloc] at hb4
  obtain ⟨hD0, hD1, -, -, hs3⟩ := blk2 hb4
  have hb4' := below_alloc_trans hb4
  have hA0 := cell_keep hA0' hb4'
  have hA1 := cell_keep hA1' hb4'
  have hE0 := cell_keep hC0 hb4'
  have hE1 := cell_keep hC1 hb4'
  have hs2' : w2.heap.size < w4.heap.size := by have := hb4'.size; omega
  have hs1' : w1.heap.size < w4.heap.size := by have := hb4'.size; omega
  have HB4 := Lib.hid hb4'
  clear hA0' hA1' hC0 hC1 hb4 hb4' H3 H4 hs1 hs2
  go_wp2_with fail
  refine (awake_any _).mono ?_
  rintro e w5 ⟨rfl, hb5⟩
  have HB5 := Lib.hid hb5
  clear hb5
  go_wp2
  go_ret
  refine ⟨rfl, ?_⟩
  have h2 := HB1.out.trans (HB2.out.mono HB1.out.size)
  have h3 := h2.trans (HB3.out.mono h2.size)
  have h4 := h3.trans (HB4.out.mono h3.size)
  exact (h4.alloc h4.size _).trans (HB5.out.mono (by have := h4.size; simp; omega))

theorem own : ownKnob Try.prog.godebug = none := by kernel_rfl
theorem cellsFrac : Try.prog.cellsOf 23 = 2 := by kernel_rfl

set_option maxRecDepth 100000 in
theorem lifted (os : Os) (started : os.Started) (H : Type) (enc : TypeId × Value → H) :
    ReturnsInHanded {} Try.checked os 4 .any (Rows.fracNewSpec.pre6 enc Try.prog Try.f4 Rows.fracNewRow.domain false) (Rows.fracNewSpec.post enc Try.prog Try.f4 false true false false) := by
  refine returnsInHanded_of_change (C := Try.checked) own started (by kernel_rfl) Try.func4
    (ChangeSpec.witness6 (enc := enc) (C := Try.checked) false ⟨#[], #[.int .i64 0, .int .i64 0], []⟩ 8 (by kernel_rfl) (by kernel_rfl) (by kernel_rfl) (by kernel_rfl)) ?_
  intro W base args ds gs before hval0 hW hcnd _
  have hval : ∀ (j : Nat) t v, Try.f4.params[j]? = some t → args[j]? = some v → Value.okWide Try.prog W .any base t v := hval0
  have hW' := hW
  obtain ⟨p, q, hA0, hV, rfl, hfz, hnd⟩ := hW
  have hA : DataW.TrodAll enc Try.prog W 0 (fun _ => true) true Try.f4.params.toList args.toList ds p := hA0
  rw [Try.params4] at hA hval
  obtain ⟨v0, vs0, d0, ds0, p0, q0, hargs, rfl, rfl, h0, r0⟩ := trodAll_cons hA
  obtain ⟨v1, vs1, d1, ds1, p1, q1, rfl, rfl, rfl, h1, r1⟩ := trodAll_cons r0
  obtain ⟨rfl, rfl, rfl⟩ := trodAll_nil r1
  obtain rfl : args = #[v0, v1] := by cases args; simp_all
  obtain ⟨rfl, rfl⟩ := trodVars_none hV
  obtain ⟨n0, rfl, rfl, rfl, wn0⟩ := open_int Try.underlying3 (hval 0 3 v0 rfl rfl) h0
  obtain ⟨n1, rfl, rfl, rfl, wn1⟩ := open_int Try.underlying3 (hval 1 3 v1 rfl rfl) h1
  clear hA0 hval0
  simp only [List.append_nil] at hW'
  refine (walk n0 wn0 n1 wn1 W).mono fun e W' ⟨he, hb⟩ => ?_
  subst he
  refine ⟨_, rfl, _, _, _, [], [], [], hW', ?_, ?_, rfl, hb.frame _, fun h => by cases h⟩
  · exact trodAll_cons_mk (shut_bool Try.underlying4 _) trodAll_mk0
  · exact (trodAll_cons_mk (shut_int Try.underlying3 wn0) (trodAll_cons_mk (shut_int Try.underlying3 wn1) trodAll_mk0))

theorem over : Rows.fracNewRow.holds Try.pinned (OpenSpec.ofChange Rows.fracNewSpec) :=
  OpenClaim.holds_of_wide 4 Try.f4 rfl rfl rfl rfl rfl rfl rfl ⟨rfl, rfl, rfl, rfl, rfl⟩ rfl rfl rfl rfl rfl (by kernel_rfl) Try.func4 (by kernel_rfl)
    (of_decide_eq_true (by kernel_rfl)) (by unfold Func.isWrapper; first | (rw [if_pos (by decide +kernel)]; kernel_rfl) | (rw [if_neg (by decide +kernel)]; exact ⟨rfl, rfl⟩))
    (fun os started H enc _ => lifted os started H enc)

/-- THE STATEMENT. -/
theorem proved : Rows.FracNewSaid := over
#print axioms proved

end Go.Proofs.Ytenbklanlpebdaa.lawFracNew

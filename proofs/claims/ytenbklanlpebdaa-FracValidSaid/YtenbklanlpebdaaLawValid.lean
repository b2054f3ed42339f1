/- FracValid: Valid reports true for just the fractions that the reference calls valid, for every fraction; no condition. -/
import Derived.Test.YtenbklanlpebdaaRows
import Derived.ProofKit
import Derived.OpenShut
import Derived.Lib.SmallJoins
import Derived.Test.YtenbklanlpebdaaAwake
namespace Go.Proofs.Ytenbklanlpebdaa.lawFracValid
open Go.ChangeShapes Go.WideShapes Go.ChangeAt Go.RowKit Go.Joins
set_option linter.unusedVariables false

/-- A box of two numbers. -/
def SBox (w : World) (x0 x1 : Value) (T : TypeId) (w' : World) : Prop := Below w.heap.size w w' ∧ w'.heap[w.heap.size]? = some (.cells #[x0, x1] T (0, 0))
theorem SBox.l {w : World} {x0 x1 : Value} {T : TypeId} {w' : World} (h : SBox w x0 x1 T w') : SBox w x0 x1 T w' ∧ w'.cell? ⟨w.heap.size, 0, none⟩ = some x0 ∧ w'.cell? ⟨w.heap.size, 1, none⟩ = some x1 :=
  ⟨h, cell_blk2 h.2 0, cell_blk2 h.2 1⟩
theorem SBox.start (w : World) (x0 x1 : Value) (T : TypeId) : SBox w x0 x1 T (w.alloc (.cells #[x0, x1] T)) := ⟨(Below.refl _ _).alloc (Nat.le_refl _) _, heap_alloc_new _ _⟩
theorem SBox.drew {w : World} {x0 x1 : Value} {T : TypeId} {w' : World} (h : SBox w x0 x1 T w') : SBox w x0 x1 T w'.drew := ⟨h.1.drew, h.2⟩
theorem SBox.step {w : World} {x0 x1 : Value} {T : TypeId} {w1 w2 : World} (h : SBox w x0 x1 T w1) (hb : Below w1.heap.size w1 w2) : SBox w x0 x1 T w2 :=
  ⟨h.1.trans (hb.mono h.1.size), (hb.block _ (Array.getElem?_eq_some_iff.1 h.2).1).trans h.2⟩
theorem SBox.b {w : World} {x0 x1 : Value} {T : TypeId} {w1 : World} (h : SBox w x0 x1 T w1) : Below w.heap.size w w1 := h.1

set_option maxRecDepth 100000 in
set_option maxHeartbeats 1600000 in
theorem walk (n d : Int) (w : World) : Calls Try.prog 3 #[.agg #[.int .i64 n, .int .i64 d]] w fun e w' => e = .returned (.bool true) ∧ Below w.heap.size w w' := by
  obtain ⟨b, hb⟩ : ∃ b, Hid (b = vfB n d) := ⟨_, rfl⟩
  have hbb : (b == b) = true := by simp
  have HE := Lib.hid (SBox.start w (.int .i64 n) (.int .i64 d) 23).drew.l
  go_enter Try.func3, Try.ntmps3
  go_wp2_with fail
  go_region_held3 (fun w' => SBox w (.int .i64 n) (.int .i64 d) 23 w' ∧ w'.cell? ⟨w.heap.size, 0, none⟩ = some (.int .i64 n) ∧ w'.cell? ⟨w.heap.size, 1, none⟩ = some (.int .i64 d))
    (first | exact HE.out | (go_split_ands; exact (SBox.step (by assumption) (by assumption)).l))
    (first
      | (go_at_call 13; go_split_ands; with_reducible (refine (valid_any n d _).mono ?_); rintro e w1 ⟨rfl, hb1⟩; rw [← Hid.out hb])
      | (go_at_call 14; go_split_ands; with_reducible (refine (valid_r n d _).mono ?_); rintro e w1 ⟨rfl, hb1⟩; rw [← Hid.out hb])
      | (go_at_call 15; go_split_ands; with_reducible (refine (awake_any _).mono ?_); rintro e w1 ⟨rfl, hb1⟩))
  go_wp2
  go_ret
  exact ⟨rfl, by go_split_ands; exact SBox.b (by assumption)⟩

theorem own : ownKnob Try.prog.godebug = none := by kernel_rfl
theorem cellsFrac : Try.prog.cellsOf 23 = 2 := by kernel_rfl

set_option maxRecDepth 100000 in
theorem lifted (os : Os) (started : os.Started) (H : Type) (enc : TypeId × Value → H) :
    ReturnsInHanded {} Try.checked os 3 .any (Rows.fracValidSpec.pre6 enc Try.prog Try.f3 Rows.fracValidRow.domain false) (Rows.fracValidSpec.post enc Try.prog Try.f3 false true false false) := by
  refine returnsInHanded_of_change (C := Try.checked) own started (by kernel_rfl) Try.func3
    (ChangeSpec.witness6 (enc := enc) (C := Try.checked) false ⟨#[], #[.agg #[.int .i64 0, .int .i64 0]], []⟩ 8 (by kernel_rfl) (by kernel_rfl) (by kernel_rfl) (by kernel_rfl)) ?_
  intro W base args ds gs before hval0 hW hcnd _
  have hval : ∀ (j : Nat) t v, Try.f3.params[j]? = some t → args[j]? = some v → Value.okWide Try.prog W .any base t v := hval0
  have hW' := hW
  obtain ⟨p, q, hA0, hV, rfl, hfz, hnd⟩ := hW
  have hA : DataW.TrodAll enc Try.prog W 0 (fun _ => true) true Try.f3.params.toList args.toList ds p := hA0
  rw [Try.params3] at hA hval
  obtain ⟨v0, vs0, d0, ds0, p0, q0, hargs, rfl, rfl, h0, r0⟩ := trodAll_cons hA
  obtain ⟨rfl, rfl, rfl⟩ := trodAll_nil r0
  obtain rfl : args = #[v0] := by cases args; simp_all
  obtain ⟨rfl, rfl⟩ := trodVars_none hV
  obtain ⟨c0a, c0b, y0a, y0b, m0, rfl, rfl, rfl, hy0a, hy0b⟩ := open_agg2 Try.underlying23 (by kernel_rfl) cellsFrac (hval 0 23 v0 rfl rfl) h0
  obtain ⟨n0, e0a, rfl, wn0⟩ := DataW.trod_int Try.underlying3 hy0a
  obtain ⟨k0, e0b, rfl, wk0⟩ := DataW.trod_int Try.underlying3 hy0b
  simp at e0a e0b
  subst e0a e0b
  clear hA0 hval0
  simp only [List.append_nil] at hW'
  refine (walk n0 k0 W).mono fun e W' ⟨he, hb⟩ => ?_
  subst he
  refine ⟨_, rfl, _, _, _, [], [], [], hW', ?_, ?_, rfl, hb.frame _, fun h => by cases h⟩
  · exact trodAll_cons_mk (shut_bool Try.underlying4 _) trodAll_mk0
  · exact (trodAll_cons_mk (shut_agg2 (y0 := (.lit (.int .i64 n0), [])) (y1 := (.lit (.int .i64 k0), [])) Try.underlying23 (by kernel_rfl) cellsFrac ⟨1, by simp [DataW.trod, Try.underlying3, wn0]⟩ ⟨1, by simp [DataW.trod, Try.underlying3, wk0]⟩) trodAll_mk0)

theorem over : Rows.fracValidRow.holds Try.pinned (OpenSpec.ofChange Rows.fracValidSpec) :=
  OpenClaim.holds_of_wide 3 Try.f3 rfl rfl rfl rfl rfl rfl rfl ⟨rfl, rfl, rfl, rfl, rfl⟩ rfl rfl rfl rfl rfl (by kernel_rfl) Try.func3 (by kernel_rfl)
    (of_decide_eq_true (by kernel_rfl)) (by unfold Func.isWrapper; first | (rw [if_pos (by decide +kernel)]; kernel_rfl) | (rw [if_neg (by decide +kernel)]; exact ⟨rfl, rfl⟩))
    (fun os started H enc _ => lifted os started H enc)

/-- THE STATEMENT. -/
theorem proved : Rows.FracValidSaid := over
#print axioms proved

end Go.Proofs.Ytenbklanlpebdaa.lawFracValid

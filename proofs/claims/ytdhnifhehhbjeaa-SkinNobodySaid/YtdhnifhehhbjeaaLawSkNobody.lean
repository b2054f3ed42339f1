/- SkinNobody: a table that NewTable did not return reports ErrNil, for every rectangle; no condition. -/
import Derived.Test.YtdhnifhehhbjeaaRows
import Derived.ProofKit
import Derived.OpenShut
import Derived.Lib.SmallJoins
import Derived.Test.YtdhnifhehhbjeaaSkT
namespace Go.Proofs.Ytdhnifhehhbjeaa.lawSkinNobody
open Go.ChangeShapes Go.WideShapes Go.ChangeAt Go.RowKit Go.Joins
set_option linter.unusedVariables false

set_option maxRecDepth 100000 in
set_option maxHeartbeats 1600000 in
theorem count_none (r0 r1 r2 r3 : Int) (w : World) : Calls Try.prog 23 #[.pointer none, .agg #[.int .i64 r0, .int .i64 r1, .int .i64 r2, .int .i64 r3]] w fun e w' => e = .returned (.tuple #[.int .i64 0, .int .i64 1]) ∧ Below w.heap.size w w' := by
  go_enter Try.func23, Try.ntmps23
  go_wp2
  go_ret2
  exact ⟨rfl, (Below.refl _ _).alloc (Nat.le_refl _) _⟩

set_option maxRecDepth 100000 in
set_option maxHeartbeats 1600000 in
theorem count_empty (r0 r1 r2 r3 : Int) (T : Nat) (w : World) (h : w.cell? ⟨T, 0, none⟩ = some (.slice none 0 0)) (hT : T < w.heap.size) : Calls Try.prog 23 #[.pointer (some ⟨T, 0, none⟩), .agg #[.int .i64 r0, .int .i64 r1, .int .i64 r2, .int .i64 r3]] w fun e w' => e = .returned (.tuple #[.int .i64 0, .int .i64 1]) ∧ Below w.heap.size w w' := by
  have heq : ∀ w', (binOp .eql 45 (.slice none 0 0) (.slice none 0 0)).run Try.prog w' = .ok (.bool true) w' := fun _ => by kernel_rfl
  go_enter Try.func23, Try.ntmps23
  go_wp2
  go_ret2
  exact ⟨rfl, (Below.refl _ _).alloc (Nat.le_refl _) _⟩

set_option maxRecDepth 100000 in
set_option maxHeartbeats 1600000 in
theorem walk (r0 r1 r2 r3 : Int) (w0 : (Lit.int .i64 r0).wf = true) (w1 : (Lit.int .i64 r1).wf = true) (w2 : (Lit.int .i64 r2).wf = true) (w3 : (Lit.int .i64 r3).wf = true) (w : World) : Calls Try.prog 5 #[.agg #[.int .i64 r0, .int .i64 r1, .int .i64 r2, .int .i64 r3]] w fun e w' => e = .returned (.bool true) ∧ Below w.heap.size w w' := by
  have HM := Lib.hid ((((Mem.nil w).alloc #[.int .i64 r0, .int .i64 r1, .int .i64 r2, .int .i64 r3] 39).alloc_at (H := w.heap.size + 1) (by simp) #[.slice none 0 0] 47).alloc_at (H := w.heap.size + 1 + 1) (by simp) #[.pointer none, .pointer (some ⟨w.heap.size + 1, 0, none⟩)] 34)
  clear w0 w1 w2 w3
  go_enter Try.func5, Try.ntmps5
  go_wp2
  go_loopg [11] 2 (fun gk i wr => ∃ k : Nat, k + gk = 2 ∧ i = .int .i64 k ∧ Hid (Mem w [(w.heap.size + 1 + 1, #[.pointer none, .pointer (some ⟨w.heap.size + 1, 0, none⟩)], 34), (w.heap.size + 1, #[.slice none 0 0], 47), (w.heap.size, #[.int .i64 r0, .int .i64 r1, .int .i64 r2, .int .i64 r3], 39)] wr))
  case atStart => exact ⟨0, rfl, rfl, HM⟩
  case round =>
    obtain ⟨k, hk, rfl, HW⟩ := hrel
    obtain ⟨c0, c1, f0, f1, l0⟩ := HW.out.c2
    have t0 := HW.out.tail.cell 0
    have lt1 := HW.out.tail.head_lt
    have q0 := HW.out.tail.tail.cell 0
    have q1 := HW.out.tail.tail.cell 1
    have q2 := HW.out.tail.tail.cell 2
    have q3 := HW.out.tail.tail.cell 3
    have lt2 := HW.out.tail.tail.head_lt
    simp at t0 q0 q1 q2 q3
    have HCN := Lib.hid (count_none r0 r1 r2 r3)
    have HCE := Lib.hid (count_empty r0 r1 r2 r3 (w.heap.size + 1) wr t0 lt1)
    rcases (show k = 0 ∨ k = 1 ∨ k = 2 by omega) with rfl | rfl | rfl
    · obtain rfl : gk = 1 + 1 := by omega
      go_wp2_with fail
      refine (HCN.out _).mono ?_
      rintro e w1 ⟨rfl, hb1⟩
      have HW1 := Lib.hid (HW.out.step hb1)
      clear hb1 c0 c1 f0 f1 l0 t0 lt1 q0 q1 q2 q3 lt2
      go_wp2
      go_roundg 1
      case measure => exact Nat.lt_succ_self _
      case rel => exact ⟨1, rfl, by go_num, HW1⟩
    · obtain rfl : gk = 0 + 1 := by omega
      go_wp2_with fail
      refine HCE.out.mono ?_
      rintro e w1 ⟨rfl, hb1⟩
      have HW1 := Lib.hid (HW.out.step hb1)
      clear hb1 c0 c1 f0 f1 l0 t0 lt1 q0 q1 q2 q3 lt2
      go_wp2
      go_roundg 0
      case measure => exact Nat.lt_succ_self _
      case rel => exact ⟨2, rfl, by go_num, HW1⟩
    · clear c0 c1 f0 f1 l0 t0 lt1 q0 q1 q2 q3 lt2
      go_wp2_with fail
      refine (skAwake_any _).mono ?_
      rintro e w1 ⟨rfl, hb1⟩
      have HE := Lib.hid (HW.out.step hb1).b
      clear hb1
      go_wp2
      go_ret
      exact ⟨rfl, HE.out⟩

theorem own : ownKnob Try.prog.godebug = none := by kernel_rfl
theorem cellsRect : Try.prog.cellsOf 39 = 4 := by kernel_rfl

set_option maxRecDepth 100000 in
theorem lifted (os : Os) (started : os.Started) (H : Type) (enc : TypeId × Value → H) :
    ReturnsInHanded {} Try.checked os 5 .any (Rows.skinNobodySpec.pre6 enc Try.prog Try.f5 Rows.skinNobodyRow.domain false) (Rows.skinNobodySpec.post enc Try.prog Try.f5 false true false false) := by
  refine returnsInHanded_of_change (C := Try.checked) own started (by kernel_rfl) Try.func5
    (ChangeSpec.witness6 (enc := enc) (C := Try.checked) false ⟨#[], #[.agg #[.int .i64 0, .int .i64 0, .int .i64 0, .int .i64 0]], []⟩ 8 (by kernel_rfl) (by kernel_rfl) (by kernel_rfl) (by kernel_rfl)) ?_
  intro W base args ds gs before hval0 hW hcnd _
  have hval : ∀ (j : Nat) t v, Try.f5.params[j]? = some t → args[j]? = some v → Value.okWide Try.prog W .any base t v := hval0
  have hW' := hW
  obtain ⟨p, q, hA0, hV, rfl, hfz, hnd⟩ := hW
  have hA : DataW.TrodAll enc Try.prog W 0 (fun _ => true) true Try.f5.params.toList args.toList ds p := hA0
  rw [Try.params5] at hA hval
  obtain ⟨v0, vs0, d0, ds0, p0, q0, hargs, rfl, rfl, h0, r0⟩ := trodAll_cons hA
  obtain ⟨rfl, rfl, rfl⟩ := trodAll_nil r0
  obtain rfl : args = #[v0] := by cases args; simp_all
  obtain ⟨rfl, rfl⟩ := trodVars_none hV
  obtain ⟨c0a, c0b, c0c, c0d, y0a, y0b, y0c, y0d, m0, rfl, rfl, rfl, hy0a, hy0b, hy0c, hy0d⟩ := open_agg4 Try.underlying39 (by kernel_rfl) cellsRect (hval 0 39 v0 rfl rfl) h0
  obtain ⟨n0a, e0a, rfl, wn0a⟩ := DataW.trod_int Try.underlying3 hy0a
  obtain ⟨n0b, e0b, rfl, wn0b⟩ := DataW.trod_int Try.underlying3 hy0b
  obtain ⟨n0c, e0c, rfl, wn0c⟩ := DataW.trod_int Try.underlying3 hy0c
  obtain ⟨n0d, e0d, rfl, wn0d⟩ := DataW.trod_int Try.underlying3 hy0d
  simp at e0a e0b e0c e0d
  subst e0a e0b e0c e0d
  clear hA0 hval0
  simp only [List.append_nil] at hW'
  refine (walk n0a n0b n0c n0d wn0a wn0b wn0c wn0d W ).mono fun e W' ⟨he, hb⟩ => ?_
  subst he
  refine ⟨_, rfl, _, _, _, [], [], [], hW', ?_, ?_, rfl, hb.frame _, fun h => by cases h⟩
  · exact trodAll_cons_mk (shut_bool Try.underlying4 _) trodAll_mk0
  · exact (trodAll_cons_mk (shut_agg4 (y0 := (.lit (.int .i64 n0a), [])) (y1 := (.lit (.int .i64 n0b), [])) (y2 := (.lit (.int .i64 n0c), [])) (y3 := (.lit (.int .i64 n0d), [])) Try.underlying39 (by kernel_rfl) cellsRect ⟨1, by simp [DataW.trod, Try.underlying3, wn0a]⟩ ⟨1, by simp [DataW.trod, Try.underlying3, wn0b]⟩ ⟨1, by simp [DataW.trod, Try.underlying3, wn0c]⟩ ⟨1, by simp [DataW.trod, Try.underlying3, wn0d]⟩) trodAll_mk0)

theorem over : Rows.skinNobodyRow.holds Try.pinned (OpenSpec.ofChange Rows.skinNobodySpec) :=
  OpenClaim.holds_of_wide 5 Try.f5 rfl rfl rfl rfl rfl rfl rfl ⟨rfl, rfl, rfl, rfl, rfl⟩ rfl rfl rfl rfl rfl (by kernel_rfl) Try.func5 (by kernel_rfl)
    (of_decide_eq_true (by kernel_rfl)) (by unfold Func.isWrapper; first | (rw [if_pos (by decide +kernel)]; kernel_rfl) | (rw [if_neg (by decide +kernel)]; exact ⟨rfl, rfl⟩))
    (fun os started H enc _ => lifted os started H enc)

/-- THE STATEMENT. -/
theorem proved : Rows.SkinNobodySaid := over
#print axioms proved

/- FracRounds: Round and RoundTo give what the reference gives, for every fraction, unit and mode; no condition. -/
import Derived.Test.YtenbklanlpebdaaRows
import Derived.ProofKit
import Derived.OpenShut
import Derived.Lib.SmallJoins
import Derived.Test.YtenbklanlpebdaaRndG
namespace Go.Proofs.Ytenbklanlpebdaa.lawFracRounds
open Go.ChangeShapes Go.WideShapes Go.ChangeAt Go.RowKit Go.Joins
set_option linter.unusedVariables false

theorem same3 {q : Int × Int × Int} {a b c a' b' c' : Int} (h : Hid (q = (a, b, c))) (h' : Hid (q = (a', b', c'))) : a' = a ∧ b' = b ∧ c' = c := by
  have e := h'.out.symm.trans h.out
  simpa using e
theorem same2 {q : Int × Int} {a c a' c' : Int} (h : Hid (q = (a, c))) (h' : Hid (q = (a', c'))) : a' = a ∧ c' = c := by
  have e := h'.out.symm.trans h.out
  simpa using e

set_option maxRecDepth 100000 in
set_option maxHeartbeats 3200000 in
theorem walk (n1 d1 : Int) (_ : (Lit.int .i64 n1).wf = true) (_ : (Lit.int .i64 d1).wf = true) (n2 d2 : Int) (_ : (Lit.int .i64 n2).wf = true) (_ : (Lit.int .i64 d2).wf = true) (m : Int) (_ : (Lit.int .i64 m).wf = true) (w : World) :
    Calls Try.prog 7 #[.agg #[.int .i64 n1, .int .i64 d1], .agg #[.int .i64 n2, .int .i64 d2], .int .i64 m] w fun e w' => e = .returned (.bool true) ∧ Below w.heap.size w w' := by
  have HS := Lib.hid (S20.start w n1 d1 n2 d2 23)
  go_enter Try.func7, Try.ntmps7
  go_wp2_with fail
  refine (round_p n1 d1 m _).mono ?_
  rintro e w1 ⟨a, c, rfl, H1, hb⟩
  have hS1 := HS.out.step hb
  obtain ⟨-, ka0, ka1, kb0, kb1⟩ := hS1.l
  have HS1 := Lib.hid hS1
  clear hb hS1
  go_wp2_with fail
  refine (round_rf n1 d1 m _).mono ?_
  rintro e w2 ⟨a', c', rfl, H2, hb⟩
  obtain ⟨rfl, rfl⟩ := same2 H1 H2
  have hS2 := HS1.out.step hb
  clear ka0 ka1 kb0 kb1 H1 H2
  obtain ⟨-, ka0, ka1, kb0, kb1⟩ := hS2.l
  have HS2 := Lib.hid hS2
  clear hb hS2
  go_wp2_with fail
  refine (roundTo_p n1 d1 n2 d2 m _).mono ?_
  rintro e w3 ⟨x0, x1, x2, rfl, H1, hb⟩
  have hS3 := HS2.out.step hb
  clear ka0 ka1 kb0 kb1
  obtain ⟨-, ka0, ka1, kb0, kb1⟩ := hS3.l
  have hs1 : w.heap.size + 1 < w3.heap.size := (Array.getElem?_eq_some_iff.1 hS3.2.2).1
  have hs1' : w.heap.size < w3.heap.size := by omega
  have HS3 := Lib.hid hS3
  clear hb hS3
  go_wp2_with fail
  refine (roundTo_rf n1 d1 n2 d2 m _).mono ?_
  rintro e w4 ⟨y0, y1, y2, rfl, H2, hb⟩
  obtain ⟨rfl, rfl, rfl⟩ := same3 H1 H2
  simp only [World.size_alloc] at hb
  obtain ⟨kf0, kf1, -, -, hs5⟩ := blk2 hb
  have HS4 := Lib.hid ((HS3.out.step ((Below.refl w3.heap.size w3).alloc (Nat.le_refl _) (.cells #[.int .i64 y0, .int .i64 y1] 23))).step (w2 := w4) (by simpa using hb))
  clear ka0 ka1 kb0 kb1 H1 H2 hb
  go_wp2_with fail
  refine (awake_any _).mono ?_
  rintro e w5 ⟨rfl, hb⟩
  have HS5 := Lib.hid ((HS4.out.step ((Below.refl w4.heap.size w4).alloc (Nat.le_refl _) (.cells #[.int .i64 y0, .int .i64 y1] 23))).step (w2 := w5) (by simpa using hb))
  clear hb
  go_wp2
  go_ret
  exact ⟨rfl, HS5.out.1⟩

theorem own : ownKnob Try.prog.godebug = none := by kernel_rfl
theorem cellsFrac : Try.prog.cellsOf 23 = 2 := by kernel_rfl

set_option maxRecDepth 100000 in
theorem lifted (os : Os) (started : os.Started) (H : Type) (enc : TypeId × Value → H) :
    ReturnsInHanded {} Try.checked os 7 .any (Rows.fracRoundsSpec.pre6 enc Try.prog Try.f7 Rows.fracRoundsRow.domain false) (Rows.fracRoundsSpec.post enc Try.prog Try.f7 false true false false) := by
  refine returnsInHanded_of_change (C := Try.checked) own started (by kernel_rfl) Try.func7
    (ChangeSpec.witness6 (enc := enc) (C := Try.checked) false ⟨#[], #[.agg #[.int .i64 0, .int .i64 0], .agg #[.int .i64 0, .int .i64 0], .int .i64 0], []⟩ 8 (by kernel_rfl) (by kernel_rfl) (by kernel_rfl) (by kernel_rfl)) ?_
  intro W base args ds gs before hval0 hW hcnd _
  have hval : ∀ (j : Nat) t v, Try.f7.params[j]? = some t → args[j]? = some v → Value.okWide Try.prog W .any base t v := hval0
  have hW' := hW
  obtain ⟨p, q, hA0, hV, rfl, hfz, hnd⟩ := hW
  have hA : DataW.TrodAll enc Try.prog W 0 (fun _ => true) true Try.f7.params.toList args.toList ds p := hA0
  rw [Try.params7] at hA hval
  obtain ⟨v0, vs0, d0, ds0, p0, q0, hargs, rfl, rfl, h0, r0⟩ := trodAll_cons hA
  obtain ⟨v1, vs1, d1, ds1, p1, q1, rfl, rfl, rfl, h1, r1⟩ := trodAll_cons r0
  obtain ⟨v2, vs2, d2, ds2, p2, q2, rfl, rfl, rfl, h2, r2⟩ := trodAll_cons r1
  obtain ⟨rfl, rfl, rfl⟩ := trodAll_nil r2
  obtain rfl : args = #[v0, v1, v2] := by cases args; simp_all
  obtain ⟨rfl, rfl⟩ := trodVars_none hV
  obtain ⟨c0a, c0b, y0a, y0b, m0, rfl, rfl, rfl, hy0a, hy0b⟩ := open_agg2 Try.underlying23 (by kernel_rfl) cellsFrac (hval 0 23 v0 rfl rfl) h0
  obtain ⟨n0, e0a, rfl, wn0⟩ := DataW.trod_int Try.underlying3 hy0a
  obtain ⟨k0, e0b, rfl, wk0⟩ := DataW.trod_int Try.underlying3 hy0b
  simp at e0a e0b
  subst e0a e0b
  obtain ⟨c1a, c1b, y1a, y1b, m1, rfl, rfl, rfl, hy1a, hy1b⟩ := open_agg2 Try.underlying23 (by kernel_rfl) cellsFrac (hval 1 23 v1 rfl rfl) h1
  obtain ⟨n1, e1a, rfl, wn1⟩ := DataW.trod_int Try.underlying3 hy1a
  obtain ⟨k1, e1b, rfl, wk1⟩ := DataW.trod_int Try.underlying3 hy1b
  simp at e1a e1b
  subst e1a e1b
  obtain ⟨n2, rfl, rfl, rfl, wn2⟩ := open_int Try.underlying3 (hval 2 3 v2 rfl rfl) h2
  clear hA0 hval0
  simp only [List.append_nil] at hW'
  refine (walk n0 k0 wn0 wk0 n1 k1 wn1 wk1 n2 wn2 W).mono fun e W' ⟨he, hb⟩ => ?_
  subst he
  refine ⟨_, rfl, _, _, _, [], [], [], hW', ?_, ?_, rfl, hb.frame _, fun h => by cases h⟩
  · exact trodAll_cons_mk (shut_bool Try.underlying4 _) trodAll_mk0
  · exact (trodAll_cons_mk (shut_agg2 (y0 := (.lit (.int .i64 n0), [])) (y1 := (.lit (.int .i64 k0), [])) Try.underlying23 (by kernel_rfl) cellsFrac ⟨1, by simp [DataW.trod, Try.underlying3, wn0]⟩ ⟨1, by simp [DataW.trod, Try.underlying3, wk0]⟩) (trodAll_cons_mk (shut_agg2 (y0 := (.lit (.int .i64 n1), [])) (y1 := (.lit (.int .i64 k1), [])) Try.underlying23 (by kernel_rfl) cellsFrac ⟨1, by simp [DataW.trod, Try.underlying3, wn1]⟩ ⟨1, by simp [DataW.trod, Try.underlying3, wk1]⟩) (trodAll_cons_mk (shut_int Try.underlying3 wn2) trodAll_mk0)))

theorem over : Rows.fracRoundsRow.holds Try.pinned (OpenSpec.ofChange Rows.fracRoundsSpec) :=
  OpenClaim.holds_of_wide 7 Try.f7 rfl rfl rfl rfl rfl rfl rfl ⟨rfl, rfl, rfl, rfl, rfl⟩ rfl rfl rfl rfl rfl (by kernel_rfl) Try.func7 (by kernel_rfl)
    (of_decide_eq_true (by kernel_rfl)) (by unfold Func.isWrapper; first | (rw [if_pos (by decide +kernel)]; kernel_rfl) | (rw [if_neg (by decide +kernel)]; exact ⟨rfl, rfl⟩))
    (fun os started H enc _ => lifted os started H enc)

/-- THE STATEMENT. -/
theorem proved : Rows.FracRoundsSaid := over
#print axioms proved

end Go.Proofs.Ytenbklanlpebdaa.lawFracRounds

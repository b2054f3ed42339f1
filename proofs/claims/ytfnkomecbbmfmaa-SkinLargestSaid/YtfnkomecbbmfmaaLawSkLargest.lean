/- SkinLargest: Largest and Square answer as the reference's, for every slice of strings and every least grade; no condition. -/
import Derived.Test.YtfnkomecbbmfmaaRows
import Derived.ProofKit
import Derived.OpenShut
import Derived.Lib.SmallJoins
import Derived.Test.YtfnkomecbbmfmaaSmL
import Derived.Test.YtfnkomecbbmfmaaSmQ
namespace Go.Proofs.Ytfnkomecbbmfmaa.lawSkinLargest
open Go.ChangeShapes Go.WideShapes Go.ChangeAt Go.RowKit Go.Joins
set_option linter.unusedVariables false

/-- What two calls answer alike. -/
def Alike (w : World) (a : Option Addr) (l cap : Nat) (g : Int) (f : Nat) (more : Array Value) (p q r s E : Int) : Prop :=
  ∀ w', Below w.heap.size w w' → Calls Try.prog f (#[.slice a l cap, .int .i64 g] ++ more) w' fun e w'' => e = .returned (.tuple #[.agg #[.int .i64 p, .int .i64 q, .int .i64 r, .int .i64 s], .int .i64 E]) ∧ Below w'.heap.size w' w''

theorem fix_best (sq : Bool) (U : Int → Int → Bool) (W H : Nat) : ∃ p q r s : Nat, ∀ a b c d, bestTo sq U W H H 0 1 1 a b c d → a = p ∧ b = q ∧ c = r ∧ d = s := by
  by_cases h : ∃ p q r s, bestTo sq U W H H 0 1 1 p q r s
  · obtain ⟨p, q, r, s, hp⟩ := h
    exact ⟨p, q, r, s, fun a b c d hb => bestTo_uniq hb hp⟩
  · exact ⟨0, 0, 0, 0, fun a b c d hb => absurd ⟨a, b, c, d, hb⟩ h⟩
theorem fix_ans {sq : Bool} {U : Int → Int → Bool} {W H p q r s : Nat} (hf : ∀ a b c d, bestTo sq U W H H 0 1 1 a b c d → a = p ∧ b = q ∧ c = r ∧ d = s) {w : World} {e : Ending} {w' : World}
    (h : ∃ p q r s : Nat, ∃ E : Int, e = .returned (.tuple #[.agg #[.int .i64 p, .int .i64 q, .int .i64 r, .int .i64 s], .int .i64 E]) ∧ Below w.heap.size w w' ∧ bestTo sq U W H H 0 1 1 p q r s ∧ ((r = 0 ∧ E = 7) ∨ (r ≠ 0 ∧ E = 0))) :
    e = .returned (.tuple #[.agg #[.int .i64 p, .int .i64 q, .int .i64 r, .int .i64 s], .int .i64 (if r = 0 then 7 else 0)]) ∧ Below w.heap.size w w' := by
  obtain ⟨p', q', r', s', E, he, hb, hbt, hE⟩ := h
  obtain ⟨rfl, rfl, rfl, rfl⟩ := hf _ _ _ _ hbt
  refine ⟨?_, hb⟩
  rw [he]
  rcases hE with ⟨h1, h2⟩ | ⟨h1, h2⟩
  · rw [if_pos h1, h2]
  · rw [if_neg h1, h2]

set_option maxRecDepth 100000 in
set_option maxHeartbeats 3200000 in
theorem walk (a : Option Addr) (cap : Nat) (ss : List ByteArray) (wf : ss.length ≤ maxLen ∧ ∀ s ∈ ss, s.size ≤ maxLen) (g : Int) (wg : (Lit.int .i64 g).wf = true) (w : World) (h : StrS w a ss) :
    Calls Try.prog 12 #[.slice a ss.length cap, .int .i64 g] w fun e w' => e = .returned (.bool true) ∧ Below w.heap.size w w' := by
  obtain ⟨l1, l2⟩ := wf
  have l1' : (ss.length : Int) ≤ 9223372036854775807 := by unfold maxLen at l1; omega
  have l2' : ∀ s ∈ ss, s.size ≤ 9223372036854775807 := fun s hs => by have := l2 s hs; unfold maxLen at this; omega
  obtain ⟨p, q, r, s, E, p', q', r', s', E', H1, H2, H3, H4⟩ : ∃ p q r s E p' q' r' s' E' : Int,
      Hid (Alike w a ss.length cap g 47 #[] p q r s E) ∧ Hid (Alike w a ss.length cap g 48 #[.bool false] p q r s E) ∧ Hid (Alike w a ss.length cap g 49 #[] p' q' r' s' E') ∧ Hid (Alike w a ss.length cap g 48 #[.bool true] p' q' r' s' E') := by
    by_cases hgood : skB ss = true ∧ 1 ≤ g ∧ g ≤ 9
    · obtain ⟨hs, h1, h9⟩ := hgood
      obtain ⟨p, q, r, s, hf⟩ := fix_best false (usB ss g) (wid ss) ss.length
      obtain ⟨p', q', r', s', hf'⟩ := fix_best true (usB ss g) (wid ss) ss.length
      exact ⟨p, q, r, s, _, p', q', r', s', _, Lib.hid (fun w' hb => (large_yes a cap ss hs g h1 h9 w' (h.below hb)).mono fun e w'' hx => fix_ans hf hx), Lib.hid (fun w' hb => (rLargest_L a cap ss hs g h1 h9 w' (h.below hb)).mono fun e w'' hx => fix_ans hf hx), Lib.hid (fun w' hb => (square_yes a cap ss hs g h1 h9 w' (h.below hb)).mono fun e w'' hx => fix_ans hf' hx), Lib.hid (fun w' hb => (rLargest_S a cap ss hs g h1 h9 w' (h.below hb)).mono fun e w'' hx => fix_ans hf' hx)⟩
    · exact ⟨0, 0, 0, 0, 2, 0, 0, 0, 0, 2, Lib.hid (fun w' hb => large_no a cap ss l1' l2' g hgood w' (h.below hb)), Lib.hid (fun w' hb => rLargest_no a cap ss l1' l2' g hgood false w' (h.below hb)), Lib.hid (fun w' hb => square_no a cap ss l1' l2' g hgood w' (h.below hb)), Lib.hid (fun w' hb => rLargest_no a cap ss l1' l2' g hgood true w' (h.below hb))⟩
  have hEE : (E == E) = true := by simp
  have hFF : (E' == E') = true := by simp
  have h11 : (p == p) = true := by simp
  have h22 : (q == q) = true := by simp
  have h33 : (r == r) = true := by simp
  have h44 : (s == s) = true := by simp
  have g11 : (p' == p') = true := by simp
  have g22 : (q' == q') = true := by simp
  have g33 : (r' == r') = true := by simp
  have g44 : (s' == s') = true := by simp
  have HM := Lib.hid (Mem.nil w)
  clear h l1 l2 l1' l2' wg
  go_enter Try.func12, Try.ntmps12
  go_wp2_with fail
  refine (H1.out _ HM.out.b).mono ?_
  rintro e w1 ⟨rfl, hb⟩
  have HM1 := Lib.hid ((HM.out.step hb).alloc #[.int .i64 p, .int .i64 q, .int .i64 r, .int .i64 s] 39)
  clear hb
  go_wp2_with fail
  refine (H2.out _ HM1.out.b).mono ?_
  rintro e w2 ⟨rfl, hb⟩
  have HM2 := Lib.hid ((HM1.out.step hb).alloc #[.int .i64 p, .int .i64 q, .int .i64 r, .int .i64 s] 39)
  clear hb
  go_wp2_with fail
  refine (H3.out _ HM2.out.b).mono ?_
  rintro e w3 ⟨rfl, hb⟩
  have HM3 := Lib.hid ((HM2.out.step hb).alloc #[.int .i64 p', .int .i64 q', .int .i64 r', .int .i64 s'] 39)
  clear hb
  go_wp2_with fail
  refine (H4.out _ HM3.out.b).mono ?_
  rintro e w4 ⟨rfl, hb⟩
  have hm4 := (HM3.out.step hb).alloc #[.int .i64 p', .int .i64 q', .int .i64 r', .int .i64 s'] 39
  have hm5 := HM3.out.step hb
  have t0 := hm5.cell 0
  have t1 := hm5.cell 1
  have t2 := hm5.cell 2
  have t3 := hm5.cell 3
  have tl := hm5.head_lt
  have r0 := hm5.tail.cell 0
  have r1 := hm5.tail.cell 1
  have r2 := hm5.tail.cell 2
  have r3 := hm5.tail.cell 3
  have rl := hm5.tail.head_lt
  have q0 := hm5.tail.tail.cell 0
  have q1 := hm5.tail.tail.cell 1
  have q2 := hm5.tail.tail.cell 2
  have q3 := hm5.tail.tail.cell 3
  have ql := hm5.tail.tail.head_lt
  simp at t0 t1 t2 t3 r0 r1 r2 r3 q0 q1 q2 q3
  have HM4 := Lib.hid hm4
  clear hb hm4 hm5
  go_wp2_with fail
  refine (skAwake_any _).mono ?_
  rintro e w9 ⟨rfl, hb⟩
  have HE := Lib.hid (HM4.out.step hb).b
  clear hb
  go_wp2
  go_ret
  exact ⟨rfl, HE.out⟩

theorem own : ownKnob Try.prog.godebug = none := by kernel_rfl

set_option maxRecDepth 100000 in
theorem lifted (os : Os) (started : os.Started) (H : Type) (enc : TypeId × Value → H) :
    ReturnsInHanded {} Try.checked os 12 .any (Rows.skinLargestSpec.pre6 enc Try.prog Try.f12 Rows.skinLargestRow.domain false) (Rows.skinLargestSpec.post enc Try.prog Try.f12 false true false false) := by
  refine returnsInHanded_of_change (C := Try.checked) own started (by kernel_rfl) Try.func12
    (ChangeSpec.witness6 (enc := enc) (C := Try.checked) false ⟨#[], #[.slice none 0 0, .int .i64 0], []⟩ 8 (by kernel_rfl) (by kernel_rfl) (by kernel_rfl) (by kernel_rfl)) ?_
  intro W base args ds gs before hval0 hW hcnd _
  have hval : ∀ (j : Nat) t v, Try.f12.params[j]? = some t → args[j]? = some v → Value.okWide Try.prog W .any base t v := hval0
  have hW' := hW
  obtain ⟨p, q, hA0, hV, rfl, hfz, hnd⟩ := hW
  have hA : DataW.TrodAll enc Try.prog W 0 (fun _ => true) true Try.f12.params.toList args.toList ds p := hA0
  rw [Try.params12] at hA hval
  obtain ⟨v0, vs0, d0, ds0, p0, q0, hargs, rfl, rfl, h0, r0⟩ := trodAll_cons hA
  obtain ⟨v1, vs1, d1, ds1, p1, q1, rfl, rfl, rfl, h1, r1⟩ := trodAll_cons r0
  obtain ⟨rfl, rfl, rfl⟩ := trodAll_nil r1
  obtain rfl : args = #[v0, v1] := by cases args; simp_all
  obtain ⟨rfl, rfl⟩ := trodVars_none hV
  obtain ⟨a0, len0, cap0, rfl⟩ := okWide_slice Try.underlying22 (hval 0 22 v0 rfl rfl)
  have k0 := h0
  have lt0 : ∀ x ∈ p0, x.block < W.heap.size := by obtain ⟨m, hm⟩ := k0; exact DataW.trod_lt m _ _ _ hm
  obtain ⟨fs0, hl0, hF0, wf0⟩ := open_skS h0
  subst hl0
  obtain ⟨n1, rfl, rfl, rfl, wn1⟩ := open_int Try.underlying3 (hval 1 3 v1 rfl rfl) h1
  clear hA0 hval0
  refine (walk a0 cap0 fs0 wf0 n1 wn1 W hF0).mono fun e W' ⟨he, hb⟩ => ?_
  subst he
  exact ⟨_, rfl, _, _, _, [], _, [], hW', trodAll_mk1 (shut_bool Try.underlying4 _), (trodAll_cons_mk (Below.trod laidOut (by kernel_rfl) (of_decide_eq_true (by kernel_rfl)) k0 hb lt0) (trodAll_cons_mk (shut_int Try.underlying3 wn1) trodAll_mk0)), rfl, hb.frame _, fun h => by cases h⟩

theorem over : Rows.skinLargestRow.holds Try.pinned (OpenSpec.ofChange Rows.skinLargestSpec) :=
  OpenClaim.holds_of_wide 12 Try.f12 rfl rfl rfl rfl rfl rfl rfl ⟨rfl, rfl, rfl, rfl, rfl⟩ rfl rfl rfl rfl rfl (by kernel_rfl) Try.func12 (by kernel_rfl)
    (of_decide_eq_true (by kernel_rfl)) (by unfold Func.isWrapper; first | (rw [if_pos (by decide +kernel)]; kernel_rfl) | (rw [if_neg (by decide +kernel)]; exact ⟨rfl, rfl⟩))
    (fun os started H enc _ => lifted os started H enc)

/-- THE STATEMENT. -/
theorem proved : Rows.SkinLargestSaid := over
#print axioms proved

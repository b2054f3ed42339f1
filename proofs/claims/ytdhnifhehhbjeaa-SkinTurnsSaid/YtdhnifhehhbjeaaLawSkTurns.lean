/- SkinTurns: Turn and Mirror answer as the reference's, for every slice of strings and every int; no condition. -/
import Derived.Test.YtdhnifhehhbjeaaRows
import Derived.ProofKit
import Derived.OpenShut
import Derived.Lib.SmallJoins
import Derived.Test.YtdhnifhehhbjeaaSlG
namespace Go.Proofs.Ytdhnifhehhbjeaa.lawSkinTurns
open Go.ChangeShapes Go.WideShapes Go.ChangeAt Go.RowKit Go.Joins
set_option linter.unusedVariables false

set_option maxRecDepth 100000 in
set_option maxHeartbeats 1600000 in
theorem walk (a : Option Addr) (cap : Nat) (ss : List ByteArray) (wf : ss.length ≤ maxLen ∧ ∀ s ∈ ss, s.size ≤ maxLen) (k : Int) (wk : (Lit.int .i64 k).wf = true) (w : World) (h : StrS w a ss) :
    Calls Try.prog 6 #[.slice a ss.length cap, .int .i64 k] w fun e w' => e = .returned (.bool true) ∧ Below w.heap.size w w' := by
  obtain ⟨l1, l2⟩ := wf
  have l1' : (ss.length : Int) ≤ 9223372036854775807 := by unfold maxLen at l1; omega
  have l2' : ∀ s ∈ ss, s.size ≤ 9223372036854775807 := fun s hs => by have := l2 s hs; unfold maxLen at this; omega
  cases hs : skB ss with
  | false =>
    have H1 := Lib.hid (turn_no a cap ss hs l1' l2' (.int .i64 k) w h)
    have H2 := Lib.hid (rTurn_no a cap ss hs l1' l2' (.int .i64 k) w h)
    have H3 := Lib.hid (mirror_no a cap ss hs l1' l2' w h)
    have H4 := Lib.hid (fun w' (hb : Below w.heap.size w w') => rMirror_no a cap ss hs l1' l2' w' (h.below hb))
    have H5 := Lib.hid (fun w' => equalS_any none none 0 0 [] (by simp) w' (.inl rfl) (.inl rfl))
    clear hs h l1 l2 l1' l2' wk
    go_enter Try.func6, Try.ntmps6
    go_wp2_with fail
    refine H1.out.mono ?_
    rintro e w1 ⟨rfl, rfl⟩
    go_wp2_with fail
    refine H2.out.mono ?_
    rintro e w1 ⟨rfl, rfl⟩
    go_wp2_with fail
    refine H3.out.mono ?_
    rintro e w2 ⟨rfl, hb⟩
    have HB1 := Lib.hid hb
    clear hb
    go_wp2_with fail
    refine (H4.out _ HB1.out).mono ?_
    rintro e w3 ⟨rfl, rfl⟩
    go_wp2_with fail
    refine (H5.out _).mono ?_
    rintro e w3 ⟨rfl, hb⟩
    have HB2 := Lib.hid (HB1.out.trans (hb.mono HB1.out.size))
    clear hb
    go_wp2_with fail
    refine (H5.out _).mono ?_
    rintro e w4 ⟨rfl, hb⟩
    have HB3 := Lib.hid (HB2.out.trans (hb.mono HB2.out.size))
    clear hb
    go_wp2_with fail
    refine (skAwake_any _).mono ?_
    rintro e w5 ⟨rfl, hb⟩
    have HB4 := Lib.hid (HB3.out.trans (hb.mono HB3.out.size))
    clear hb
    go_wp2
    go_ret
    exact ⟨rfl, HB4.out⟩
  | true =>
    obtain ⟨T, hT⟩ : ∃ T, T = rotN ss ((k.tmod 4 + 4).tmod 4).toNat := ⟨_, rfl⟩
    obtain ⟨M, hM⟩ : ∃ M, M = mirB ss := ⟨_, rfl⟩
    have H1 := Lib.hid (turn_yes a cap ss hs k w h)
    have H2 := Lib.hid (fun w' (hb : Below w.heap.size w w') => rTurn_yes a cap ss hs k w' (h.below hb))
    have H3 := Lib.hid (fun w' (hb : Below w.heap.size w w') => mirror_yes a cap ss hs w' (h.below hb))
    have H4 := Lib.hid (fun w' (hb : Below w.heap.size w w') => rMirror_yes a cap ss hs w' (h.below hb))
    rw [← hT] at H1 H2
    rw [← hM] at H3 H4
    have lT : (T.length : Int) ≤ 9223372036854775807 := by rw [hT]; exact (sk_long (rotN_sk hs _)).1
    have lM : (M.length : Int) ≤ 9223372036854775807 := by rw [hM]; exact (sk_long (mirB_sk hs)).1
    clear hs h l1 l2 l1' l2' wk hT hM
    go_enter Try.func6, Try.ntmps6
    go_wp2_with fail
    refine H1.out.mono ?_
    rintro e w1 ⟨a1, c1, rfl, s1, hb⟩
    have HB1 := Lib.hid hb
    have S1 := Lib.hid s1
    clear hb s1
    go_wp2_with fail
    refine (H2.out _ HB1.out).mono ?_
    rintro e w2 ⟨a2, c2, rfl, s2, hb⟩
    have HB2 := Lib.hid (HB1.out.trans (hb.mono HB1.out.size))
    have S2 := Lib.hid (And.intro (S1.out.below hb) s2)
    clear hb s2
    go_wp2_with fail
    refine (H3.out _ HB2.out).mono ?_
    rintro e w3 ⟨n3, rfl, s3, hb⟩
    have HB3 := Lib.hid (HB2.out.trans (hb.mono HB2.out.size))
    have S3 := Lib.hid (And.intro (S2.out.1.below hb) (And.intro (S2.out.2.below hb) s3))
    clear hb s3
    go_wp2_with fail
    refine (H4.out _ HB3.out).mono ?_
    rintro e w4 ⟨a4, c4, rfl, s4, hb⟩
    have HB4 := Lib.hid (HB3.out.trans (hb.mono HB3.out.size))
    have S4 := Lib.hid (And.intro (S3.out.1.below hb) (And.intro (S3.out.2.1.below hb) (And.intro (S3.out.2.2.below hb) s4)))
    clear hb s4
    go_wp2_with fail
    refine (equalS_any _ _ _ _ T lT _ S4.out.1 S4.out.2.1).mono ?_
    rintro e w5 ⟨rfl, hb⟩
    have HB5 := Lib.hid (HB4.out.trans (hb.mono HB4.out.size))
    have S5 := Lib.hid (And.intro (S4.out.2.2.1.below hb) (S4.out.2.2.2.below hb))
    clear hb
    go_wp2_with fail
    refine (equalS_any _ _ _ _ M lM _ S5.out.1 S5.out.2).mono ?_
    rintro e w6 ⟨rfl, hb⟩
    have HB6 := Lib.hid (HB5.out.trans (hb.mono HB5.out.size))
    clear hb
    go_wp2_with fail
    refine (skAwake_any _).mono ?_
    rintro e w7 ⟨rfl, hb⟩
    have HB7 := Lib.hid (HB6.out.trans (hb.mono HB6.out.size))
    clear hb
    go_wp2
    go_ret
    exact ⟨rfl, HB7.out⟩

theorem own : ownKnob Try.prog.godebug = none := by kernel_rfl

set_option maxRecDepth 100000 in
theorem lifted (os : Os) (started : os.Started) (H : Type) (enc : TypeId × Value → H) :
    ReturnsInHanded {} Try.checked os 6 .any (Rows.skinTurnsSpec.pre6 enc Try.prog Try.f6 Rows.skinTurnsRow.domain false) (Rows.skinTurnsSpec.post enc Try.prog Try.f6 false true false false) := by
  refine returnsInHanded_of_change (C := Try.checked) own started (by kernel_rfl) Try.func6
    (ChangeSpec.witness6 (enc := enc) (C := Try.checked) false ⟨#[], #[.slice none 0 0, .int .i64 0], []⟩ 8 (by kernel_rfl) (by kernel_rfl) (by kernel_rfl) (by kernel_rfl)) ?_
  intro W base args ds gs before hval0 hW hcnd _
  have hval : ∀ (j : Nat) t v, Try.f6.params[j]? = some t → args[j]? = some v → Value.okWide Try.prog W .any base t v := hval0
  have hW' := hW
  obtain ⟨p, q, hA0, hV, rfl, hfz, hnd⟩ := hW
  have hA : DataW.TrodAll enc Try.prog W 0 (fun _ => true) true Try.f6.params.toList args.toList ds p := hA0
  rw [Try.params6] at hA hval
  obtain ⟨v0, vs0, d0, ds0, p0, q0, hargs, rfl, rfl, h0, r0⟩ := trodAll_cons hA
  obtain ⟨v1, vs1, d1, ds1, p1, q1, rfl, rfl, rfl, h1, r1⟩ := trodAll_cons r0
  obtain ⟨rfl, rfl, rfl⟩ := trodAll_nil r1
  obtain rfl : args = #[v0, v1] := by cases args; simp_all
  obtain ⟨rfl, rfl⟩ := trodVars_none hV
  obtain ⟨a0, len0, cap0, rfl⟩ := okWide_slice Try.underlying22 (hval 0 22 v0 rfl rfl)
  have k0 := h0
  have lt0 : ∀ x ∈ p0, x.block < W.heap.size := by obtain ⟨m, hm⟩ := k0; exact DataW.trod_lt m _ _ _ hm
  obtain ⟨fs0, hl0, hF0, wf0⟩ := open_skS h0
  subst hl0
  obtain ⟨n1, rfl, rfl, rfl, wn1⟩ := open_int Try.underlying3 (hval 1 3 v1 rfl rfl) h1
  clear hA0 hval0
  refine (walk a0 cap0 fs0 wf0 n1 wn1 W hF0).mono fun e W' ⟨he, hb⟩ => ?_
  subst he
  exact ⟨_, rfl, _, _, _, [], _, [], hW', trodAll_mk1 (shut_bool Try.underlying4 _), (trodAll_cons_mk (Below.trod laidOut (by kernel_rfl) (of_decide_eq_true (by kernel_rfl)) k0 hb lt0) (trodAll_cons_mk (shut_int Try.underlying3 wn1) trodAll_mk0)), rfl, hb.frame _, fun h => by cases h⟩

theorem over : Rows.skinTurnsRow.holds Try.pinned (OpenSpec.ofChange Rows.skinTurnsSpec) :=
  OpenClaim.holds_of_wide 6 Try.f6 rfl rfl rfl rfl rfl rfl rfl ⟨rfl, rfl, rfl, rfl, rfl⟩ rfl rfl rfl rfl rfl (by kernel_rfl) Try.func6 (by kernel_rfl)
    (of_decide_eq_true (by kernel_rfl)) (by unfold Func.isWrapper; first | (rw [if_pos (by decide +kernel)]; kernel_rfl) | (rw [if_neg (by decide +kernel)]; exact ⟨rfl, rfl⟩))
    (fun os started H enc _ => lifted os started H enc)

/-- THE STATEMENT. -/
theorem proved : Rows.SkinTurnsSaid := over
#print axioms proved

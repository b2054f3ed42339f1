/- SkinGrades: Valid, Grades and Worth answer as the reference's, for every slice of strings and of ints; no condition. -/
import Derived.Test.YtdhnifhehhbjeaaRows
import Derived.ProofKit
import Derived.OpenShut
import Derived.Lib.SmallJoins
import Derived.Test.YtdhnifhehhbjeaaSkZ
namespace Go.Proofs.Ytdhnifhehhbjeaa.lawSkinGrades
open Go.ChangeShapes Go.WideShapes Go.ChangeAt Go.RowKit Go.Joins
set_option linter.unusedVariables false

set_option maxRecDepth 100000 in
set_option maxHeartbeats 1600000 in
theorem walk (a : Option Addr) (cap : Nat) (ss : List ByteArray) (wf : ss.length ≤ maxLen ∧ ∀ s ∈ ss, s.size ≤ maxLen) (a2 : Option Addr) (cap2 : Nat) (zs : List Int) (wf2 : zs.length ≤ maxLen ∧ ∀ z ∈ zs, (Lit.int .i64 z).wf = true) (w : World) (h : StrS w a ss) (h2 : IntK w a2 zs) :
    Calls Try.prog 3 #[.slice a ss.length cap, .slice a2 zs.length cap2] w fun e w' => e = .returned (.bool true) ∧ Below w.heap.size w w' := by
  obtain ⟨l1, l2⟩ := wf
  have l1' : (ss.length : Int) ≤ 9223372036854775807 := by unfold maxLen at l1; omega
  have l2' : ∀ s ∈ ss, s.size ≤ 9223372036854775807 := fun s hs => by have := l2 s hs; unfold maxLen at this; omega
  have l3' : (zs.length : Int) ≤ 9223372036854775807 := by have := wf2.1; unfold maxLen at this; omega
  cases hs : skB ss with
  | false =>
    have H1 := Lib.hid (grades_no a cap ss hs l1' l2' w h)
    have H2 := Lib.hid (rGrades_no a cap ss hs l1' l2' w h)
    have H3 := Lib.hid (worth_no1 a cap ss hs l1' l2' (.slice a2 zs.length cap2) w h)
    have H4 := Lib.hid (rWorth_no1 a cap ss hs l1' l2' (.slice a2 zs.length cap2) w h)
    have H5 := Lib.hid (skValid_any a cap ss l1' l2' w h)
    have H6 := Lib.hid (rValid_any a cap ss l1' l2' w h)
    rw [hs] at H5 H6
    have H7 := Lib.hid (skEqual_nil w)
    clear hs h h2 l1 l2 l1' l2' l3' wf2
    go_enter Try.func3, Try.ntmps3
    go_wp2_with fail
    refine H1.out.mono ?_
    rintro e w1 ⟨rfl, rfl⟩
    go_wp2_with fail
    refine H2.out.mono ?_
    rintro e w1 ⟨rfl, rfl⟩
    go_wp2_with fail
    refine H3.out.mono ?_
    rintro e w1 ⟨rfl, rfl⟩
    go_wp2_with fail
    refine H4.out.mono ?_
    rintro e w1 ⟨rfl, rfl⟩
    go_wp2_with fail
    refine H5.out.mono ?_
    rintro e w1 ⟨rfl, rfl⟩
    go_wp2_with fail
    refine H6.out.mono ?_
    rintro e w1 ⟨rfl, rfl⟩
    go_wp2_with fail
    refine H7.out.mono ?_
    rintro e w2 ⟨rfl, hb⟩
    have HB := Lib.hid hb
    clear hb
    go_wp2_with fail
    refine (skAwake_any _).mono ?_
    rintro e w3 ⟨rfl, hb⟩
    have HB2 := Lib.hid (HB.out.trans (hb.mono HB.out.size))
    clear hb
    go_wp2
    go_ret
    exact ⟨rfl, HB2.out⟩
  | true =>
    have H1 := Lib.hid (grades_yes a cap ss hs w h)
    have H2 := Lib.hid (fun w' (hb : Below w.heap.size w w') => rGrades_yes a cap ss hs w' (h.below hb))
    obtain ⟨s, x, H3, H4⟩ : ∃ s x, Hid (∀ w', Below w.heap.size w w' → Calls Try.prog 15 #[.slice a ss.length cap, .slice a2 zs.length cap2] w' fun e w'' => e = .returned (.tuple #[.int .i64 s, .int .i64 x]) ∧ Below w'.heap.size w' w'') ∧
        Hid (∀ w', Below w.heap.size w w' → Calls Try.prog 16 #[.slice a ss.length cap, .slice a2 zs.length cap2] w' fun e w'' => e = .returned (.tuple #[.int .i64 s, .int .i64 x]) ∧ Below w'.heap.size w' w'') := by
      refine ⟨_, _, Lib.hid (fun w' hb => ?_), Lib.hid (fun w' hb => rWorth_any a cap ss hs a2 cap2 zs w' (h.below hb) (h2.below hb))⟩
      cases hz : aprB zs with
      | true => exact worth_yes a cap ss hs a2 cap2 zs hz w' (h.below hb) (h2.below hb)
      | false =>
        refine (worth_no2 a cap ss hs a2 cap2 zs l3' hz w' (h.below hb) (h2.below hb)).mono ?_
        rintro e w'' ⟨rfl, rfl⟩
        exact ⟨rfl, Below.refl _ _⟩
    have H5 := Lib.hid (fun w' (hb : Below w.heap.size w w') => skValid_any a cap ss l1' l2' w' (h.below hb))
    have H6 := Lib.hid (fun w' (hb : Below w.heap.size w w') => rValid_any a cap ss l1' l2' w' (h.below hb))
    rw [hs] at H5 H6
    obtain ⟨F, hF⟩ : ∃ F, F = cntTo ss (wid ss) ss.length 0 := ⟨_, rfl⟩
    rw [← hF] at H1 H2
    have hss : (s == s) = true := by simp
    have hxx : (x == x) = true := by simp
    clear hs h h2 l1 l2 l1' l2' l3' wf2 hF
    go_enter Try.func3, Try.ntmps3
    go_wp2_with fail
    refine H1.out.mono ?_
    rintro e w1 ⟨n1, rfl, c1⟩
    have C1 := Lib.hid c1
    clear c1
    go_wp2_with fail
    refine (H2.out _ C1.out.b).mono ?_
    rintro e w2 ⟨n2, rfl, c2⟩
    have C2 := Lib.hid (And.intro (c2.b.mono C1.out.b.size) c2.arr)
    have HB2 := Lib.hid (C1.out.b.trans C2.out.1)
    have HA1 := Lib.hid ((c2.b.block _ (block_lt C1.out.arr)).trans C1.out.arr)
    clear c2
    go_wp2_with fail
    refine (H3.out _ HB2.out).mono ?_
    rintro e w3 ⟨rfl, hb⟩
    have HB3 := Lib.hid (HB2.out.trans (hb.mono HB2.out.size))
    have HA3 := Lib.hid (And.intro ((hb.block _ (block_lt HA1.out)).trans HA1.out) ((hb.block _ (block_lt C2.out.2)).trans C2.out.2))
    clear hb
    go_wp2_with fail
    refine (H4.out _ HB3.out).mono ?_
    rintro e w4 ⟨rfl, hb⟩
    have HB4 := Lib.hid (HB3.out.trans (hb.mono HB3.out.size))
    have HA4 := Lib.hid (And.intro ((hb.block _ (block_lt HA3.out.1)).trans HA3.out.1) ((hb.block _ (block_lt HA3.out.2)).trans HA3.out.2))
    clear hb
    go_wp2_with fail
    refine (H5.out _ HB4.out).mono ?_
    rintro e w5 ⟨rfl, rfl⟩
    go_wp2_with fail
    refine (H6.out _ HB4.out).mono ?_
    rintro e w5 ⟨rfl, rfl⟩
    go_wp2_with fail
    refine (skEqual_ten n1 n2 _ _ F _ HA4.out.1 HA4.out.2).mono ?_
    rintro e w5 ⟨rfl, hb⟩
    have HB5 := Lib.hid (HB4.out.trans (hb.mono HB4.out.size))
    clear hb
    go_wp2_with fail
    refine (skAwake_any _).mono ?_
    rintro e w6 ⟨rfl, hb⟩
    have HB6 := Lib.hid (HB5.out.trans (hb.mono HB5.out.size))
    clear hb
    go_wp2
    go_ret
    exact ⟨rfl, HB6.out⟩

theorem own : ownKnob Try.prog.godebug = none := by kernel_rfl

set_option maxRecDepth 100000 in
theorem lifted (os : Os) (started : os.Started) (H : Type) (enc : TypeId × Value → H) :
    ReturnsInHanded {} Try.checked os 3 .any (Rows.skinGradesSpec.pre6 enc Try.prog Try.f3 Rows.skinGradesRow.domain false) (Rows.skinGradesSpec.post enc Try.prog Try.f3 false true false false) := by
  refine returnsInHanded_of_change (C := Try.checked) own started (by kernel_rfl) Try.func3
    (ChangeSpec.witness6 (enc := enc) (C := Try.checked) false ⟨#[], #[.slice none 0 0, .slice none 0 0], []⟩ 8 (by kernel_rfl) (by kernel_rfl) (by kernel_rfl) (by kernel_rfl)) ?_
  intro W base args ds gs before hval0 hW hcnd _
  have hval : ∀ (j : Nat) t v, Try.f3.params[j]? = some t → args[j]? = some v → Value.okWide Try.prog W .any base t v := hval0
  have hW' := hW
  obtain ⟨p, q, hA0, hV, rfl, hfz, hnd⟩ := hW
  have hA : DataW.TrodAll enc Try.prog W 0 (fun _ => true) true Try.f3.params.toList args.toList ds p := hA0
  rw [Try.params3] at hA hval
  obtain ⟨v0, vs0, d0, ds0, p0, q0, hargs, rfl, rfl, h0, r0⟩ := trodAll_cons hA
  obtain ⟨v1, vs1, d1, ds1, p1, q1, rfl, rfl, rfl, h1, r1⟩ := trodAll_cons r0
  obtain ⟨rfl, rfl, rfl⟩ := trodAll_nil r1
  obtain rfl : args = #[v0, v1] := by cases args; simp_all
  obtain ⟨rfl, rfl⟩ := trodVars_none hV
  obtain ⟨a0, len0, cap0, rfl⟩ := okWide_slice Try.underlying22 (hval 0 22 v0 rfl rfl)
  have k0 := h0
  have lt0 : ∀ x ∈ p0, x.block < W.heap.size := by obtain ⟨m, hm⟩ := k0; exact DataW.trod_lt m _ _ _ hm
  obtain ⟨fs0, hl0, hF0, wf0⟩ := open_skS h0
  subst hl0
  obtain ⟨a1, len1, cap1, rfl⟩ := okWide_slice Try.underlying23 (hval 1 23 v1 rfl rfl)
  have k1 := h1
  have lt1 : ∀ x ∈ p1, x.block < W.heap.size := by obtain ⟨m, hm⟩ := k1; exact DataW.trod_lt m _ _ _ hm
  obtain ⟨fs1, hl1, hF1, wf1⟩ := open_intK h1
  subst hl1
  clear hA0 hval0
  refine (walk a0 cap0 fs0 wf0 a1 cap1 fs1 wf1 W hF0 hF1).mono fun e W' ⟨he, hb⟩ => ?_
  subst he
  exact ⟨_, rfl, _, _, _, [], _, [], hW', trodAll_mk1 (shut_bool Try.underlying4 _), (trodAll_cons_mk (Below.trod laidOut (by kernel_rfl) (of_decide_eq_true (by kernel_rfl)) k0 hb lt0) (trodAll_cons_mk (Below.trod laidOut (by kernel_rfl) (of_decide_eq_true (by kernel_rfl)) k1 hb lt1) trodAll_mk0)), rfl, hb.frame _, fun h => by cases h⟩

theorem over : Rows.skinGradesRow.holds Try.pinned (OpenSpec.ofChange Rows.skinGradesSpec) :=
  OpenClaim.holds_of_wide 3 Try.f3 rfl rfl rfl rfl rfl rfl rfl ⟨rfl, rfl, rfl, rfl, rfl⟩ rfl rfl rfl rfl rfl (by kernel_rfl) Try.func3 (by kernel_rfl)
    (of_decide_eq_true (by kernel_rfl)) (by unfold Func.isWrapper; first | (rw [if_pos (by decide +kernel)]; kernel_rfl) | (rw [if_neg (by decide +kernel)]; exact ⟨rfl, rfl⟩))
    (fun os started H enc _ => lifted os started H enc)

/-- THE STATEMENT. -/
theorem proved : Rows.SkinGradesSaid := over
#print axioms proved

/- SkinErodes: Erode, Dilate and Open answer as the reference's, for every slice of strings and every int; no condition. -/
import Derived.Test.YtdhnifhehhbjeaaRows
import Derived.ProofKit
import Derived.OpenShut
import Derived.Lib.SmallJoins
import Derived.Test.YtdhnifhehhbjeaaSlV
namespace Go.Proofs.Ytdhnifhehhbjeaa.lawSkinErodes
open Go.ChangeShapes Go.WideShapes Go.ChangeAt Go.RowKit Go.Joins
set_option linter.unusedVariables false

/-- What two functions answer alike. -/
def Alike (w : World) (f g : Nat) (a : Option Addr) (n cap : Nat) (k : Int) (T : List ByteArray) (E : Int) : Prop :=
  (T.length : Int) ≤ 9223372036854775807 ∧
  Hid (∀ w', Below w.heap.size w w' → Calls Try.prog f #[.slice a n cap, .int .i64 k] w' fun e w'' => ∃ a' c', e = .returned (.tuple #[.slice a' T.length c', .int .i64 E]) ∧ StrS w'' a' T ∧ Below w'.heap.size w' w'') ∧
  Hid (∀ w', Below w.heap.size w w' → Calls Try.prog g #[.slice a n cap, .int .i64 k] w' fun e w'' => ∃ a' c', e = .returned (.tuple #[.slice a' T.length c', .int .i64 E]) ∧ StrS w'' a' T ∧ Below w'.heap.size w' w'')

set_option maxRecDepth 100000 in
set_option maxHeartbeats 3200000 in
theorem walk (a : Option Addr) (cap : Nat) (ss : List ByteArray) (wf : ss.length ≤ maxLen ∧ ∀ s ∈ ss, s.size ≤ maxLen) (k : Int) (wk : (Lit.int .i64 k).wf = true) (w : World) (h : StrS w a ss) :
    Calls Try.prog 8 #[.slice a ss.length cap, .int .i64 k] w fun e w' => e = .returned (.bool true) ∧ Below w.heap.size w w' := by
  obtain ⟨l1, l2⟩ := wf
  have l1' : (ss.length : Int) ≤ 9223372036854775807 := by unfold maxLen at l1; omega
  have l2' : ∀ s ∈ ss, s.size ≤ 9223372036854775807 := fun s hs => by have := l2 s hs; unfold maxLen at this; omega
  obtain ⟨T1, E1, T2, E2, T3, E3, A1, A2, A3⟩ : ∃ T1 E1 T2 E2 T3 E3, Alike w 38 39 a ss.length cap k T1 E1 ∧ Alike w 40 41 a ss.length cap k T2 E2 ∧ Alike w 42 43 a ss.length cap k T3 E3 := by
    by_cases hok : skB ss = true ∧ 0 ≤ k ∧ k ≤ 48
    · obtain ⟨hs, hk0, hk48⟩ := hok
      obtain ⟨K, rfl⟩ := Int.eq_ofNat_of_zero_le hk0
      have hk : K ≤ 48 := by omega
      refine ⟨spB true ss K, 0, spB false ss K, 0, spB false (spB true ss K) K, 0, ⟨(sk_long (spB_sk true hs K)).1, Lib.hid (fun w' hb => ?_), Lib.hid (fun w' hb => rErE_yes a cap ss hs K hk w' (h.below hb))⟩, ⟨(sk_long (spB_sk false hs K)).1, Lib.hid (fun w' hb => ?_), Lib.hid (fun w' hb => rErD_yes a cap ss hs K hk w' (h.below hb))⟩, ⟨(sk_long (spB_sk false (spB_sk true hs K) K)).1, Lib.hid (fun w' hb => ?_), Lib.hid (fun w' hb => rOpen_yes a cap ss hs K hk w' (h.below hb))⟩⟩
      · exact (erE_yes a cap ss hs K hk w' (h.below hb)).mono (fun e w'' ⟨n, h1, h2, h3⟩ => ⟨_, _, h1, h2, h3⟩)
      · exact (erD_yes a cap ss hs K hk w' (h.below hb)).mono (fun e w'' ⟨n, h1, h2, h3⟩ => ⟨_, _, h1, h2, h3⟩)
      · exact (open_yes a cap ss hs K hk w' (h.below hb)).mono (fun e w'' ⟨n, h1, h2, h3⟩ => ⟨_, _, h1, h2, h3⟩)
    · have hn : skB ss = false ∨ k < 0 ∨ 48 < k := by
        cases hs : skB ss with
        | false => exact .inl rfl
        | true =>
          right
          by_cases h0 : k < 0
          · exact .inl h0
          · right
            by_cases h4 : 48 < k
            · exact h4
            · exact absurd ⟨hs, by omega, by omega⟩ hok
      have hno : ∀ (f : Nat), (∀ w', Below w.heap.size w w' → Calls Try.prog f #[.slice a ss.length cap, .int .i64 k] w' fun e w'' => e = .returned (.tuple #[.slice none 0 0, .int .i64 2]) ∧ w' = w'') → Hid (∀ w', Below w.heap.size w w' → Calls Try.prog f #[.slice a ss.length cap, .int .i64 k] w' fun e w'' => ∃ a' c', e = .returned (.tuple #[.slice a' ([] : List ByteArray).length c', .int .i64 2]) ∧ StrS w'' a' [] ∧ Below w'.heap.size w' w'') := fun f hf => Lib.hid (fun w' hb => (hf w' hb).mono (fun e w'' ⟨h1, h2⟩ => ⟨none, 0, h1, .inl rfl, h2 ▸ Below.refl _ _⟩))
      exact ⟨[], 2, [], 2, [], 2, ⟨by simp, hno _ (fun w' hb => erE_no a cap ss l1' l2' k hn w' (h.below hb)), hno _ (fun w' hb => rErE_no a cap ss l1' l2' k hn w' (h.below hb))⟩, ⟨by simp, hno _ (fun w' hb => erD_no a cap ss l1' l2' k hn w' (h.below hb)), hno _ (fun w' hb => rErD_no a cap ss l1' l2' k hn w' (h.below hb))⟩, ⟨by simp, hno _ (fun w' hb => open_no a cap ss l1' l2' k hn w' (h.below hb)), hno _ (fun w' hb => rOpen_no a cap ss l1' l2' k hn w' (h.below hb))⟩⟩
  obtain ⟨t1, H1, H2⟩ := A1
  obtain ⟨t2, H3, H4⟩ := A2
  obtain ⟨t3, H5, H6⟩ := A3
  have n1 : (E1 != E1) = false := by simp
  have n2 : (E2 != E2) = false := by simp
  have n3 : (E3 == E3) = true := by simp
  have HB0 : Hid (Below w.heap.size w w) := Lib.hid (Below.refl _ _)
  clear h l1 l2 l1' l2' wk
  go_enter Try.func8, Try.ntmps8
  go_wp2_with fail
  refine (H1.out _ HB0.out).mono ?_
  rintro e w1 ⟨a1, c1, rfl, s1, hb⟩
  have HB1 := Lib.hid hb
  have S1 := Lib.hid s1
  clear hb s1
  go_wp2_with fail
  refine (H2.out _ HB1.out).mono ?_
  rintro e w2 ⟨a2, c2, rfl, s2, hb⟩
  have HB2 := Lib.hid (HB1.out.trans (hb.mono HB1.out.size))
  have S2 := Lib.hid (And.intro (S1.out.below hb) s2)
  clear hb s2
  go_wp2_with fail
  refine (equalS_any _ _ _ _ T1 t1 _ S2.out.1 S2.out.2).mono ?_
  rintro e w3 ⟨rfl, hb⟩
  have HB3 := Lib.hid (HB2.out.trans (hb.mono HB2.out.size))
  clear hb
  go_wp2_with fail
  refine (skAwake_any _).mono ?_
  rintro e w4 ⟨rfl, hb⟩
  have HB4 := Lib.hid (HB3.out.trans (hb.mono HB3.out.size))
  clear hb
  go_wp2_with fail
  refine (H3.out _ HB4.out).mono ?_
  rintro e w5 ⟨a3, c3, rfl, s3, hb⟩
  have HB5 := Lib.hid (HB4.out.trans (hb.mono HB4.out.size))
  have S3 := Lib.hid s3
  clear hb s3
  go_wp2_with fail
  refine (H4.out _ HB5.out).mono ?_
  rintro e w6 ⟨a4, c4, rfl, s4, hb⟩
  have HB6 := Lib.hid (HB5.out.trans (hb.mono HB5.out.size))
  have S4 := Lib.hid (And.intro (S3.out.below hb) s4)
  clear hb s4
  go_wp2_with fail
  refine (equalS_any _ _ _ _ T2 t2 _ S4.out.1 S4.out.2).mono ?_
  rintro e w7 ⟨rfl, hb⟩
  have HB7 := Lib.hid (HB6.out.trans (hb.mono HB6.out.size))
  clear hb
  go_wp2_with fail
  refine (H5.out _ HB7.out).mono ?_
  rintro e w8 ⟨a5, c5, rfl, s5, hb⟩
  have HB8 := Lib.hid (HB7.out.trans (hb.mono HB7.out.size))
  have S5 := Lib.hid s5
  clear hb s5
  go_wp2_with fail
  refine (H6.out _ HB8.out).mono ?_
  rintro e w9 ⟨a6, c6, rfl, s6, hb⟩
  have HB9 := Lib.hid (HB8.out.trans (hb.mono HB8.out.size))
  have S6 := Lib.hid (And.intro (S5.out.below hb) s6)
  clear hb s6
  go_wp2_with fail
  refine (equalS_any _ _ _ _ T3 t3 _ S6.out.1 S6.out.2).mono ?_
  rintro e w10 ⟨rfl, hb⟩
  have HE := Lib.hid (HB9.out.trans (hb.mono HB9.out.size))
  clear hb
  go_wp2
  go_ret
  exact ⟨rfl, HE.out⟩

theorem own : ownKnob Try.prog.godebug = none := by kernel_rfl

set_option maxRecDepth 100000 in
theorem lifted (os : Os) (started : os.Started) (H : Type) (enc : TypeId × Value → H) :
    ReturnsInHanded {} Try.checked os 8 .any (Rows.skinErodesSpec.pre6 enc Try.prog Try.f8 Rows.skinErodesRow.domain false) (Rows.skinErodesSpec.post enc Try.prog Try.f8 false true false false) := by
  refine returnsInHanded_of_change (C := Try.checked) own started (by kernel_rfl) Try.func8
    (ChangeSpec.witness6 (enc := enc) (C := Try.checked) false ⟨#[], #[.slice none 0 0, .int .i64 0], []⟩ 8 (by kernel_rfl) (by kernel_rfl) (by kernel_rfl) (by kernel_rfl)) ?_
  intro W base args ds gs before hval0 hW hcnd _
  have hval : ∀ (j : Nat) t v, Try.f8.params[j]? = some t → args[j]? = some v → Value.okWide Try.prog W .any base t v := hval0
  have hW' := hW
  obtain ⟨p, q, hA0, hV, rfl, hfz, hnd⟩ := hW
  have hA : DataW.TrodAll enc Try.prog W 0 (fun _ => true) true Try.f8.params.toList args.toList ds p := hA0
  rw [Try.params8] at hA hval
  obtain ⟨v0, vs0, d0, ds0, p0, q0, hargs, rfl, rfl, h0, r0⟩ := trodAll_cons hA
  obtain ⟨v1, vs1, d1, ds1, p1, q1, rfl, rfl, rfl, h1, r1⟩ := trodAll_cons r0
  obtain ⟨rfl, rfl, rfl⟩ := trodAll_nil r1
  obtain rfl : args = #[v0, v1] := by cases args; simp_all
  obtain ⟨rfl, rfl⟩ := trodVars_none hV
  obtain ⟨a0, len0, cap0, rfl⟩ := okWide_slice Try.underlying22 (hval 0 22 v0 rfl rfl)
  have k0 := h0
  have lt0 : ∀ x ∈ p0, x.block < W.heap.size := by obtain ⟨m, hm⟩ := k0; exact DataW.trod_lt m _ _ _ hm
  obtain ⟨fs0, hl0, hF0, wf0⟩ := open_skS h0
  subst hl0
  obtain ⟨n1, rfl, rfl, rfl, wn1⟩ := open_int Try.underlying3 (hval 1 3 v1 rfl rfl) h1
  clear hA0 hval0
  refine (walk a0 cap0 fs0 wf0 n1 wn1 W hF0).mono fun e W' ⟨he, hb⟩ => ?_
  subst he
  exact ⟨_, rfl, _, _, _, [], _, [], hW', trodAll_mk1 (shut_bool Try.underlying4 _), (trodAll_cons_mk (Below.trod laidOut (by kernel_rfl) (of_decide_eq_true (by kernel_rfl)) k0 hb lt0) (trodAll_cons_mk (shut_int Try.underlying3 wn1) trodAll_mk0)), rfl, hb.frame _, fun h => by cases h⟩

theorem over : Rows.skinErodesRow.holds Try.pinned (OpenSpec.ofChange Rows.skinErodesSpec) :=
  OpenClaim.holds_of_wide 8 Try.f8 rfl rfl rfl rfl rfl rfl rfl ⟨rfl, rfl, rfl, rfl, rfl⟩ rfl rfl rfl rfl rfl (by kernel_rfl) Try.func8 (by kernel_rfl)
    (of_decide_eq_true (by kernel_rfl)) (by unfold Func.isWrapper; first | (rw [if_pos (by decide +kernel)]; kernel_rfl) | (rw [if_neg (by decide +kernel)]; exact ⟨rfl, rfl⟩))
    (fun os started H enc _ => lifted os started H enc)

/-- THE STATEMENT. -/
theorem proved : Rows.SkinErodesSaid := over
#print axioms proved

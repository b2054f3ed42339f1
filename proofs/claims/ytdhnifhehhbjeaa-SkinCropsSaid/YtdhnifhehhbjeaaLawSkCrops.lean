/- SkinCrops: Crop, Punch and Trim answer as the reference's, for every slice of strings and every rectangle; no condition. -/
import Derived.Test.YtdhnifhehhbjeaaRows
import Derived.ProofKit
import Derived.OpenShut
import Derived.Lib.SmallJoins
import Derived.Test.YtdhnifhehhbjeaaSlP
import Derived.Test.YtdhnifhehhbjeaaSlL
namespace Go.Proofs.Ytdhnifhehhbjeaa.lawSkinCrops
open Go.ChangeShapes Go.WideShapes Go.ChangeAt Go.RowKit Go.Joins
set_option linter.unusedVariables false

set_option maxRecDepth 100000 in
set_option maxHeartbeats 3200000 in
theorem walk (a : Option Addr) (cap : Nat) (ss : List ByteArray) (wf : ss.length ≤ maxLen ∧ ∀ s ∈ ss, s.size ≤ maxLen) (x y u v : Int) (w0 : (Lit.int .i64 x).wf = true) (w1 : (Lit.int .i64 y).wf = true) (w2 : (Lit.int .i64 u).wf = true) (w3 : (Lit.int .i64 v).wf = true) (w : World) (h : StrS w a ss) :
    Calls Try.prog 7 #[.slice a ss.length cap, .agg #[.int .i64 x, .int .i64 y, .int .i64 u, .int .i64 v]] w fun e w' => e = .returned (.bool true) ∧ Below w.heap.size w w' := by
  obtain ⟨l1, l2⟩ := wf
  have l1' : (ss.length : Int) ≤ 9223372036854775807 := by unfold maxLen at l1; omega
  have l2' : ∀ s ∈ ss, s.size ≤ 9223372036854775807 := fun s hs => by have := l2 s hs; unfold maxLen at this; omega
  -- the calls, whatever the case
  obtain ⟨C, E, hcl, H1, H2⟩ : ∃ (C : List ByteArray) (E : Int), (C.length : Int) ≤ 9223372036854775807 ∧
      Hid (∀ w', Below w.heap.size w w' → Calls Try.prog 32 #[.slice a ss.length cap, .agg #[.int .i64 x, .int .i64 y, .int .i64 u, .int .i64 v]] w' fun e w'' => ∃ a' c', e = .returned (.tuple #[.slice a' C.length c', .int .i64 E]) ∧ StrS w'' a' C ∧ Below w'.heap.size w' w'') ∧
      Hid (∀ w', Below w.heap.size w w' → Calls Try.prog 33 #[.slice a ss.length cap, .agg #[.int .i64 x, .int .i64 y, .int .i64 u, .int .i64 v]] w' fun e w'' => ∃ a' c', e = .returned (.tuple #[.slice a' C.length c', .int .i64 E]) ∧ StrS w'' a' C ∧ Below w'.heap.size w' w'') := by
    by_cases hz : rectE ss x y u v = 0
    · obtain ⟨hs, X, Y, U, V, rfl, rfl, rfl, rfl, hU1, hV1, hU, hV⟩ := rectE_zero hz
      obtain ⟨⟨hl1, hl2⟩, ⟨hw1, hw2⟩, -⟩ := skB_iff.1 hs
      refine ⟨croB ss X Y U V, 0, by rw [show (croB ss X Y U V).length = V from drawB_len _ _ _]; omega, Lib.hid (fun w' hb => ?_), Lib.hid (fun w' hb => rCrop_yes a cap ss hs X Y U V hz hU hV w' (h.below hb))⟩
      exact (crop_yes a cap ss hs X Y U V hz hU hV w' (h.below hb)).mono (fun e w'' ⟨n, h1, h2, h3⟩ => ⟨_, _, h1, h2, h3⟩)
    · have h25 : rectE ss x y u v = 2 ∨ rectE ss x y u v = 5 := by
        rcases rectE_ok ss x y u v with h | h | h
        · exact absurd h hz
        · exact .inl h
        · exact .inr h
      exact ⟨[], rectE ss x y u v, by simp, Lib.hid (fun w' hb => (crop_no a cap ss l1' l2' x y u v _ rfl h25 w' (h.below hb)).mono (fun e w'' ⟨h1, h2⟩ => ⟨none, 0, h1, .inl rfl, h2⟩)),
        Lib.hid (fun w' hb => (rCrop_no a cap ss l1' l2' x y u v _ rfl h25 w' (h.below hb)).mono (fun e w'' ⟨h1, h2⟩ => ⟨none, 0, h1, .inl rfl, h2⟩))⟩
  obtain ⟨D, F, hdl, H3, H4⟩ : ∃ (D : List ByteArray) (F : Int), (D.length : Int) ≤ 9223372036854775807 ∧
      Hid (∀ w', Below w.heap.size w w' → Calls Try.prog 34 #[.slice a ss.length cap, .agg #[.int .i64 x, .int .i64 y, .int .i64 u, .int .i64 v]] w' fun e w'' => ∃ a' c', e = .returned (.tuple #[.slice a' D.length c', .int .i64 F]) ∧ StrS w'' a' D ∧ Below w'.heap.size w' w'') ∧
      Hid (∀ w', Below w.heap.size w w' → Calls Try.prog 35 #[.slice a ss.length cap, .agg #[.int .i64 x, .int .i64 y, .int .i64 u, .int .i64 v]] w' fun e w'' => ∃ a' c', e = .returned (.tuple #[.slice a' D.length c', .int .i64 F]) ∧ StrS w'' a' D ∧ Below w'.heap.size w' w'') := by
    by_cases hz : rectE ss x y u v = 0
    · obtain ⟨hs, X, Y, U, V, rfl, rfl, rfl, rfl, hU1, hV1, hU, hV⟩ := rectE_zero hz
      obtain ⟨⟨hl1, hl2⟩, ⟨hw1, hw2⟩, -⟩ := skB_iff.1 hs
      refine ⟨punB ss X Y U V, 0, by rw [show (punB ss X Y U V).length = ss.length from drawB_len _ _ _]; omega, Lib.hid (fun w' hb => ?_), Lib.hid (fun w' hb => rPunch_yes a cap ss hs X Y U V hz hU hV w' (h.below hb))⟩
      exact (punch_yes a cap ss hs X Y U V hz hU hV w' (h.below hb)).mono (fun e w'' ⟨n, h1, h2, h3⟩ => ⟨_, _, h1, h2, h3⟩)
    · have h25 : rectE ss x y u v = 2 ∨ rectE ss x y u v = 5 := by
        rcases rectE_ok ss x y u v with h | h | h
        · exact absurd h hz
        · exact .inl h
        · exact .inr h
      exact ⟨[], rectE ss x y u v, by simp, Lib.hid (fun w' hb => (punch_no a cap ss l1' l2' x y u v _ rfl h25 w' (h.below hb)).mono (fun e w'' ⟨h1, h2⟩ => ⟨none, 0, h1, .inl rfl, h2⟩)),
        Lib.hid (fun w' hb => (rPunch_no a cap ss l1' l2' x y u v _ rfl h25 w' (h.below hb)).mono (fun e w'' ⟨h1, h2⟩ => ⟨none, 0, h1, .inl rfl, h2⟩))⟩
  obtain ⟨v1, v2, v3, v4, v5, H5, H6⟩ : ∃ v1 v2 v3 v4 v5 : Int,
      Hid (∀ w', Below w.heap.size w w' → Calls Try.prog 36 #[.slice a ss.length cap] w' fun e w'' => e = .returned (.tuple #[.agg #[.int .i64 v1, .int .i64 v2, .int .i64 v3, .int .i64 v4], .int .i64 v5]) ∧ Below w'.heap.size w' w'') ∧
      Hid (∀ w', Below w.heap.size w w' → Calls Try.prog 37 #[.slice a ss.length cap] w' fun e w'' => e = .returned (.tuple #[.agg #[.int .i64 v1, .int .i64 v2, .int .i64 v3, .int .i64 v4], .int .i64 v5]) ∧ Below w'.heap.size w' w'') := by
    cases hs : skB ss with
    | false => exact ⟨0, 0, 0, 0, 2, Lib.hid (fun w' hb => trim_no a cap ss hs l1' l2' w' (h.below hb)), Lib.hid (fun w' hb => rTrim_no a cap ss hs l1' l2' w' (h.below hb))⟩
    | true =>
      obtain ⟨⟨v1, v2, v3, v4, v5⟩, hv⟩ : ∃ p, trimV (trimTo ss (wid ss) ss.length 0) = p := ⟨_, rfl⟩
      exact ⟨v1, v2, v3, v4, v5, Lib.hid (fun w' hb => trim_yes a cap ss hs w' (h.below hb) v1 v2 v3 v4 v5 hv), Lib.hid (fun w' hb => rTrim_yes a cap ss hs w' (h.below hb) v1 v2 v3 v4 v5 hv)⟩
  have hEE : (E == E) = true := by simp
  have hFF : (F == F) = true := by simp
  have h55 : (v5 == v5) = true := by simp
  have h11 : (v1 == v1) = true := by simp
  have h22 : (v2 == v2) = true := by simp
  have h33 : (v3 == v3) = true := by simp
  have h44 : (v4 == v4) = true := by simp
  have HM := Lib.hid ((Mem.nil w).alloc #[.int .i64 x, .int .i64 y, .int .i64 u, .int .i64 v] 39)
  clear h l1 l2 l1' l2' w0 w1 w2 w3
  go_enter Try.func7, Try.ntmps7
  go_wp2_with fail
  refine (H1.out _ HM.out.b).mono ?_
  rintro e w1 ⟨a1, c1, rfl, s1, hb⟩
  have HM1 := Lib.hid (HM.out.step hb)
  have S1 := Lib.hid s1
  have q0 := HM1.out.cell 0
  have q1 := HM1.out.cell 1
  have q2 := HM1.out.cell 2
  have q3 := HM1.out.cell 3
  have ql := HM1.out.head_lt
  simp at q0 q1 q2 q3
  clear hb s1
  go_wp2_with fail
  refine (H2.out _ HM1.out.b).mono ?_
  rintro e w2 ⟨a2, c2, rfl, s2, hb⟩
  have HM2 := Lib.hid (HM1.out.step hb)
  have S2 := Lib.hid (And.intro (S1.out.below hb) s2)
  clear q0 q1 q2 q3 ql
  have q0 := HM2.out.cell 0
  have q1 := HM2.out.cell 1
  have q2 := HM2.out.cell 2
  have q3 := HM2.out.cell 3
  have ql := HM2.out.head_lt
  simp at q0 q1 q2 q3
  clear hb s2
  go_wp2_with fail
  refine (H3.out _ HM2.out.b).mono ?_
  rintro e w3 ⟨a3, c3, rfl, s3, hb⟩
  have HM3 := Lib.hid (HM2.out.step hb)
  have S3 := Lib.hid (And.intro (S2.out.1.below hb) (And.intro (S2.out.2.below hb) s3))
  clear q0 q1 q2 q3 ql
  have q0 := HM3.out.cell 0
  have q1 := HM3.out.cell 1
  have q2 := HM3.out.cell 2
  have q3 := HM3.out.cell 3
  have ql := HM3.out.head_lt
  simp at q0 q1 q2 q3
  clear hb s3
  go_wp2_with fail
  refine (H4.out _ HM3.out.b).mono ?_
  rintro e w4 ⟨a4, c4, rfl, s4, hb⟩
  have HM4 := Lib.hid (HM3.out.step hb)
  have S4 := Lib.hid (And.intro (S3.out.1.below hb) (And.intro (S3.out.2.1.below hb) (And.intro (S3.out.2.2.below hb) s4)))
  clear hb s4 q0 q1 q2 q3 ql
  go_wp2_with fail
  refine (H5.out _ HM4.out.b).mono ?_
  rintro e w5 ⟨rfl, hb⟩
  have HM5 := Lib.hid ((HM4.out.step hb).alloc #[.int .i64 v1, .int .i64 v2, .int .i64 v3, .int .i64 v4] 39)
  have S5 := Lib.hid (And.intro (S4.out.1.below hb) (And.intro (S4.out.2.1.below hb) (And.intro (S4.out.2.2.1.below hb) (S4.out.2.2.2.below hb))))
  clear hb
  go_wp2_with fail
  refine (H6.out _ HM5.out.b).mono ?_
  rintro e w6 ⟨rfl, hb⟩
  have HM6 := Lib.hid ((HM5.out.step hb).alloc #[.int .i64 v1, .int .i64 v2, .int .i64 v3, .int .i64 v4] 39)
  have hb' := ((Below.refl w5.heap.size w5).alloc (Nat.le_refl _) (.cells #[.int .i64 v1, .int .i64 v2, .int .i64 v3, .int .i64 v4] 39)).trans (hb.mono (by simp))
  have hb2 := hb'.trans (((Below.refl w6.heap.size w6).alloc (Nat.le_refl _) (.cells #[.int .i64 v1, .int .i64 v2, .int .i64 v3, .int .i64 v4] 39)).mono hb'.size)
  have S6 := Lib.hid (And.intro (S5.out.1.below hb2) (And.intro (S5.out.2.1.below hb2) (And.intro (S5.out.2.2.1.below hb2) (S5.out.2.2.2.below hb2))))
  clear hb hb' hb2
  go_wp2_with fail
  refine (equalS_any _ _ _ _ C hcl _ S6.out.1 S6.out.2.1).mono ?_
  rintro e w7 ⟨rfl, hb⟩
  have HM7 := Lib.hid (HM6.out.step hb)
  have S7 := Lib.hid (And.intro (S6.out.2.2.1.below hb) (S6.out.2.2.2.below hb))
  clear hb
  go_wp2_with fail
  refine (equalS_any _ _ _ _ D hdl _ S7.out.1 S7.out.2).mono ?_
  rintro e w8 ⟨rfl, hb⟩
  have HM8 := Lib.hid (HM7.out.step hb)
  have t0 := HM8.out.cell 0
  have t1 := HM8.out.cell 1
  have t2 := HM8.out.cell 2
  have t3 := HM8.out.cell 3
  have tl := HM8.out.head_lt
  have r0 := HM8.out.tail.cell 0
  have r1 := HM8.out.tail.cell 1
  have r2 := HM8.out.tail.cell 2
  have r3 := HM8.out.tail.cell 3
  have rl := HM8.out.tail.head_lt
  simp at t0 t1 t2 t3 r0 r1 r2 r3
  clear hb
  go_wp2_with fail
  refine (skAwake_any _).mono ?_
  rintro e w9 ⟨rfl, hb⟩
  have HE := Lib.hid (HM8.out.step hb).b
  clear hb t0 t1 t2 t3 tl r0 r1 r2 r3 rl
  go_wp2
  go_ret
  exact ⟨rfl, HE.out⟩

theorem own : ownKnob Try.prog.godebug = none := by kernel_rfl
theorem cellsRect : Try.prog.cellsOf 39 = 4 := by kernel_rfl

set_option maxRecDepth 100000 in
theorem lifted (os : Os) (started : os.Started) (H : Type) (enc : TypeId × Value → H) :
    ReturnsInHanded {} Try.checked os 7 .any (Rows.skinCropsSpec.pre6 enc Try.prog Try.f7 Rows.skinCropsRow.domain false) (Rows.skinCropsSpec.post enc Try.prog Try.f7 false true false false) := by
  refine returnsInHanded_of_change (C := Try.checked) own started (by kernel_rfl) Try.func7
    (ChangeSpec.witness6 (enc := enc) (C := Try.checked) false ⟨#[], #[.slice none 0 0, .agg #[.int .i64 0, .int .i64 0, .int .i64 0, .int .i64 0]], []⟩ 8 (by kernel_rfl) (by kernel_rfl) (by kernel_rfl) (by kernel_rfl)) ?_
  intro W base args ds gs before hval0 hW hcnd _
  have hval : ∀ (j : Nat) t v, Try.f7.params[j]? = some t → args[j]? = some v → Value.okWide Try.prog W .any base t v := hval0
  have hW' := hW
  obtain ⟨p, q, hA0, hV, rfl, hfz, hnd⟩ := hW
  have hA : DataW.TrodAll enc Try.prog W 0 (fun _ => true) true Try.f7.params.toList args.toList ds p := hA0
  rw [Try.params7] at hA hval
  obtain ⟨v0, vs0, d0, ds0, p0, q0, hargs, rfl, rfl, h0, r0⟩ := trodAll_cons hA
  obtain ⟨v1, vs1, d1, ds1, p1, q1, rfl, rfl, rfl, h1, r1⟩ := trodAll_cons r0
  obtain ⟨rfl, rfl, rfl⟩ := trodAll_nil r1
  obtain rfl : args = #[v0, v1] := by cases args; simp_all
  obtain ⟨rfl, rfl⟩ := trodVars_none hV
  obtain ⟨a0, len0, cap0, rfl⟩ := okWide_slice Try.underlying22 (hval 0 22 v0 rfl rfl)
  have k0 := h0
  have lt0 : ∀ x ∈ p0, x.block < W.heap.size := by obtain ⟨m, hm⟩ := k0; exact DataW.trod_lt m _ _ _ hm
  obtain ⟨fs0, hl0, hF0, wf0⟩ := open_skS h0
  subst hl0
  obtain ⟨c1a, c1b, c1c, c1d, y1a, y1b, y1c, y1d, m1, rfl, rfl, rfl, hy1a, hy1b, hy1c, hy1d⟩ := open_agg4 Try.underlying39 (by kernel_rfl) cellsRect (hval 1 39 v1 rfl rfl) h1
  obtain ⟨n1a, e1a, rfl, wn1a⟩ := DataW.trod_int Try.underlying3 hy1a
  obtain ⟨n1b, e1b, rfl, wn1b⟩ := DataW.trod_int Try.underlying3 hy1b
  obtain ⟨n1c, e1c, rfl, wn1c⟩ := DataW.trod_int Try.underlying3 hy1c
  obtain ⟨n1d, e1d, rfl, wn1d⟩ := DataW.trod_int Try.underlying3 hy1d
  simp at e1a e1b e1c e1d
  subst e1a e1b e1c e1d
  clear hA0 hval0
  refine (walk a0 cap0 fs0 wf0 n1a n1b n1c n1d wn1a wn1b wn1c wn1d W hF0).mono fun e W' ⟨he, hb⟩ => ?_
  subst he
  exact ⟨_, rfl, _, _, _, [], _, [], hW', trodAll_mk1 (shut_bool Try.underlying4 _), (trodAll_cons_mk (Below.trod laidOut (by kernel_rfl) (of_decide_eq_true (by kernel_rfl)) k0 hb lt0) (trodAll_cons_mk (shut_agg4 (y0 := (.lit (.int .i64 n1a), [])) (y1 := (.lit (.int .i64 n1b), [])) (y2 := (.lit (.int .i64 n1c), [])) (y3 := (.lit (.int .i64 n1d), [])) Try.underlying39 (by kernel_rfl) cellsRect (field_of_Trod (shut_int Try.underlying3 wn1a) rfl) (field_of_Trod (shut_int Try.underlying3 wn1b) rfl) (field_of_Trod (shut_int Try.underlying3 wn1c) rfl) (field_of_Trod (shut_int Try.underlying3 wn1d) rfl)) trodAll_mk0)), rfl, hb.frame _, fun h => by cases h⟩

theorem over : Rows.skinCropsRow.holds Try.pinned (OpenSpec.ofChange Rows.skinCropsSpec) :=
  OpenClaim.holds_of_wide 7 Try.f7 rfl rfl rfl rfl rfl rfl rfl ⟨rfl, rfl, rfl, rfl, rfl⟩ rfl rfl rfl rfl rfl (by kernel_rfl) Try.func7 (by kernel_rfl)
    (of_decide_eq_true (by kernel_rfl)) (by unfold Func.isWrapper; first | (rw [if_pos (by decide +kernel)]; kernel_rfl) | (rw [if_neg (by decide +kernel)]; exact ⟨rfl, rfl⟩))
    (fun os started H enc _ => lifted os started H enc)

/-- THE STATEMENT. -/
theorem proved : Rows.SkinCropsSaid := over
#print axioms proved

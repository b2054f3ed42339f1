/- FracTerms: Terms gives what the reference gives, and FromTerms of it the fraction, for every fraction; no condition. -/
import Derived.Test.YtjnfgjaiahnfgaaRows
import Derived.ProofKit
import Derived.OpenShut
import Derived.Lib.SmallJoins
import Derived.Test.YtjnfgjaiahnfgaaAwake
import Derived.Test.YtjnfgjaiahnfgaaTr
namespace Go.Proofs.Ytjnfgjaiahnfgaa.lawFracTerms
open Go.ChangeShapes Go.WideShapes Go.ChangeAt Go.RowKit Go.Joins
set_option linter.unusedVariables false

theorem sameT {q : List Int × Int} {l l' : List Int} {z z' : Int} (h : Hid (q = (l, z))) (h' : Hid (q = (l', z'))) : l' = l ∧ z' = z := by
  have e := h'.out.symm.trans h.out
  simpa using e

theorem cf_range : ∀ (k : Nat) (n d : Int), -1000000000 ≤ n → n ≤ 1000000000 → 0 ≤ d → d ≤ 1000000000 → ∀ z ∈ cf k n d, -9223372036854775808 ≤ z ∧ z ≤ 9223372036854775807 := by
  intro k
  induction k with
  | zero => intro n d _ _ _ _ z hz; simp [cf] at hz
  | succ k ih =>
    intro n d h1 h2 h3 h4 z hz
    rcases Int.lt_or_le 0 d with h | h
    · rw [cf_pos h] at hz
      have e := Int.emod_add_mul_ediv n d
      have e1 := Int.emod_nonneg n (show d ≠ 0 by omega)
      have e2 := Int.emod_lt_of_pos n h
      rcases List.mem_cons.1 hz with rfl | hz
      · have a1 : -1000000000 ≤ n / d := Int.le_ediv_of_mul_le h (by
          have := Int.mul_le_mul_of_nonneg_left (show 1 ≤ d by omega) (show (0 : Int) ≤ 1000000000 by decide)
          omega)
        have a2 : n / d < 1000000001 := Int.ediv_lt_of_lt_mul h (by
          have := Int.mul_le_mul_of_nonneg_left (show 1 ≤ d by omega) (show (0 : Int) ≤ 1000000001 by decide)
          omega)
        omega
      · exact ih d (n % d) (by omega) h4 e1 (by omega) z hz
    · rw [cf_zero h] at hz; simp at hz

/-- FromTerms of the Terms of a valid fraction. -/
theorem back {n d : Int} (h : VF n d) : ftS (cf (d.toNat + 1) n d) = (n, d, 0) := by
  have v3 := h.d1; have v4 := h.d2
  have hd : 0 < d := by omega
  have e1 := Int.emod_nonneg n (show d ≠ 0 by omega)
  have e2 := Int.emod_lt_of_pos n hd
  have hlen := cf_short (n := n) v4 (d.toNat + 1)
  have hft := ft_cf d.toNat n d (by omega) (by omega) (fun h0 => by omega) (fun _ => h.g) (fun _ => .inr trivial)
  have ha : areT (cf (d.toNat + 1) n d) = true := by
    rw [cf_pos hd, areT_iff]
    rcases Int.lt_or_eq_of_le e1 with hr | hr
    · exact ⟨cf_last _ _ _ hr e2 (by omega), cf_tail _ _ _ hr (by omega)⟩
    · rw [← hr, cf_zero (Int.le_refl 0)]; simp
  rw [ftS_yes (by omega) ha, hft]
  exact h.ans

set_option maxRecDepth 100000 in
set_option maxHeartbeats 3200000 in
theorem walk (n d : Int) (_ : (Lit.int .i64 n).wf = true) (_ : (Lit.int .i64 d).wf = true) (w : World) :
    Calls Try.prog 9 #[.agg #[.int .i64 n, .int .i64 d]] w fun e w' => e = .returned (.bool true) ∧ Below w.heap.size w w' := by
  have HM := Lib.hid ((Mem.nil w).alloc #[.int .i64 n, .int .i64 d] 23)
  go_enter Try.func9, Try.ntmps9
  go_wp2_with fail
  refine (terms_p n d _).mono ?_
  rintro e w1 ⟨a, cap, l, z, rfl, H1, HE, hb⟩
  have hM1 := HM.out.step hb
  obtain ⟨c0, c1, -, -, c4⟩ := hM1.c2
  have HM1 := Lib.hid hM1
  clear hb hM1
  go_wp2_with fail
  refine (terms_r n d _).mono ?_
  rintro e w2 ⟨a2, cap2, l2, z2, rfl, H2, HE2, hb⟩
  obtain ⟨rfl, rfl⟩ := sameT H1 H2
  have HM2 := Lib.hid (HM1.out.step hb)
  have HI1 := Lib.hid (HE.out.1.below hb)
  have HCAP := Lib.hid HE.out.2
  have HLN : Hid (l2.length ≤ 1000000) := Lib.hid (by
    have h := H1.out
    by_cases hv : VF n d
    · rw [termS_yes hv] at h
      simp only [Prod.mk.injEq] at h
      rw [← h.1]
      exact Nat.le_trans (cf_short hv.d2 _) (by decide)
    · rw [termS_no hv] at h
      simp only [Prod.mk.injEq] at h
      rw [← h.1]; simp)
  clear hb c0 c1 c4 H2 HE
  obtain ⟨n2, hn2⟩ : ∃ m, m = l2.length := ⟨_, rfl⟩
  go_wp2_with fail
  refine (equal_same a a2 cap cap2 l2 HLN.out _ HI1.out HE2.out.1).mono ?_
  rintro e w3 ⟨rfl, hb⟩
  have hM3 := HM2.out.step hb
  have HM3 := Lib.hid hM3
  have HI3 := Lib.hid (HI1.out.below hb)
  clear hb hM3
  go_wp2_with fail
  refine (awake_any _).mono ?_
  rintro e w4 ⟨rfl, hb⟩
  have hM4 := HM3.out.step hb
  have HM4 := Lib.hid hM4
  have HI4 := Lib.hid (HI3.out.below hb)
  clear hb hM4
  by_cases hv : VF n d
  · have HT := Lib.hid (termS_yes hv)
    have he : l2 = cf (d.toNat + 1) n d ∧ z2 = 0 := by
      have := H1.out.symm.trans HT.out
      simpa using this
    obtain ⟨hl, rfl⟩ := he
    have HB : Hid (ftS l2 = (n, d, 0)) := Lib.hid (by rw [hl]; exact back hv)
    have HRG : Hid (∀ z ∈ l2, -9223372036854775808 ≤ z ∧ z ≤ 9223372036854775807) := Lib.hid (by
      rw [hl]; exact cf_range _ _ _ hv.n1 hv.n2 (by have := hv.d1; omega) hv.d2)
    clear hl hv H1
    go_wp2_with fail
    refine (fromTerms_p a cap l2 HRG.out HCAP.out.1 HCAP.out.2 _ HI4.out).mono ?_
    rintro e w5 ⟨x0, x1, x2, rfl, HF, hb⟩
    have he : x0 = n ∧ x1 = d ∧ x2 = 0 := by
      have := HF.out.symm.trans HB.out
      simpa using this
    obtain ⟨rfl, rfl, rfl⟩ := he
    have hM5 := HM4.out.step hb
    obtain ⟨c0, c1, -, -, c4⟩ := hM5.c2
    have HM5 := Lib.hid hM5
    clear hb hM5
    go_wp2
    go_ret
    exact ⟨rfl, (HM5.out.skip _).b⟩
  · have HT := Lib.hid (termS_no hv)
    have he : l2 = [] ∧ z2 = 2 := by
      have := H1.out.symm.trans HT.out
      simpa using this
    obtain ⟨rfl, rfl⟩ := he
    clear hv H1
    go_wp2_with fail
    refine (fromTerms_p a cap [] (by simp) HCAP.out.1 HCAP.out.2 _ HI4.out).mono ?_
    rintro e w5 ⟨x0, x1, x2, rfl, HF, hb⟩
    have HM5 := Lib.hid (HM4.out.step hb)
    clear hb
    go_wp2
    go_ret
    exact ⟨rfl, (HM5.out.skip _).b⟩

theorem own : ownKnob Try.prog.godebug = none := by kernel_rfl
theorem cellsFrac : Try.prog.cellsOf 23 = 2 := by kernel_rfl

set_option maxRecDepth 100000 in
theorem lifted (os : Os) (started : os.Started) (H : Type) (enc : TypeId × Value → H) :
    ReturnsInHanded {} Try.checked os 9 .any (Rows.fracTermsSpec.pre6 enc Try.prog Try.f9 Rows.fracTermsRow.domain false) (Rows.fracTermsSpec.post enc Try.prog Try.f9 false true false false) := by
  refine returnsInHanded_of_change (C := Try.checked) own started (by kernel_rfl) Try.func9
    (ChangeSpec.witness6 (enc := enc) (C := Try.checked) false ⟨#[], #[.agg #[.int .i64 0, .int .i64 0]], []⟩ 8 (by kernel_rfl) (by kernel_rfl) (by kernel_rfl) (by kernel_rfl)) ?_
  intro W base args ds gs before hval0 hW hcnd _
  have hval : ∀ (j : Nat) t v, Try.f9.params[j]? = some t → args[j]? = some v → Value.okWide Try.prog W .any base t v := hval0
  have hW' := hW
  obtain ⟨p, q, hA0, hV, rfl, hfz, hnd⟩ := hW
  have hA : DataW.TrodAll enc Try.prog W 0 (fun _ => true) true Try.f9.params.toList args.toList ds p := hA0
  rw [Try.params9] at hA hval
  obtain ⟨v0, vs0, d0, ds0, p0, q0, hargs, rfl, rfl, h0, r0⟩ := trodAll_cons hA
  obtain ⟨rfl, rfl, rfl⟩ := trodAll_nil r0
  obtain rfl : args = #[v0] := by cases args; simp_all
  obtain ⟨rfl, rfl⟩ := trodVars_none hV
  obtain ⟨c0a, c0b, y0a, y0b, m0, rfl, rfl, rfl, hy0a, hy0b⟩ := open_agg2 Try.underlying23 (by kernel_rfl) cellsFrac (hval 0 23 v0 rfl rfl) h0
  obtain ⟨n0, e0a, rfl, wn0⟩ := DataW.trod_int Try.underlying3 hy0a
  obtain ⟨k0, e0b, rfl, wk0⟩ := DataW.trod_int Try.underlying3 hy0b
  simp at e0a e0b
  subst e0a e0b
  clear hA0 hval0
  simp only [List.append_nil] at hW'
  refine (walk n0 k0 wn0 wk0 W ).mono fun e W' ⟨he, hb⟩ => ?_
  subst he
  refine ⟨_, rfl, _, _, _, [], [], [], hW', ?_, ?_, rfl, hb.frame _, fun h => by cases h⟩
  · exact trodAll_cons_mk (shut_bool Try.underlying4 _) trodAll_mk0
  · exact (trodAll_cons_mk (shut_agg2 (y0 := (.lit (.int .i64 n0), [])) (y1 := (.lit (.int .i64 k0), [])) Try.underlying23 (by kernel_rfl) cellsFrac ⟨1, by simp [DataW.trod, Try.underlying3, wn0]⟩ ⟨1, by simp [DataW.trod, Try.underlying3, wk0]⟩) trodAll_mk0)

theorem over : Rows.fracTermsRow.holds Try.pinned (OpenSpec.ofChange Rows.fracTermsSpec) :=
  OpenClaim.holds_of_wide 9 Try.f9 rfl rfl rfl rfl rfl rfl rfl ⟨rfl, rfl, rfl, rfl, rfl⟩ rfl rfl rfl rfl rfl (by kernel_rfl) Try.func9 (by kernel_rfl)
    (of_decide_eq_true (by kernel_rfl)) (by unfold Func.isWrapper; first | (rw [if_pos (by decide +kernel)]; kernel_rfl) | (rw [if_neg (by decide +kernel)]; exact ⟨rfl, rfl⟩))
    (fun os started H enc _ => lifted os started H enc)

/-- THE STATEMENT. -/
theorem proved : Rows.FracTermsSaid := over
#print axioms proved

end Go.Proofs.Ytjnfgjaiahnfgaa.lawFracTerms

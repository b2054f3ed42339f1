/- FracPrints: Print gives the documented text, and Parse of it gives the fraction back, for every fraction; no condition. -/
import Derived.Test.YtmgbecfodinhhaaDoorRows
import Derived.Test.YtmgbecfodinhhaaDoorCards
import Derived.Test.YtmgbecfodinhhaaDoorTie
import Derived.ProofKit
import Derived.OpenShut
import Derived.Lib.SmallJoins
import Derived.SizedLaws
import Derived.ChangeVars
import Derived.Test.YtmgbecfodinhhaaDoorTxL
import Derived.Test.YtmgbecfodinhhaaDoorTxK
namespace Go.Proofs.YtmgbecfodinhhaaDoor.lawFracPrints
open Go.ChangeShapes Go.WideShapes Go.ChangeAt Go.RowKit Go.Joins
set_option linter.unusedVariables false

theorem print_len {n d : Int} (h : VF n d) : (printS n d).length ≤ 33 := by
  have := h.d1; have := h.d2; have := h.n1; have := h.n2
  have := mixed_len (n := n.natAbs) (d := d.natAbs) (by omega) (by omega)
  unfold printS
  split
  · simp only [List.length_cons]; omega
  · omega

set_option maxRecDepth 100000 in
set_option maxHeartbeats 3200000 in
theorem walk (n d : Int) (w : World) (he : Env w) :
    Calls Tryd.prog 3 #[.agg #[.int .i64 n, .int .i64 d]] w fun e w' => e = .returned (.bool true) ∧ Below w.heap.size w w' := by
  have hM0 := (Mem.nil w).alloc #[.int .i64 n, .int .i64 d] 23
  have HM0 := Lib.hid hM0
  have HE := Lib.hid he
  have HE0 := Lib.hid (he.below hM0.b)
  obtain ⟨⟨l, z⟩, hT⟩ : ∃ x, printT n d = x := ⟨_, rfl⟩
  have hlen : l.length ≤ 140737488355328 := by
    by_cases hv : vfB n d = true
    · rw [printT_yes hv] at hT
      simp only [Prod.mk.injEq] at hT
      have := print_len ((vfB_iff n d).1 hv)
      rw [← hT.1]; omega
    · rw [printT_no (by simpa using hv)] at hT
      simp only [Prod.mk.injEq] at hT
      rw [← hT.1]; simp
  have HLN := Lib.hid hlen
  have HZ : Hid ((z = 2) ∨ (z = 0 ∧ ∀ x y q, ParQ l x y q → x = n ∧ y = d ∧ q = 0)) := Lib.hid (by
    by_cases hv : vfB n d = true
    · rw [printT_yes hv] at hT
      simp only [Prod.mk.injEq] at hT
      exact .inr ⟨hT.2.symm, fun x y q h => by rw [← hT.1] at h; exact h.yes ((vfB_iff n d).1 hv)⟩
    · rw [printT_no (by simpa using hv)] at hT
      simp only [Prod.mk.injEq] at hT
      exact .inl hT.2.symm)
  have HT := Lib.hid hT
  clear he hM0 hT hlen
  have hll : (l == l) = true := by simp
  go_enter Tryd.func3, Tryd.ntmps3
  go_wp2_with fail
  refine (print_p n d _ HE0.out).mono ?_
  rintro e w1 ⟨l1, z1, rfl, H1, hb⟩
  obtain ⟨rfl, rfl⟩ : l1 = l ∧ z1 = z := by
    have e := H1.out.symm.trans HT.out
    simp only [Prod.mk.injEq] at e
    exact e
  have hM1 := HM0.out.step hb
  have HM1 := Lib.hid hM1
  have HE1 := Lib.hid (HE.out.below hM1.b)
  obtain ⟨c0, c1, -, -, hlt⟩ := hM1.c2
  clear H1 hb hM1
  go_wp2_with fail
  refine (rprint n d _ HE1.out).mono ?_
  rintro e w2 ⟨l2, z2, rfl, H1, hb⟩
  obtain ⟨rfl, rfl⟩ : l2 = l1 ∧ z2 = z1 := by
    have e := H1.out.symm.trans HT.out
    simp only [Prod.mk.injEq] at e
    exact e
  have HM2 := Lib.hid (HM1.out.step hb)
  clear H1 hb c0 c1 hlt HM1 HE1
  have hll2 : (l2 == l2) = true := by simp
  have hzz : (z2 != z2) = false := by simp
  go_wp2_with fail
  refine (awake_any _).mono ?_
  rintro e w3 ⟨rfl, hb⟩
  have hM3 := HM2.out.step hb
  have HM3 := Lib.hid hM3
  have HE3 := Lib.hid (HE.out.below hM3.b)
  clear hb hM3
  go_wp2_with fail
  refine (parse_p l2 HLN.out _ HE3.out).mono ?_
  rintro e w4 ⟨x, y, q, rfl, HP, hb⟩
  have hM4 := (HM3.out.step hb).alloc #[.int .i64 x, .int .i64 y] 23
  have HM4 := Lib.hid hM4
  rcases HZ.out with hz | ⟨hz, h⟩
  · subst hz
    clear HP HT hM4 hb
    go_wp2
    go_ret
    exact ⟨rfl, HM4.out.b⟩
  · obtain ⟨rfl, rfl, rfl⟩ := h _ _ _ HP.out
    subst hz
    obtain ⟨d0, d1, -, -, hlt2⟩ := hM4.c2
    obtain ⟨c0, c1, -, -, hlt⟩ := hM4.tail.c2
    clear HP HT HZ h hM4 hb
    go_wp2
    go_ret
    exact ⟨rfl, HM4.out.b⟩

theorem own : ownKnob Tryd.prog.godebug = none := by kernel_rfl
theorem cellsFrac : Tryd.prog.cellsOf 23 = 2 := by kernel_rfl

/-- The heap that the initialisers leave meets the condition. -/
theorem door_met (os : Os) (args : Array Value) : laidMetH Tryd.prog Rows.fracPrintsRow.laid ((World.doorLaid Tryd.prog 62 os).forCall (fun _ _ => 0) ⟨#[], args, []⟩).memory :=
  laidMetH_of_parts3 (fuel := 8) (laidMet_of_run' 8 (by kernel_rfl) (by kernel_rfl)) (by kernel_rfl) (by kernel_rfl)

set_option maxRecDepth 100000 in
theorem lifted (os : Os) (started : os.Started) (H : Type) (enc : TypeId × Value → H) :
    ReturnsInHanded {} Tryd.checked os 3 .any (fun w args => (Rows.fracPrintsSpec.pre enc Tryd.prog Tryd.f3 [] false w args ∧ laidMetH Tryd.prog Rows.fracPrintsRow.laid w) ∧ sizedMet enc Tryd.prog Tryd.f3 (OpenSpec.ofChange Rows.fracPrintsSpec) false w args)
      (Rows.fracPrintsSpec.post enc Tryd.prog Tryd.f3 false true false false) := by
  refine returnsInHanded_of_change_and (C := Tryd.checked) (X := fun w _ => laidMetH Tryd.prog Rows.fracPrintsRow.laid w) (fun _ _ _ hh h => h.of_heap hh) own started (by kernel_rfl) Tryd.func3
    (ChangeSpec.witness_shaped (enc := enc) (C := Tryd.checked) (os := os) (X := fun w _ => laidMetH Tryd.prog Rows.fracPrintsRow.laid w) false (World.doorLaid Tryd.prog 62 os) #[.agg #[.int .i64 0, .int .i64 0]] 8 rfl (World.shaped_of_RefB (by kernel_rfl) (by kernel_rfl)) (by kernel_rfl) (by kernel_rfl) (by kernel_rfl) (door_met os _)) ?_
  intro W base args ds gs before hval0 hW _ _ hL _
  have hval : ∀ (j : Nat) t v, Tryd.f3.params[j]? = some t → args[j]? = some v → Value.okWide Tryd.prog W .any base t v := hval0
  have hW' := hW
  obtain ⟨p, q, hA0, hV, rfl, hfz, hnd⟩ := hW
  have hA : DataW.TrodAll enc Tryd.prog W 0 (fun _ => true) true Tryd.f3.params.toList args.toList ds p := hA0
  rw [Tryd.params3] at hA hval
  obtain ⟨v0, vs0, d0, ds0, p0, q0, hargs, rfl, rfl, h0, r0⟩ := trodAll_cons hA
  obtain ⟨rfl, rfl, rfl⟩ := trodAll_nil r0
  obtain rfl : args = #[v0] := by cases args; simp_all
  obtain ⟨rfl, rfl⟩ := trodVars_none hV
  obtain ⟨c0a, c0b, y0a, y0b, m0, rfl, rfl, rfl, hy0a, hy0b⟩ := open_agg2 Tryd.underlying23 (by kernel_rfl) cellsFrac (hval 0 23 v0 rfl rfl) h0
  obtain ⟨n0, e0a, rfl, wn0⟩ := DataW.trod_int Tryd.underlying3 hy0a
  obtain ⟨k0, e0b, rfl, wk0⟩ := DataW.trod_int Tryd.underlying3 hy0b
  simp at e0a e0b
  subst e0a e0b
  clear hA0 hval0
  simp only [List.append_nil] at hW'
  have hE : Env W := env_of_laid (by rw [MakeChecks.laidMetH_plain _ _ _ (by kernel_rfl)] at hL; exact hL)
  refine (walk n0 k0 W hE).mono fun e W' ⟨he, hb⟩ => ?_
  subst he
  refine ⟨_, rfl, _, _, _, [], [], [], hW', ?_, ?_, rfl, hb.frame _, fun h => by cases h⟩
  · exact trodAll_cons_mk (shut_bool Tryd.underlying4 _) trodAll_mk0
  · exact (trodAll_cons_mk (shut_agg2 (y0 := (.lit (.int .i64 n0), [])) (y1 := (.lit (.int .i64 k0), [])) Tryd.underlying23 (by kernel_rfl) cellsFrac ⟨1, by simp [DataW.trod, Tryd.underlying3, wn0]⟩ ⟨1, by simp [DataW.trod, Tryd.underlying3, wk0]⟩) trodAll_mk0)

theorem over : Rows.fracPrintsRow.holds Tryd.pinned (OpenSpec.ofChange Rows.fracPrintsSpec) :=
  OpenClaim.holds_of_wide 3 Tryd.f3 rfl rfl rfl rfl rfl rfl rfl ⟨rfl, rfl, rfl, rfl, rfl⟩ rfl rfl rfl rfl rfl (by kernel_rfl) Tryd.func3 (by kernel_rfl)
    (of_decide_eq_true (by kernel_rfl)) (by unfold Func.isWrapper; first | (rw [if_pos (by decide +kernel)]; kernel_rfl) | (rw [if_neg (by decide +kernel)]; exact ⟨rfl, rfl⟩))
    (fun os started H enc _ => lifted os started H enc)

/-- No parameter wants a stand-in; what the card asks of the program's looks. -/
theorem plain (f : FuncId) (fn : Func) (hf : Tryd.pinned.checked.prog.funcNamed "trank/tranklaw01.FracPrints" = some f) (hfn : Tryd.pinned.checked.prog.funcs[f]? = some fn) :
    true = Tryd.pinned.checked.prog.looks [] ∧ ∀ (j : Nat) t, fn.params[j]? = some t → Tryd.pinned.checked.prog.wantsStandIn t = false := by
  obtain rfl : f = 3 := Option.some.inj ((show Tryd.prog.funcNamed "trank/tranklaw01.FracPrints" = some 3 by kernel_rfl).symm.trans hf) |>.symm
  obtain rfl : fn = Tryd.f3 := (Option.some.inj (Tryd.func3.symm.trans hfn)).symm
  refine ⟨by kernel_rfl, fun j t ht => ?_⟩
  rw [Tryd.params3] at ht
  obtain rfl : t = 23 := by simpa using Array.mem_of_getElem? ht
  exact (show Tryd.prog.wantsStandIn 23 = false by kernel_rfl)

/-- THE STATEMENT. -/
theorem proved : Rows.FracPrintsCardSaid :=
  Claim7.holds_tied_plain_at .later [] _ _ _ _ over (fun _ h => by cases h) (by kernel_rfl) (fun _ h => by cases h) fracPrints_row_tie rfl ⟨rfl, rfl⟩ (by kernel_rfl) rfl plain (by kernel_rfl)
#print axioms proved

end Go.Proofs.YtmgbecfodinhhaaDoor.lawFracPrints

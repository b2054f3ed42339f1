/- Pairs: Cost, the program's and the reference's; gloves and rules of the law turned into the program's. -/
import Derived.Test.YtchhadkmemckbabPaD
namespace Go.Proofs.Ytchhadkmemckbab
open Go.RowKit
set_option linter.unusedSimpArgs false
set_option linter.unusedVariables false

/-- What Cost answers. -/
def costE (a b : Gl) (u : Ru) : Int × Bool × Int :=
  if okB a && okB b && ruB u then (if costB a b u = -1 then (0, false, 0) else (costB a b u, true, 0)) else (0, false, 2)
theorem costE_bad {a b : Gl} {u : Ru} (h : (okB a && okB b && ruB u) = false) : costE a b u = (0, false, 2) := by unfold costE; rw [h]; rfl
theorem costE_no {a b : Gl} {u : Ru} (h : (okB a && okB b && ruB u) = true) (hc : costB a b u = -1) : costE a b u = (0, false, 0) := by unfold costE; rw [h, if_pos rfl, if_pos hc]
theorem costE_yes {a b : Gl} {u : Ru} (h : (okB a && okB b && ruB u) = true) (hc : costB a b u ≠ -1) : costE a b u = (costB a b u, true, 0) := by unfold costE; rw [h, if_pos rfl, if_neg hc]

set_option maxRecDepth 100000 in
theorem glove_any (a b c d : Int) (w : World) : Calls Try.prog 29 #[.agg #[.int .i64 a, .int .i64 b, .int .i64 c, .int .i64 d]] w fun e w' => e = .returned (.agg #[.int .i64 a, .int .i64 b, .int .i64 c, .int .i64 d]) ∧ Below w.heap.size w w' := by
  go_enter Try.func29, Try.ntmps29
  go_wp2
  (try simp only [Exit.inBlock, Exit.then])
  refine bodyPost_ret (v := .agg #[.int .i64 a, .int .i64 b, .int .i64 c, .int .i64 d]) (by simp [results, Try.results29, go_sem]) rfl ⟨rfl, ?_⟩
  exact ((Below.refl _ _).alloc (Nat.le_refl _) _).alloc (by simp) _

set_option maxRecDepth 100000 in
set_option maxHeartbeats 1600000 in
theorem rule_any (a b c d p q r s : Int) (w : World) : Calls Try.prog 11 #[.agg #[.int .i64 a, .int .i64 b, .int .i64 c, .int .i64 d, .int .i64 p, .int .i64 q, .int .i64 r, .int .i64 s]] w fun e w' => e = .returned (.agg #[.int .i64 a, .int .i64 b, .int .i64 c, .int .i64 d, .int .i64 p, .int .i64 q, .int .i64 r, .int .i64 s]) ∧ Below w.heap.size w w' := by
  have hm := ((((Mem.nil w).alloc_at (H := w.heap.size) rfl #[.int .i64 a, .int .i64 b, .int .i64 c, .int .i64 d, .int .i64 p, .int .i64 q, .int .i64 r, .int .i64 s] 26).alloc_at (H := w.heap.size + 1) (by simp) #[.int .i64 0, .int .i64 0, .int .i64 0, .int .i64 0, .int .i64 0, .int .i64 0, .int .i64 0, .int .i64 0] 34)).drew
  have HM := Lib.hid hm
  clear hm
  go_enter Try.func11, Try.ntmps11
  go_upto_region 1 with fail
  obtain ⟨wd, hwd⟩ : ∃ z, z = ((w.alloc (.cells #[.int .i64 a, .int .i64 b, .int .i64 c, .int .i64 d, .int .i64 p, .int .i64 q, .int .i64 r, .int .i64 s] 26)).alloc (.cells #[.int .i64 0, .int .i64 0, .int .i64 0, .int .i64 0, .int .i64 0, .int .i64 0, .int .i64 0, .int .i64 0] 34)).drew := ⟨_, rfl⟩
  rw [← hwd] at HM
  refine wp_region_held_drew (S := fun w' => w'.cell? ⟨w.heap.size, 0, none⟩ = some (.int .i64 a) ∧ w'.cell? ⟨w.heap.size, 1, none⟩ = some (.int .i64 b) ∧ w'.cell? ⟨w.heap.size, 2, none⟩ = some (.int .i64 c) ∧ w'.cell? ⟨w.heap.size, 3, none⟩ = some (.int .i64 d) ∧ w'.cell? ⟨w.heap.size, 4, none⟩ = some (.int .i64 p) ∧ w'.cell? ⟨w.heap.size, 5, none⟩ = some (.int .i64 q) ∧ w'.cell? ⟨w.heap.size, 6, none⟩ = some (.int .i64 r) ∧ w'.cell? ⟨w.heap.size, 7, none⟩ = some (.int .i64 s)) (by kernel_rfl) (by rw [← hwd]; exact ⟨(HM.out.tail).cell 0, (HM.out.tail).cell 1, (HM.out.tail).cell 2, (HM.out.tail).cell 3, (HM.out.tail).cell 4, (HM.out.tail).cell 5, (HM.out.tail).cell 6, (HM.out.tail).cell 7⟩) (fun hHeld => ?_)
  rw [← hwd] at hHeld ⊢
  clear hwd
  refine wpAnyH_take (i := 0) (oi := { dst := some 3, op := Op.fieldAddr 26 (Operand.tmp 1) 0, type := 0, pos := "law.go:29", after := #[], guard := none }) (v := ?_) rfl (by kernel_rfl) (by kernel_rfl) (by kernel_rfl) (fun _ _ _ h => h) (Or.inl ⟨by rfl, ?_⟩) (by assumption) ?_
  rotate_left
  · intro w' hSw
    (try dsimp only at hSw)
    (try go_split_ands)
    go_simp
    try with_reducible rfl
  (try simp only [Act.put, List.setIfInBounds_toArray, List.set_cons_zero, List.set_cons_succ])
  refine wpAnyH_take (i := 1) (oi := { dst := some 4, op := Op.load 24 (Operand.tmp 3), type := 24, pos := "law.go:29", after := #[{ on := 0, ground := Ground.data }], guard := none }) (v := ?_) rfl (by kernel_rfl) (by kernel_rfl) (by kernel_rfl) (fun _ _ _ h => h) (Or.inl ⟨by rfl, ?_⟩) (by assumption) ?_
  rotate_left
  · intro w' hSw
    (try dsimp only at hSw)
    (try go_split_ands)
    go_simp
    try with_reducible rfl
  (try simp only [Act.put, List.setIfInBounds_toArray, List.set_cons_zero, List.set_cons_succ])
  refine wpAnyH_take (i := 3) (oi := { dst := some 6, op := Op.fieldAddr 26 (Operand.tmp 1) 1, type := 0, pos := "law.go:29", after := #[], guard := none }) (v := ?_) rfl (by kernel_rfl) (by kernel_rfl) (by kernel_rfl) (fun _ _ _ h => h) (Or.inl ⟨by rfl, ?_⟩) (by assumption) ?_
  rotate_left
  · intro w' hSw
    (try dsimp only at hSw)
    (try go_split_ands)
    go_simp
    try with_reducible rfl
  (try simp only [Act.put, List.setIfInBounds_toArray, List.set_cons_zero, List.set_cons_succ])
  refine wpAnyH_take (i := 4) (oi := { dst := some 7, op := Op.load 24 (Operand.tmp 6), type := 24, pos := "law.go:29", after := #[{ on := 3, ground := Ground.data }], guard := none }) (v := ?_) rfl (by kernel_rfl) (by kernel_rfl) (by kernel_rfl) (fun _ _ _ h => h) (Or.inl ⟨by rfl, ?_⟩) (by assumption) ?_
  rotate_left
  · intro w' hSw
    (try dsimp only at hSw)
    (try go_split_ands)
    go_simp
    try with_reducible rfl
  (try simp only [Act.put, List.setIfInBounds_toArray, List.set_cons_zero, List.set_cons_succ])
  refine wpAnyH_ready (rs := [2]) (by kernel_rfl) (by simp) ?_
  refine (AllReadyH.cons (o := { dst := some 5, op := Op.call { callee := Callee.value (Operand.func 29), args := #[Operand.tmp 4], argTypes := #[24] }, type := 32, pos := "law.go:29", after := #[{ on := 1, ground := Ground.data }], guard := none }) rfl (fun K hK => ?_) AllReadyH.nil)
  go_simp
  go_at_call 29
  with_reducible (refine (glove_any a b c d _).mono ?_)
  rintro e w1 ⟨rfl, hb1⟩
  have HM1 := Lib.hid (HM.out.step hb1)
  (try go_wp2_with fail)
  refine hK.out _ _ (⟨(HM1.out.tail).cell 0, (HM1.out.tail).cell 1, (HM1.out.tail).cell 2, (HM1.out.tail).cell 3, (HM1.out.tail).cell 4, (HM1.out.tail).cell 5, (HM1.out.tail).cell 6, (HM1.out.tail).cell 7⟩) (fun hHeld => ?_)
  clear hK K
  (try simp only [Act.put, List.setIfInBounds_toArray, List.set_cons_zero, List.set_cons_succ])
  refine wpAnyH_ready (rs := [5]) (by kernel_rfl) (by simp) ?_
  refine (AllReadyH.cons (o := { dst := some 8, op := Op.call { callee := Callee.value (Operand.func 29), args := #[Operand.tmp 7], argTypes := #[24] }, type := 32, pos := "law.go:29", after := #[{ on := 4, ground := Ground.data }, { on := 2, ground := Ground.chain }], guard := none }) rfl (fun K hK => ?_) AllReadyH.nil)
  go_simp
  go_at_call 29
  with_reducible (refine (glove_any p q r s _).mono ?_)
  rintro e w2 ⟨rfl, hb2⟩
  have HM2 := Lib.hid (HM1.out.step hb2)
  (try go_wp2_with fail)
  refine hK.out _ _ (⟨(HM2.out.tail).cell 0, (HM2.out.tail).cell 1, (HM2.out.tail).cell 2, (HM2.out.tail).cell 3, (HM2.out.tail).cell 4, (HM2.out.tail).cell 5, (HM2.out.tail).cell 6, (HM2.out.tail).cell 7⟩) (fun hHeld => ?_)
  clear hK K
  (try simp only [Act.put, List.setIfInBounds_toArray, List.set_cons_zero, List.set_cons_succ])
  refine wpAnyH_take (i := 6) (oi := { dst := some 9, op := Op.build 34 #[(0, Operand.tmp 5), (1, Operand.tmp 8)], type := 34, pos := "law.go:29", after := #[{ on := 2, ground := Ground.data }, { on := 5, ground := Ground.data }], guard := none }) (v := ?_) rfl (by kernel_rfl) (by kernel_rfl) (by kernel_rfl) (fun _ _ _ h => h) (Or.inl ⟨by rfl, ?_⟩) (by assumption) ?_
  rotate_left
  · intro w' hSw
    (try dsimp only at hSw)
    (try go_split_ands)
    go_simp
    try with_reducible rfl
  (try simp only [Act.put, List.setIfInBounds_toArray, List.set_cons_zero, List.set_cons_succ])
  have g := HM2.out
  have y0 := g.cell 0
  have f0 := g.frozen 0
  have y1 := g.cell 1
  have f1 := g.frozen 1
  have y2 := g.cell 2
  have f2 := g.frozen 2
  have y3 := g.cell 3
  have f3 := g.frozen 3
  have y4 := g.cell 4
  have f4 := g.frozen 4
  have y5 := g.cell 5
  have f5 := g.frozen 5
  have y6 := g.cell 6
  have f6 := g.frozen 6
  have y7 := g.cell 7
  have f7 := g.frozen 7
  simp at y0 y1 y2 y3 y4 y5 y6 y7
  have gl := g.head_lt
  have HE := Lib.hid (((((((((g).set0 0 (.int .i64 a)).set0 1 (.int .i64 b)).set0 2 (.int .i64 c)).set0 3 (.int .i64 d)).set0 4 (.int .i64 p)).set0 5 (.int .i64 q)).set0 6 (.int .i64 r)).set0 7 (.int .i64 s))
  clear g
  refine wpAnyH_ready (rs := [7]) (by kernel_rfl) (by simp) ?_
  refine (AllReadyH.cons (o := { dst := none, op := Op.store 34 (Operand.tmp 2) (Operand.tmp 9), type := 0, pos := "law.go:29", after := #[{ on := 6, ground := Ground.data }, { on := 5, ground := Ground.chain }, { on := 0, ground := Ground.phase }, { on := 1, ground := Ground.phase }, { on := 2, ground := Ground.phase }, { on := 3, ground := Ground.phase }, { on := 4, ground := Ground.phase }, { on := 5, ground := Ground.phase }, { on := 6, ground := Ground.phase }], guard := none }) rfl (fun K hK => ?_) AllReadyH.nil)
  go_simp
  refine hK.out _ _ (⟨(HE.out.tail).cell 0, (HE.out.tail).cell 1, (HE.out.tail).cell 2, (HE.out.tail).cell 3, (HE.out.tail).cell 4, (HE.out.tail).cell 5, (HE.out.tail).cell 6, (HE.out.tail).cell 7⟩) (fun hHeld => ?_)
  clear hK K
  (try simp only [Act.put, List.setIfInBounds_toArray, List.set_cons_zero, List.set_cons_succ])
  clear y0 f0 y1 f1 y2 f2 y3 f3 y4 f4 y5 f5 y6 f6 y7 f7 gl hHeld
  obtain ⟨wz, hwz⟩ : ∃ z, z = ((((((((w2.setCell ⟨w.heap.size + 1, 0, none⟩ (.int .i64 a)).setCell ⟨w.heap.size + 1, 1, none⟩ (.int .i64 b)).setCell ⟨w.heap.size + 1, 2, none⟩ (.int .i64 c)).setCell ⟨w.heap.size + 1, 3, none⟩ (.int .i64 d)).setCell ⟨w.heap.size + 1, 4, none⟩ (.int .i64 p)).setCell ⟨w.heap.size + 1, 5, none⟩ (.int .i64 q)).setCell ⟨w.heap.size + 1, 6, none⟩ (.int .i64 r)).setCell ⟨w.heap.size + 1, 7, none⟩ (.int .i64 s)) := ⟨_, rfl⟩
  rw [← hwz] at HE ⊢
  clear hwz
  have g := HE.out
  have y0 := g.cell 0
  have y1 := g.cell 1
  have y2 := g.cell 2
  have y3 := g.cell 3
  have y4 := g.cell 4
  have y5 := g.cell 5
  have y6 := g.cell 6
  have y7 := g.cell 7
  simp at y0 y1 y2 y3 y4 y5 y6 y7
  have HF := Lib.hid g.b
  clear g
  refine wpAnyH_done (by kernel_rfl) ?_ _
  (try simp only [Exit.inBlock, Exit.then])
  go_wp2_with fail
  refine bodyPost_ret (v := .agg #[.int .i64 a, .int .i64 b, .int .i64 c, .int .i64 d, .int .i64 p, .int .i64 q, .int .i64 r, .int .i64 s]) (by simp [results, Try.results11, go_sem, *]) rfl ⟨rfl, ?_⟩
  exact HF.out

end Go.Proofs.Ytchhadkmemckbab

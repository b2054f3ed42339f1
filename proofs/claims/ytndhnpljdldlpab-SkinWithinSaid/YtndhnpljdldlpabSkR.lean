/- Skins: the closure of Parts. -/
import Derived.Test.YtndhnpljdldlpabSkQ
import Derived.Deep.RegionHeld3
import Derived.Deep.AppendLies
namespace Go.Proofs.Ytndhnpljdldlpab
open Go.RowKit

theorem cell_seven_new (w : World) (a b c d e f g : Value) (T : TypeId) : ∀ (j : Nat) (x : Value), [a, b, c, d, e, f, g][j]? = some x → (w.alloc (.cells #[a, b, c, d, e, f, g] T)).cell? ((⟨w.heap.size, 0, none⟩ : Addr).add j) = some x := by
  have h := heap_alloc_new w (.cells #[a, b, c, d, e, f, g] T)
  generalize w.alloc (.cells #[a, b, c, d, e, f, g] T) = w' at h ⊢
  generalize w.heap.size = H at h ⊢
  have hc : ∀ i, w'.cell? ⟨H, i, none⟩ = #[a, b, c, d, e, f, g][i]? := fun i => by simp [World.cell?, h]
  exact seven_list _ _ a b c d e f g (hc 0) (hc 1) (hc 2) (hc 3) (hc 4) (hc 5) (hc 6)

theorem block_box {w : World} {H : Nat} {v : Value} {T : TypeId} (h : w.heap[H]? = some (.cells #[v] T (0, 0))) : w.cell? ⟨H, 0, none⟩ = some v ∧ w.frozen? ⟨H, 0, none⟩ = false ∧ H < w.heap.size := by
  refine ⟨?_, ?_, block_lt h⟩
  · simp [World.cell?, h]
  · simp [World.frozen?, h]

/-- The blocks that the region of a new part reads: the cell's, the closure's, the map's. -/
structure KS (X : PL) (H : Nat) (x y : Int) (w : World) : Prop where
  hc : w.heap[H]? = some (.cells #[.int .i64 x, .int .i64 y] 93 (0, 0))
  hu : w.heap[X.pu]? = some (.cells #[.func (.func 67) #[] #[.pointer (some ⟨X.ps, 0, none⟩), .pointer (some ⟨X.pg, 0, none⟩)]] 58 (0, 0))
  hm : w.heap[X.pm]? = some (.cells #[.map (some X.bm)] 90 (0, 0))

theorem KS.cells {X : PL} {H : Nat} {x y : Int} {w : World} (h : KS X H x y w) : KS X H x y w ∧ w.cell? ⟨H, 0, none⟩ = some (.int .i64 x) ∧ w.cell? ⟨H, 1, none⟩ = some (.int .i64 y) ∧ w.cell? ⟨X.pu, 0, none⟩ = some (.func (.func 67) #[] #[.pointer (some ⟨X.ps, 0, none⟩), .pointer (some ⟨X.pg, 0, none⟩)]) ∧ w.cell? ⟨X.pm, 0, none⟩ = some (.map (some X.bm)) :=
  ⟨h, (block_two h.hc).1, (block_two h.hc).2.1, (block_box h.hu).1, (block_box h.hm).1⟩
theorem KS.below {X : PL} {H : Nat} {x y : Int} {w w' : World} (h : KS X H x y w) (hb : Below w.heap.size w w') : KS X H x y w' :=
  ⟨(hb.block _ (block_lt h.hc)).trans h.hc, (hb.block _ (block_lt h.hu)).trans h.hu, (hb.block _ (block_lt h.hm)).trans h.hm⟩
theorem KS.grown {X : PL} {H : Nat} {x y : Int} {w w' : World} {row : Option Nat} (h : KS X H x y w) (hg : w.grownBy w' row) (h1 : ∀ k, row = some k → k ≠ H ∧ k ≠ X.pu ∧ k ≠ X.pm) : KS X H x y w' :=
  ⟨(hg.block _ (block_lt h.hc) (fun e => (h1 _ e.symm).1 rfl)).trans h.hc, (hg.block _ (block_lt h.hu) (fun e => (h1 _ e.symm).2.1 rfl)).trans h.hu, (hg.block _ (block_lt h.hm) (fun e => (h1 _ e.symm).2.2 rfl)).trans h.hm⟩
theorem KS.set {X : PL} {H : Nat} {x y : Int} {w : World} {k : Nat} {v : Value} (h : KS X H x y w) (h1 : H ≠ k ∧ X.pu ≠ k ∧ X.pm ≠ k) : KS X H x y (w.setCell ⟨k, 0, none⟩ v) :=
  ⟨(heap_setCell_other w ⟨k, 0, none⟩ _ v h1.1).trans h.hc, (heap_setCell_other w ⟨k, 0, none⟩ _ v h1.2.1).trans h.hu, (heap_setCell_other w ⟨k, 0, none⟩ _ v h1.2.2).trans h.hm⟩

/-- The list's box behind an append to its value. -/
theorem PM.box {w0 : World} {X : PL} {ss : List ByteArray} {st : List Pt × List (Int × Int)} {v : Value} {wr w2 : World} {o : Obj} (h : PM w0 X ss st v wr) (hg : (wr.alloc o).grownBy w2 v.ownBlock) : w2.cell? ⟨X.pl, 0, none⟩ = some v ∧ w2.frozen? ⟨X.pl, 0, none⟩ = false ∧ X.pl < w2.heap.size := by
  have hb : Below wr.heap.size wr (wr.alloc o) := (Below.refl _ _).alloc (Nat.le_refl _) _
  have h2 := h.step hb
  refine block_box (v := v) (T := 53) ((hg.block _ (block_lt h2.hl) (fun e => ?_)).trans h2.hl)
  have h3 := (h.own.lt _ e.symm).1
  have h4 := h.lt.2.2.1
  omega

set_option maxRecDepth 100000 in
set_option maxHeartbeats 6400000 in
theorem partsClo_new (w0 : World) (X : PL) (ss : List ByteArray) (hs : skB ss = true) (hg : 1 ≤ X.g) (st : List Pt × List (Int × Int)) (v : Value) (x y : Nat) (w : World) (h : PM w0 X ss st v w) (hS : SInv (wid ss) ss.length st.2) (hn : st.1.length ≤ 2304) (hu : usB ss X.g x y = true) (hns : ((x : Int), (y : Int)) ∉ st.2) :
    Calls Try.prog 64 #[.agg #[.int .i64 x, .int .i64 y], .pointer (some ⟨X.pu, 0, none⟩), .pointer (some ⟨X.pm, 0, none⟩), .pointer (some ⟨X.pl, 0, none⟩)] w fun e w' => e = .returned (.tuple #[]) ∧ ∃ v', PM w0 X ss (partStep (usB ss X.g) st (x, y)) v' w' := by
  obtain ⟨n1, n2, n3⟩ := h.ne
  obtain ⟨i0, hi, hz0, hz1, hz2⟩ := info_parts infoPart
  have HI := Lib.hid (And.intro hi (And.intro hz0 (And.intro hz1 hz2)))
  clear hi hz0 hz1 hz2
  obtain ⟨us, hus⟩ : ∃ us, us = usB ss X.g := ⟨_, rfl⟩
  obtain ⟨⟨hl1, hl2⟩, ⟨hw1, hw2⟩, -⟩ := skB_iff.1 hs
  have hin := usB_in hg hu
  obtain ⟨r1, r2, r3, r4⟩ := hin
  simp only at r1 r2 r3 r4
  have hS2 : st.2.length ≤ 2304 := Nat.le_trans hS.short (Nat.mul_le_mul hw2 hl2)
  obtain ⟨FL, hF⟩ : ∃ FL, FL = flood (usB ss X.g) 2305 0 ([((x : Int), (y : Int))], ((x : Int), (y : Int)) :: st.2) := ⟨_, rfl⟩
  obtain ⟨hfi, hfp⟩ := flood_facts (fun p q hh => usB_in hg hh) hu st.2 FL hF
  have hfl : FL.1.length ≤ 2304 := Nat.le_trans hfi.short (Nat.mul_le_mul hw2 hl2)
  obtain ⟨P, hP⟩ : ∃ P, P = partOf us FL.1 := ⟨_, rfl⟩
  have hstep : partStep us st ((x : Int), (y : Int)) = (st.1 ++ [P], FL.2) := by
    unfold partStep
    rw [if_pos (by simp [hus, hu, hns]), hP, hF, hus]
  have HU : Hid (∀ w', PM w0 X ss st v w' → Calls Try.prog 67 #[.agg #[.int .i64 x, .int .i64 y], .pointer (some ⟨X.ps, 0, none⟩), .pointer (some ⟨X.pg, 0, none⟩)] w' fun e w'' => e = .returned (.bool true) ∧ Below w'.heap.size w' w'') := Lib.hid (fun w' hp => by
    rw [← hu]; exact usable_any X.ps X.pg X.a X.cap ss hs X.g x y w' hp.lea)
  have HC : Hid (∀ w', PM w0 X ss st v w' → Calls Try.prog 66 #[.agg #[.int .i64 x, .int .i64 y], .func (.func 67) #[] #[.pointer (some ⟨X.ps, 0, none⟩), .pointer (some ⟨X.pg, 0, none⟩)], .map (some X.bm)] w' fun e w'' => ∃ gb cap, e = .returned (.slice (some ⟨gb, 0, none⟩) FL.1.length cap) ∧ CellS w'' gb FL.1 ∧ PM w0 X ss (st.1, FL.2) v w'' ∧ w'.grownBy w'' (some X.bm)) :=
    Lib.hid (fun w' hp => connPM w0 X ss hs hg st v x y hu hS2 FL hF w' hp)
  obtain ⟨p1, p2, p3, p4, p5, p6, p7⟩ := P
  have HMS : Hid (∀ w' gb cap, PM w0 X ss (st.1, FL.2) v w' → CellS w' gb FL.1 → Calls Try.prog 65 #[.slice (some ⟨gb, 0, none⟩) FL.1.length cap, .func (.func 67) #[] #[.pointer (some ⟨X.ps, 0, none⟩), .pointer (some ⟨X.pg, 0, none⟩)]] w' fun e w'' => e = .returned (.agg #[.int .i64 p1, .int .i64 p2, .int .i64 p3, .int .i64 p4, .int .i64 p5, .int .i64 p6, .int .i64 p7]) ∧ Below w'.heap.size w' w'') :=
    Lib.hid (fun w' gb cap hp hc => by
      have := measPM w0 X ss hs (st.1, FL.2) v FL.1 hfp hfi.rect hfl gb cap w' hp hc
      rw [← hus, ← hP] at this
      exact this)
  rw [← hus, hstep]
  have HP := Lib.hid h
  have HM := Lib.hid ((Mem.nil w).alloc #[.int .i64 x, .int .i64 y] 93)
  have HP1 := Lib.hid (h.step ((Below.refl _ _).alloc (Nat.le_refl _) (.cells #[.int .i64 x, .int .i64 y] 93)))
  have c0 := cell_of_one h.hu
  have c1 := block_lt h.hu
  have hvl : ∀ k, v.ownBlock = some k → X.B ≤ k ∧ k < w.heap.size := fun k hk => h.own.lt k hk
  have HVL := Lib.hid hvl
  obtain ⟨FLN, hFLN⟩ : ∃ n, n = FL.1.length := ⟨_, rfl⟩
  rw [← hFLN] at HC HMS hfp hfl
  obtain ⟨N, hN⟩ : ∃ n, n = st.1.length := ⟨_, rfl⟩
  have HN := Lib.hid hN
  rw [← hN] at hn
  obtain ⟨lt1, lt2, lt3, lt4, -, -⟩ := h.lt
  have hpmw := block_lt h.hm
  have hplw := block_lt h.hl
  clear h n1 n2 n3 hs hS hu hus hfi hF hstep hP hN hvl hS2 hFLN
  go_enter Try.func64, Try.ntmps64
  go_wp2_with fail
  refine (HU.out _ HP1.out).mono ?_
  rintro e w1 ⟨rfl, hb1⟩
  have HP2 := Lib.hid (HP1.out.step hb1)
  have HM2 := Lib.hid (HM.out.step hb1)
  obtain ⟨d0, d1, -, -, d2⟩ := HM2.out.c2
  have e0 := cell_of_one HP2.out.hm
  have e1 := cell_of_one HP2.out.hl
  have e2 := cell_of_one HP2.out.hu
  have hlk := HP2.out.seen.lookup (InI.of (x := x) (y := y) (by omega) (by omega))
  rw [decide_eq_false hns] at hlk
  clear hb1 c0 c1
  go_wp2
  have hp1 := HP2.out.step (Below.refl _ _).drew
  have hks : KS X w.heap.size x y w1.drew := ⟨(HM2.out.h _ (List.mem_cons_self ..)).2, hp1.hu, hp1.hm⟩
  have HK1 := Lib.hid hks
  have HPD := Lib.hid hp1
  have HKR := Lib.hid (fun (w' w'' : World) (row : Option Nat) (h : KS X w.heap.size x y w') (hg : w'.grownBy w'' row) (h1 : ∀ k, row = some k → k ≠ w.heap.size ∧ k ≠ X.pu ∧ k ≠ X.pm) => (h.grown hg h1).cells)
  obtain ⟨-, e1f, e1l⟩ := block_box HP2.out.hl
  have HBM : Hid (∀ w', PM w0 X ss st v w' → ∀ k, some X.bm = some k → k ≠ w.heap.size ∧ k ≠ X.pu ∧ k ≠ X.pm) := Lib.hid (fun w' hp k hk => by
    simp only [Option.some.injEq] at hk
    subst hk
    obtain ⟨D, ⟨es, clock, hh, -⟩, -⟩ := hp.seen
    obtain ⟨D2, ⟨es2, clock2, hh2, -⟩, -⟩ := HP.out.seen
    have hbl := block_lt hh2
    refine ⟨by omega, fun e => ?_, fun e => ?_⟩
    · have h1 := hp.hu
      rw [← e, hh] at h1
      simp at h1
    · have h1 := hp.hm
      rw [← e, hh] at h1
      simp at h1)
  have HFIN := Lib.hid (fun (w4 w6 : World) (o : Obj) (v' : Value) (h : PM w0 X ss (st.1, FL.2) v w4) (hown : w6.ownsRow X.B 69 7 v' (N + 1) (ptVals st.1 ++ [.int .i64 p1, .int .i64 p2, .int .i64 p3, .int .i64 p4, .int .i64 p5, .int .i64 p6, .int .i64 p7])) (hg : (w4.alloc o).grownBy w6 v.ownBlock) =>
    (show PM w0 X ss (st.1 ++ [(p1, p2, p3, p4, p5, p6, p7)], FL.2) v' (w6.setCell ⟨X.pl, 0, none⟩ v') from (h.step ((Below.refl _ _).alloc (Nat.le_refl _) o)).push (P := (p1, p2, p3, p4, p5, p6, p7)) (by rw [← HN.out]; exact hown) hg))
  have HNE : Hid (w.heap.size ≠ X.pl ∧ X.pu ≠ X.pl ∧ X.pm ≠ X.pl) := Lib.hid (by
    have h3 := HP.out.hl
    refine ⟨by omega, fun e => ?_, fun e => ?_⟩
    · have h1 := HP.out.hu
      rw [e, h3] at h1
      simp at h1
    · have h1 := HP.out.hm
      rw [e, h3] at h1
      simp at h1)
  have HLB := Lib.hid (fun (wr w2 : World) (o : Obj) (h : PM w0 X ss (st.1, FL.2) v wr) (hg : (wr.alloc o).grownBy w2 v.ownBlock) => h.box hg)
  have HOW : Hid (∀ k, v.ownBlock = some k → k ≠ w.heap.size ∧ k ≠ X.pu ∧ k ≠ X.pm) := Lib.hid (fun k hk => by
    have := HVL.out k hk
    omega)
  clear d0 d1 e0 e2 hks hp1 hlk hns
  refine wp_region_held_drew (S := fun w' => KS X w.heap.size x y w' ∧ w'.cell? ⟨w.heap.size, 0, none⟩ = some (.int .i64 x) ∧ w'.cell? ⟨w.heap.size, 1, none⟩ = some (.int .i64 y) ∧ w'.cell? ⟨X.pu, 0, none⟩ = some (.func (.func 67) #[] #[.pointer (some ⟨X.ps, 0, none⟩), .pointer (some ⟨X.pg, 0, none⟩)]) ∧ w'.cell? ⟨X.pm, 0, none⟩ = some (.map (some X.bm))) (by kernel_rfl) HK1.out.cells (fun hHeld => ?_)
  refine wpAnyH_take (i := 1) (oi := { dst := some 15, op := Op.load 93 (Operand.tmp 4), type := 93, pos := "parts.go:21", after := #[], guard := none }) (v := ?_) rfl (by kernel_rfl) (by kernel_rfl) (by kernel_rfl) (fun _ _ _ h => h) (Or.inl ⟨by rfl, ?_⟩) (by assumption) ?_
  rotate_left
  · intro w' hSw
    (try dsimp only at hSw)
    go_simp
    try with_reducible rfl
  (try simp only [Act.put, List.setIfInBounds_toArray, List.set_cons_zero, List.set_cons_succ])
  refine wpAnyH_take (i := 2) (oi := { dst := some 16, op := Op.load 58 (Operand.tmp 1), type := 58, pos := "parts.go:21", after := #[], guard := none }) (v := ?_) rfl (by kernel_rfl) (by kernel_rfl) (by kernel_rfl) (fun _ _ _ h => h) (Or.inl ⟨by rfl, ?_⟩) (by assumption) ?_
  rotate_left
  · intro w' hSw
    (try dsimp only at hSw)
    go_simp
    try with_reducible rfl
  (try simp only [Act.put, List.setIfInBounds_toArray, List.set_cons_zero, List.set_cons_succ])
  refine wpAnyH_take (i := 3) (oi := { dst := some 17, op := Op.load 90 (Operand.tmp 2), type := 90, pos := "parts.go:21", after := #[], guard := none }) (v := ?_) rfl (by kernel_rfl) (by kernel_rfl) (by kernel_rfl) (fun _ _ _ h => h) (Or.inl ⟨by rfl, ?_⟩) (by assumption) ?_
  rotate_left
  · intro w' hSw
    (try dsimp only at hSw)
    go_simp
    try with_reducible rfl
  (try simp only [Act.put, List.setIfInBounds_toArray, List.set_cons_zero, List.set_cons_succ])
  refine wpAnyH_take (i := 5) (oi := { dst := some 19, op := Op.load 58 (Operand.tmp 1), type := 58, pos := "parts.go:21", after := #[], guard := none }) (v := ?_) rfl (by kernel_rfl) (by kernel_rfl) (by kernel_rfl) (fun _ _ _ h => h) (Or.inl ⟨by rfl, ?_⟩) (by assumption) ?_
  rotate_left
  · intro w' hSw
    (try dsimp only at hSw)
    go_simp
    try with_reducible rfl
  (try simp only [Act.put, List.setIfInBounds_toArray, List.set_cons_zero, List.set_cons_succ])
  refine wpAnyH_ready (rs := [0, 4]) (by kernel_rfl) (by simp) ?_
  refine (AllReadyH.cons (o := { dst := some 14, op := Op.load 53 (Operand.tmp 3), type := 53, pos := "parts.go:21", after := #[], guard := none }) rfl (fun K hK => ?_) (AllReadyH.cons (o := { dst := some 18, op := Op.call { callee := Callee.value (Operand.func 66), args := #[Operand.tmp 15, Operand.tmp 16, Operand.tmp 17], argTypes := #[93, 58, 90] }, type := 97, pos := "parts.go:21", after := #[{ on := 1, ground := Ground.data }, { on := 2, ground := Ground.data }, { on := 3, ground := Ground.data }], guard := none }) rfl (fun K hK => ?_) AllReadyH.nil))
  · go_simp
    refine hK.out _ _ (hHeld) (fun hHeld => ?_)
    clear hK K
    (try simp only [Act.put, List.setIfInBounds_toArray, List.set_cons_zero, List.set_cons_succ])
    refine wpAnyH_ready (rs := [4]) (by kernel_rfl) (by simp) ?_
    refine (AllReadyH.cons (o := { dst := some 18, op := Op.call { callee := Callee.value (Operand.func 66), args := #[Operand.tmp 15, Operand.tmp 16, Operand.tmp 17], argTypes := #[93, 58, 90] }, type := 97, pos := "parts.go:21", after := #[{ on := 1, ground := Ground.data }, { on := 2, ground := Ground.data }, { on := 3, ground := Ground.data }], guard := none }) rfl (fun K hK => ?_) AllReadyH.nil)
    go_simp
    go_at_call 66
    with_reducible (refine (HC.out _ HPD.out).mono ?_)
    rintro e w3 ⟨gb, cap, rfl, hc3, hp3, hg3⟩
    have hk3 := KS.grown HK1.out hg3 (HBM.out _ HPD.out)
    obtain ⟨l3, f3, z3⟩ := block_box hp3.hl
    (try go_wp2_with fail)
    refine hK.out _ _ (KS.cells hk3) (fun hHeld => ?_)
    clear hK K
    (try simp only [Act.put, List.setIfInBounds_toArray, List.set_cons_zero, List.set_cons_succ])
    refine wpAnyH_ready (rs := [6]) (by kernel_rfl) (by simp) ?_
    refine (AllReadyH.cons (o := { dst := some 20, op := Op.call { callee := Callee.value (Operand.func 65), args := #[Operand.tmp 18, Operand.tmp 19], argTypes := #[97, 58] }, type := 69, pos := "parts.go:21", after := #[{ on := 4, ground := Ground.data }, { on := 5, ground := Ground.data }, { on := 4, ground := Ground.chain }], guard := none }) rfl (fun K hK => ?_) AllReadyH.nil)
    go_simp
    go_at_call 65
    with_reducible (refine (HMS.out _ _ _ hp3 hc3).mono ?_)
    rintro e w4 ⟨rfl, hb4⟩
    have hk4 := KS.below hk3 hb4
    have hp4 := hp3.step hb4
    have hown4 := hp4.own
    rw [← HN.out] at hown4
    have hB4 : X.B ≤ (w4.alloc (.cells #[.int .i64 p1, .int .i64 p2, .int .i64 p3, .int .i64 p4, .int .i64 p5, .int .i64 p6, .int .i64 p7] 69)).heap.size := by have := hp4.hB; simp only [World.size_alloc]; omega
    obtain ⟨l4, f4, z4⟩ := block_box hp4.hl
    (try go_wp2_with fail)
    refine hK.out _ _ (KS.cells hk4) (fun hHeld => ?_)
    clear hK K
    (try simp only [Act.put, List.setIfInBounds_toArray, List.set_cons_zero, List.set_cons_succ])
    refine wpAnyH_ready (rs := [7]) (by kernel_rfl) (by simp) ?_
    refine (AllReadyH.cons (o := { dst := some 21, op := Op.buildSlice 53 1 #[(0, Operand.tmp 20)], type := 53, pos := "parts.go:21", after := #[{ on := 6, ground := Ground.data }], guard := none }) rfl (fun K hK => ?_) AllReadyH.nil)
    go_simp
    refine hK.out _ _ (KS.cells (KS.below hk4 ((Below.refl _ _).alloc (Nat.le_refl _) _))) (fun hHeld => ?_)
    clear hK K
    (try simp only [Act.put, List.setIfInBounds_toArray, List.set_cons_zero, List.set_cons_succ])
    refine wpAnyH_ready (rs := [8]) (by kernel_rfl) (by simp) ?_
    refine (AllReadyH.cons (o := { dst := some 22, op := Op.call { callee := Callee.builtin Builtin.append, args := #[Operand.tmp 14, Operand.tmp 21], argTypes := #[53, 53] }, type := 53, pos := "parts.go:21", after := #[{ on := 0, ground := Ground.data }, { on := 7, ground := Ground.data }, { on := 6, ground := Ground.chain }], guard := none }) rfl (fun K hK => ?_) AllReadyH.nil)
    refine step_append_lies _ rfl _ _ _ rfl X.B 69 i0 (.agg #[.int .i64 0, .int .i64 0, .int .i64 0, .int .i64 0, .int .i64 0, .int .i64 0, .int .i64 0]) 7 56 uParts HI.out.1 HI.out.2.1 HI.out.2.2.1 HI.out.2.2.2 rfl (by decide) v N (ptVals st.1) rfl (hown4.alloc _) ⟨w4.heap.size, 0, none⟩ 1 1 [.int .i64 p1, .int .i64 p2, .int .i64 p3, .int .i64 p4, .int .i64 p5, .int .i64 p6, .int .i64 p7] rfl rfl (cell_seven_new _ _ _ _ _ _ _ _ _) (by intro u hu; simp at hu; rcases hu with rfl | rfl | rfl | rfl | rfl | rfl | rfl <;> rfl) (by decide) (by unfold maxLen; omega) (by omega) hB4 _ rfl ?_
    intro g6 cap6 w6 hown6 hgrow6 hat6 hlt6
    have hk6 := KS.grown (KS.below hk4 ((Below.refl _ _).alloc (Nat.le_refl _) _)) hgrow6 HOW.out
    obtain ⟨l6, f6, z6⟩ := HLB.out _ _ _ hp4 hgrow6
    refine hK.out _ _ (KS.cells hk6) (fun hHeld => ?_)
    clear hK K
    (try simp only [Act.put, List.setIfInBounds_toArray, List.set_cons_zero, List.set_cons_succ])
    refine wpAnyH_ready (rs := [9]) (by kernel_rfl) (by simp) ?_
    refine (AllReadyH.cons (o := { dst := none, op := Op.store 53 (Operand.tmp 3) (Operand.tmp 22), type := 0, pos := "parts.go:21", after := #[{ on := 8, ground := Ground.data }, { on := 8, ground := Ground.chain }, { on := 0, ground := Ground.phase }, { on := 1, ground := Ground.phase }, { on := 2, ground := Ground.phase }, { on := 3, ground := Ground.phase }, { on := 4, ground := Ground.phase }, { on := 5, ground := Ground.phase }, { on := 6, ground := Ground.phase }, { on := 7, ground := Ground.phase }, { on := 8, ground := Ground.phase }], guard := none }) rfl (fun K hK => ?_) AllReadyH.nil)
    go_simp
    refine hK.out _ _ (KS.cells (KS.set hk6 HNE.out)) (fun hHeld => ?_)
    clear hK K
    (try simp only [Act.put, List.setIfInBounds_toArray, List.set_cons_zero, List.set_cons_succ])
    refine wpAnyH_done (by kernel_rfl) ?_ _
    have HE := Lib.hid (HFIN.out _ _ _ _ hp4 hown6 hgrow6)
    clear hown6 hgrow6 hp4 hp3 hown4 hk3 hk4 hk6 hc3 hg3 hb4 hB4
    go_wp2
    go_end0
    exact ⟨rfl, _, HE.out⟩
  · go_simp
    go_at_call 66
    with_reducible (refine (HC.out _ HPD.out).mono ?_)
    rintro e w3 ⟨gb, cap, rfl, hc3, hp3, hg3⟩
    have hk3 := KS.grown HK1.out hg3 (HBM.out _ HPD.out)
    obtain ⟨l3, f3, z3⟩ := block_box hp3.hl
    (try go_wp2_with fail)
    refine hK.out _ _ (KS.cells hk3) (fun hHeld => ?_)
    clear hK K
    (try simp only [Act.put, List.setIfInBounds_toArray, List.set_cons_zero, List.set_cons_succ])
    refine wpAnyH_ready (rs := [0, 6]) (by kernel_rfl) (by simp) ?_
    refine (AllReadyH.cons (o := { dst := some 14, op := Op.load 53 (Operand.tmp 3), type := 53, pos := "parts.go:21", after := #[], guard := none }) rfl (fun K hK => ?_) (AllReadyH.cons (o := { dst := some 20, op := Op.call { callee := Callee.value (Operand.func 65), args := #[Operand.tmp 18, Operand.tmp 19], argTypes := #[97, 58] }, type := 69, pos := "parts.go:21", after := #[{ on := 4, ground := Ground.data }, { on := 5, ground := Ground.data }, { on := 4, ground := Ground.chain }], guard := none }) rfl (fun K hK => ?_) AllReadyH.nil))
    · go_simp
      refine hK.out _ _ (hHeld) (fun hHeld => ?_)
      clear hK K
      (try simp only [Act.put, List.setIfInBounds_toArray, List.set_cons_zero, List.set_cons_succ])
      refine wpAnyH_ready (rs := [6]) (by kernel_rfl) (by simp) ?_
      refine (AllReadyH.cons (o := { dst := some 20, op := Op.call { callee := Callee.value (Operand.func 65), args := #[Operand.tmp 18, Operand.tmp 19], argTypes := #[97, 58] }, type := 69, pos := "parts.go:21", after := #[{ on := 4, ground := Ground.data }, { on := 5, ground := Ground.data }, { on := 4, ground := Ground.chain }], guard := none }) rfl (fun K hK => ?_) AllReadyH.nil)
      go_simp
      go_at_call 65
      with_reducible (refine (HMS.out _ _ _ hp3 hc3).mono ?_)
      rintro e w4 ⟨rfl, hb4⟩
      have hk4 := KS.below hk3 hb4
      have hp4 := hp3.step hb4
      have hown4 := hp4.own
      rw [← HN.out] at hown4
      have hB4 : X.B ≤ (w4.alloc (.cells #[.int .i64 p1, .int .i64 p2, .int .i64 p3, .int .i64 p4, .int .i64 p5, .int .i64 p6, .int .i64 p7] 69)).heap.size := by have := hp4.hB; simp only [World.size_alloc]; omega
      obtain ⟨l4, f4, z4⟩ := block_box hp4.hl
      (try go_wp2_with fail)
      refine hK.out _ _ (KS.cells hk4) (fun hHeld => ?_)
      clear hK K
      (try simp only [Act.put, List.setIfInBounds_toArray, List.set_cons_zero, List.set_cons_succ])
      refine wpAnyH_ready (rs := [7]) (by kernel_rfl) (by simp) ?_
      refine (AllReadyH.cons (o := { dst := some 21, op := Op.buildSlice 53 1 #[(0, Operand.tmp 20)], type := 53, pos := "parts.go:21", after := #[{ on := 6, ground := Ground.data }], guard := none }) rfl (fun K hK => ?_) AllReadyH.nil)
      go_simp
      refine hK.out _ _ (KS.cells (KS.below hk4 ((Below.refl _ _).alloc (Nat.le_refl _) _))) (fun hHeld => ?_)
      clear hK K
      (try simp only [Act.put, List.setIfInBounds_toArray, List.set_cons_zero, List.set_cons_succ])
      refine wpAnyH_ready (rs := [8]) (by kernel_rfl) (by simp) ?_
      refine (AllReadyH.cons (o := { dst := some 22, op := Op.call { callee := Callee.builtin Builtin.append, args := #[Operand.tmp 14, Operand.tmp 21], argTypes := #[53, 53] }, type := 53, pos := "parts.go:21", after := #[{ on := 0, ground := Ground.data }, { on := 7, ground := Ground.data }, { on := 6, ground := Ground.chain }], guard := none }) rfl (fun K hK => ?_) AllReadyH.nil)
      refine step_append_lies _ rfl _ _ _ rfl X.B 69 i0 (.agg #[.int .i64 0, .int .i64 0, .int .i64 0, .int .i64 0, .int .i64 0, .int .i64 0, .int .i64 0]) 7 56 uParts HI.out.1 HI.out.2.1 HI.out.2.2.1 HI.out.2.2.2 rfl (by decide) v N (ptVals st.1) rfl (hown4.alloc _) ⟨w4.heap.size, 0, none⟩ 1 1 [.int .i64 p1, .int .i64 p2, .int .i64 p3, .int .i64 p4, .int .i64 p5, .int .i64 p6, .int .i64 p7] rfl rfl (cell_seven_new _ _ _ _ _ _ _ _ _) (by intro u hu; simp at hu; rcases hu with rfl | rfl | rfl | rfl | rfl | rfl | rfl <;> rfl) (by decide) (by unfold maxLen; omega) (by omega) hB4 _ rfl ?_
      intro g6 cap6 w6 hown6 hgrow6 hat6 hlt6
      have hk6 := KS.grown (KS.below hk4 ((Below.refl _ _).alloc (Nat.le_refl _) _)) hgrow6 HOW.out
      obtain ⟨l6, f6, z6⟩ := HLB.out _ _ _ hp4 hgrow6
      refine hK.out _ _ (KS.cells hk6) (fun hHeld => ?_)
      clear hK K
      (try simp only [Act.put, List.setIfInBounds_toArray, List.set_cons_zero, List.set_cons_succ])
      refine wpAnyH_ready (rs := [9]) (by kernel_rfl) (by simp) ?_
      refine (AllReadyH.cons (o := { dst := none, op := Op.store 53 (Operand.tmp 3) (Operand.tmp 22), type := 0, pos := "parts.go:21", after := #[{ on := 8, ground := Ground.data }, { on := 8, ground := Ground.chain }, { on := 0, ground := Ground.phase }, { on := 1, ground := Ground.phase }, { on := 2, ground := Ground.phase }, { on := 3, ground := Ground.phase }, { on := 4, ground := Ground.phase }, { on := 5, ground := Ground.phase }, { on := 6, ground := Ground.phase }, { on := 7, ground := Ground.phase }, { on := 8, ground := Ground.phase }], guard := none }) rfl (fun K hK => ?_) AllReadyH.nil)
      go_simp
      refine hK.out _ _ (KS.cells (KS.set hk6 HNE.out)) (fun hHeld => ?_)
      clear hK K
      (try simp only [Act.put, List.setIfInBounds_toArray, List.set_cons_zero, List.set_cons_succ])
      refine wpAnyH_done (by kernel_rfl) ?_ _
      have HE := Lib.hid (HFIN.out _ _ _ _ hp4 hown6 hgrow6)
      clear hown6 hgrow6 hp4 hp3 hown4 hk3 hk4 hk6 hc3 hg3 hb4 hB4
      go_wp2
      go_end0
      exact ⟨rfl, _, HE.out⟩
    · go_simp
      go_at_call 65
      with_reducible (refine (HMS.out _ _ _ hp3 hc3).mono ?_)
      rintro e w4 ⟨rfl, hb4⟩
      have hk4 := KS.below hk3 hb4
      have hp4 := hp3.step hb4
      have hown4 := hp4.own
      rw [← HN.out] at hown4
      have hB4 : X.B ≤ (w4.alloc (.cells #[.int .i64 p1, .int .i64 p2, .int .i64 p3, .int .i64 p4, .int .i64 p5, .int .i64 p6, .int .i64 p7] 69)).heap.size := by have := hp4.hB; simp only [World.size_alloc]; omega
      obtain ⟨l4, f4, z4⟩ := block_box hp4.hl
      (try go_wp2_with fail)
      refine hK.out _ _ (KS.cells hk4) (fun hHeld => ?_)
      clear hK K
      (try simp only [Act.put, List.setIfInBounds_toArray, List.set_cons_zero, List.set_cons_succ])
      refine wpAnyH_ready (rs := [0, 7]) (by kernel_rfl) (by simp) ?_
      refine (AllReadyH.cons (o := { dst := some 14, op := Op.load 53 (Operand.tmp 3), type := 53, pos := "parts.go:21", after := #[], guard := none }) rfl (fun K hK => ?_) (AllReadyH.cons (o := { dst := some 21, op := Op.buildSlice 53 1 #[(0, Operand.tmp 20)], type := 53, pos := "parts.go:21", after := #[{ on := 6, ground := Ground.data }], guard := none }) rfl (fun K hK => ?_) AllReadyH.nil))
      · go_simp
        refine hK.out _ _ (hHeld) (fun hHeld => ?_)
        clear hK K
        (try simp only [Act.put, List.setIfInBounds_toArray, List.set_cons_zero, List.set_cons_succ])
        refine wpAnyH_ready (rs := [7]) (by kernel_rfl) (by simp) ?_
        refine (AllReadyH.cons (o := { dst := some 21, op := Op.buildSlice 53 1 #[(0, Operand.tmp 20)], type := 53, pos := "parts.go:21", after := #[{ on := 6, ground := Ground.data }], guard := none }) rfl (fun K hK => ?_) AllReadyH.nil)
        go_simp
        refine hK.out _ _ (KS.cells (KS.below hk4 ((Below.refl _ _).alloc (Nat.le_refl _) _))) (fun hHeld => ?_)
        clear hK K
        (try simp only [Act.put, List.setIfInBounds_toArray, List.set_cons_zero, List.set_cons_succ])
        refine wpAnyH_ready (rs := [8]) (by kernel_rfl) (by simp) ?_
        refine (AllReadyH.cons (o := { dst := some 22, op := Op.call { callee := Callee.builtin Builtin.append, args := #[Operand.tmp 14, Operand.tmp 21], argTypes := #[53, 53] }, type := 53, pos := "parts.go:21", after := #[{ on := 0, ground := Ground.data }, { on := 7, ground := Ground.data }, { on := 6, ground := Ground.chain }], guard := none }) rfl (fun K hK => ?_) AllReadyH.nil)
        refine step_append_lies _ rfl _ _ _ rfl X.B 69 i0 (.agg #[.int .i64 0, .int .i64 0, .int .i64 0, .int .i64 0, .int .i64 0, .int .i64 0, .int .i64 0]) 7 56 uParts HI.out.1 HI.out.2.1 HI.out.2.2.1 HI.out.2.2.2 rfl (by decide) v N (ptVals st.1) rfl (hown4.alloc _) ⟨w4.heap.size, 0, none⟩ 1 1 [.int .i64 p1, .int .i64 p2, .int .i64 p3, .int .i64 p4, .int .i64 p5, .int .i64 p6, .int .i64 p7] rfl rfl (cell_seven_new _ _ _ _ _ _ _ _ _) (by intro u hu; simp at hu; rcases hu with rfl | rfl | rfl | rfl | rfl | rfl | rfl <;> rfl) (by decide) (by unfold maxLen; omega) (by omega) hB4 _ rfl ?_
        intro g6 cap6 w6 hown6 hgrow6 hat6 hlt6
        have hk6 := KS.grown (KS.below hk4 ((Below.refl _ _).alloc (Nat.le_refl _) _)) hgrow6 HOW.out
        obtain ⟨l6, f6, z6⟩ := HLB.out _ _ _ hp4 hgrow6
        refine hK.out _ _ (KS.cells hk6) (fun hHeld => ?_)
        clear hK K
        (try simp only [Act.put, List.setIfInBounds_toArray, List.set_cons_zero, List.set_cons_succ])
        refine wpAnyH_ready (rs := [9]) (by kernel_rfl) (by simp) ?_
        refine (AllReadyH.cons (o := { dst := none, op := Op.store 53 (Operand.tmp 3) (Operand.tmp 22), type := 0, pos := "parts.go:21", after := #[{ on := 8, ground := Ground.data }, { on := 8, ground := Ground.chain }, { on := 0, ground := Ground.phase }, { on := 1, ground := Ground.phase }, { on := 2, ground := Ground.phase }, { on := 3, ground := Ground.phase }, { on := 4, ground := Ground.phase }, { on := 5, ground := Ground.phase }, { on := 6, ground := Ground.phase }, { on := 7, ground := Ground.phase }, { on := 8, ground := Ground.phase }], guard := none }) rfl (fun K hK => ?_) AllReadyH.nil)
        go_simp
        refine hK.out _ _ (KS.cells (KS.set hk6 HNE.out)) (fun hHeld => ?_)
        clear hK K
        (try simp only [Act.put, List.setIfInBounds_toArray, List.set_cons_zero, List.set_cons_succ])
        refine wpAnyH_done (by kernel_rfl) ?_ _
        have HE := Lib.hid (HFIN.out _ _ _ _ hp4 hown6 hgrow6)
        clear hown6 hgrow6 hp4 hp3 hown4 hk3 hk4 hk6 hc3 hg3 hb4 hB4
        go_wp2
        go_end0
        exact ⟨rfl, _, HE.out⟩
      · go_simp
        refine hK.out _ _ (KS.cells (KS.below hk4 ((Below.refl _ _).alloc (Nat.le_refl _) _))) (fun hHeld => ?_)
        clear hK K
        (try simp only [Act.put, List.setIfInBounds_toArray, List.set_cons_zero, List.set_cons_succ])
        refine wpAnyH_ready (rs := [0]) (by kernel_rfl) (by simp) ?_
        refine (AllReadyH.cons (o := { dst := some 14, op := Op.load 53 (Operand.tmp 3), type := 53, pos := "parts.go:21", after := #[], guard := none }) rfl (fun K hK => ?_) AllReadyH.nil)
        go_simp
        refine hK.out _ _ (hHeld) (fun hHeld => ?_)
        clear hK K
        (try simp only [Act.put, List.setIfInBounds_toArray, List.set_cons_zero, List.set_cons_succ])
        refine wpAnyH_ready (rs := [8]) (by kernel_rfl) (by simp) ?_
        refine (AllReadyH.cons (o := { dst := some 22, op := Op.call { callee := Callee.builtin Builtin.append, args := #[Operand.tmp 14, Operand.tmp 21], argTypes := #[53, 53] }, type := 53, pos := "parts.go:21", after := #[{ on := 0, ground := Ground.data }, { on := 7, ground := Ground.data }, { on := 6, ground := Ground.chain }], guard := none }) rfl (fun K hK => ?_) AllReadyH.nil)
        refine step_append_lies _ rfl _ _ _ rfl X.B 69 i0 (.agg #[.int .i64 0, .int .i64 0, .int .i64 0, .int .i64 0, .int .i64 0, .int .i64 0, .int .i64 0]) 7 56 uParts HI.out.1 HI.out.2.1 HI.out.2.2.1 HI.out.2.2.2 rfl (by decide) v N (ptVals st.1) rfl (hown4.alloc _) ⟨w4.heap.size, 0, none⟩ 1 1 [.int .i64 p1, .int .i64 p2, .int .i64 p3, .int .i64 p4, .int .i64 p5, .int .i64 p6, .int .i64 p7] rfl rfl (cell_seven_new _ _ _ _ _ _ _ _ _) (by intro u hu; simp at hu; rcases hu with rfl | rfl | rfl | rfl | rfl | rfl | rfl <;> rfl) (by decide) (by unfold maxLen; omega) (by omega) hB4 _ rfl ?_
        intro g6 cap6 w6 hown6 hgrow6 hat6 hlt6
        have hk6 := KS.grown (KS.below hk4 ((Below.refl _ _).alloc (Nat.le_refl _) _)) hgrow6 HOW.out
        obtain ⟨l6, f6, z6⟩ := HLB.out _ _ _ hp4 hgrow6
        refine hK.out _ _ (KS.cells hk6) (fun hHeld => ?_)
        clear hK K
        (try simp only [Act.put, List.setIfInBounds_toArray, List.set_cons_zero, List.set_cons_succ])
        refine wpAnyH_ready (rs := [9]) (by kernel_rfl) (by simp) ?_
        refine (AllReadyH.cons (o := { dst := none, op := Op.store 53 (Operand.tmp 3) (Operand.tmp 22), type := 0, pos := "parts.go:21", after := #[{ on := 8, ground := Ground.data }, { on := 8, ground := Ground.chain }, { on := 0, ground := Ground.phase }, { on := 1, ground := Ground.phase }, { on := 2, ground := Ground.phase }, { on := 3, ground := Ground.phase }, { on := 4, ground := Ground.phase }, { on := 5, ground := Ground.phase }, { on := 6, ground := Ground.phase }, { on := 7, ground := Ground.phase }, { on := 8, ground := Ground.phase }], guard := none }) rfl (fun K hK => ?_) AllReadyH.nil)
        go_simp
        refine hK.out _ _ (KS.cells (KS.set hk6 HNE.out)) (fun hHeld => ?_)
        clear hK K
        (try simp only [Act.put, List.setIfInBounds_toArray, List.set_cons_zero, List.set_cons_succ])
        refine wpAnyH_done (by kernel_rfl) ?_ _
        have HE := Lib.hid (HFIN.out _ _ _ _ hp4 hown6 hgrow6)
        clear hown6 hgrow6 hp4 hp3 hown4 hk3 hk4 hk6 hc3 hg3 hb4 hB4
        go_wp2
        go_end0
        exact ⟨rfl, _, HE.out⟩

set_option maxRecDepth 100000 in
theorem partsClo_any (w0 : World) (X : PL) (ss : List ByteArray) (hs : skB ss = true) (hg : 1 ≤ X.g) (st : List Pt × List (Int × Int)) (v : Value) (x y : Nat) (w : World) (h : PM w0 X ss st v w) (hS : SInv (wid ss) ss.length st.2) (hn : st.1.length ≤ 2304) :
    Calls Try.prog 64 #[.agg #[.int .i64 x, .int .i64 y], .pointer (some ⟨X.pu, 0, none⟩), .pointer (some ⟨X.pm, 0, none⟩), .pointer (some ⟨X.pl, 0, none⟩)] w fun e w' => e = .returned (.tuple #[]) ∧ ∃ v', PM w0 X ss (partStep (usB ss X.g) st (x, y)) v' w' := by
  cases hu : usB ss X.g x y with
  | false => exact partsClo_old w0 X ss hs hg st v x y w h (.inl hu)
  | true =>
    by_cases hns : ((x : Int), (y : Int)) ∈ st.2
    · exact partsClo_old w0 X ss hs hg st v x y w h (.inr hns)
    · exact partsClo_new w0 X ss hs hg st v x y w h hS hn hu hns

end Go.Proofs.Ytndhnpljdldlpab

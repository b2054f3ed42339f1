/- Pairs: the cost of a pair, the program's and the reference's. -/
import Derived.Test.YtchhadkmemckbabPaC
namespace Go.Proofs.Ytchhadkmemckbab
open Go.RowKit
set_option linter.unusedSimpArgs false
set_option linter.unusedVariables false

set_option maxRecDepth 100000 in
set_option maxHeartbeats 6400000 in
theorem cost_any (a0 a1 a2 a3 p0 p1 p2 p3 x0 x1 x2 x3 y0 y1 y2 y3 : Int) (ha : okB (a0, a1, a2, a3) = true) (hp : okB (p0, p1, p2, p3) = true) (hu : ruB ((x0, x1, x2, x3), (y0, y1, y2, y3)) = true) (w : World) : Calls Try.prog 54 #[.agg #[.int .i64 a0, .int .i64 a1, .int .i64 a2, .int .i64 a3], .agg #[.int .i64 p0, .int .i64 p1, .int .i64 p2, .int .i64 p3], .agg #[.int .i64 x0, .int .i64 x1, .int .i64 x2, .int .i64 x3, .int .i64 y0, .int .i64 y1, .int .i64 y2, .int .i64 y3]] w fun e w' => e = .returned (.int .i64 (costB (a0, a1, a2, a3) (p0, p1, p2, p3) ((x0, x1, x2, x3), (y0, y1, y2, y3)))) ∧ Below w.heap.size w w' := by
  obtain ⟨hx, hy⟩ : okB (x0, x1, x2, x3) = true ∧ okB (y0, y1, y2, y3) = true := by unfold ruB at hu; exact Bool.and_eq_true _ _ ▸ hu
  have HL := Lib.hid (fun k (hk : k < 4) => And.intro (okB_iff.1 ha k hk) (And.intro (okB_iff.1 hp k hk) (And.intro (okB_iff.1 hx k hk) (okB_iff.1 hy k hk))))
  have HCT := Lib.hid (fun k (hk : k ≤ 4) => costTo_le ha hp hx k hk)
  have HBAD := Lib.hid (fun k (hk : k < 4) (h : gn (y0, y1, y2, y3) k < apt (gn (a0, a1, a2, a3) k) (gn (p0, p1, p2, p3) k)) => (show costB (a0, a1, a2, a3) (p0, p1, p2, p3) ((x0, x1, x2, x3), (y0, y1, y2, y3)) = -1 by unfold costB; rw [inTo_bad h 4 hk]; rfl))
  have HEND := Lib.hid (fun (h : inTo (a0, a1, a2, a3) (p0, p1, p2, p3) (y0, y1, y2, y3) 4 = true) => (show costB (a0, a1, a2, a3) (p0, p1, p2, p3) ((x0, x1, x2, x3), (y0, y1, y2, y3)) = costTo (a0, a1, a2, a3) (p0, p1, p2, p3) (x0, x1, x2, x3) 4 by unfold costB; rw [h]; rfl))
  obtain ⟨RES, hRES⟩ : ∃ z, z = costB (a0, a1, a2, a3) (p0, p1, p2, p3) ((x0, x1, x2, x3), (y0, y1, y2, y3)) := ⟨_, rfl⟩
  rw [← hRES] at HBAD HEND ⊢
  clear hRES ha hp hu hx hy
  have hm := ((((Mem.nil w).alloc_at (H := w.heap.size) rfl #[.int .i64 a0, .int .i64 a1, .int .i64 a2, .int .i64 a3] 32).alloc_at (H := w.heap.size + 1) (by simp) #[.int .i64 p0, .int .i64 p1, .int .i64 p2, .int .i64 p3] 32).alloc_at (H := w.heap.size + 1 + 1) (by simp) #[.int .i64 x0, .int .i64 x1, .int .i64 x2, .int .i64 x3, .int .i64 y0, .int .i64 y1, .int .i64 y2, .int .i64 y3] 34).drew
  have HM := Lib.hid hm
  have HS0 : Hid (∀ w', Below w.heap.size w w' → True) := Lib.hid (fun _ _ => trivial)
  clear hm
  go_enter Try.func54, Try.ntmps54
  go_upto_region 1 with fail
  go_cut [7, 8, 9, 10] (fun s7 s8 s9 s10 wx => ∃ q0 q1 q2 q3 : Nat, s7 = .pointer (some ⟨q0, 0, none⟩) ∧ s8 = .pointer (some ⟨q1, 0, none⟩) ∧ s9 = .pointer (some ⟨q2, 0, none⟩) ∧ s10 = .pointer (some ⟨q3, 0, none⟩) ∧ Hid (B4 w 99 q0 q1 q2 q3 #[.int .i64 a0, .int .i64 a1, .int .i64 a2, .int .i64 a3] #[.int .i64 p0, .int .i64 p1, .int .i64 p2, .int .i64 p3] #[.int .i64 x0, .int .i64 x1, .int .i64 x2, .int .i64 x3] #[.int .i64 y0, .int .i64 y1, .int .i64 y2, .int .i64 y3] wx))
  case first =>
    obtain ⟨wd, hwd⟩ : ∃ z, z = (((w.alloc (.cells #[.int .i64 a0, .int .i64 a1, .int .i64 a2, .int .i64 a3] 32)).alloc (.cells #[.int .i64 p0, .int .i64 p1, .int .i64 p2, .int .i64 p3] 32)).alloc (.cells #[.int .i64 x0, .int .i64 x1, .int .i64 x2, .int .i64 x3, .int .i64 y0, .int .i64 y1, .int .i64 y2, .int .i64 y3] 34)).drew := ⟨_, rfl⟩
    rw [← hwd] at HM
    have HS : Hid (∀ w', Below wd.heap.size wd w' → w'.cell? ⟨w.heap.size, 0, none⟩ = some (.int .i64 a0) ∧ w'.cell? ⟨w.heap.size, 1, none⟩ = some (.int .i64 a1) ∧ w'.cell? ⟨w.heap.size, 2, none⟩ = some (.int .i64 a2) ∧ w'.cell? ⟨w.heap.size, 3, none⟩ = some (.int .i64 a3) ∧ w'.cell? ⟨w.heap.size + 1, 0, none⟩ = some (.int .i64 p0) ∧ w'.cell? ⟨w.heap.size + 1, 1, none⟩ = some (.int .i64 p1) ∧ w'.cell? ⟨w.heap.size + 1, 2, none⟩ = some (.int .i64 p2) ∧ w'.cell? ⟨w.heap.size + 1, 3, none⟩ = some (.int .i64 p3) ∧ w'.cell? ⟨w.heap.size + 1 + 1, 0, none⟩ = some (.int .i64 x0) ∧ w'.cell? ⟨w.heap.size + 1 + 1, 1, none⟩ = some (.int .i64 x1) ∧ w'.cell? ⟨w.heap.size + 1 + 1, 2, none⟩ = some (.int .i64 x2) ∧ w'.cell? ⟨w.heap.size + 1 + 1, 3, none⟩ = some (.int .i64 x3) ∧ w'.cell? ⟨w.heap.size + 1 + 1, 4, none⟩ = some (.int .i64 y0) ∧ w'.cell? ⟨w.heap.size + 1 + 1, 5, none⟩ = some (.int .i64 y1) ∧ w'.cell? ⟨w.heap.size + 1 + 1, 6, none⟩ = some (.int .i64 y2) ∧ w'.cell? ⟨w.heap.size + 1 + 1, 7, none⟩ = some (.int .i64 y3)) := Lib.hid (fun w' hb => by
      have h3 := HM.out.step hb
      have h2 := h3.tail
      have h1 := h2.tail
      exact ⟨h1.cell 0, h1.cell 1, h1.cell 2, h1.cell 3, h2.cell 0, h2.cell 1, h2.cell 2, h2.cell 3, h3.cell 0, h3.cell 1, h3.cell 2, h3.cell 3, h3.cell 4, h3.cell 5, h3.cell 6, h3.cell 7⟩)
    have HBW := Lib.hid HM.out.b
    refine wp_region_held_drew (S := fun w' => w'.cell? ⟨w.heap.size, 0, none⟩ = some (.int .i64 a0) ∧ w'.cell? ⟨w.heap.size, 1, none⟩ = some (.int .i64 a1) ∧ w'.cell? ⟨w.heap.size, 2, none⟩ = some (.int .i64 a2) ∧ w'.cell? ⟨w.heap.size, 3, none⟩ = some (.int .i64 a3) ∧ w'.cell? ⟨w.heap.size + 1, 0, none⟩ = some (.int .i64 p0) ∧ w'.cell? ⟨w.heap.size + 1, 1, none⟩ = some (.int .i64 p1) ∧ w'.cell? ⟨w.heap.size + 1, 2, none⟩ = some (.int .i64 p2) ∧ w'.cell? ⟨w.heap.size + 1, 3, none⟩ = some (.int .i64 p3) ∧ w'.cell? ⟨w.heap.size + 1 + 1, 0, none⟩ = some (.int .i64 x0) ∧ w'.cell? ⟨w.heap.size + 1 + 1, 1, none⟩ = some (.int .i64 x1) ∧ w'.cell? ⟨w.heap.size + 1 + 1, 2, none⟩ = some (.int .i64 x2) ∧ w'.cell? ⟨w.heap.size + 1 + 1, 3, none⟩ = some (.int .i64 x3) ∧ w'.cell? ⟨w.heap.size + 1 + 1, 4, none⟩ = some (.int .i64 y0) ∧ w'.cell? ⟨w.heap.size + 1 + 1, 5, none⟩ = some (.int .i64 y1) ∧ w'.cell? ⟨w.heap.size + 1 + 1, 6, none⟩ = some (.int .i64 y2) ∧ w'.cell? ⟨w.heap.size + 1 + 1, 7, none⟩ = some (.int .i64 y3)) (by kernel_rfl) (by rw [← hwd]; exact HS.out _ (Below.refl _ _)) (fun hHeld => ?_)
    rw [← hwd] at hHeld ⊢
    clear hwd HM
    refine wpAnyH_take (i := 0) (oi := { dst := some 14, op := Op.load 32 (Operand.tmp 3), type := 32, pos := "pair.go:53", after := #[], guard := none }) (v := ?_) rfl (by kernel_rfl) (by kernel_rfl) (by kernel_rfl) (fun _ _ _ h => h) (Or.inl ⟨by rfl, ?_⟩) (by assumption) ?_
    rotate_left
    · intro w' hSw
      (try dsimp only at hSw)
      (try go_split_ands)
      go_simp
      try with_reducible rfl
    (try simp only [Act.put, List.setIfInBounds_toArray, List.set_cons_zero, List.set_cons_succ])
    refine wpAnyH_take (i := 2) (oi := { dst := some 16, op := Op.load 32 (Operand.tmp 4), type := 32, pos := "pair.go:53", after := #[], guard := none }) (v := ?_) rfl (by kernel_rfl) (by kernel_rfl) (by kernel_rfl) (fun _ _ _ h => h) (Or.inl ⟨by rfl, ?_⟩) (by assumption) ?_
    rotate_left
    · intro w' hSw
      (try dsimp only at hSw)
      (try go_split_ands)
      go_simp
      try with_reducible rfl
    (try simp only [Act.put, List.setIfInBounds_toArray, List.set_cons_zero, List.set_cons_succ])
    refine wpAnyH_take (i := 4) (oi := { dst := some 18, op := Op.fieldAddr 34 (Operand.tmp 5) 0, type := 0, pos := "pair.go:53", after := #[], guard := none }) (v := ?_) rfl (by kernel_rfl) (by kernel_rfl) (by kernel_rfl) (fun _ _ _ h => h) (Or.inl ⟨by rfl, ?_⟩) (by assumption) ?_
    rotate_left
    · intro w' hSw
      (try dsimp only at hSw)
      (try go_split_ands)
      go_simp
      try with_reducible rfl
    (try simp only [Act.put, List.setIfInBounds_toArray, List.set_cons_zero, List.set_cons_succ])
    refine wpAnyH_take (i := 5) (oi := { dst := some 19, op := Op.load 32 (Operand.tmp 18), type := 32, pos := "pair.go:53", after := #[{ on := 4, ground := Ground.data }], guard := none }) (v := ?_) rfl (by kernel_rfl) (by kernel_rfl) (by kernel_rfl) (fun _ _ _ h => h) (Or.inl ⟨by rfl, ?_⟩) (by assumption) ?_
    rotate_left
    · intro w' hSw
      (try dsimp only at hSw)
      (try go_split_ands)
      go_simp
      try with_reducible rfl
    (try simp only [Act.put, List.setIfInBounds_toArray, List.set_cons_zero, List.set_cons_succ])
    refine wpAnyH_take (i := 7) (oi := { dst := some 21, op := Op.fieldAddr 34 (Operand.tmp 5) 1, type := 0, pos := "pair.go:53", after := #[], guard := none }) (v := ?_) rfl (by kernel_rfl) (by kernel_rfl) (by kernel_rfl) (fun _ _ _ h => h) (Or.inl ⟨by rfl, ?_⟩) (by assumption) ?_
    rotate_left
    · intro w' hSw
      (try dsimp only at hSw)
      (try go_split_ands)
      go_simp
      try with_reducible rfl
    (try simp only [Act.put, List.setIfInBounds_toArray, List.set_cons_zero, List.set_cons_succ])
    refine wpAnyH_take (i := 8) (oi := { dst := some 22, op := Op.load 32 (Operand.tmp 21), type := 32, pos := "pair.go:53", after := #[{ on := 7, ground := Ground.data }], guard := none }) (v := ?_) rfl (by kernel_rfl) (by kernel_rfl) (by kernel_rfl) (fun _ _ _ h => h) (Or.inl ⟨by rfl, ?_⟩) (by assumption) ?_
    rotate_left
    · intro w' hSw
      (try dsimp only at hSw)
      (try go_split_ands)
      go_simp
      try with_reducible rfl
    (try simp only [Act.put, List.setIfInBounds_toArray, List.set_cons_zero, List.set_cons_succ])
    refine mergePc _ _ _ _ _ _ _ _ _ a0 a1 a2 a3 p0 p1 p2 p3 x0 x1 x2 x3 y0 y1 y2 y3 _ _ _ HS.out (fun q0 q1 q2 q3 w' hB => ?_)
    have HB := Lib.hid (B4.mk (HBW.out.trans (hB.b.mono HBW.out.size)) (Nat.le_trans HBW.out.size hB.l0) (Nat.le_trans HBW.out.size hB.l1) (Nat.le_trans HBW.out.size hB.l2) (Nat.le_trans HBW.out.size hB.l3) hB.h0 hB.h1 hB.h2 hB.h3 hB.n01 hB.n02 hB.n03 hB.n12 hB.n13 hB.n23)
    clear hB hHeld
    go_wp2_with fail
    go_meet
    exact ⟨_, _, _, _, rfl, rfl, rfl, rfl, HB⟩
  case rest =>
  obtain ⟨q0, q1, q2, q3, rfl, rfl, rfl, rfl, HB⟩ := hcut
  have HC : Hid (∀ k, k < 4 → ∀ w', Below wc.heap.size wc w' → w'.cell? ⟨q0, k, none⟩ = some (.int .i64 (gn (a0, a1, a2, a3) k)) ∧ w'.cell? ⟨q1, k, none⟩ = some (.int .i64 (gn (p0, p1, p2, p3) k)) ∧ w'.cell? ⟨q2, k, none⟩ = some (.int .i64 (gn (x0, x1, x2, x3) k)) ∧ w'.cell? ⟨q3, k, none⟩ = some (.int .i64 (gn (y0, y1, y2, y3) k))) := Lib.hid (fun k hk w' hb => by
    have h := HB.out.step hb
    have a := blk_cells4 h.h0
    have b := blk_cells4 h.h1
    have c := blk_cells4 h.h2
    have d := blk_cells4 h.h3
    match k, hk with
    | 0, _ => exact ⟨a.1, b.1, c.1, d.1⟩
    | 1, _ => exact ⟨a.2.1, b.2.1, c.2.1, d.2.1⟩
    | 2, _ => exact ⟨a.2.2.1, b.2.2.1, c.2.2.1, d.2.2.1⟩
    | 3, _ => exact ⟨a.2.2.2.1, b.2.2.2.1, c.2.2.2.1, d.2.2.2.1⟩)
  have HBC := Lib.hid HB.out.b
  clear HB HM
  go_wp2_with fail
  go_loopg [11, 12, 13, 24] 4 (fun gk s x d i wr => ∃ k : Nat, k + gk = 4 ∧ i = .int .i64 k ∧ (∃ V : Int, s = .int .i64 V ∧ Hid (V = costTo (a0, a1, a2, a3) (p0, p1, p2, p3) (x0, x1, x2, x3) k)) ∧ Hid (inTo (a0, a1, a2, a3) (p0, p1, p2, p3) (y0, y1, y2, y3) k = true) ∧ Hid (Below wc.heap.size wc wr))
  case atStart => exact ⟨0, by omega, rfl, ⟨0, rfl, Lib.hid rfl⟩, Lib.hid rfl, Lib.hid (Below.refl _ _)⟩
  case round =>
    obtain ⟨k, hk, rfl, ⟨V, rfl, HV⟩, HI, HW⟩ := hrel
    by_cases hlt : k < 4
    · obtain ⟨gk', rfl⟩ : ∃ m, gk = m + 1 := ⟨gk - 1, by omega⟩
      obtain ⟨c0, c1, c2, c3⟩ := HC.out k hlt _ HW.out
      obtain ⟨l0, l1, l2, l3⟩ := HL.out k hlt
      have lV := HCT.out k (by omega)
      rw [← HV.out] at lV
      have hbd := HBAD.out k hlt
      have hnx : costTo (a0, a1, a2, a3) (p0, p1, p2, p3) (x0, x1, x2, x3) (k + 1) = V + apt (gn (a0, a1, a2, a3) k) (gn (p0, p1, p2, p3) k) * gn (x0, x1, x2, x3) k := by rw [HV.out]; rfl
      have hin : inTo (a0, a1, a2, a3) (p0, p1, p2, p3) (y0, y1, y2, y3) (k + 1) = decide (apt (gn (a0, a1, a2, a3) k) (gn (p0, p1, p2, p3) k) ≤ gn (y0, y1, y2, y3) k) := by show (inTo (a0, a1, a2, a3) (p0, p1, p2, p3) (y0, y1, y2, y3) k && _) = _; rw [HI.out, Bool.true_and]
      have hck := HC.out k hlt
      obtain ⟨ga, hga⟩ : ∃ z, z = gn (a0, a1, a2, a3) k := ⟨_, rfl⟩
      obtain ⟨gb, hgb⟩ : ∃ z, z = gn (p0, p1, p2, p3) k := ⟨_, rfl⟩
      obtain ⟨gw, hgw⟩ : ∃ z, z = gn (x0, x1, x2, x3) k := ⟨_, rfl⟩
      obtain ⟨gm, hgm⟩ : ∃ z, z = gn (y0, y1, y2, y3) k := ⟨_, rfl⟩
      rw [← hga] at c0 l0 hbd hnx hin
      rw [← hgb] at c1 l1 hbd hnx hin
      rw [← hgw] at c2 l2 hnx
      rw [← hgm] at c3 l3 hbd hin
      rw [← hga, ← hgb, ← hgw, ← hgm] at hck
      have HCK := Lib.hid hck
      clear hga hgb hgw hgm HV HI hck
      have hD := apt_le l0 l1
      have hmul := mul_le_mill hD l2
      obtain ⟨d1, hd1⟩ : ∃ z, z = ga - gb := ⟨_, rfl⟩
      obtain ⟨d2, hd2⟩ : ∃ z, z = gb - ga := ⟨_, rfl⟩
      have v1 : IntKind.i64.wrap (ga - gb) = d1 := by rw [hd1]; exact IntWalk.i64_in _ (by omega)
      have v2 : IntKind.i64.wrap (gb - ga) = d2 := by rw [hd2]; exact IntWalk.i64_in _ (by omega)
      obtain ⟨D, hDD⟩ : ∃ z, z = apt ga gb := ⟨_, rfl⟩
      have v3 : max d1 d2 = D := by rw [hDD, hd1, hd2]; rfl
      rw [← hDD] at hbd hnx hin hD hmul
      clear hDD hd1 hd2
      obtain ⟨E, hE⟩ : ∃ z, z = D * gw := ⟨_, rfl⟩
      rw [← hE] at hnx hmul
      have v4 : IntKind.i64.wrap (D * gw) = E := by rw [hE]; exact IntWalk.i64_in _ (by omega)
      obtain ⟨F, hF⟩ : ∃ z, z = V + E := ⟨_, rfl⟩
      rw [← hF] at hnx
      have v5 : IntKind.i64.wrap (V + E) = F := by rw [hF]; exact IntWalk.i64_in _ (by omega)
      have hk0 : (0 : Int) ≤ k := by omega
      have hk4 : (k : Int) < 4 := by omega
      have HN := Lib.hid (And.intro hnx (And.intro hin hbd))
      have HCW := Lib.hid HW.out.drew
      clear hE hF hnx hin hbd lV
      go_upto_region 6 with fail
      go_cut [13] (fun s13 wx => s13 = .int .i64 D ∧ Hid (Below wc.heap.size wc wx))
      case first =>
        go_region_held3 (fun w' => w'.cell? ⟨q0, k, none⟩ = some (.int .i64 ga) ∧ w'.cell? ⟨q1, k, none⟩ = some (.int .i64 gb)) (first | exact ⟨c0, c1⟩ | (simp only [World.cell?_drew]; exact ⟨c0, c1⟩)) (fail)
        all_goals go_wp2_with fail
        all_goals go_meet
        all_goals exact ⟨by first | rw [show d1 = D by omega] | rw [show d2 = D by omega], HCW⟩
      case rest =>
      obtain ⟨rfl, HWx⟩ := hcut
      obtain ⟨-, -, c2, c3⟩ := HCK.out _ HWx.out
      clear c0 c1 v1 v2 v3
      by_cases hov : gm < D
      · have t0 : decide (gm < D) = true := decide_eq_true hov
        obtain rfl := HN.out.2.2 hov
        go_wp2
        go_ret
        exact ⟨rfl, HBC.out.trans (HWx.out.mono HBC.out.size)⟩
      · have t0 : decide (gm < D) = false := decide_eq_false hov
        have HN1 : Hid (F = costTo (a0, a1, a2, a3) (p0, p1, p2, p3) (x0, x1, x2, x3) (k + 1)) := Lib.hid HN.out.1.symm
        have HN2 : Hid (inTo (a0, a1, a2, a3) (p0, p1, p2, p3) (y0, y1, y2, y3) (k + 1) = true) := Lib.hid (by rw [HN.out.2.1]; exact decide_eq_true (by omega))
        go_wp2
        go_roundg gk'
        case measure => exact Nat.lt_succ_self _
        case rel => exact ⟨k + 1, by omega, by go_num, ⟨F, rfl, HN1⟩, HN2, HWx⟩
    · obtain rfl : k = 4 := by omega
      obtain rfl : V = RES := HV.out.trans (HEND.out HI.out).symm
      go_wp2
      go_ret
      exact ⟨rfl, HBC.out.trans (HW.out.mono HBC.out.size)⟩

set_option maxRecDepth 100000 in
set_option maxHeartbeats 6400000 in
theorem rPrice_any (a0 a1 a2 a3 p0 p1 p2 p3 x0 x1 x2 x3 y0 y1 y2 y3 : Int) (ha : okB (a0, a1, a2, a3) = true) (hp : okB (p0, p1, p2, p3) = true) (hu : ruB ((x0, x1, x2, x3), (y0, y1, y2, y3)) = true) (w : World) : Calls Try.prog 46 #[.agg #[.int .i64 a0, .int .i64 a1, .int .i64 a2, .int .i64 a3], .agg #[.int .i64 p0, .int .i64 p1, .int .i64 p2, .int .i64 p3], .agg #[.int .i64 x0, .int .i64 x1, .int .i64 x2, .int .i64 x3, .int .i64 y0, .int .i64 y1, .int .i64 y2, .int .i64 y3]] w fun e w' => e = .returned (.int .i64 (costB (a0, a1, a2, a3) (p0, p1, p2, p3) ((x0, x1, x2, x3), (y0, y1, y2, y3)))) ∧ Below w.heap.size w w' := by
  obtain ⟨hx, hy⟩ : okB (x0, x1, x2, x3) = true ∧ okB (y0, y1, y2, y3) = true := by unfold ruB at hu; exact Bool.and_eq_true _ _ ▸ hu
  have HL := Lib.hid (fun k (hk : k < 4) => And.intro (okB_iff.1 ha k hk) (And.intro (okB_iff.1 hp k hk) (And.intro (okB_iff.1 hx k hk) (okB_iff.1 hy k hk))))
  have HCT := Lib.hid (fun k (hk : k ≤ 4) => costTo_le ha hp hx k hk)
  have HBAD := Lib.hid (fun k (hk : k < 4) (h : gn (y0, y1, y2, y3) k < apt (gn (a0, a1, a2, a3) k) (gn (p0, p1, p2, p3) k)) => (show costB (a0, a1, a2, a3) (p0, p1, p2, p3) ((x0, x1, x2, x3), (y0, y1, y2, y3)) = -1 by unfold costB; rw [inTo_bad h 4 hk]; rfl))
  have HEND := Lib.hid (fun (h : inTo (a0, a1, a2, a3) (p0, p1, p2, p3) (y0, y1, y2, y3) 4 = true) => (show costB (a0, a1, a2, a3) (p0, p1, p2, p3) ((x0, x1, x2, x3), (y0, y1, y2, y3)) = costTo (a0, a1, a2, a3) (p0, p1, p2, p3) (x0, x1, x2, x3) 4 by unfold costB; rw [h]; rfl))
  obtain ⟨RES, hRES⟩ : ∃ z, z = costB (a0, a1, a2, a3) (p0, p1, p2, p3) ((x0, x1, x2, x3), (y0, y1, y2, y3)) := ⟨_, rfl⟩
  rw [← hRES] at HBAD HEND ⊢
  clear hRES ha hp hu hx hy
  have hm := ((((Mem.nil w).alloc_at (H := w.heap.size) rfl #[.int .i64 a0, .int .i64 a1, .int .i64 a2, .int .i64 a3] 24).alloc_at (H := w.heap.size + 1) (by simp) #[.int .i64 p0, .int .i64 p1, .int .i64 p2, .int .i64 p3] 24).alloc_at (H := w.heap.size + 1 + 1) (by simp) #[.int .i64 x0, .int .i64 x1, .int .i64 x2, .int .i64 x3, .int .i64 y0, .int .i64 y1, .int .i64 y2, .int .i64 y3] 26).drew
  have HM := Lib.hid hm
  have HS0 : Hid (∀ w', Below w.heap.size w w' → True) := Lib.hid (fun _ _ => trivial)
  clear hm
  go_enter Try.func46, Try.ntmps46
  go_upto_region 1 with fail
  go_cut [7, 8, 9, 10] (fun s7 s8 s9 s10 wx => ∃ q0 q1 q2 q3 : Nat, s7 = .pointer (some ⟨q0, 0, none⟩) ∧ s8 = .pointer (some ⟨q1, 0, none⟩) ∧ s9 = .pointer (some ⟨q2, 0, none⟩) ∧ s10 = .pointer (some ⟨q3, 0, none⟩) ∧ Hid (B4 w 99 q0 q1 q2 q3 #[.int .i64 a0, .int .i64 a1, .int .i64 a2, .int .i64 a3] #[.int .i64 p0, .int .i64 p1, .int .i64 p2, .int .i64 p3] #[.int .i64 x0, .int .i64 x1, .int .i64 x2, .int .i64 x3] #[.int .i64 y0, .int .i64 y1, .int .i64 y2, .int .i64 y3] wx))
  case first =>
    obtain ⟨wd, hwd⟩ : ∃ z, z = (((w.alloc (.cells #[.int .i64 a0, .int .i64 a1, .int .i64 a2, .int .i64 a3] 24)).alloc (.cells #[.int .i64 p0, .int .i64 p1, .int .i64 p2, .int .i64 p3] 24)).alloc (.cells #[.int .i64 x0, .int .i64 x1, .int .i64 x2, .int .i64 x3, .int .i64 y0, .int .i64 y1, .int .i64 y2, .int .i64 y3] 26)).drew := ⟨_, rfl⟩
    rw [← hwd] at HM
    have HS : Hid (∀ w', Below wd.heap.size wd w' → w'.cell? ⟨w.heap.size, 0, none⟩ = some (.int .i64 a0) ∧ w'.cell? ⟨w.heap.size, 1, none⟩ = some (.int .i64 a1) ∧ w'.cell? ⟨w.heap.size, 2, none⟩ = some (.int .i64 a2) ∧ w'.cell? ⟨w.heap.size, 3, none⟩ = some (.int .i64 a3) ∧ w'.cell? ⟨w.heap.size + 1, 0, none⟩ = some (.int .i64 p0) ∧ w'.cell? ⟨w.heap.size + 1, 1, none⟩ = some (.int .i64 p1) ∧ w'.cell? ⟨w.heap.size + 1, 2, none⟩ = some (.int .i64 p2) ∧ w'.cell? ⟨w.heap.size + 1, 3, none⟩ = some (.int .i64 p3) ∧ w'.cell? ⟨w.heap.size + 1 + 1, 0, none⟩ = some (.int .i64 x0) ∧ w'.cell? ⟨w.heap.size + 1 + 1, 1, none⟩ = some (.int .i64 x1) ∧ w'.cell? ⟨w.heap.size + 1 + 1, 2, none⟩ = some (.int .i64 x2) ∧ w'.cell? ⟨w.heap.size + 1 + 1, 3, none⟩ = some (.int .i64 x3) ∧ w'.cell? ⟨w.heap.size + 1 + 1, 4, none⟩ = some (.int .i64 y0) ∧ w'.cell? ⟨w.heap.size + 1 + 1, 5, none⟩ = some (.int .i64 y1) ∧ w'.cell? ⟨w.heap.size + 1 + 1, 6, none⟩ = some (.int .i64 y2) ∧ w'.cell? ⟨w.heap.size + 1 + 1, 7, none⟩ = some (.int .i64 y3)) := Lib.hid (fun w' hb => by
      have h3 := HM.out.step hb
      have h2 := h3.tail
      have h1 := h2.tail
      exact ⟨h1.cell 0, h1.cell 1, h1.cell 2, h1.cell 3, h2.cell 0, h2.cell 1, h2.cell 2, h2.cell 3, h3.cell 0, h3.cell 1, h3.cell 2, h3.cell 3, h3.cell 4, h3.cell 5, h3.cell 6, h3.cell 7⟩)
    have HBW := Lib.hid HM.out.b
    refine wp_region_held_drew (S := fun w' => w'.cell? ⟨w.heap.size, 0, none⟩ = some (.int .i64 a0) ∧ w'.cell? ⟨w.heap.size, 1, none⟩ = some (.int .i64 a1) ∧ w'.cell? ⟨w.heap.size, 2, none⟩ = some (.int .i64 a2) ∧ w'.cell? ⟨w.heap.size, 3, none⟩ = some (.int .i64 a3) ∧ w'.cell? ⟨w.heap.size + 1, 0, none⟩ = some (.int .i64 p0) ∧ w'.cell? ⟨w.heap.size + 1, 1, none⟩ = some (.int .i64 p1) ∧ w'.cell? ⟨w.heap.size + 1, 2, none⟩ = some (.int .i64 p2) ∧ w'.cell? ⟨w.heap.size + 1, 3, none⟩ = some (.int .i64 p3) ∧ w'.cell? ⟨w.heap.size + 1 + 1, 0, none⟩ = some (.int .i64 x0) ∧ w'.cell? ⟨w.heap.size + 1 + 1, 1, none⟩ = some (.int .i64 x1) ∧ w'.cell? ⟨w.heap.size + 1 + 1, 2, none⟩ = some (.int .i64 x2) ∧ w'.cell? ⟨w.heap.size + 1 + 1, 3, none⟩ = some (.int .i64 x3) ∧ w'.cell? ⟨w.heap.size + 1 + 1, 4, none⟩ = some (.int .i64 y0) ∧ w'.cell? ⟨w.heap.size + 1 + 1, 5, none⟩ = some (.int .i64 y1) ∧ w'.cell? ⟨w.heap.size + 1 + 1, 6, none⟩ = some (.int .i64 y2) ∧ w'.cell? ⟨w.heap.size + 1 + 1, 7, none⟩ = some (.int .i64 y3)) (by kernel_rfl) (by rw [← hwd]; exact HS.out _ (Below.refl _ _)) (fun hHeld => ?_)
    rw [← hwd] at hHeld ⊢
    clear hwd HM
    refine wpAnyH_take (i := 0) (oi := { dst := some 14, op := Op.load 24 (Operand.tmp 3), type := 24, pos := "ref.go:48", after := #[], guard := none }) (v := ?_) rfl (by kernel_rfl) (by kernel_rfl) (by kernel_rfl) (fun _ _ _ h => h) (Or.inl ⟨by rfl, ?_⟩) (by assumption) ?_
    rotate_left
    · intro w' hSw
      (try dsimp only at hSw)
      (try go_split_ands)
      go_simp
      try with_reducible rfl
    (try simp only [Act.put, List.setIfInBounds_toArray, List.set_cons_zero, List.set_cons_succ])
    refine wpAnyH_take (i := 2) (oi := { dst := some 16, op := Op.load 24 (Operand.tmp 4), type := 24, pos := "ref.go:48", after := #[], guard := none }) (v := ?_) rfl (by kernel_rfl) (by kernel_rfl) (by kernel_rfl) (fun _ _ _ h => h) (Or.inl ⟨by rfl, ?_⟩) (by assumption) ?_
    rotate_left
    · intro w' hSw
      (try dsimp only at hSw)
      (try go_split_ands)
      go_simp
      try with_reducible rfl
    (try simp only [Act.put, List.setIfInBounds_toArray, List.set_cons_zero, List.set_cons_succ])
    refine wpAnyH_take (i := 4) (oi := { dst := some 18, op := Op.fieldAddr 26 (Operand.tmp 5) 0, type := 0, pos := "ref.go:48", after := #[], guard := none }) (v := ?_) rfl (by kernel_rfl) (by kernel_rfl) (by kernel_rfl) (fun _ _ _ h => h) (Or.inl ⟨by rfl, ?_⟩) (by assumption) ?_
    rotate_left
    · intro w' hSw
      (try dsimp only at hSw)
      (try go_split_ands)
      go_simp
      try with_reducible rfl
    (try simp only [Act.put, List.setIfInBounds_toArray, List.set_cons_zero, List.set_cons_succ])
    refine wpAnyH_take (i := 5) (oi := { dst := some 19, op := Op.load 24 (Operand.tmp 18), type := 24, pos := "ref.go:48", after := #[{ on := 4, ground := Ground.data }], guard := none }) (v := ?_) rfl (by kernel_rfl) (by kernel_rfl) (by kernel_rfl) (fun _ _ _ h => h) (Or.inl ⟨by rfl, ?_⟩) (by assumption) ?_
    rotate_left
    · intro w' hSw
      (try dsimp only at hSw)
      (try go_split_ands)
      go_simp
      try with_reducible rfl
    (try simp only [Act.put, List.setIfInBounds_toArray, List.set_cons_zero, List.set_cons_succ])
    refine wpAnyH_take (i := 7) (oi := { dst := some 21, op := Op.fieldAddr 26 (Operand.tmp 5) 1, type := 0, pos := "ref.go:48", after := #[], guard := none }) (v := ?_) rfl (by kernel_rfl) (by kernel_rfl) (by kernel_rfl) (fun _ _ _ h => h) (Or.inl ⟨by rfl, ?_⟩) (by assumption) ?_
    rotate_left
    · intro w' hSw
      (try dsimp only at hSw)
      (try go_split_ands)
      go_simp
      try with_reducible rfl
    (try simp only [Act.put, List.setIfInBounds_toArray, List.set_cons_zero, List.set_cons_succ])
    refine wpAnyH_take (i := 8) (oi := { dst := some 22, op := Op.load 24 (Operand.tmp 21), type := 24, pos := "ref.go:48", after := #[{ on := 7, ground := Ground.data }], guard := none }) (v := ?_) rfl (by kernel_rfl) (by kernel_rfl) (by kernel_rfl) (fun _ _ _ h => h) (Or.inl ⟨by rfl, ?_⟩) (by assumption) ?_
    rotate_left
    · intro w' hSw
      (try dsimp only at hSw)
      (try go_split_ands)
      go_simp
      try with_reducible rfl
    (try simp only [Act.put, List.setIfInBounds_toArray, List.set_cons_zero, List.set_cons_succ])
    refine mergeRc _ _ _ _ _ _ _ _ _ a0 a1 a2 a3 p0 p1 p2 p3 x0 x1 x2 x3 y0 y1 y2 y3 _ _ _ HS.out (fun q0 q1 q2 q3 w' hB => ?_)
    have HB := Lib.hid (B4.mk (HBW.out.trans (hB.b.mono HBW.out.size)) (Nat.le_trans HBW.out.size hB.l0) (Nat.le_trans HBW.out.size hB.l1) (Nat.le_trans HBW.out.size hB.l2) (Nat.le_trans HBW.out.size hB.l3) hB.h0 hB.h1 hB.h2 hB.h3 hB.n01 hB.n02 hB.n03 hB.n12 hB.n13 hB.n23)
    clear hB hHeld
    go_wp2_with fail
    go_meet
    exact ⟨_, _, _, _, rfl, rfl, rfl, rfl, HB⟩
  case rest =>
  obtain ⟨q0, q1, q2, q3, rfl, rfl, rfl, rfl, HB⟩ := hcut
  have HC : Hid (∀ k, k < 4 → ∀ w', Below wc.heap.size wc w' → w'.cell? ⟨q0, k, none⟩ = some (.int .i64 (gn (a0, a1, a2, a3) k)) ∧ w'.cell? ⟨q1, k, none⟩ = some (.int .i64 (gn (p0, p1, p2, p3) k)) ∧ w'.cell? ⟨q2, k, none⟩ = some (.int .i64 (gn (x0, x1, x2, x3) k)) ∧ w'.cell? ⟨q3, k, none⟩ = some (.int .i64 (gn (y0, y1, y2, y3) k))) := Lib.hid (fun k hk w' hb => by
    have h := HB.out.step hb
    have a := blk_cells4 h.h0
    have b := blk_cells4 h.h1
    have c := blk_cells4 h.h2
    have d := blk_cells4 h.h3
    match k, hk with
    | 0, _ => exact ⟨a.1, b.1, c.1, d.1⟩
    | 1, _ => exact ⟨a.2.1, b.2.1, c.2.1, d.2.1⟩
    | 2, _ => exact ⟨a.2.2.1, b.2.2.1, c.2.2.1, d.2.2.1⟩
    | 3, _ => exact ⟨a.2.2.2.1, b.2.2.2.1, c.2.2.2.1, d.2.2.2.1⟩)
  have HBC := Lib.hid HB.out.b
  clear HB HM
  go_wp2_with fail
  go_loopg [11, 12, 13, 24] 4 (fun gk s x d i wr => ∃ k : Nat, k + gk = 4 ∧ i = .int .i64 k ∧ (∃ V : Int, s = .int .i64 V ∧ Hid (V = costTo (a0, a1, a2, a3) (p0, p1, p2, p3) (x0, x1, x2, x3) k)) ∧ Hid (inTo (a0, a1, a2, a3) (p0, p1, p2, p3) (y0, y1, y2, y3) k = true) ∧ Hid (Below wc.heap.size wc wr))
  case atStart => exact ⟨0, by omega, rfl, ⟨0, rfl, Lib.hid rfl⟩, Lib.hid rfl, Lib.hid (Below.refl _ _)⟩
  case round =>
    obtain ⟨k, hk, rfl, ⟨V, rfl, HV⟩, HI, HW⟩ := hrel
    by_cases hlt : k < 4
    · obtain ⟨gk', rfl⟩ : ∃ m, gk = m + 1 := ⟨gk - 1, by omega⟩
      obtain ⟨c0, c1, c2, c3⟩ := HC.out k hlt _ HW.out
      obtain ⟨l0, l1, l2, l3⟩ := HL.out k hlt
      have lV := HCT.out k (by omega)
      rw [← HV.out] at lV
      have hbd := HBAD.out k hlt
      have hnx : costTo (a0, a1, a2, a3) (p0, p1, p2, p3) (x0, x1, x2, x3) (k + 1) = V + apt (gn (a0, a1, a2, a3) k) (gn (p0, p1, p2, p3) k) * gn (x0, x1, x2, x3) k := by rw [HV.out]; rfl
      have hin : inTo (a0, a1, a2, a3) (p0, p1, p2, p3) (y0, y1, y2, y3) (k + 1) = decide (apt (gn (a0, a1, a2, a3) k) (gn (p0, p1, p2, p3) k) ≤ gn (y0, y1, y2, y3) k) := by show (inTo (a0, a1, a2, a3) (p0, p1, p2, p3) (y0, y1, y2, y3) k && _) = _; rw [HI.out, Bool.true_and]
      have hck := HC.out k hlt
      obtain ⟨ga, hga⟩ : ∃ z, z = gn (a0, a1, a2, a3) k := ⟨_, rfl⟩
      obtain ⟨gb, hgb⟩ : ∃ z, z = gn (p0, p1, p2, p3) k := ⟨_, rfl⟩
      obtain ⟨gw, hgw⟩ : ∃ z, z = gn (x0, x1, x2, x3) k := ⟨_, rfl⟩
      obtain ⟨gm, hgm⟩ : ∃ z, z = gn (y0, y1, y2, y3) k := ⟨_, rfl⟩
      rw [← hga] at c0 l0 hbd hnx hin
      rw [← hgb] at c1 l1 hbd hnx hin
      rw [← hgw] at c2 l2 hnx
      rw [← hgm] at c3 l3 hbd hin
      rw [← hga, ← hgb, ← hgw, ← hgm] at hck
      have HCK := Lib.hid hck
      clear hga hgb hgw hgm HV HI hck
      have hD := apt_le l0 l1
      have hmul := mul_le_mill hD l2
      obtain ⟨d1, hd1⟩ : ∃ z, z = ga - gb := ⟨_, rfl⟩
      obtain ⟨d2, hd2⟩ : ∃ z, z = gb - ga := ⟨_, rfl⟩
      have v1 : IntKind.i64.wrap (ga - gb) = d1 := by rw [hd1]; exact IntWalk.i64_in _ (by omega)
      have v2 : IntKind.i64.wrap (gb - ga) = d2 := by rw [hd2]; exact IntWalk.i64_in _ (by omega)
      obtain ⟨D, hDD⟩ : ∃ z, z = apt ga gb := ⟨_, rfl⟩
      have v3 : max d1 d2 = D := by rw [hDD, hd1, hd2]; rfl
      rw [← hDD] at hbd hnx hin hD hmul
      clear hDD hd1 hd2
      obtain ⟨E, hE⟩ : ∃ z, z = D * gw := ⟨_, rfl⟩
      rw [← hE] at hnx hmul
      have v4 : IntKind.i64.wrap (D * gw) = E := by rw [hE]; exact IntWalk.i64_in _ (by omega)
      obtain ⟨F, hF⟩ : ∃ z, z = V + E := ⟨_, rfl⟩
      rw [← hF] at hnx
      have v5 : IntKind.i64.wrap (V + E) = F := by rw [hF]; exact IntWalk.i64_in _ (by omega)
      have hk0 : (0 : Int) ≤ k := by omega
      have hk4 : (k : Int) < 4 := by omega
      have HN := Lib.hid (And.intro hnx (And.intro hin hbd))
      have HCW := Lib.hid HW.out.drew
      clear hE hF hnx hin hbd lV
      go_upto_region 6 with fail
      go_cut [13] (fun s13 wx => s13 = .int .i64 D ∧ Hid (Below wc.heap.size wc wx))
      case first =>
        go_region_held3 (fun w' => w'.cell? ⟨q0, k, none⟩ = some (.int .i64 ga) ∧ w'.cell? ⟨q1, k, none⟩ = some (.int .i64 gb)) (first | exact ⟨c0, c1⟩ | (simp only [World.cell?_drew]; exact ⟨c0, c1⟩)) (fail)
        all_goals go_wp2_with fail
        all_goals go_meet
        all_goals exact ⟨by first | rw [show d1 = D by omega] | rw [show d2 = D by omega], HCW⟩
      case rest =>
      obtain ⟨rfl, HWx⟩ := hcut
      obtain ⟨-, -, c2, c3⟩ := HCK.out _ HWx.out
      clear c0 c1 v1 v2 v3
      by_cases hov : gm < D
      · have t0 : decide (gm < D) = true := decide_eq_true hov
        obtain rfl := HN.out.2.2 hov
        go_wp2
        go_ret
        exact ⟨rfl, HBC.out.trans (HWx.out.mono HBC.out.size)⟩
      · have t0 : decide (gm < D) = false := decide_eq_false hov
        have HN1 : Hid (F = costTo (a0, a1, a2, a3) (p0, p1, p2, p3) (x0, x1, x2, x3) (k + 1)) := Lib.hid HN.out.1.symm
        have HN2 : Hid (inTo (a0, a1, a2, a3) (p0, p1, p2, p3) (y0, y1, y2, y3) (k + 1) = true) := Lib.hid (by rw [HN.out.2.1]; exact decide_eq_true (by omega))
        go_wp2
        go_roundg gk'
        case measure => exact Nat.lt_succ_self _
        case rel => exact ⟨k + 1, by omega, by go_num, ⟨F, rfl, HN1⟩, HN2, HWx⟩
    · obtain rfl : k = 4 := by omega
      obtain rfl : V = RES := HV.out.trans (HEND.out HI.out).symm
      go_wp2
      go_ret
      exact ⟨rfl, HBC.out.trans (HW.out.mono HBC.out.size)⟩

end Go.Proofs.Ytchhadkmemckbab

/- Pairs: the reference's Covers and Most. -/
import Derived.Test.YtchhadkmemckbaaPcD
import Derived.Test.YtchhadkmemckbaaPbX
import Derived.Test.YtchhadkmemckbaaPaV
namespace Go.Proofs.Ytchhadkmemckbaa
open Go.RowKit
set_option linter.unusedSimpArgs false
set_option linter.unusedVariables false

/-- Two arrays of bools beside each other. -/
structure V2 (w0 : World) (pl pr L R : Nat) (f g : Nat → Bool) (wr : World) : Prop where
  b : Below w0.heap.size w0 wr
  l1 : w0.heap.size ≤ pl
  l2 : w0.heap.size ≤ pr
  ne : pl ≠ pr
  h1 : wr.heap[pl]? = some (.cells (cV L fun k => .bool (f k)) 4 (0, 0))
  h2 : wr.heap[pr]? = some (.cells (cV R fun k => .bool (g k)) 4 (0, 0))
section
variable {w0 wr w2 : World} {pl pr L R : Nat} {f g : Nat → Bool}
theorem V2.step (h : V2 w0 pl pr L R f g wr) (hb : Below wr.heap.size wr w2) : V2 w0 pl pr L R f g w2 := ⟨h.b.trans (hb.mono h.b.size), h.l1, h.l2, h.ne, blk_keep h.h1 hb, blk_keep h.h2 hb⟩
theorem V2.set1 (h : V2 w0 pl pr L R f g wr) (i : Nat) (x : Bool) : V2 w0 pl pr L R (fset f i x) g (wr.setCell ⟨pl, i, none⟩ (.bool x)) := by
  refine ⟨h.b.setCell h.l1 _, h.l1, h.l2, h.ne, ?_, by rw [Below.heap_setCell _ _ _ _ (Ne.symm h.ne)]; exact h.h2⟩
  have hc : (cV L fun k => Value.bool (f k)).setIfInBounds i (.bool x) = cV L fun k => .bool (fset f i x k) := by
    rw [cV_set]
    exact cV_congr fun k _ => by unfold fset; split <;> rfl
  simp only [World.setCell, Array.getElem?_modify, h.h1]
  simp [hc]
theorem V2.set2 (h : V2 w0 pl pr L R f g wr) (i : Nat) (x : Bool) : V2 w0 pl pr L R f (fset g i x) (wr.setCell ⟨pr, i, none⟩ (.bool x)) := by
  refine ⟨h.b.setCell h.l2 _, h.l1, h.l2, h.ne, by rw [Below.heap_setCell _ _ _ _ h.ne]; exact h.h1, ?_⟩
  have hc : (cV R fun k => Value.bool (g k)).setIfInBounds i (.bool x) = cV R fun k => .bool (fset g i x k) := by
    rw [cV_set]
    exact cV_congr fun k _ => by unfold fset; split <;> rfl
  simp only [World.setCell, Array.getElem?_modify, h.h2]
  simp [hc]
theorem V2.c1 (h : V2 w0 pl pr L R f g wr) {i : Nat} (hi : i < L) : wr.cell? ⟨pl, i, none⟩ = some (.bool (f i)) ∧ wr.frozen? ⟨pl, i, none⟩ = false ∧ pl < wr.heap.size := ⟨by rw [blkc h.h1, cV_get hi], by simp only [World.frozen?]; rw [h.h1]; simp, block_lt h.h1⟩
theorem V2.c2 (h : V2 w0 pl pr L R f g wr) {i : Nat} (hi : i < R) : wr.cell? ⟨pr, i, none⟩ = some (.bool (g i)) ∧ wr.frozen? ⟨pr, i, none⟩ = false ∧ pr < wr.heap.size := ⟨by rw [blkc h.h2, cV_get hi], by simp only [World.frozen?]; rw [h.h2]; simp, block_lt h.h2⟩
end
theorem up_step {ks : List Int} (h : ks.Pairwise (· < ·)) {k : Nat} (hk : k + 1 < ks.length) : ks[k] < ks[k + 1] := List.pairwise_iff_getElem.1 h k (k + 1) (by omega) hk (by omega)
theorem take_in {ks : List Int} {k : Nat} (hk : k < ks.length) {x : Int} (hx : x ∈ ks.take (k + 1)) : x ∈ ks.take k ∨ x = ks[k] := by
  rw [List.take_add_one, List.getElem?_eq_getElem hk] at hx
  rcases List.mem_append.1 hx with h | h
  · exact .inl h
  · exact .inr (by simpa using h)

set_option maxRecDepth 100000 in
set_option maxHeartbeats 6400000 in
theorem covers_any (a a2 a3 a4 : Option Addr) (cap cap2 cap3 cap4 : Nat) (ls rs : List Gl) (x0 x1 x2 x3 y0 y1 y2 y3 : Int) (ka kb : List Int) (h1 : sidB ls = true) (h2 : sidB rs = true) (h3 : ruB ((x0, x1, x2, x3), (y0, y1, y2, y3)) = true) (hcv : CovP (cosT ls rs ((x0, x1, x2, x3), (y0, y1, y2, y3))) ls.length rs.length ka kb) (w : World) (hl : RecS w a ls) (hr : RecS w a2 rs) (hk : IntK w a3 ka) (hk2 : IntK w a4 kb) :
    Calls Try.prog 26 #[.slice a ls.length cap, .slice a2 rs.length cap2, .agg #[.int .i64 x0, .int .i64 x1, .int .i64 x2, .int .i64 x3, .int .i64 y0, .int .i64 y1, .int .i64 y2, .int .i64 y3], .slice a3 ka.length cap3, .slice a4 kb.length cap4] w fun e w' => e = .returned (.bool true) ∧ Below w.heap.size w w' := by
  have n1 : ls.length ≤ 32 := by unfold sidB at h1; simp at h1; omega
  have n2 : rs.length ≤ 32 := by unfold sidB at h2; simp at h2; omega
  have hln : ka.length + kb.length ≤ 32 := by
    have e1 := hcv.len
    have e2 := (cntO_le (lgO (fun i j => cosT ls rs ((x0, x1, x2, x3), (y0, y1, y2, y3)) i j != -1) ls.length rs.length) rs.length).2
    omega
  have HTA := Lib.hid (fun w' hb => rTable_yes a a2 cap cap2 ls rs x0 x1 x2 x3 y0 y1 y2 y3 h1 h2 h3 w' (hl.below (w' := w') hb) (hr.below hb))
  have hm := (Mem.nil w).alloc_at (H := w.heap.size) rfl #[.int .i64 x0, .int .i64 x1, .int .i64 x2, .int .i64 x3, .int .i64 y0, .int .i64 y1, .int .i64 y2, .int .i64 y3] 25
  obtain ⟨wm, hwm⟩ : ∃ z, z = w.alloc (.cells #[.int .i64 x0, .int .i64 x1, .int .i64 x2, .int .i64 x3, .int .i64 y0, .int .i64 y1, .int .i64 y2, .int .i64 y3] 25) := ⟨_, rfl⟩
  rw [← hwm] at hm
  have HM := Lib.hid hm
  have HWM := Lib.hid hwm
  have HK := Lib.hid (hk.below hm.b)
  have HK2 := Lib.hid (hk2.below hm.b)
  obtain ⟨CF, hCF⟩ : ∃ z, z = cosT ls rs ((x0, x1, x2, x3), (y0, y1, y2, y3)) := ⟨_, rfl⟩
  rw [← hCF] at HTA hcv
  have HCV := Lib.hid hcv
  clear hCF h1 h2 h3 hl hr hk hk2 hcv hm hwm
  go_enter Try.func26, Try.ntmps26
  go_upto_region 1 with fail
  rw [← HWM.out]
  go_cut [11, 12] (fun s11 s12 wx => ∃ pl pr, s11 = .slice (some ⟨pl, 0, none⟩) ls.length ls.length ∧ s12 = .slice (some ⟨pr, 0, none⟩) rs.length rs.length ∧ Hid (V2 wm pl pr ls.length rs.length (fun _ => false) (fun _ => false) wx))
  case first =>
    have HWD0 : Hid (Below wm.heap.size wm wm.drew) := Lib.hid (Below.refl _ _).drew
    refine wp_region_held_drew (S := fun _ => True) (by kernel_rfl) (trivial) (fun hHeld => ?_)
    obtain ⟨wd, hwd⟩ : ∃ z, z = wm.drew := ⟨_, rfl⟩
    have HWD : Hid (Below wm.heap.size wm wd) := Lib.hid (by rw [hwd]; exact HWD0.out)
    rw [← hwd]
    clear hwd
    refine wpAnyH_take (i := 0) (oi := { dst := some 21, op := Op.move (Operand.tmp 0), type := 37, pos := "ref.go:158", after := #[], guard := none }) (v := ?_) rfl (by kernel_rfl) (by kernel_rfl) (by kernel_rfl) (fun _ _ _ h => h) (Or.inl ⟨by rfl, ?_⟩) (by assumption) ?_
    rotate_left
    · intro w' hSw
      (try dsimp only at hSw)
      (try go_split_ands)
      go_simp
      try with_reducible rfl
    (try simp only [Act.put, List.setIfInBounds_toArray, List.set_cons_zero, List.set_cons_succ])
    refine wpAnyH_take (i := 1) (oi := { dst := some 22, op := Op.call { callee := Callee.builtin Builtin.len, args := #[Operand.tmp 21], argTypes := #[37] }, type := 3, pos := "ref.go:158", after := #[{ on := 0, ground := Ground.data }], guard := none }) (v := ?_) rfl (by kernel_rfl) (by kernel_rfl) (by kernel_rfl) (fun _ _ _ h => h) (Or.inl ⟨by rfl, ?_⟩) (by assumption) ?_
    rotate_left
    · intro w' hSw
      (try dsimp only at hSw)
      (try go_split_ands)
      go_simp
      try with_reducible rfl
    (try simp only [Act.put, List.setIfInBounds_toArray, List.set_cons_zero, List.set_cons_succ])
    refine wpAnyH_take (i := 3) (oi := { dst := some 24, op := Op.move (Operand.tmp 1), type := 37, pos := "ref.go:158", after := #[], guard := none }) (v := ?_) rfl (by kernel_rfl) (by kernel_rfl) (by kernel_rfl) (fun _ _ _ h => h) (Or.inl ⟨by rfl, ?_⟩) (by assumption) ?_
    rotate_left
    · intro w' hSw
      (try dsimp only at hSw)
      (try go_split_ands)
      go_simp
      try with_reducible rfl
    (try simp only [Act.put, List.setIfInBounds_toArray, List.set_cons_zero, List.set_cons_succ])
    refine wpAnyH_take (i := 4) (oi := { dst := some 25, op := Op.call { callee := Callee.builtin Builtin.len, args := #[Operand.tmp 24], argTypes := #[37] }, type := 3, pos := "ref.go:158", after := #[{ on := 3, ground := Ground.data }], guard := none }) (v := ?_) rfl (by kernel_rfl) (by kernel_rfl) (by kernel_rfl) (fun _ _ _ h => h) (Or.inl ⟨by rfl, ?_⟩) (by assumption) ?_
    rotate_left
    · intro w' hSw
      (try dsimp only at hSw)
      (try go_split_ands)
      go_simp
      try with_reducible rfl
    (try simp only [Act.put, List.setIfInBounds_toArray, List.set_cons_zero, List.set_cons_succ])
    refine wpAnyH_ready (rs := [2, 5]) (by kernel_rfl) (by simp) ?_
    refine (AllReadyH.cons (o := { dst := some 23, op := Op.makeSlice 88 (Operand.tmp 22) (Operand.tmp 22), type := 88, pos := "ref.go:158", after := #[{ on := 1, ground := Ground.data }, { on := 1, ground := Ground.data }], guard := none }) rfl (fun K hK => ?_) (AllReadyH.cons (o := { dst := some 26, op := Op.makeSlice 88 (Operand.tmp 25) (Operand.tmp 25), type := 88, pos := "ref.go:158", after := #[{ on := 4, ground := Ground.data }, { on := 4, ground := Ground.data }], guard := none }) rfl (fun K hK => ?_) AllReadyH.nil))
    · have hmk := pa_makeBool ls.length (by omega) wd
      go_simp
      clear hmk
      obtain ⟨wa, hX⟩ : ∃ z, z = wd.alloc (.cells (cV ls.length fun _ => .bool false) 4) := ⟨_, rfl⟩
      have hb_wa : Below wd.heap.size wd wa := by rw [hX]; exact (Below.refl _ _).alloc (Nat.le_refl _) _
      have hh_wa : wa.heap[wd.heap.size]? = some (.cells (cV ls.length fun _ => .bool false) 4 (0, 0)) := by rw [hX]; exact heap_alloc_new _ _
      rw [← hX]
      clear hX
      refine hK.out _ _ trivial (fun hHeld => ?_)
      clear hK K
      (try simp only [Act.put, List.setIfInBounds_toArray, List.set_cons_zero, List.set_cons_succ])
      refine wpAnyH_take (i := 6) (oi := { dst := some 11, op := Op.assign (Operand.tmp 23), type := 88, pos := "ref.go:158", after := #[{ on := 2, ground := Ground.data }, { on := 0, ground := Ground.phase }, { on := 1, ground := Ground.phase }, { on := 2, ground := Ground.phase }, { on := 3, ground := Ground.textOnly Departure.lateStores }, { on := 4, ground := Ground.textOnly Departure.lateStoresUnsure }, { on := 5, ground := Ground.textOnly Departure.lateStoresUnsure }], guard := none }) (v := ?_) rfl (by kernel_rfl) (by kernel_rfl) (by kernel_rfl) (fun _ _ _ h => h) (Or.inl ⟨by rfl, ?_⟩) (by assumption) ?_
      rotate_left
      · intro w' hSw
        (try dsimp only at hSw)
        (try go_split_ands)
        go_simp
        try with_reducible rfl
      (try simp only [Act.put, List.setIfInBounds_toArray, List.set_cons_zero, List.set_cons_succ])
      refine wpAnyH_ready (rs := [5]) (by kernel_rfl) (by simp) ?_
      refine (AllReadyH.cons (o := { dst := some 26, op := Op.makeSlice 88 (Operand.tmp 25) (Operand.tmp 25), type := 88, pos := "ref.go:158", after := #[{ on := 4, ground := Ground.data }, { on := 4, ground := Ground.data }], guard := none }) rfl (fun K hK => ?_) AllReadyH.nil)
      have hmk := pa_makeBool rs.length (by omega) wa
      go_simp
      clear hmk
      obtain ⟨wb, hX⟩ : ∃ z, z = wa.alloc (.cells (cV rs.length fun _ => .bool false) 4) := ⟨_, rfl⟩
      have hb_wb : Below wa.heap.size wa wb := by rw [hX]; exact (Below.refl _ _).alloc (Nat.le_refl _) _
      have hh_wb : wb.heap[wa.heap.size]? = some (.cells (cV rs.length fun _ => .bool false) 4 (0, 0)) := by rw [hX]; exact heap_alloc_new _ _
      rw [← hX]
      clear hX
      refine hK.out _ _ trivial (fun hHeld => ?_)
      clear hK K
      (try simp only [Act.put, List.setIfInBounds_toArray, List.set_cons_zero, List.set_cons_succ])
      refine wpAnyH_take (i := 7) (oi := { dst := some 12, op := Op.assign (Operand.tmp 26), type := 88, pos := "ref.go:158", after := #[{ on := 5, ground := Ground.data }, { on := 6, ground := Ground.chain }, { on := 0, ground := Ground.phase }, { on := 1, ground := Ground.phase }, { on := 2, ground := Ground.phase }, { on := 3, ground := Ground.phase }, { on := 4, ground := Ground.phase }, { on := 5, ground := Ground.phase }, { on := 6, ground := Ground.phase }], guard := none }) (v := ?_) rfl (by kernel_rfl) (by kernel_rfl) (by kernel_rfl) (fun _ _ _ h => h) (Or.inl ⟨by rfl, ?_⟩) (by assumption) ?_
      rotate_left
      · intro w' hSw
        (try dsimp only at hSw)
        (try go_split_ands)
        go_simp
        try with_reducible rfl
      (try simp only [Act.put, List.setIfInBounds_toArray, List.set_cons_zero, List.set_cons_succ])
      refine wpAnyH_done (by kernel_rfl) ?_ _
      go_wp2_with fail
      go_meet
      have hs1 := hb_wa.size
      have hlt := block_lt hh_wa
      have hwd := HWD.out.size
      exact ⟨wd.heap.size, wa.heap.size, rfl, rfl, Lib.hid ⟨HWD.out.trans ((hb_wa.trans (hb_wb.mono hb_wa.size)).mono HWD.out.size), by omega, by omega, by omega, blk_keep hh_wa hb_wb, hh_wb⟩⟩
    · have hmk := pa_makeBool rs.length (by omega) wd
      go_simp
      clear hmk
      obtain ⟨wa, hX⟩ : ∃ z, z = wd.alloc (.cells (cV rs.length fun _ => .bool false) 4) := ⟨_, rfl⟩
      have hb_wa : Below wd.heap.size wd wa := by rw [hX]; exact (Below.refl _ _).alloc (Nat.le_refl _) _
      have hh_wa : wa.heap[wd.heap.size]? = some (.cells (cV rs.length fun _ => .bool false) 4 (0, 0)) := by rw [hX]; exact heap_alloc_new _ _
      rw [← hX]
      clear hX
      refine hK.out _ _ trivial (fun hHeld => ?_)
      clear hK K
      (try simp only [Act.put, List.setIfInBounds_toArray, List.set_cons_zero, List.set_cons_succ])
      refine wpAnyH_ready (rs := [2]) (by kernel_rfl) (by simp) ?_
      refine (AllReadyH.cons (o := { dst := some 23, op := Op.makeSlice 88 (Operand.tmp 22) (Operand.tmp 22), type := 88, pos := "ref.go:158", after := #[{ on := 1, ground := Ground.data }, { on := 1, ground := Ground.data }], guard := none }) rfl (fun K hK => ?_) AllReadyH.nil)
      have hmk := pa_makeBool ls.length (by omega) wa
      go_simp
      clear hmk
      obtain ⟨wb, hX⟩ : ∃ z, z = wa.alloc (.cells (cV ls.length fun _ => .bool false) 4) := ⟨_, rfl⟩
      have hb_wb : Below wa.heap.size wa wb := by rw [hX]; exact (Below.refl _ _).alloc (Nat.le_refl _) _
      have hh_wb : wb.heap[wa.heap.size]? = some (.cells (cV ls.length fun _ => .bool false) 4 (0, 0)) := by rw [hX]; exact heap_alloc_new _ _
      rw [← hX]
      clear hX
      refine hK.out _ _ trivial (fun hHeld => ?_)
      clear hK K
      (try simp only [Act.put, List.setIfInBounds_toArray, List.set_cons_zero, List.set_cons_succ])
      refine wpAnyH_take (i := 6) (oi := { dst := some 11, op := Op.assign (Operand.tmp 23), type := 88, pos := "ref.go:158", after := #[{ on := 2, ground := Ground.data }, { on := 0, ground := Ground.phase }, { on := 1, ground := Ground.phase }, { on := 2, ground := Ground.phase }, { on := 3, ground := Ground.textOnly Departure.lateStores }, { on := 4, ground := Ground.textOnly Departure.lateStoresUnsure }, { on := 5, ground := Ground.textOnly Departure.lateStoresUnsure }], guard := none }) (v := ?_) rfl (by kernel_rfl) (by kernel_rfl) (by kernel_rfl) (fun _ _ _ h => h) (Or.inl ⟨by rfl, ?_⟩) (by assumption) ?_
      rotate_left
      · intro w' hSw
        (try dsimp only at hSw)
        (try go_split_ands)
        go_simp
        try with_reducible rfl
      (try simp only [Act.put, List.setIfInBounds_toArray, List.set_cons_zero, List.set_cons_succ])
      refine wpAnyH_take (i := 7) (oi := { dst := some 12, op := Op.assign (Operand.tmp 26), type := 88, pos := "ref.go:158", after := #[{ on := 5, ground := Ground.data }, { on := 6, ground := Ground.chain }, { on := 0, ground := Ground.phase }, { on := 1, ground := Ground.phase }, { on := 2, ground := Ground.phase }, { on := 3, ground := Ground.phase }, { on := 4, ground := Ground.phase }, { on := 5, ground := Ground.phase }, { on := 6, ground := Ground.phase }], guard := none }) (v := ?_) rfl (by kernel_rfl) (by kernel_rfl) (by kernel_rfl) (fun _ _ _ h => h) (Or.inl ⟨by rfl, ?_⟩) (by assumption) ?_
      rotate_left
      · intro w' hSw
        (try dsimp only at hSw)
        (try go_split_ands)
        go_simp
        try with_reducible rfl
      (try simp only [Act.put, List.setIfInBounds_toArray, List.set_cons_zero, List.set_cons_succ])
      refine wpAnyH_done (by kernel_rfl) ?_ _
      go_wp2_with fail
      go_meet
      have hs1 := hb_wa.size
      have hlt := block_lt hh_wa
      have hwd := HWD.out.size
      exact ⟨wa.heap.size, wd.heap.size, rfl, rfl, Lib.hid ⟨HWD.out.trans ((hb_wa.trans (hb_wb.mono hb_wa.size)).mono HWD.out.size), by omega, by omega, by omega, hh_wb, blk_keep hh_wa hb_wb⟩⟩
  case rest =>
  obtain ⟨pl, pr, rfl, rfl, HV⟩ := hcut
  have HF0 : Hid (∀ j : Nat, (j : Int) ∈ ka.take 0 → (fun _ => false) j = true) := Lib.hid (by simp)
  go_wp2_with fail
  go_loopg [29] ka.length (fun gk x wr => ∃ (k : Nat) (f : Nat → Bool), x = .int .i64 k ∧ k + gk = ka.length ∧ Hid (∀ j : Nat, (j : Int) ∈ ka.take k → f j = true) ∧ Hid (V2 wm pl pr ls.length rs.length f (fun _ => false) wr))
  case atStart => exact ⟨0, _, rfl, by omega, HF0, HV⟩
  case round =>
    obtain ⟨k, f, rfl, hkk, HF, HI⟩ := hrel
    by_cases hlt : k < ka.length
    · obtain ⟨gk', rfl⟩ : ∃ m, gk = m + 1 := ⟨gk - 1, by omega⟩
      have hlt' : (k : Int) < ka.length := by omega
      have hk0 : (0 : Int) ≤ k := by omega
      have HKW := Lib.hid (HK.out.below HI.out.b)
      obtain ⟨b, off, hab, hb, d0⟩ := HKW.out.at_ hlt
      have hxr := HCV.out.ra ka[k] (List.getElem_mem _)
      have HTI := Lib.hid (fun x => take_in hlt (x := x))
      have hprev : ∀ k' : Nat, k = k' + 1 → wr.cell? ⟨b, off + k', none⟩ = some (.int .i64 (ka.getD k' 0)) ∧ ka.getD k' 0 < ka[k] := fun k' e => by
        subst e
        obtain ⟨b', off', hab', hb', d'⟩ := HKW.out.at_ (show k' < ka.length by omega)
        rw [hab] at hab'
        simp only [Option.some.injEq, Addr.mk.injEq, and_true] at hab'
        obtain ⟨rfl, rfl⟩ := hab'
        rw [List.getD_eq_getElem?_getD, List.getElem?_eq_getElem (show k' < ka.length by omega)]
        exact ⟨d', up_step HCV.out.ua hlt⟩
      obtain ⟨x, hx⟩ : ∃ z, z = ka[k] := ⟨_, rfl⟩
      rw [← hx] at d0 hxr HTI hprev
      subst hab
      obtain ⟨m, rfl⟩ := Int.eq_ofNat_of_zero_le hxr.1
      have hmL : m < ls.length := by omega
      have hm' : (m : Int) < ls.length := by omega
      have hm0 : (0 : Int) ≤ m := by omega
      have a0 : decide ((m : Int) < 0) = false := decide_eq_false (by omega)
      have a1 : decide ((ls.length : Int) ≤ m) = false := decide_eq_false (by omega)
      obtain ⟨e0, e1, e2⟩ := HI.out.c1 hmL
      have HN := Lib.hid (HI.out.set1 m true)
      have HFN : Hid (∀ j : Nat, (j : Int) ∈ ka.take (k + 1) → fset f m true j = true) := Lib.hid (fun j hj => by
        unfold fset
        by_cases e : j = m
        · rw [if_pos e]
        · rw [if_neg e]
          rcases HTI.out _ hj with h | h
          · exact HF.out j h
          · exact absurd (by omega) e)
      clear hx HF HTI HI HKW
      by_cases hz : 0 < k
      · obtain ⟨k', rfl⟩ : ∃ k', k = k' + 1 := ⟨k - 1, by omega⟩
        obtain ⟨p0, p1⟩ := hprev k' rfl
        obtain ⟨pv, hpv⟩ : ∃ z, z = ka.getD k' 0 := ⟨_, rfl⟩
        rw [← hpv] at p0 p1
        have a3 : decide ((m : Int) ≤ pv) = false := decide_eq_false (by omega)
        have v1 : IntKind.i64.wrap (k' : Int) = (k' : Int) := IntWalk.i64_in _ (by omega)
        have v2 : IntKind.i64.wrap ((k' : Int) + 1 - 1) = (k' : Int) := by rw [Int.add_sub_cancel]; exact v1
        have hk1 : (k' : Int) < ka.length := by omega
        have hk2 : (0 : Int) ≤ k' := by omega
        clear hprev hpv p1 hz
        go_wp2
        go_roundg gk'
        case measure => exact Nat.lt_succ_self _
        case rel => exact ⟨k' + 1 + 1, _, by go_num, by omega, HFN, HN⟩
      · obtain rfl : k = 0 := by omega
        rw [Nat.add_zero] at d0
        clear hprev hz
        go_wp2
        go_roundg gk'
        case measure => exact Nat.lt_succ_self _
        case rel => exact ⟨0 + 1, _, by first | rfl | go_num, by omega, HFN, HN⟩
    · obtain ⟨rfl, rfl⟩ : gk = 0 ∧ k = ka.length := by omega
      have HFA : Hid (∀ j : Nat, (j : Int) ∈ ka → f j = true) := Lib.hid (fun j hj => HF.out j (by rw [List.take_length]; exact hj))
      have HG0 : Hid (∀ j : Nat, (j : Int) ∈ kb.take 0 → (fun _ => false) j = true) := Lib.hid (by simp)
      clear HF HV HF0
      go_wp2_with fail
      go_loopg [61] kb.length (fun gk x wr => ∃ (k : Nat) (g : Nat → Bool), x = .int .i64 k ∧ k + gk = kb.length ∧ Hid (∀ j : Nat, (j : Int) ∈ kb.take k → g j = true) ∧ Hid (V2 wm pl pr ls.length rs.length f g wr))
      case atStart => exact ⟨0, _, rfl, by omega, HG0, HI⟩
      case round =>
        obtain ⟨k, g, rfl, hkk, HG, HJ⟩ := hrel
        by_cases hlt : k < kb.length
        · obtain ⟨gk', rfl⟩ : ∃ m, gk = m + 1 := ⟨gk - 1, by omega⟩
          have hlt' : (k : Int) < kb.length := by omega
          have hk0 : (0 : Int) ≤ k := by omega
          have HKW := Lib.hid (HK2.out.below HJ.out.b)
          obtain ⟨b, off, hab, hb, d0⟩ := HKW.out.at_ hlt
          have hxr := HCV.out.rb kb[k] (List.getElem_mem _)
          have HTI := Lib.hid (fun x => take_in hlt (x := x))
          have hprev : ∀ k' : Nat, k = k' + 1 → wr.cell? ⟨b, off + k', none⟩ = some (.int .i64 (kb.getD k' 0)) ∧ kb.getD k' 0 < kb[k] := fun k' e => by
            subst e
            obtain ⟨b', off', hab', hb', d'⟩ := HKW.out.at_ (show k' < kb.length by omega)
            rw [hab] at hab'
            simp only [Option.some.injEq, Addr.mk.injEq, and_true] at hab'
            obtain ⟨rfl, rfl⟩ := hab'
            rw [List.getD_eq_getElem?_getD, List.getElem?_eq_getElem (show k' < kb.length by omega)]
            exact ⟨d', up_step HCV.out.ub hlt⟩
          obtain ⟨x, hx⟩ : ∃ z, z = kb[k] := ⟨_, rfl⟩
          rw [← hx] at d0 hxr HTI hprev
          subst hab
          obtain ⟨m, rfl⟩ := Int.eq_ofNat_of_zero_le hxr.1
          have hmL : m < rs.length := by omega
          have hm' : (m : Int) < rs.length := by omega
          have hm0 : (0 : Int) ≤ m := by omega
          have a0 : decide ((m : Int) < 0) = false := decide_eq_false (by omega)
          have a1 : decide ((rs.length : Int) ≤ m) = false := decide_eq_false (by omega)
          obtain ⟨e0, e1, e2⟩ := HJ.out.c2 hmL
          have HN := Lib.hid (HJ.out.set2 m true)
          have HFN : Hid (∀ j : Nat, (j : Int) ∈ kb.take (k + 1) → fset g m true j = true) := Lib.hid (fun j hj => by
            unfold fset
            by_cases e : j = m
            · rw [if_pos e]
            · rw [if_neg e]
              rcases HTI.out _ hj with h | h
              · exact HG.out j h
              · exact absurd (by omega) e)
          clear hx HG HTI HJ HKW HI
          by_cases hz : 0 < k
          · obtain ⟨k', rfl⟩ : ∃ k', k = k' + 1 := ⟨k - 1, by omega⟩
            obtain ⟨p0, p1⟩ := hprev k' rfl
            obtain ⟨pv, hpv⟩ : ∃ z, z = kb.getD k' 0 := ⟨_, rfl⟩
            rw [← hpv] at p0 p1
            have a3 : decide ((m : Int) ≤ pv) = false := decide_eq_false (by omega)
            have v1 : IntKind.i64.wrap (k' : Int) = (k' : Int) := IntWalk.i64_in _ (by omega)
            have v2 : IntKind.i64.wrap ((k' : Int) + 1 - 1) = (k' : Int) := by rw [Int.add_sub_cancel]; exact v1
            have hk1 : (k' : Int) < kb.length := by omega
            have hk2 : (0 : Int) ≤ k' := by omega
            clear hprev hpv p1 hz
            go_wp2
            go_roundg gk'
            case measure => exact Nat.lt_succ_self _
            case rel => exact ⟨k' + 1 + 1, _, by go_num, by omega, HFN, HN⟩
          · obtain rfl : k = 0 := by omega
            rw [Nat.add_zero] at d0
            clear hprev hz
            go_wp2
            go_roundg gk'
            case measure => exact Nat.lt_succ_self _
            case rel => exact ⟨0 + 1, _, by first | rfl | go_num, by omega, HFN, HN⟩
        · obtain ⟨rfl, rfl⟩ : gk = 0 ∧ k = kb.length := by omega
          have HGA : Hid (∀ j : Nat, (j : Int) ∈ kb → g j = true) := Lib.hid (fun j hj => HG.out j (by rw [List.take_length]; exact hj))
          have HM3 := Lib.hid (HM.out.step HJ.out.b)
          have k0 := HM3.out.cell 0
          have k1 := HM3.out.cell 1
          have k2 := HM3.out.cell 2
          have k3 := HM3.out.cell 3
          have k4 := HM3.out.cell 4
          have k5 := HM3.out.cell 5
          have k6 := HM3.out.cell 6
          have k7 := HM3.out.cell 7
          have l0 := HM3.out.head_lt
          simp at k0 k1 k2 k3 k4 k5 k6 k7
          clear HG HI HG0
          go_wp2_with fail
          refine (HTA.out _ HM3.out.b).mono ?_
          rintro e w7 ⟨xt, cx, rfl, ht, hb7⟩
          have HT := Lib.hid ht
          have HV7 := Lib.hid (HJ.out.step hb7)
          have HBE := Lib.hid (HM3.out.b.trans (hb7.mono HM3.out.b.size))
          clear ht hb7 k0 k1 k2 k3 k4 k5 k6 k7 l0 HTA HM3 HJ
          go_wp2_with fail
          go_loopg [96] ls.length (fun gk x wr => ∃ i : Nat, x = .int .i64 i ∧ i + gk = ls.length ∧ wr = w7)
          case atStart => exact ⟨0, rfl, by omega, rfl⟩
          case round =>
            obtain ⟨i, rfl, hik, rfl⟩ := hrel
            by_cases hi : i < ls.length
            · obtain ⟨gk', rfl⟩ : ∃ m, gk = m + 1 := ⟨gk - 1, by omega⟩
              have hi' : (i : Int) < ls.length := by omega
              have hi0 : (0 : Int) ≤ i := by omega
              obtain ⟨B, mi, rfl, l1, d1, l2, hd⟩ := HT.out i hi
              have HD := Lib.hid hd
              clear hd
              go_wp2_with fail
              go_loopg [103] rs.length (fun gl x wq => ∃ j : Nat, x = .int .i64 j ∧ j + gl = rs.length ∧ wq = wr)
              case atStart => exact ⟨0, rfl, by omega, rfl⟩
              case round =>
                obtain ⟨j, rfl, hjk, rfl⟩ := hrel
                by_cases hj : j < rs.length
                · obtain ⟨gl', rfl⟩ : ∃ m, gk = m + 1 := ⟨gk - 1, by omega⟩
                  have hj' : (j : Int) < rs.length := by omega
                  have hj0 : (0 : Int) ≤ j := by omega
                  have d2 := HD.out j hj
                  obtain ⟨e0, -, e2⟩ := HV7.out.c1 hi
                  obtain ⟨e3, -, e5⟩ := HV7.out.c2 hj
                  have hco := HCV.out.cov i j hi hj
                  have hfa := HFA.out i
                  have hga := HGA.out j
                  obtain ⟨c, hc⟩ : ∃ z, z = CF i j := ⟨_, rfl⟩
                  obtain ⟨fv, hfv⟩ : ∃ z, z = f i := ⟨_, rfl⟩
                  obtain ⟨gv, hgv⟩ : ∃ z, z = g j := ⟨_, rfl⟩
                  rw [← hc] at d2 hco
                  rw [← hfv] at e0 hfa
                  rw [← hgv] at e3 hga
                  clear hc hfv hgv
                  by_cases hc0 : c < 0
                  · have a0 : decide (0 ≤ c) = false := decide_eq_false (by omega)
                    clear hco hfa hga hc0
                    go_wp2
                    go_roundg gl'
                    case measure => exact Nat.lt_succ_self _
                    case rel => exact ⟨j + 1, by go_num, by omega, rfl⟩
                  · have a0 : decide (0 ≤ c) = true := decide_eq_true (by omega)
                    cases fv with
                    | true =>
                      clear hco hfa hga hc0
                      go_wp2
                      go_roundg gl'
                      case measure => exact Nat.lt_succ_self _
                      case rel => exact ⟨j + 1, by go_num, by omega, rfl⟩
                    | false =>
                      have hgt : gv = true := by
                        rcases hco (by omega) with h | h
                        · exact absurd (hfa h) (by simp)
                        · exact hga h
                      subst hgt
                      clear hco hfa hga hc0
                      go_wp2
                      go_roundg gl'
                      case measure => exact Nat.lt_succ_self _
                      case rel => exact ⟨j + 1, by go_num, by omega, rfl⟩
                · obtain ⟨rfl, rfl⟩ : gk = 0 ∧ j = rs.length := by omega
                  clear HD
                  go_wp2
                  go_roundg gk'
                  case measure => exact Nat.lt_succ_self _
                  case rel => exact ⟨i + 1, by go_num, by omega, rfl⟩
            · obtain ⟨rfl, rfl⟩ : gk = 0 ∧ i = ls.length := by omega
              go_wp2
              go_ret
              exact ⟨rfl, HBE.out⟩

end Go.Proofs.Ytchhadkmemckbaa

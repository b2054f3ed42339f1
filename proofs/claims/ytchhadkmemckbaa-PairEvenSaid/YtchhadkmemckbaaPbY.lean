/- Pairs: Even. -/
import Derived.Test.YtchhadkmemckbaaPbX
import Derived.Test.YtchhadkmemckbaaPbU
namespace Go.Proofs.Ytchhadkmemckbaa
open Go.RowKit
set_option linter.unusedSimpArgs false
set_option linter.unusedVariables false

set_option maxRecDepth 100000 in
theorem evenF_any (po pc pt L R : Nat) (hL : L ≤ 100) (hR : R ≤ 100) (C : Nat → Nat → Int) (hC : ∀ i j, i < L → j < R → -1 ≤ C i j) (sz : Int) (c : Int) (w : World) (h : TabC w pt L R C) (ho : w.cell? ⟨po, 0, none⟩ = some (.pointer (some ⟨pt, 0, none⟩))) (hc : w.cell? ⟨pc, 0, none⟩ = some (.int .i64 sz)) :
    Calls Try.prog 69 #[.int .i64 c, .pointer (some ⟨po, 0, none⟩), .pointer (some ⟨pc, 0, none⟩)] w fun e w' => e = .returned (.bool (mtf C L R c == sz)) ∧ Below w.heap.size w w' := by
  have HMO := Lib.hid (fun w' (hb : Below w.heap.size w w') => most_any pt L R hL hR C c w' (h.below hb))
  rw [mtf_okM hC] at HMO
  have lpo := cell_block_lt ho
  have lpc := cell_block_lt hc
  have HS : Hid (∀ w', Below w.heap.size w w' → w'.cell? ⟨po, 0, none⟩ = some (.pointer (some ⟨pt, 0, none⟩)) ∧ w'.cell? ⟨pc, 0, none⟩ = some (.int .i64 sz)) := Lib.hid (fun w' hb => ⟨(hb.cell (p := ⟨po, 0, none⟩) lpo).trans ho, (hb.cell (p := ⟨pc, 0, none⟩) lpc).trans hc⟩)
  obtain ⟨f, hf⟩ : ∃ f, f = mtf C L R c := ⟨_, rfl⟩
  rw [← hf] at HMO ⊢
  clear hf h ho hc hC lpo lpc
  go_enter Try.func69, Try.ntmps69
  go_upto_region 1 with fail
  refine wp_region_held_drew (S := fun w' => w'.cell? ⟨po, 0, none⟩ = some (.pointer (some ⟨pt, 0, none⟩)) ∧ w'.cell? ⟨pc, 0, none⟩ = some (.int .i64 sz)) (by kernel_rfl) (HS.out _ (Below.refl _ _).drew) (fun hHeld => ?_)
  refine wpAnyH_take (i := 0) (oi := { dst := some 5, op := Op.load 72 (Operand.tmp 1), type := 72, pos := "most.go:68", after := #[], guard := none }) (v := ?_) rfl (by kernel_rfl) (by kernel_rfl) (by kernel_rfl) (fun _ _ _ h => h) (Or.inl ⟨by rfl, ?_⟩) (by assumption) ?_
  rotate_left
  · intro w' hSw
    (try dsimp only at hSw)
    (try go_split_ands)
    go_simp
    try with_reducible rfl
  (try simp only [Act.put, List.setIfInBounds_toArray, List.set_cons_zero, List.set_cons_succ])
  refine wpAnyH_take (i := 1) (oi := { dst := some 6, op := Op.move (Operand.tmp 0), type := 3, pos := "most.go:68", after := #[], guard := none }) (v := ?_) rfl (by kernel_rfl) (by kernel_rfl) (by kernel_rfl) (fun _ _ _ h => h) (Or.inl ⟨by rfl, ?_⟩) (by assumption) ?_
  rotate_left
  · intro w' hSw
    (try dsimp only at hSw)
    (try go_split_ands)
    go_simp
    try with_reducible rfl
  (try simp only [Act.put, List.setIfInBounds_toArray, List.set_cons_zero, List.set_cons_succ])
  refine wpAnyH_take (i := 3) (oi := { dst := some 8, op := Op.load 3 (Operand.tmp 2), type := 3, pos := "most.go:68", after := #[], guard := none }) (v := ?_) rfl (by kernel_rfl) (by kernel_rfl) (by kernel_rfl) (fun _ _ _ h => h) (Or.inl ⟨by rfl, ?_⟩) (by assumption) ?_
  rotate_left
  · intro w' hSw
    (try dsimp only at hSw)
    (try go_split_ands)
    go_simp
    try with_reducible rfl
  (try simp only [Act.put, List.setIfInBounds_toArray, List.set_cons_zero, List.set_cons_succ])
  refine wpAnyH_ready (rs := [2]) (by kernel_rfl) (by simp) ?_
  refine (AllReadyH.cons (o := { dst := some 7, op := Op.call { callee := Callee.value (Operand.func 52), args := #[Operand.tmp 5, Operand.tmp 6], argTypes := #[72, 3] }, type := 3, pos := "most.go:68", after := #[{ on := 0, ground := Ground.data }, { on := 1, ground := Ground.data }], guard := none }) rfl (fun K hK => ?_) AllReadyH.nil)
  go_simp
  go_at_call 52
  with_reducible (refine (HMO.out _ (Below.refl _ _).drew).mono ?_)
  rintro e w5 ⟨rfl, hb5⟩
  have HB5 := Lib.hid ((Below.refl w.heap.size w).drew.trans (hb5.mono (Below.refl w.heap.size w).drew.size))
  clear hb5
  (try go_wp2_with fail)
  refine hK.out _ _ (HS.out _ HB5.out) (fun hHeld => ?_)
  clear hK K
  (try simp only [Act.put, List.setIfInBounds_toArray, List.set_cons_zero, List.set_cons_succ])
  refine wpAnyH_take (i := 4) (oi := { dst := some 9, op := Op.binOp BinOp.eql 3 (Operand.tmp 7) (Operand.tmp 8) 3, type := 4, pos := "most.go:68", after := #[{ on := 2, ground := Ground.data }, { on := 3, ground := Ground.data }], guard := none }) (v := ?_) rfl (by kernel_rfl) (by kernel_rfl) (by kernel_rfl) (fun _ _ _ h => h) (Or.inl ⟨by rfl, ?_⟩) (by assumption) ?_
  rotate_left
  · intro w' hSw
    (try dsimp only at hSw)
    (try go_split_ands)
    go_simp
    try with_reducible rfl
  (try simp only [Act.put, List.setIfInBounds_toArray, List.set_cons_zero, List.set_cons_succ])
  refine wpAnyH_take (i := 5) (oi := { dst := some 4, op := Op.assign (Operand.tmp 9), type := 4, pos := "most.go:68", after := #[{ on := 4, ground := Ground.data }, { on := 2, ground := Ground.chain }, { on := 0, ground := Ground.phase }, { on := 1, ground := Ground.phase }, { on := 2, ground := Ground.phase }, { on := 3, ground := Ground.phase }, { on := 4, ground := Ground.phase }], guard := none }) (v := ?_) rfl (by kernel_rfl) (by kernel_rfl) (by kernel_rfl) (fun _ _ _ h => h) (Or.inl ⟨by rfl, ?_⟩) (by assumption) ?_
  rotate_left
  · intro w' hSw
    (try dsimp only at hSw)
    (try go_split_ands)
    go_simp
    try with_reducible rfl
  (try simp only [Act.put, List.setIfInBounds_toArray, List.set_cons_zero, List.set_cons_succ])
  refine wpAnyH_done (by kernel_rfl) ?_ _
  go_wp2_with fail
  go_ret
  exact ⟨rfl, HB5.out⟩

set_option maxRecDepth 100000 in
set_option maxHeartbeats 1600000 in
theorem search_any (po pc : Nat) (f : Int → Int) (sz : Int) (hN : f 4000000 = sz) (hm : ∀ c d : Int, c ≤ d → f c ≤ f d) (w : World)
    (hcl : ∀ w', Below w.heap.size w w' → ∀ c : Int, Calls Try.prog 69 #[.int .i64 c, .pointer (some ⟨po, 0, none⟩), .pointer (some ⟨pc, 0, none⟩)] w' fun e w'' => e = .returned (.bool (f c == sz)) ∧ Below w'.heap.size w' w'') :
    Calls Try.prog 68 #[.int .i64 4000000, .func (.func 69) #[] #[.pointer (some ⟨po, 0, none⟩), .pointer (some ⟨pc, 0, none⟩)]] w fun e w' => (∃ v : Int, e = .returned (.int .i64 v) ∧ (0 ≤ v ∧ v ≤ 4000000 ∧ f v = sz ∧ ∀ c, 0 ≤ c → c < v → f c ≠ sz)) ∧ Below w.heap.size w w' := by
  have HCL := Lib.hid hcl
  have HMN := Lib.hid (And.intro hN hm)
  clear hcl hN hm
  go_enter Try.func68, Try.ntmps68
  go_wp2_with fail
  go_loopg [5, 6] 4000001 (fun gk a b wr => ∃ i j : Nat, a = .int .i64 i ∧ b = .int .i64 j ∧ i ≤ j ∧ j ≤ 4000000 ∧ j < gk + i ∧ Hid (f j = sz ∧ ∀ c : Int, 0 ≤ c → c < i → f c ≠ sz) ∧ Hid (Below w.heap.size w wr))
  case atStart => exact ⟨0, 4000000, rfl, rfl, by omega, by omega, by omega, Lib.hid ⟨HMN.out.1, fun c h0 hc => by omega⟩, Lib.hid (Below.refl _ _)⟩
  case round =>
    obtain ⟨i, j, rfl, rfl, hij, hj, hg, HF, HB⟩ := hrel
    by_cases hlt : i < j
    · obtain ⟨gk', rfl⟩ : ∃ m, gk = m + 1 := ⟨gk - 1, by omega⟩
      have hlt' : (i : Int) < j := by omega
      go_upto_region 3 with fail
      go_cut [7] (fun s7 wx => (∃ h : Nat, s7 = .int .i64 h ∧ Hid (h = (i + j) / 2)) ∧ wx = wr)
      case first =>
        go_wp2_with fail
        go_meet
        refine ⟨⟨(i + j) / 2, ?_, Lib.hid rfl⟩, rfl⟩
        simp
      case rest =>
      obtain ⟨⟨h, rfl, HH⟩, rfl⟩ := hcut
      have HC := Lib.hid (HCL.out _ HB.out h)
      obtain ⟨q, hq⟩ : ∃ q, q = (f h == sz) := ⟨_, rfl⟩
      rw [← hq] at HC
      have HQ := Lib.hid hq
      clear hq
      go_wp2_with fail
      refine HC.out.mono ?_
      rintro e w2 ⟨rfl, hb2⟩
      have HB2 := Lib.hid (HB.out.trans (hb2.mono HB.out.size))
      clear hb2 HC HB
      have hh := HH.out
      cases q with
      | false =>
        have hne : f h ≠ sz := by have := HQ.out; simpa using this.symm
        have HF2 : Hid (f j = sz ∧ ∀ c : Int, 0 ≤ c → c < (h + 1 : Nat) → f c ≠ sz) := Lib.hid ⟨HF.out.1, fun c h0 hc e => by
          have h1 := HMN.out.2 c h (by omega)
          have h2 := HMN.out.2 h j (by omega)
          have h3 := HF.out.1
          exact hne (by omega)⟩
        have v1 : IntKind.i64.wrap ((h : Int) + 1) = ((h + 1 : Nat) : Int) := by rw [IntWalk.i64_in _ (by omega)]; simp
        have hgg : j < gk' + (h + 1) := by omega
        have hij2 : h + 1 ≤ j := by omega
        clear hne HF HQ hh HH hg hij
        go_wp2
        go_roundg gk'
        case measure => exact Nat.lt_succ_self _
        case rel => exact ⟨h + 1, j, by first | rfl | go_num, rfl, hij2, hj, hgg, HF2, HB2⟩
      | true =>
        have he : f h = sz := by have := HQ.out; simpa using this.symm
        have HF2 : Hid (f h = sz ∧ ∀ c : Int, 0 ≤ c → c < i → f c ≠ sz) := Lib.hid ⟨he, HF.out.2⟩
        have hgg : h < gk' + i := by omega
        have hih : i ≤ h := by omega
        have hj2 : h ≤ 4000000 := by omega
        clear he HF HQ hh HH hg hij
        go_wp2
        go_roundg gk'
        case measure => exact Nat.lt_succ_self _
        case rel => exact ⟨i, h, rfl, rfl, hih, hj2, hgg, HF2, HB2⟩
    · obtain rfl : i = j := by omega
      go_wp2
      go_ret
      exact ⟨⟨i, rfl, by omega, by omega, HF.out.1, HF.out.2⟩, HB.out⟩


/-- What Even answers. -/
def EvA (ls rs : List Gl) (u : Ru) (v e : Int) : Prop := if sidB ls && sidB rs && ruB u then e = 0 ∧ IsEv (cosT ls rs u) ls.length rs.length v else v = 0 ∧ e = 2
theorem EvA.one {ls rs : List Gl} {u : Ru} {v e v' e' : Int} (h : EvA ls rs u v e) (h' : EvA ls rs u v' e') : v = v' ∧ e = e' := by
  unfold EvA at h h'
  split at h
  · rename_i h0
    rw [if_pos h0] at h'
    exact ⟨h.2.one h'.2, by omega⟩
  · rename_i h0
    rw [if_neg h0] at h'
    omega
theorem EvA_take (ls rs : List Gl) (u : Ru) (v e : Int) : EvA (ls.take 34) (rs.take 34) u v e = EvA ls rs u v e := by
  by_cases h1 : sidB ls = true
  · by_cases h2 : sidB rs = true
    · rw [take34 h1, take34 h2]
    · unfold EvA
      rw [sid34, sid34, show sidB rs = false by simpa using h2, if_neg (by simp), if_neg (by simp)]
  · unfold EvA
    rw [sid34, sid34, show sidB ls = false by simpa using h1, if_neg (by simp), if_neg (by simp)]

set_option maxRecDepth 100000 in
set_option maxHeartbeats 1600000 in
theorem pEven_any (a a2 : Option Addr) (cap cap2 : Nat) (ls rs : List Gl) (x0 x1 x2 x3 y0 y1 y2 y3 : Int) (hl1 : (ls.length : Int) ≤ 9223372036854775807) (hl2 : (rs.length : Int) ≤ 9223372036854775807) (w : World) (hl : RecS w a ls) (hr : RecS w a2 rs) :
    Calls Try.prog 35 #[.slice a ls.length cap, .slice a2 rs.length cap2, .agg #[.int .i64 x0, .int .i64 x1, .int .i64 x2, .int .i64 x3, .int .i64 y0, .int .i64 y1, .int .i64 y2, .int .i64 y3]] w fun e w' => (∃ v ee : Int, e = .returned (.tuple #[.int .i64 v, .int .i64 ee]) ∧ EvA ls rs ((x0, x1, x2, x3), (y0, y1, y2, y3)) v ee) ∧ Below w.heap.size w w' := by
  have HM := Lib.hid ((Mem.nil w).alloc_at (H := w.heap.size) rfl #[.int .i64 x0, .int .i64 x1, .int .i64 x2, .int .i64 x3, .int .i64 y0, .int .i64 y1, .int .i64 y2, .int .i64 y3] 32)
  have k0 := HM.out.cell 0
  have k1 := HM.out.cell 1
  have k2 := HM.out.cell 2
  have k3 := HM.out.cell 3
  have k4 := HM.out.cell 4
  have k5 := HM.out.cell 5
  have k6 := HM.out.cell 6
  have k7 := HM.out.cell 7
  simp at k0 k1 k2 k3 k4 k5 k6 k7
  obtain ⟨g0, hg0⟩ : ∃ g0, g0 = (sidB ls && sidB rs && ruB ((x0, x1, x2, x3), (y0, y1, y2, y3))) := ⟨_, rfl⟩
  cases g0 with
  | false =>
    have e : EvA ls rs ((x0, x1, x2, x3), (y0, y1, y2, y3)) 0 2 := by unfold EvA; rw [← hg0, if_neg (by simp)]; exact ⟨rfl, rfl⟩
    have HE0 := Lib.hid e
    have HL := Lib.hid (fun w' hb => lay_no a a2 cap cap2 ls rs x0 x1 x2 x3 y0 y1 y2 y3 hg0.symm hl1 hl2 w' (hl.below (w' := w') hb) (hr.below hb))
    clear e hg0 hl hr
    go_enter Try.func35, Try.ntmps35
    go_wp2_with fail
    refine (HL.out _ HM.out.b).mono ?_
    rintro e w1 ⟨rfl, hb1⟩
    have HB1 := Lib.hid ((HM.out.b.trans (hb1.mono HM.out.b.size)).trans (((Below.refl w1.heap.size w1).alloc (Nat.le_refl _) (.cells #[.pointer none] 72)).mono (HM.out.b.trans (hb1.mono HM.out.b.size)).size))
    clear hb1 HM k0 k1 k2 k3 k4 k5 k6 k7
    go_wp2
    go_ret2
    exact ⟨⟨_, _, rfl, HE0.out⟩, HB1.out⟩
  | true =>
  have hg1 : (sidB ls = true ∧ sidB rs = true) ∧ ruB ((x0, x1, x2, x3), (y0, y1, y2, y3)) = true := by simpa using hg0.symm
  obtain ⟨⟨h1, h2⟩, h3⟩ := hg1
  have n1 : ls.length ≤ 32 := by unfold sidB at h1; simp at h1; omega
  have n2 : rs.length ≤ 32 := by unfold sidB at h2; simp at h2; omega
  have hC : ∀ i j, i < ls.length → j < rs.length → -1 ≤ cosT ls rs ((x0, x1, x2, x3), (y0, y1, y2, y3)) i j := fun i j hi hj => by
    have e : cosT ls rs ((x0, x1, x2, x3), (y0, y1, y2, y3)) i j = costB ls[i] rs[j] ((x0, x1, x2, x3), (y0, y1, y2, y3)) := by unfold cosT; simp [List.getD_eq_getElem?_getD, hi, hj]
    rw [e]
    have o1 : allB ls = true := by unfold sidB at h1; simp at h1; exact h1.2
    have o2 : allB rs = true := by unfold sidB at h2; simp at h2; exact h2.2
    exact (costB_range (allB_iff.1 o1 i hi) (allB_iff.1 o2 j hj) h3).1
  have HL := Lib.hid (fun w' hb => lay_yes a a2 cap cap2 ls rs x0 x1 x2 x3 y0 y1 y2 y3 h1 h2 h3 w' (hl.below (w' := w') hb) (hr.below hb))
  have HEV : Hid (∀ v, IsEv (cosT ls rs ((x0, x1, x2, x3), (y0, y1, y2, y3))) ls.length rs.length v → EvA ls rs ((x0, x1, x2, x3), (y0, y1, y2, y3)) v 0) := Lib.hid (fun v h => by unfold EvA; rw [← hg0, if_pos rfl]; exact ⟨rfl, h⟩)
  obtain ⟨CF, hCF⟩ : ∃ z, z = cosT ls rs ((x0, x1, x2, x3), (y0, y1, y2, y3)) := ⟨_, rfl⟩
  rw [← hCF] at HL HEV hC
  have HCB := Lib.hid hC
  clear hCF hg0 h1 h2 h3 hl hr hC
  go_enter Try.func35, Try.ntmps35
  go_wp2_with fail
  refine (HL.out _ HM.out.b).mono ?_
  rintro e w1 ⟨pt, rfl, -, htab, hb1⟩
  have HB1 := Lib.hid (HM.out.b.trans (hb1.mono HM.out.b.size))
  have hm2 := (Mem.nil w1).alloc_at (H := w1.heap.size) rfl #[.pointer (some ⟨pt, 0, none⟩)] 72
  obtain ⟨po, hpo⟩ : ∃ z, z = w1.heap.size := ⟨_, rfl⟩
  obtain ⟨w2, hw2⟩ : ∃ z, z = w1.alloc (.cells #[.pointer (some ⟨pt, 0, none⟩)] 72) := ⟨_, rfl⟩
  rw [← hw2, ← hpo] at hm2
  have HM2 := Lib.hid hm2
  have HT2 := Lib.hid (htab.below hm2.b)
  have HMO := Lib.hid (most_any pt ls.length rs.length (by omega) (by omega) CF 4000000 w2 HT2.out)
  rw [mtf_okM HCB.out] at HMO
  obtain ⟨sz, hsz⟩ : ∃ z, z = mtf CF ls.length rs.length 4000000 := ⟨_, rfl⟩
  rw [← hsz] at HMO
  have HSZ := Lib.hid hsz
  have HWP := Lib.hid (And.intro hpo hw2)
  have c0 := hm2.cell 0
  have l0 := hm2.head_lt
  simp at c0
  clear htab hb1 HM HL k0 k1 k2 k3 k4 k5 k6 k7 hm2 hpo hw2 hsz
  go_upto_region 4 with fail
  rw [← HWP.out.2, ← HWP.out.1]
  go_wp2_with fail
  refine HMO.out.mono ?_
  rintro e w3 ⟨rfl, hb3⟩
  have hm3 := (HM2.out.step hb3).alloc_at (H := w3.heap.size) rfl #[.int .i64 sz] 3
  obtain ⟨pc, hpc⟩ : ∃ z, z = w3.heap.size := ⟨_, rfl⟩
  obtain ⟨w4, hw4⟩ : ∃ z, z = w3.alloc (.cells #[.int .i64 sz] 3) := ⟨_, rfl⟩
  rw [← hw4, ← hpc] at hm3
  have HM4 := Lib.hid hm3
  have h34 : Below w3.heap.size w3 w4 := by rw [hw4]; exact (Below.refl _ _).alloc (Nat.le_refl _) _
  have HT4 := Lib.hid (HT2.out.below (hb3.trans (h34.mono hb3.size)))
  have HSE := Lib.hid (search_any po pc (mtf CF ls.length rs.length) sz HSZ.out.symm (fun c d h => mtf_mono h) w4 (fun w' hb c => by
    have h1 := HM4.out.step hb
    exact evenF_any po pc pt ls.length rs.length (by omega) (by omega) CF HCB.out sz c w' (HT4.out.below hb) (h1.tail.cell 0) (h1.cell 0)))
  have HW4 := Lib.hid (And.intro hpc hw4)
  clear hb3 h34 HMO HM2 HT2 c0 l0 hm3 hpc hw4 HWP
  go_upto_region 5 with fail
  rw [← HW4.out.2, ← HW4.out.1]
  go_wp2_with fail
  refine HSE.out.mono ?_
  rintro e w5 ⟨⟨v, rfl, hv⟩, hb5⟩
  have HE : Hid (EvA ls rs ((x0, x1, x2, x3), (y0, y1, y2, y3)) v 0 ∧ Below w.heap.size w w5) := Lib.hid ⟨HEV.out v (by unfold IsEv; rw [← HSZ.out]; exact hv), HB1.out.trans ((HM4.out.b.trans (hb5.mono HM4.out.b.size)).mono HB1.out.size)⟩
  clear hv hb5 HSE HEV
  go_wp2
  go_ret2
  exact ⟨⟨_, _, rfl, HE.out.1⟩, HE.out.2⟩

end Go.Proofs.Ytchhadkmemckbaa

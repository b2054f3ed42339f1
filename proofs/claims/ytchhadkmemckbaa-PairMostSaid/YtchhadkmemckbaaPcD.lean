/- Pairs: Cover. -/
import Derived.Test.YtchhadkmemckbaaPcC
import Derived.Test.YtchhadkmemckbaaPbT
import Derived.Test.YtchhadkmemckbaaPbU
namespace Go.Proofs.Ytchhadkmemckbaa
open Go.RowKit
set_option linter.unusedSimpArgs false
set_option linter.unusedVariables false

/-- What Cover answers. -/
def CvA (ls rs : List Gl) (u : Ru) (ka kb : List Int) (e : Int) : Prop := if sidB ls && sidB rs && ruB u then e = 0 ∧ CovP (cosT ls rs u) ls.length rs.length ka kb else ka = [] ∧ kb = [] ∧ e = 2
theorem CvA_take (ls rs : List Gl) (u : Ru) (ka kb : List Int) (e : Int) : CvA (ls.take 34) (rs.take 34) u ka kb e = CvA ls rs u ka kb e := by
  by_cases h1 : sidB ls = true
  · by_cases h2 : sidB rs = true
    · rw [take34 h1, take34 h2]
    · unfold CvA
      rw [sid34, sid34, show sidB rs = false by simpa using h2, if_neg (by simp), if_neg (by simp)]
  · unfold CvA
    rw [sid34, sid34, show sidB ls = false by simpa using h1, if_neg (by simp), if_neg (by simp)]
theorem cvR_len (t : Nat → Bool) : ∀ k, (cvR t k).length ≤ k
  | 0 => Nat.le_refl _
  | k + 1 => by
    unfold cvR
    have := cvR_len t k
    split
    · rw [List.length_append, List.length_singleton]; omega
    · omega
theorem cvL_len (o : Nat → Int) (t : Nat → Bool) : ∀ k, (cvL o t k).length ≤ k
  | 0 => Nat.le_refl _
  | k + 1 => by
    unfold cvL
    have := cvL_len o t k
    split
    · omega
    · split
      · omega
      · rw [List.length_append, List.length_singleton]; omega

set_option maxRecDepth 100000 in
set_option maxHeartbeats 6400000 in
theorem pCover_any (a a2 : Option Addr) (cap cap2 : Nat) (ls rs : List Gl) (x0 x1 x2 x3 y0 y1 y2 y3 : Int) (hl1 : (ls.length : Int) ≤ 9223372036854775807) (hl2 : (rs.length : Int) ≤ 9223372036854775807) (w : World) (hl : RecS w a ls) (hr : RecS w a2 rs) :
    Calls Try.prog 25 #[.slice a ls.length cap, .slice a2 rs.length cap2, .agg #[.int .i64 x0, .int .i64 x1, .int .i64 x2, .int .i64 x3, .int .i64 y0, .int .i64 y1, .int .i64 y2, .int .i64 y3]] w fun e w' => (∃ za ca zb cb ka kb ee, e = .returned (.tuple #[.slice za (ka : List Int).length ca, .slice zb (kb : List Int).length cb, .int .i64 ee]) ∧ CvA ls rs ((x0, x1, x2, x3), (y0, y1, y2, y3)) ka kb ee ∧ IntK w' za ka ∧ IntK w' zb kb) ∧ Below w.heap.size w w' := by
  have HM := Lib.hid ((Mem.nil w).alloc_at (H := w.heap.size) rfl #[.int .i64 x0, .int .i64 x1, .int .i64 x2, .int .i64 x3, .int .i64 y0, .int .i64 y1, .int .i64 y2, .int .i64 y3] 32)
  have k0 := HM.out.cell 0
  have k1 := HM.out.cell 1
  have k2 := HM.out.cell 2
  have k3 := HM.out.cell 3
  have k4 := HM.out.cell 4
  have k5 := HM.out.cell 5
  have k6 := HM.out.cell 6
  have k7 := HM.out.cell 7
  simp at k0 k1 k2 k3 k4 k5 k6 k7
  obtain ⟨g0, hg0⟩ : ∃ g0, g0 = (sidB ls && sidB rs && ruB ((x0, x1, x2, x3), (y0, y1, y2, y3))) := ⟨_, rfl⟩
  cases g0 with
  | false =>
    have e : CvA ls rs ((x0, x1, x2, x3), (y0, y1, y2, y3)) [] [] 2 := by unfold CvA; rw [← hg0, if_neg (by simp)]; exact ⟨rfl, rfl, rfl⟩
    have HE0 := Lib.hid e
    have HL := Lib.hid (fun w' hb => lay_no a a2 cap cap2 ls rs x0 x1 x2 x3 y0 y1 y2 y3 hg0.symm hl1 hl2 w' (hl.below (w' := w') hb) (hr.below hb))
    clear e hg0 hl hr
    go_enter Try.func25, Try.ntmps25
    go_wp2_with fail
    refine (HL.out _ HM.out.b).mono ?_
    rintro e w1 ⟨rfl, hb1⟩
    have HB1 := Lib.hid (HM.out.b.trans (hb1.mono HM.out.b.size))
    clear hb1 HM k0 k1 k2 k3 k4 k5 k6 k7
    go_wp2
    go_ret3
    exact ⟨⟨none, 0, none, 0, [], [], 2, rfl, HE0.out, .inl rfl, .inl rfl⟩, HB1.out⟩
  | true =>
  have hg1 : (sidB ls = true ∧ sidB rs = true) ∧ ruB ((x0, x1, x2, x3), (y0, y1, y2, y3)) = true := by simpa using hg0.symm
  obtain ⟨⟨h1, h2⟩, h3⟩ := hg1
  have n1 : ls.length ≤ 32 := by unfold sidB at h1; simp at h1; omega
  have n2 : rs.length ≤ 32 := by unfold sidB at h2; simp at h2; omega
  have HL := Lib.hid (fun w' hb => lay_yes a a2 cap cap2 ls rs x0 x1 x2 x3 y0 y1 y2 y3 h1 h2 h3 w' (hl.below (w' := w') hb) (hr.below hb))
  have HCA : Hid (∀ ka kb, CovP (cosT ls rs ((x0, x1, x2, x3), (y0, y1, y2, y3))) ls.length rs.length ka kb → CvA ls rs ((x0, x1, x2, x3), (y0, y1, y2, y3)) ka kb 0) := Lib.hid (fun ka kb h => by unfold CvA; rw [← hg0, if_pos rfl]; exact ⟨rfl, h⟩)
  obtain ⟨CF, hCF⟩ : ∃ z, z = cosT ls rs ((x0, x1, x2, x3), (y0, y1, y2, y3)) := ⟨_, rfl⟩
  rw [← hCF] at HL HCA
  obtain ⟨ok, hok⟩ : ∃ ok : Nat → Nat → Bool, ok = fun i j => CF i j != -1 := ⟨_, rfl⟩
  have HOKD := Lib.hid hok
  have HLG := Lib.hid (lgO_spec ok ls.length rs.length)
  obtain ⟨o, ho⟩ : ∃ o, o = lgO ok ls.length rs.length := ⟨_, rfl⟩
  have HOD := Lib.hid ho
  rw [← ho] at HLG
  have HCB := Lib.hid hCF
  clear hCF hg0 h1 h2 h3 hl hr ho hok
  go_enter Try.func25, Try.ntmps25
  go_wp2_with fail
  refine (HL.out _ HM.out.b).mono ?_
  rintro e w1 ⟨pt, rfl, -, htab, hb1⟩
  have HT := Lib.hid htab
  have HB1 := Lib.hid (HM.out.b.trans (hb1.mono HM.out.b.size))
  have HS : Hid (∀ w', Below w1.heap.size w1 w' → w'.cell? ⟨pt, 0, none⟩ = some (.int .i64 ls.length) ∧ w'.cell? ⟨pt, 1, none⟩ = some (.int .i64 rs.length)) := Lib.hid (fun w' hb => ⟨(htab.below hb).c0, (htab.below hb).c1⟩)
  have HAL : Hid (∀ w', Below w1.heap.size w1 w' → ∀ i j : Nat, i < ls.length → j < rs.length → Calls Try.prog 55 #[.pointer (some ⟨pt, 0, none⟩), .int .i64 i, .int .i64 j] w' fun e w'' => e = .returned (.bool (ok i j)) ∧ Below w'.heap.size w' w'') := Lib.hid (fun w' hb i j hi hj => by
    rw [HOKD.out]
    exact allows_any pt ls.length rs.length (by omega) (by omega) CF i j hi hj w' (htab.below hb))
  have HLA : Hid (∀ w', Below w1.heap.size w1 w' → Calls Try.prog 54 #[.int .i64 ls.length, .int .i64 rs.length, .func (.func 55) #[.pointer (some ⟨pt, 0, none⟩)] #[]] w' fun e w'' => ∃ p5, e = .returned (.slice (some ⟨p5, 0, none⟩) rs.length rs.length) ∧ w1.heap.size ≤ p5 ∧ w''.heap[p5]? = some (.cells (cA rs.length o) 3 (0, 0)) ∧ Below w'.heap.size w' w'') := Lib.hid (fun w' hb =>
    (largest_allows ok ls.length rs.length (fuelK rs.length) pt (by omega) (by omega) o HLG.out.1 w' (fun w2 hb2 i j hi hj => HAL.out w2 (hb.trans (hb2.mono hb.size)) i j hi hj)).mono (fun e w'' hx => ⟨_, hx.1, by have := hb.size; omega, hx.2.1, hx.2.2⟩))
  have c0 := (HS.out w1 (Below.refl _ _)).1
  have c1 := (HS.out w1 (Below.refl _ _)).2
  have l0 := htab.lt
  clear htab hb1 HM HL k0 k1 k2 k3 k4 k5 k6 k7
  go_upto_region 4 with fail
  clear c0 c1 l0
  go_cut [11] (fun s11 wx => ∃ p5, s11 = .slice (some ⟨p5, 0, none⟩) rs.length rs.length ∧ Hid (wx.heap[p5]? = some (.cells (cA rs.length o) 3 (0, 0)) ∧ w1.heap.size ≤ p5 ∧ Below w1.heap.size w1 wx))
  case first =>
    have l0 := HT.out.lt
    refine wp_region_held_drew (S := fun w' => w'.cell? ⟨pt, 0, none⟩ = some (.int .i64 ls.length) ∧ w'.cell? ⟨pt, 1, none⟩ = some (.int .i64 rs.length)) (by kernel_rfl) (HS.out _ (Below.refl _ _).drew) (fun hHeld => ?_)
    refine wpAnyH_take (i := 0) (oi := { dst := some 29, op := Op.move (Operand.tmp 9), type := 72, pos := "most.go:77", after := #[], guard := none }) (v := ?_) rfl (by kernel_rfl) (by kernel_rfl) (by kernel_rfl) (fun _ _ _ h => h) (Or.inl ⟨by rfl, ?_⟩) (by assumption) ?_
    rotate_left
    · intro w' hSw
      (try dsimp only at hSw)
      (try go_split_ands)
      go_simp
      try with_reducible rfl
    (try simp only [Act.put, List.setIfInBounds_toArray, List.set_cons_zero, List.set_cons_succ])
    refine wpAnyH_take (i := 1) (oi := { dst := some 30, op := Op.nilCheck (Operand.tmp 29), type := 0, pos := "most.go:77", after := #[{ on := 0, ground := Ground.data }], guard := none }) (v := ?_) rfl (by kernel_rfl) (by kernel_rfl) (by kernel_rfl) (fun _ _ _ h => h) (Or.inl ⟨by rfl, ?_⟩) (by assumption) ?_
    rotate_left
    · intro w' hSw
      (try dsimp only at hSw)
      (try go_split_ands)
      go_simp
      try with_reducible rfl
    (try simp only [Act.put, List.setIfInBounds_toArray, List.set_cons_zero, List.set_cons_succ])
    refine wpAnyH_take (i := 2) (oi := { dst := some 31, op := Op.fieldAddr 78 (Operand.tmp 30) 0, type := 0, pos := "most.go:77", after := #[{ on := 1, ground := Ground.data }], guard := none }) (v := ?_) rfl (by kernel_rfl) (by kernel_rfl) (by kernel_rfl) (fun _ _ _ h => h) (Or.inl ⟨by rfl, ?_⟩) (by assumption) ?_
    rotate_left
    · intro w' hSw
      (try dsimp only at hSw)
      (try go_split_ands)
      go_simp
      try with_reducible rfl
    (try simp only [Act.put, List.setIfInBounds_toArray, List.set_cons_zero, List.set_cons_succ])
    refine wpAnyH_take (i := 3) (oi := { dst := some 32, op := Op.load 3 (Operand.tmp 31), type := 3, pos := "most.go:77", after := #[{ on := 2, ground := Ground.data }], guard := none }) (v := ?_) rfl (by kernel_rfl) (by kernel_rfl) (by kernel_rfl) (fun _ _ _ h => h) (Or.inl ⟨by rfl, ?_⟩) (by assumption) ?_
    rotate_left
    · intro w' hSw
      (try dsimp only at hSw)
      (try go_split_ands)
      go_simp
      try with_reducible rfl
    (try simp only [Act.put, List.setIfInBounds_toArray, List.set_cons_zero, List.set_cons_succ])
    refine wpAnyH_take (i := 4) (oi := { dst := some 33, op := Op.move (Operand.tmp 9), type := 72, pos := "most.go:77", after := #[], guard := none }) (v := ?_) rfl (by kernel_rfl) (by kernel_rfl) (by kernel_rfl) (fun _ _ _ h => h) (Or.inl ⟨by rfl, ?_⟩) (by assumption) ?_
    rotate_left
    · intro w' hSw
      (try dsimp only at hSw)
      (try go_split_ands)
      go_simp
      try with_reducible rfl
    (try simp only [Act.put, List.setIfInBounds_toArray, List.set_cons_zero, List.set_cons_succ])
    refine wpAnyH_take (i := 5) (oi := { dst := some 34, op := Op.nilCheck (Operand.tmp 33), type := 0, pos := "most.go:77", after := #[{ on := 4, ground := Ground.data }], guard := none }) (v := ?_) rfl (by kernel_rfl) (by kernel_rfl) (by kernel_rfl) (fun _ _ _ h => h) (Or.inl ⟨by rfl, ?_⟩) (by assumption) ?_
    rotate_left
    · intro w' hSw
      (try dsimp only at hSw)
      (try go_split_ands)
      go_simp
      try with_reducible rfl
    (try simp only [Act.put, List.setIfInBounds_toArray, List.set_cons_zero, List.set_cons_succ])
    refine wpAnyH_take (i := 6) (oi := { dst := some 35, op := Op.fieldAddr 78 (Operand.tmp 34) 1, type := 0, pos := "most.go:77", after := #[{ on := 5, ground := Ground.data }], guard := none }) (v := ?_) rfl (by kernel_rfl) (by kernel_rfl) (by kernel_rfl) (fun _ _ _ h => h) (Or.inl ⟨by rfl, ?_⟩) (by assumption) ?_
    rotate_left
    · intro w' hSw
      (try dsimp only at hSw)
      (try go_split_ands)
      go_simp
      try with_reducible rfl
    (try simp only [Act.put, List.setIfInBounds_toArray, List.set_cons_zero, List.set_cons_succ])
    refine wpAnyH_take (i := 7) (oi := { dst := some 36, op := Op.load 3 (Operand.tmp 35), type := 3, pos := "most.go:77", after := #[{ on := 6, ground := Ground.data }], guard := none }) (v := ?_) rfl (by kernel_rfl) (by kernel_rfl) (by kernel_rfl) (fun _ _ _ h => h) (Or.inl ⟨by rfl, ?_⟩) (by assumption) ?_
    rotate_left
    · intro w' hSw
      (try dsimp only at hSw)
      (try go_split_ands)
      go_simp
      try with_reducible rfl
    (try simp only [Act.put, List.setIfInBounds_toArray, List.set_cons_zero, List.set_cons_succ])
    refine wpAnyH_take (i := 8) (oi := { dst := some 37, op := Op.move (Operand.tmp 9), type := 72, pos := "most.go:77", after := #[], guard := none }) (v := ?_) rfl (by kernel_rfl) (by kernel_rfl) (by kernel_rfl) (fun _ _ _ h => h) (Or.inl ⟨by rfl, ?_⟩) (by assumption) ?_
    rotate_left
    · intro w' hSw
      (try dsimp only at hSw)
      (try go_split_ands)
      go_simp
      try with_reducible rfl
    (try simp only [Act.put, List.setIfInBounds_toArray, List.set_cons_zero, List.set_cons_succ])
    refine wpAnyH_take (i := 9) (oi := { dst := some 38, op := Op.makeFunc (Fn.func 55) #[Operand.tmp 37] #[], type := 85, pos := "most.go:77", after := #[{ on := 8, ground := Ground.data }], guard := none }) (v := ?_) rfl (by kernel_rfl) (by kernel_rfl) (by kernel_rfl) (fun _ _ _ h => h) (Or.inl ⟨by rfl, ?_⟩) (by assumption) ?_
    rotate_left
    · intro w' hSw
      (try dsimp only at hSw)
      (try go_split_ands)
      go_simp
      try with_reducible rfl
    (try simp only [Act.put, List.setIfInBounds_toArray, List.set_cons_zero, List.set_cons_succ])
    refine wpAnyH_ready (rs := [10]) (by kernel_rfl) (by simp) ?_
    refine (AllReadyH.cons (o := { dst := some 39, op := Op.call { callee := Callee.value (Operand.func 54), args := #[Operand.tmp 32, Operand.tmp 36, Operand.tmp 38], argTypes := #[3, 3, 85] }, type := 38, pos := "most.go:77", after := #[{ on := 3, ground := Ground.data }, { on := 7, ground := Ground.data }, { on := 9, ground := Ground.data }], guard := none }) rfl (fun K hK => ?_) AllReadyH.nil)
    go_simp
    go_at_call 54
    with_reducible (refine (HLA.out _ (Below.refl _ _).drew).mono ?_)
    rintro e w5 ⟨p5, rfl, hp5, ho5, hb5⟩
    have HO5 := Lib.hid ho5
    have HP5 := Lib.hid hp5
    have HB5 := Lib.hid ((Below.refl w1.heap.size w1).drew.trans (hb5.mono (Below.refl w1.heap.size w1).drew.size))
    clear hb5 ho5 hp5
    (try go_wp2_with fail)
    refine hK.out _ _ (HS.out _ HB5.out) (fun hHeld => ?_)
    clear hK K
    (try simp only [Act.put, List.setIfInBounds_toArray, List.set_cons_zero, List.set_cons_succ])
    refine wpAnyH_take (i := 11) (oi := { dst := some 11, op := Op.assign (Operand.tmp 39), type := 38, pos := "most.go:77", after := #[{ on := 10, ground := Ground.data }, { on := 10, ground := Ground.chain }, { on := 0, ground := Ground.phase }, { on := 1, ground := Ground.phase }, { on := 2, ground := Ground.phase }, { on := 3, ground := Ground.phase }, { on := 4, ground := Ground.phase }, { on := 5, ground := Ground.phase }, { on := 6, ground := Ground.phase }, { on := 7, ground := Ground.phase }, { on := 8, ground := Ground.phase }, { on := 9, ground := Ground.phase }, { on := 10, ground := Ground.phase }], guard := none }) (v := ?_) rfl (by kernel_rfl) (by kernel_rfl) (by kernel_rfl) (fun _ _ _ h => h) (Or.inl ⟨by rfl, ?_⟩) (by assumption) ?_
    rotate_left
    · intro w' hSw
      (try dsimp only at hSw)
      (try go_split_ands)
      go_simp
      try with_reducible rfl
    (try simp only [Act.put, List.setIfInBounds_toArray, List.set_cons_zero, List.set_cons_succ])
    refine wpAnyH_done (by kernel_rfl) ?_ _
    go_wp2_with fail
    go_meet
    exact ⟨p5, rfl, Lib.hid ⟨HO5.out, HP5.out, HB5.out⟩⟩
  case rest =>
  obtain ⟨p5, rfl, HC⟩ := hcut
  obtain ⟨w2, hw2⟩ : ∃ z, z = wc := ⟨_, rfl⟩
  rw [← hw2] at HC ⊢
  clear hw2 HLA
  go_wp2_with fail
  refine (placer_any p5 rs.length (.func 55) #[.pointer (some ⟨pt, 0, none⟩)] #[] _).mono ?_
  rintro e w3 ⟨rfl, hm⟩
  have HLP : Hid (LG w1 p5 w2.heap.size rs.length o (.func (.func 55) #[.pointer (some ⟨pt, 0, none⟩)] #[]) w3) := Lib.hid ⟨HC.out.2.2.trans (hm.b.mono HC.out.2.2.size), HC.out.2.1, block_lt HC.out.1, blk_keep HC.out.1 hm.b, (hm.tail.tail.h _ (List.mem_cons_self ..)).2, (hm.tail.h _ (List.mem_cons_self ..)).2, (hm.h _ (List.mem_cons_self ..)).2⟩
  obtain ⟨b, hb⟩ : ∃ z, z = w2.heap.size := ⟨_, rfl⟩
  rw [← hb] at HLP ⊢
  clear hm HC hb
  unfold plcV
  have hmk := pa_makeBool rs.length (by omega) w3
  obtain ⟨d0, d1⟩ := HS.out _ HLP.out.bw
  have l0 := Nat.lt_of_lt_of_le HT.out.lt HLP.out.bw.size
  obtain ⟨wq, hwq⟩ : ∃ z, z = w3.alloc (.cells (cV rs.length fun _ => .bool false) 4) := ⟨_, rfl⟩
  obtain ⟨q, hq⟩ : ∃ z, z = w3.heap.size := ⟨_, rfl⟩
  have hA : wq.heap[q]? = some (.cells (cV rs.length fun _ => .bool false) 4 (0, 0)) := by rw [hwq, hq]; exact heap_alloc_new _ _
  have hbA : Below w3.heap.size w3 wq := by rw [hwq]; exact (Below.refl _ _).alloc (Nat.le_refl _) _
  have HQB : Hid (b + 1 + 1 < q) := Lib.hid (by rw [hq]; exact block_lt HLP.out.h2)
  have HL0 : Hid (LG w1 p5 b rs.length o (.func (.func 55) #[.pointer (some ⟨pt, 0, none⟩)] #[]) wq ∧ q < wq.heap.size ∧ (∀ k, k < rs.length → wq.cell? ⟨q, k, none⟩ = some (.bool ((fun _ => false) k))) ∧ ∀ k, k < rs.length → wq.frozen? ⟨q, k, none⟩ = false) := Lib.hid ⟨HLP.out.step hbA, block_lt hA, fun k hk => by rw [blkc hA, cV_get hk], fun k hk => by simp only [World.frozen?]; rw [hA]; simp⟩
  have HWQ := Lib.hid (And.intro hwq hq)
  have HC0 : Hid (Cvr ok rs.length 0 o fun _ => false) := Lib.hid ⟨fun k h => (by cases h), fun x hx => (by omega)⟩
  clear hA hbA hwq hq HLP
  go_upto_region 7 with fail
  rw [← HWQ.out.1, ← HWQ.out.2]
  clear hmk d0 d1 l0
  obtain ⟨d0, d1⟩ := HS.out _ HL0.out.1.bw
  have l0 := Nat.lt_of_lt_of_le HT.out.lt HL0.out.1.bw.size
  go_wp2_with fail
  clear d0 d1 l0 HWQ
  go_loopg [53] ls.length (fun gk x wr => ∃ (i : Nat) (t : Nat → Bool), x = .int .i64 i ∧ i + gk = ls.length ∧ Hid (Cvr ok rs.length i o t) ∧ Hid (LG w1 p5 b rs.length o (.func (.func 55) #[.pointer (some ⟨pt, 0, none⟩)] #[]) wr ∧ q < wr.heap.size ∧ (∀ k, k < rs.length → wr.cell? ⟨q, k, none⟩ = some (.bool (t k))) ∧ ∀ k, k < rs.length → wr.frozen? ⟨q, k, none⟩ = false))
  case atStart => exact ⟨0, _, rfl, by omega, HC0, HL0⟩
  case round =>
    obtain ⟨i, t, rfl, hik, HCV, HI⟩ := hrel
    by_cases hi : i < ls.length
    · obtain ⟨gk', rfl⟩ : ∃ m, gk = m + 1 := ⟨gk - 1, by omega⟩
      have hi' : (i : Int) < ls.length := by omega
      have hi0 : (0 : Int) ≤ i := by omega
      have HCO := Lib.hid (containsI_any p5 rs.length (by omega) o i wr HI.out.1.ho)
      have hnx := cvF_next (m := 0) HLG.out.2 HCV.out hi
      obtain ⟨ow, how⟩ : ∃ z, z = owned o rs.length i := ⟨_, rfl⟩
      rw [← how] at HCO hnx
      have HNX := Lib.hid hnx
      clear how hnx HCV
      go_wp2_with fail
      refine HCO.out.mono ?_
      rintro e w6 ⟨rfl, hb6⟩
      have HI6 : Hid (LG w1 p5 b rs.length o (.func (.func 55) #[.pointer (some ⟨pt, 0, none⟩)] #[]) w6 ∧ q < w6.heap.size ∧ (∀ k, k < rs.length → w6.cell? ⟨q, k, none⟩ = some (.bool (t k))) ∧ ∀ k, k < rs.length → w6.frozen? ⟨q, k, none⟩ = false) := Lib.hid ⟨HI.out.1.step hb6, Nat.lt_of_lt_of_le HI.out.2.1 hb6.size, fun k hk => (hb6.cell (p := ⟨q, k, none⟩) HI.out.2.1).trans (HI.out.2.2.1 k hk), fun k hk => (hb6.frozen (p := ⟨q, k, none⟩) HI.out.2.1).trans (HI.out.2.2.2 k hk)⟩
      clear hb6 HCO HI
      cases ow with
      | true =>
        have HN : Hid (Cvr ok rs.length (i + 1) o t) := Lib.hid (by
          rcases HNX.out with ⟨-, -, h⟩ | ⟨h, -⟩
          · exact h
          · cases h)
        clear HNX
        go_wp2
        go_roundg gk'
        case measure => exact Nat.lt_succ_self _
        case rel => exact ⟨i + 1, t, by go_num, by omega, HN, HI6⟩
      | false =>
        have hex : ∃ t', plF ok ls.length rs.length (fuelK rs.length) i 0 o t = some (false, o, t') ∧ Cvr ok rs.length (i + 1) o t' := by
          rcases HNX.out with ⟨h, -⟩ | ⟨-, t', h1, -, h2⟩
          · cases h
          · exact ⟨t', h1, h2⟩
        obtain ⟨t', hpl, hcv⟩ := hex
        have HN := Lib.hid hcv
        have HCALL := Lib.hid (HI6.out.1.placeA (cap := rs.length) (q := q) ok (by omega) (by omega) HQB.out HI6.out.2.1 HI6.out.2.2.1 HI6.out.2.2.2 (fun w' hb i j hi hj => HAL.out w' hb i j hi hj) (fuelK rs.length) i false hpl)
        clear hpl hcv HNX HI6
        go_wp2_with fail
        refine HCALL.out.mono ?_
        rintro e w7 ⟨rfl, ha, hg⟩
        have HI7 : Hid (LG w1 p5 b rs.length o (.func (.func 55) #[.pointer (some ⟨pt, 0, none⟩)] #[]) w7 ∧ q < w7.heap.size ∧ (∀ k, k < rs.length → w7.cell? ⟨q, k, none⟩ = some (.bool (t' k))) ∧ ∀ k, k < rs.length → w7.frozen? ⟨q, k, none⟩ = false) := Lib.hid ⟨hg, ha.hq, ha.ht, ha.hf⟩
        clear ha hg HCALL
        go_wp2
        go_roundg gk'
        case measure => exact Nat.lt_succ_self _
        case rel => exact ⟨i + 1, t', by go_num, by omega, HN, HI7⟩
    · obtain ⟨rfl, rfl⟩ : gk = 0 ∧ i = ls.length := by omega
      obtain ⟨w8, hw8⟩ : ∃ z, z = wr := ⟨_, rfl⟩
      rw [← hw8] at HI ⊢
      have HO8 := Lib.hid HI.out.1.ho
      have HQ8 := Lib.hid HI.out.2
      have HB8 := Lib.hid (HB1.out.trans (HI.out.1.bw.mono HB1.out.size))
      have HOU := Lib.hid (HLG.out.2.own)
      have HO20 : Hid (O2 w8 (.slice none 0 0) (.slice none 0 0) (cvL o t 0) (cvR t 0) w8) := Lib.hid (O2.start w8)
      have HFIN : Hid (CvA ls rs ((x0, x1, x2, x3), (y0, y1, y2, y3)) (srtI (cvL o t rs.length)) (cvR t rs.length) 0) := Lib.hid (HCA.out _ _ (by
        have h := HCV.out
        have ho := HOD.out
        rw [HOKD.out] at h ho
        exact h.all ho))
      obtain ⟨i0, hi, hz0, hz1, hz2⟩ := info_parts pa_infoInt
      have HI0 := Lib.hid (And.intro hi (And.intro hz0 (And.intro hz1 hz2)))
      clear hi hz0 hz1 hz2 hw8 HI HCV HCA HAL HC0 HL0
      go_wp2_with fail
      go_loopg [15, 16, 67] rs.length (fun gk v1 v2 x wr => ∃ k : Nat, x = .int .i64 k ∧ k + gk = rs.length ∧ Hid (O2 w8 v1 v2 (cvL o t k) (cvR t k) wr))
      case atStart => exact ⟨0, rfl, by omega, HO20⟩
      case round =>
        obtain ⟨k, rfl, hkk, HJ⟩ := hrel
        by_cases hk : k < rs.length
        · obtain ⟨gk', rfl⟩ : ∃ m, gk = m + 1 := ⟨gk - 1, by omega⟩
          have hk' : (k : Int) < rs.length := by omega
          have hk0 : (0 : Int) ≤ k := by omega
          have hbw := HJ.out.a.b
          have c0 := (blkc (blk_keep HO8.out hbw) k).trans (cA_get hk)
          have l0 := block_lt (blk_keep HO8.out hbw)
          have c1 := (hbw.cell (p := ⟨q, k, none⟩) HQ8.out.1).trans (HQ8.out.2.1 k hk)
          have l1 := Nat.lt_of_lt_of_le HQ8.out.1 hbw.size
          have hlR : (cvR t k).length ≤ 32 := by have := cvR_len t k; omega
          have hlL : (cvL o t k).length ≤ 32 := by have := cvL_len o t k; omega
          have hou := HOU.out k hk
          obtain ⟨ov, hov⟩ : ∃ z, z = o k := ⟨_, rfl⟩
          obtain ⟨tv, htv⟩ : ∃ z, z = t k := ⟨_, rfl⟩
          have HLN : Hid (cvL o t (k + 1) = if tv then cvL o t k else if ov = -1 then cvL o t k else cvL o t k ++ [ov]) := Lib.hid (by rw [cvL, hov, htv])
          have HRN : Hid (cvR t (k + 1) = if tv then cvR t k ++ [(k : Int)] else cvR t k) := Lib.hid (by rw [cvR, htv])
          rw [← hov] at c0 hou
          rw [← htv] at c1
          obtain ⟨X, hX⟩ : ∃ z, z = cvL o t k := ⟨_, rfl⟩
          obtain ⟨Y, hY⟩ : ∃ z, z = cvR t k := ⟨_, rfl⟩
          rw [← hX] at HJ HLN hlL
          rw [← hY] at HJ HRN hlR
          have hbs := HJ.out.a.b.size
          clear hov htv hX hY hbw
          cases tv with
          | true =>
            have hown := HJ.out.b.own
            rw [List.length_map] at hown
            obtain ⟨n, hn⟩ : ∃ n, n = Y.length := ⟨_, rfl⟩
            rw [← hn] at hown hlR
            have HPU : Hid (∀ v' w5, w5.ownsRow w8.heap.size 3 1 v' (n + 1) (Y.map (Value.int .i64) ++ [.int .i64 k]) → (wr.alloc (.cells #[.int .i64 k] 3)).grownBy w5 u16.ownBlock → (v'.ownBlock = u16.ownBlock ∨ v'.ownBlock = some (wr.alloc (.cells #[.int .i64 k] 3)).heap.size) → O2 w8 u15 v' (cvL o t (k + 1)) (cvR t (k + 1)) w5) := Lib.hid (fun v' w5 ho hg hf => by
              rw [HLN.out, HRN.out, if_pos rfl, if_pos rfl]
              exact (HJ.out.step ((Below.refl _ _).alloc (Nat.le_refl _) _)).push2 (by rw [← hn]; exact ho) hg hf)
            clear hn HLN HRN HJ hou hlL
            go_wp2_with (at_builtin; refine wpList_append_two rfl _ _ 38 rfl w8.heap.size 3 i0 (.int .i64 0) 1 8 Try.underlying38 HI0.out.1 HI0.out.2.1 HI0.out.2.2.1 HI0.out.2.2.2 rfl (by decide) u16 n _ rfl (hown.alloc _) ⟨wr.heap.size, 0, none⟩ 1 1 [.int .i64 k] rfl rfl (cell_one_new _ _ _) (by intro u hu; simp at hu; subst hu; rfl) (by unfold maxLen; omega) (by omega) (by simp; omega) (by omega) ?_)
            intro v' w6 hown6 hgrow6 hnil6
            have HN := Lib.hid (HPU.out v' w6 hown6 hgrow6 (by simp only [World.size_alloc]; exact hnil6))
            clear hown6 hgrow6 hown hnil6 HPU hbs
            go_wp2
            go_roundg gk'
            case measure => exact Nat.lt_succ_self _
            case rel => exact ⟨k + 1, by go_num, by omega, HN⟩
          | false =>
            by_cases ho1 : ov = -1
            · have t0 : (ov != -1) = false := by simpa using ho1
              have HN : Hid (O2 w8 u15 u16 (cvL o t (k + 1)) (cvR t (k + 1)) wr) := Lib.hid (by rw [HLN.out, HRN.out, if_neg (show ¬ (false = true) by simp), if_neg (show ¬ (false = true) by simp), if_pos ho1]; exact HJ.out)
              clear HLN HRN HJ hou ho1
              go_wp2
              go_roundg gk'
              case measure => exact Nat.lt_succ_self _
              case rel => exact ⟨k + 1, by go_num, by omega, HN⟩
            · have t0 : (ov != -1) = true := by simpa using ho1
              have hown := HJ.out.a.own
              rw [List.length_map] at hown
              obtain ⟨n, hn⟩ : ∃ n, n = X.length := ⟨_, rfl⟩
              rw [← hn] at hown hlL
              have HPU : Hid (∀ v' w5, w5.ownsRow w8.heap.size 3 1 v' (n + 1) (X.map (Value.int .i64) ++ [.int .i64 ov]) → (wr.alloc (.cells #[.int .i64 ov] 3)).grownBy w5 u15.ownBlock → (v'.ownBlock = u15.ownBlock ∨ v'.ownBlock = some (wr.alloc (.cells #[.int .i64 ov] 3)).heap.size) → O2 w8 v' u16 (cvL o t (k + 1)) (cvR t (k + 1)) w5) := Lib.hid (fun v' w5 ho hg hf => by
                rw [HLN.out, HRN.out, if_neg (show ¬ (false = true) by simp), if_neg (show ¬ (false = true) by simp), if_neg ho1]
                exact (HJ.out.step ((Below.refl _ _).alloc (Nat.le_refl _) _)).push1 (by rw [← hn]; exact ho) hg hf)
              clear hn HLN HRN HJ hou hlR ho1
              go_wp2_with (at_builtin; refine wpList_append_two rfl _ _ 38 rfl w8.heap.size 3 i0 (.int .i64 0) 1 8 Try.underlying38 HI0.out.1 HI0.out.2.1 HI0.out.2.2.1 HI0.out.2.2.2 rfl (by decide) u15 n _ rfl (hown.alloc _) ⟨wr.heap.size, 0, none⟩ 1 1 [.int .i64 ov] rfl rfl (cell_one_new _ _ _) (by intro u hu; simp at hu; subst hu; rfl) (by unfold maxLen; omega) (by omega) (by simp; omega) (by omega) ?_)
              intro v' w6 hown6 hgrow6 hnil6
              have HN := Lib.hid (HPU.out v' w6 hown6 hgrow6 (by simp only [World.size_alloc]; exact hnil6))
              clear hown6 hgrow6 hown hnil6 HPU hbs
              go_wp2
              go_roundg gk'
              case measure => exact Nat.lt_succ_self _
              case rel => exact ⟨k + 1, by go_num, by omega, HN⟩
        · obtain ⟨rfl, rfl⟩ : gk = 0 ∧ k = rs.length := by omega
          have HSO := Lib.hid (sortI_any HJ.out.a (by have := cvL_len o t rs.length; omega))
          have HJB := Lib.hid HJ
          go_wp2_with fail
          refine HSO.out.mono ?_
          rintro e w9 ⟨rfl, hgr, za, ca, hza, hka⟩
          have hb9 : OV w8 3 u16 ((cvR t rs.length).map (Value.int .i64)) w9 := by
            have h := HJB.out.out
            refine ⟨?_, h.b.own.kept hgr ?_⟩
            · have hlt := h.a.own.lt
              exact ⟨hgr.os.trans h.a.b.os, hgr.tape.trans h.a.b.tape, hgr.output.trans h.a.b.output, Nat.le_trans h.a.b.size hgr.size, fun i hi => (hgr.block i (Nat.lt_of_lt_of_le hi h.a.b.size) (fun e => by have := (hlt i e.symm).1; omega)).trans (h.a.b.block i hi)⟩
            · cases hk : u16.ownBlock with
              | none => exact .inl rfl
              | some k => exact .inr fun e => h.d k e.symm hk
          obtain ⟨zb, cb, hzb, hkb⟩ := hb9.ints
          subst hza
          subst hzb
          have HE : Hid (IntK w9 za (srtI (cvL o t rs.length)) ∧ IntK w9 zb (cvR t rs.length) ∧ Below w.heap.size w w9) := Lib.hid ⟨hka, hkb, HB8.out.trans (hb9.b.mono HB8.out.size)⟩
          have hll : (cvL o t rs.length).length = (srtI (cvL o t rs.length)).length := (srtI_perm _).length_eq.symm
          rw [hll]
          clear hgr hka hkb hb9 HSO HJ HJB hll
          go_wp2
          go_ret3
          exact ⟨⟨za, ca, zb, cb, srtI (cvL o t rs.length), cvR t rs.length, 0, by first | rfl | (rw [(srtI_perm _).length_eq]; rfl) | simp [List.length_mergeSort], HFIN.out, HE.out.1, HE.out.2.1⟩, HE.out.2.2⟩

end Go.Proofs.Ytchhadkmemckbaa

/- Pairs: largest, lowest (where no price must move). -/
import Derived.Test.YtchhadkmemckbabPaL
namespace Go.Proofs.Ytchhadkmemckbab
open Go.RowKit
set_option linter.unusedSimpArgs false
set_option linter.unusedVariables false

/-- A walk with a placer: the owners' array p, the placer's boxes from b on, the pairs' function F. -/
structure LG (w0 : World) (p b n : Nat) (o : Nat → Int) (F : Value) (wr : World) : Prop where
  bw : Below w0.heap.size w0 wr
  lp : w0.heap.size ≤ p
  lb : p < b
  ho : wr.heap[p]? = some (.cells (cA n o) 3 (0, 0))
  h0 : wr.heap[b]? = some (.cells #[.slice (some ⟨p, 0, none⟩) n n] 36 (0, 0))
  h1 : wr.heap[b + 1]? = some (.cells #[F] 67 (0, 0))
  h2 : wr.heap[b + 1 + 1]? = some (.cells #[plcV b] 68 (0, 0))
section
variable {w0 wr w2 : World} {p b n q cap L : Nat} {o o' : Nat → Int} {t t' : Nat → Bool} {F : Value}
theorem LG.step (h : LG w0 p b n o F wr) (hb : Below wr.heap.size wr w2) : LG w0 p b n o F w2 :=
  ⟨h.bw.trans (hb.mono h.bw.size), h.lp, h.lb, blk_keep h.ho hb, blk_keep h.h0 hb, blk_keep h.h1 hb, blk_keep h.h2 hb⟩
theorem LG.call (h : LG w0 p b n o F wr) (hq : b + 1 + 1 < q) (ha : AB wr p q n o' t' w2) : LG w0 p b n o' F w2 := by
  have kp : ∀ {k : Nat} {x : Obj}, wr.heap[k]? = some x → k ≠ p → k ≠ q → w2.heap[k]? = some x := fun {k x} hk h1 h2 => (ha.ex.blk k (block_lt hk) h1 h2).trans hk
  have := h.lb
  have := h.lp
  exact ⟨ha.ex.below h.bw h.bw.size h.lp (by omega), h.lp, h.lb, ha.ho, kp h.h0 (by omega) (by omega), kp h.h1 (by omega) (by omega), kp h.h2 (by omega) (by omega)⟩
theorem LG.setO (h : LG w0 p b n o F wr) (i : Nat) (x : Int) : LG w0 p b n (fset o i x) F (wr.setCell ⟨p, i, none⟩ (.int .i64 x)) := by
  have := h.lb
  refine ⟨h.bw.setCell h.lp _, h.lp, h.lb, ?_, by rw [Below.heap_setCell _ _ _ _ (by show b ≠ p; omega)]; exact h.h0, by rw [Below.heap_setCell _ _ _ _ (by show b + 1 ≠ p; omega)]; exact h.h1, by rw [Below.heap_setCell _ _ _ _ (by show b + 1 + 1 ≠ p; omega)]; exact h.h2⟩
  simp only [World.setCell, Array.getElem?_modify, h.ho]
  simp [cA_set, fset]
  rfl
/-- A call of the closure. -/
theorem LG.place {po : Nat} (ok : Nat → Nat → Bool) (hn : n ≤ 100) (hL : L ≤ 100) (h : LG w0 p b n o (.func (.func 34) #[.pointer (some ⟨po, 0, none⟩)] #[]) wr) (hq : b + 1 + 1 < q) (hqs : q < wr.heap.size) (ht : ∀ i, i < n → wr.cell? ⟨q, i, none⟩ = some (.bool (t i))) (hf : ∀ i, i < n → wr.frozen? ⟨q, i, none⟩ = false)
    (hok : ∀ w', Below w0.heap.size w0 w' → ∀ i j : Nat, i < L → j < n → Calls Try.prog 34 #[.pointer (some ⟨po, 0, none⟩), .int .i64 i, .int .i64 j] w' fun e w'' => e = .returned (.bool (ok i j)) ∧ Below w'.heap.size w' w'')
    (fu i : Nat) (r : Bool) (hF : plF ok L n fu i 0 o t = some (r, o', t')) :
    Calls Try.prog 59 #[.int .i64 i, .slice (some ⟨q, 0, none⟩) n cap, .pointer (some ⟨b, 0, none⟩), .pointer (some ⟨b + 1, 0, none⟩), .pointer (some ⟨b + 1 + 1, 0, none⟩)] wr fun e w' => e = .returned (.bool r) ∧ AB wr p q n o' t' w' ∧ LG w0 p b n o' (.func (.func 34) #[.pointer (some ⟨po, 0, none⟩)] #[]) w' := by
  have hlb := h.lb
  have hlp := h.lp
  refine (place_tight ok L n hn hL wr p q b (b + 1) (b + 1 + 1) po cap ⟨block_lt h.h0, by omega, by omega, by rw [blkc h.h0]; rfl⟩ ⟨block_lt h.h1, by omega, by omega, by rw [blkc h.h1]; rfl⟩ ⟨block_lt h.h2, by omega, by omega, by rw [blkc h.h2]; rfl⟩
    (fun w' he i j hi hj => hok w' (he.below h.bw h.bw.size hlp (by omega)) i j hi hj) fu i o t r o' t' hF wr ⟨Ex.refl _ _ _, by omega, h.ho, hqs, ht, hf⟩).mono ?_
  rintro e w' ⟨rfl, ha⟩
  exact ⟨rfl, ha, h.call hq ha⟩
end

/-- The beginning: loners, then placer. -/
theorem LG.start {w w1 w2 : World} {n : Nat} {F : Value} (hc : CT w (w.heap.size + 1) n 3 (fun _ => -1) w1) (hm : Mem w1 [(w1.heap.size + 1 + 1, #[plcV w1.heap.size], 68), (w1.heap.size + 1, #[F], 67), (w1.heap.size, #[.slice (some ⟨w.heap.size + 1, 0, none⟩) n n], 36)] w2) :
    LG w (w.heap.size + 1) w1.heap.size n (fun _ => -1) F w2 :=
  ⟨hc.b.trans (hm.b.mono hc.b.size), Nat.le_succ _, hc.lt, blk_keep hc.arr hm.b, (hm.tail.tail.h _ (List.mem_cons_self ..)).2, (hm.tail.h _ (List.mem_cons_self ..)).2, (hm.h _ (List.mem_cons_self ..)).2⟩

set_option maxRecDepth 100000 in
set_option maxHeartbeats 3200000 in
theorem largest_tight (ok : Nat → Nat → Bool) (L n fu po : Nat) (hn : n ≤ 100) (hL : L ≤ 100) (o' : Nat → Int) (hF : lgF ok L n fu L 0 (fun _ => -1) = some o') (w : World)
    (hok : ∀ w', Below w.heap.size w w' → ∀ i j : Nat, i < L → j < n → Calls Try.prog 34 #[.pointer (some ⟨po, 0, none⟩), .int .i64 i, .int .i64 j] w' fun e w'' => e = .returned (.bool (ok i j)) ∧ Below w'.heap.size w' w'') :
    Calls Try.prog 33 #[.int .i64 L, .int .i64 n, .func (.func 34) #[.pointer (some ⟨po, 0, none⟩)] #[]] w fun e w' => e = .returned (.slice (some ⟨w.heap.size + 1, 0, none⟩) n n) ∧ w'.heap[w.heap.size + 1]? = some (.cells (cA n o') 3 (0, 0)) ∧ Below w.heap.size w w' := by
  have HF := Lib.hid hF
  have HOK := Lib.hid hok
  have HMK := Lib.hid (fun w' => pa_makeBool n (by omega) w')
  clear hF hok
  go_enter Try.func33, Try.ntmps33
  go_wp2_with fail
  refine (loners_any n hn _).mono ?_
  rintro e w1 ⟨rfl, hc⟩
  have HC := Lib.hid hc
  clear hc
  go_wp2_with fail
  refine (placer_any (w.heap.size + 1) n (.func 34) #[.pointer (some ⟨po, 0, none⟩)] #[] _).mono ?_
  rintro e w2 ⟨rfl, hm⟩
  have HL := Lib.hid (LG.start HC.out hm)
  obtain ⟨b, hb⟩ : ∃ z, z = w1.heap.size := ⟨_, rfl⟩
  rw [← hb] at HL ⊢
  clear hm HC hb
  unfold plcV
  go_wp2_with fail
  go_loopg [16] L (fun gk x wr => ∃ (i : Nat) (o1 : Nat → Int), x = .int .i64 i ∧ i + gk = L ∧ Hid (lgF ok L n fu gk i o1 = some o') ∧ Hid (LG w (w.heap.size + 1) b n o1 (.func (.func 34) #[.pointer (some ⟨po, 0, none⟩)] #[]) wr))
  case atStart => exact ⟨0, _, rfl, by omega, HF, HL⟩
  case round =>
    obtain ⟨i, o1, rfl, hi, HP, HI⟩ := hrel
    by_cases hlt : i < L
    · obtain ⟨gk', rfl⟩ : ∃ m, gk = m + 1 := ⟨gk - 1, by omega⟩
      have hlt' : (i : Int) < L := by omega
      have hp := HP.out
      unfold lgF at hp
      obtain ⟨r, o2, t2, hr, hp2⟩ : ∃ r o2 t2, plF ok L n fu i 0 o1 (fun _ => false) = some (r, o2, t2) ∧ lgF ok L n fu gk' (i + 1) o2 = some o' := by
        split at hp
        · simp at hp
        · rename_i r o2 t2 he
          exact ⟨r, o2, t2, he, hp⟩
      have HPN := Lib.hid hp2
      have hmk := HMK.out wr
      have hbA : Below wr.heap.size wr (wr.alloc (.cells (cV n fun _ => .bool false) 4)) := (Below.refl _ _).alloc (Nat.le_refl _) _
      have hA := heap_alloc_new wr (.cells (cV n fun _ => .bool false) 4)
      have HCALL := Lib.hid ((HI.out.step hbA).place (cap := n) (q := wr.heap.size) ok hn hL (block_lt HI.out.h2) (by simp) (fun i hi => by rw [blkc hA, cV_get hi]) (fun i hi => by simp only [World.frozen?]; rw [hA]; simp) HOK.out fu i r hr)
      clear hp hp2 hr hbA hA
      go_wp2_with fail
      refine HCALL.out.mono ?_
      rintro e w5 ⟨rfl, -, hg⟩
      have HG := Lib.hid hg
      clear hg hmk HCALL HI
      go_wp2
      go_roundg gk'
      case measure => exact Nat.lt_succ_self _
      case rel => exact ⟨i + 1, o2, by go_num, by omega, HPN, HG⟩
    · obtain ⟨rfl, rfl⟩ : gk = 0 ∧ i = L := by omega
      have hp := HP.out
      unfold lgF at hp
      simp only [Option.some.injEq] at hp
      subst hp
      clear HF
      go_wp2
      go_ret
      exact ⟨rfl, HI.out.ho, HI.out.bw⟩

/-- As lgF, where each finds a partner. -/
def lwF (ok : Nat → Nat → Bool) (L n fu : Nat) : Nat → Nat → (Nat → Int) → Option (Nat → Int)
  | 0, _, o => some o
  | m + 1, i, o => match plF ok L n fu i 0 o (fun _ => false) with
    | some (true, o', _) => lwF ok L n fu m (i + 1) o'
    | _ => none
theorem OffC.of {w : World} {po pt L R ba bb : Nat} {C : Nat → Nat → Int} {a b : Nat → Int} {T : TypeId} (hz : w.heap[po]? = some (.cells #[.pointer (some ⟨pt, 0, none⟩), .slice (some ⟨ba, 0, none⟩) L L, .slice (some ⟨bb, 0, none⟩) R R] T (0, 0))) (ha : w.heap[ba]? = some (.cells (cA L a) 3 (0, 0))) (hb : w.heap[bb]? = some (.cells (cA R b) 3 (0, 0))) (ht : TabC w pt L R C) : OffC w po pt L R C a b := by
  obtain ⟨c0, c1, c2, -, hl⟩ := blk3 hz
  exact ⟨hl, c0, ⟨ba, block_lt ha, c1, fun i hi => by rw [blkc ha, cA_get hi]⟩, ⟨bb, block_lt hb, c2, fun i hi => by rw [blkc hb, cA_get hi]⟩, ht⟩

set_option maxRecDepth 100000 in
set_option maxHeartbeats 6400000 in
theorem lowest_yes (pt L R fu : Nat) (hL : L ≤ 32) (hR : R ≤ 32) (C : Nat → Nat → Int) (hC : ∀ i j, i < L → j < R → -1 ≤ C i j ∧ C i j ≤ 4000000) (o' : Nat → Int) (hF : lwF (tgt L R C (fun _ => 1000000000) (fun _ => 0)) (L + R) (R + L) fu L 0 (fun _ => -1) = some o') (w : World) (ht : TabC w pt L R C) :
    Calls Try.prog 32 #[.pointer (some ⟨pt, 0, none⟩)] w fun e w' => ∃ po, e = .returned (.pointer (some ⟨po, 0, none⟩)) ∧ OffC w' po pt L R C (fun _ => 1000000000) (fun _ => 0) ∧ Below w.heap.size w w' := by
  have HF := Lib.hid hF
  have HT := Lib.hid ht
  have HS : Hid (∀ w', Below w.heap.size w w' → w'.cell? ⟨pt, 0, none⟩ = some (.int .i64 L) ∧ w'.cell? ⟨pt, 1, none⟩ = some (.int .i64 R)) := Lib.hid (fun w' hb => ⟨(ht.below hb).c0, (ht.below hb).c1⟩)
  have HB0 : Hid (Below w.heap.size w w.drew) := Lib.hid (Below.refl _ _).drew
  have HRG : Hid (∀ i j, i < L → j < R → (0 ≤ (1000000000 : Int) ∧ (1000000000 : Int) ≤ 1000000000) ∧ (0 ≤ (0 : Int) ∧ (0 : Int) ≤ 1000000000) ∧ (-1 ≤ C i j ∧ C i j ≤ 4000000)) := Lib.hid (fun i j hi hj => ⟨by omega, by omega, hC i j hi hj⟩)
  clear hF ht hC
  go_enter Try.func32, Try.ntmps32
  go_upto_region 1 with fail
  go_cut [3, 12, 17, 22, 23, 24] (fun s3 s12 s17 s22 s23 s24 wx => ∃ po : Nat, s3 = .pointer (some ⟨po, 0, none⟩) ∧ Hid (w.heap.size ≤ po ∧ OffC wx po pt L R C (fun _ => 1000000000) (fun _ => 0) ∧ Below w.heap.size w wx))
  case first =>
    refine wp_region_held_drew (S := fun w' => w'.cell? ⟨pt, 0, none⟩ = some (.int .i64 L) ∧ w'.cell? ⟨pt, 1, none⟩ = some (.int .i64 R)) (by kernel_rfl) (HS.out _ (Below.refl _ _).drew) (fun hHeld => ?_)
    obtain ⟨wd, hwd⟩ : ∃ z, z = w.drew := ⟨_, rfl⟩
    have HBd : Hid (Below w.heap.size w wd) := Lib.hid (by rw [hwd]; exact HB0.out)
    rw [← hwd] at hHeld ⊢
    clear hwd
    refine wpAnyH_take (i := 0) (oi := { dst := some 11, op := Op.move (Operand.tmp 0), type := 54, pos := "cheapest.go:37", after := #[], guard := none }) (v := ?_) rfl (by kernel_rfl) (by kernel_rfl) (by kernel_rfl) (fun _ _ _ h => h) (Or.inl ⟨by rfl, ?_⟩) (by assumption) ?_
    rotate_left
    · intro w' hSw
      (try dsimp only at hSw)
      (try go_split_ands)
      go_simp
      try with_reducible rfl
    (try simp only [Act.put, List.setIfInBounds_toArray, List.set_cons_zero, List.set_cons_succ])
    refine wpAnyH_take (i := 2) (oi := { dst := some 13, op := Op.move (Operand.tmp 0), type := 54, pos := "cheapest.go:37", after := #[], guard := none }) (v := ?_) rfl (by kernel_rfl) (by kernel_rfl) (by kernel_rfl) (fun _ _ _ h => h) (Or.inl ⟨by rfl, ?_⟩) (by assumption) ?_
    rotate_left
    · intro w' hSw
      (try dsimp only at hSw)
      (try go_split_ands)
      go_simp
      try with_reducible rfl
    (try simp only [Act.put, List.setIfInBounds_toArray, List.set_cons_zero, List.set_cons_succ])
    refine wpAnyH_take (i := 3) (oi := { dst := some 14, op := Op.nilCheck (Operand.tmp 13), type := 0, pos := "cheapest.go:37", after := #[{ on := 2, ground := Ground.data }], guard := none }) (v := ?_) rfl (by kernel_rfl) (by kernel_rfl) (by kernel_rfl) (fun _ _ _ h => h) (Or.inl ⟨by rfl, ?_⟩) (by assumption) ?_
    rotate_left
    · intro w' hSw
      (try dsimp only at hSw)
      (try go_split_ands)
      go_simp
      try with_reducible rfl
    (try simp only [Act.put, List.setIfInBounds_toArray, List.set_cons_zero, List.set_cons_succ])
    refine wpAnyH_take (i := 4) (oi := { dst := some 15, op := Op.fieldAddr 65 (Operand.tmp 14) 0, type := 0, pos := "cheapest.go:37", after := #[{ on := 3, ground := Ground.data }], guard := none }) (v := ?_) rfl (by kernel_rfl) (by kernel_rfl) (by kernel_rfl) (fun _ _ _ h => h) (Or.inl ⟨by rfl, ?_⟩) (by assumption) ?_
    rotate_left
    · intro w' hSw
      (try dsimp only at hSw)
      (try go_split_ands)
      go_simp
      try with_reducible rfl
    (try simp only [Act.put, List.setIfInBounds_toArray, List.set_cons_zero, List.set_cons_succ])
    refine wpAnyH_take (i := 5) (oi := { dst := some 16, op := Op.load 3 (Operand.tmp 15), type := 3, pos := "cheapest.go:37", after := #[{ on := 4, ground := Ground.data }], guard := none }) (v := ?_) rfl (by kernel_rfl) (by kernel_rfl) (by kernel_rfl) (fun _ _ _ h => h) (Or.inl ⟨by rfl, ?_⟩) (by assumption) ?_
    rotate_left
    · intro w' hSw
      (try dsimp only at hSw)
      (try go_split_ands)
      go_simp
      try with_reducible rfl
    (try simp only [Act.put, List.setIfInBounds_toArray, List.set_cons_zero, List.set_cons_succ])
    refine wpAnyH_take (i := 7) (oi := { dst := some 18, op := Op.move (Operand.tmp 0), type := 54, pos := "cheapest.go:37", after := #[], guard := none }) (v := ?_) rfl (by kernel_rfl) (by kernel_rfl) (by kernel_rfl) (fun _ _ _ h => h) (Or.inl ⟨by rfl, ?_⟩) (by assumption) ?_
    rotate_left
    · intro w' hSw
      (try dsimp only at hSw)
      (try go_split_ands)
      go_simp
      try with_reducible rfl
    (try simp only [Act.put, List.setIfInBounds_toArray, List.set_cons_zero, List.set_cons_succ])
    refine wpAnyH_take (i := 8) (oi := { dst := some 19, op := Op.nilCheck (Operand.tmp 18), type := 0, pos := "cheapest.go:37", after := #[{ on := 7, ground := Ground.data }], guard := none }) (v := ?_) rfl (by kernel_rfl) (by kernel_rfl) (by kernel_rfl) (fun _ _ _ h => h) (Or.inl ⟨by rfl, ?_⟩) (by assumption) ?_
    rotate_left
    · intro w' hSw
      (try dsimp only at hSw)
      (try go_split_ands)
      go_simp
      try with_reducible rfl
    (try simp only [Act.put, List.setIfInBounds_toArray, List.set_cons_zero, List.set_cons_succ])
    refine wpAnyH_take (i := 9) (oi := { dst := some 20, op := Op.fieldAddr 65 (Operand.tmp 19) 1, type := 0, pos := "cheapest.go:37", after := #[{ on := 8, ground := Ground.data }], guard := none }) (v := ?_) rfl (by kernel_rfl) (by kernel_rfl) (by kernel_rfl) (fun _ _ _ h => h) (Or.inl ⟨by rfl, ?_⟩) (by assumption) ?_
    rotate_left
    · intro w' hSw
      (try dsimp only at hSw)
      (try go_split_ands)
      go_simp
      try with_reducible rfl
    (try simp only [Act.put, List.setIfInBounds_toArray, List.set_cons_zero, List.set_cons_succ])
    refine wpAnyH_take (i := 10) (oi := { dst := some 21, op := Op.load 3 (Operand.tmp 20), type := 3, pos := "cheapest.go:37", after := #[{ on := 9, ground := Ground.data }], guard := none }) (v := ?_) rfl (by kernel_rfl) (by kernel_rfl) (by kernel_rfl) (fun _ _ _ h => h) (Or.inl ⟨by rfl, ?_⟩) (by assumption) ?_
    rotate_left
    · intro w' hSw
      (try dsimp only at hSw)
      (try go_split_ands)
      go_simp
      try with_reducible rfl
    (try simp only [Act.put, List.setIfInBounds_toArray, List.set_cons_zero, List.set_cons_succ])
    refine wpAnyH_ready (rs := [1, 11]) (by kernel_rfl) (by simp) ?_
    refine (AllReadyH.cons (o := { dst := some 12, op := Op.buildSlice 36 1 #[(0, Operand.const (Value.int IntKind.i64 1000000000))], type := 36, pos := "cheapest.go:37", after := #[], guard := none }) rfl (fun K hK => ?_) (AllReadyH.cons (o := { dst := some 22, op := Op.makeSlice 36 (Operand.tmp 21) (Operand.tmp 21), type := 36, pos := "cheapest.go:37", after := #[{ on := 10, ground := Ground.data }, { on := 10, ground := Ground.data }], guard := none }) rfl (fun K hK => ?_) AllReadyH.nil))
    · go_simp
      obtain ⟨w1, hX⟩ : ∃ z, z = wd.alloc (.cells #[.int .i64 1000000000] 3) := ⟨_, rfl⟩
      have hb1 : Below wd.heap.size wd w1 := by rw [hX]; exact (Below.refl _ _).alloc (Nat.le_refl _) _
      have HG1 : Hid (w1.heap[wd.heap.size]? = some (.cells #[.int .i64 1000000000] 3 (0, 0))) := Lib.hid (by rw [hX]; exact heap_alloc_new _ _)
      rw [← hX]
      clear hX
      have HB1 := Lib.hid (HBd.out.trans (hb1.mono HBd.out.size))
      clear hb1
      refine hK.out _ _ (HS.out _ HB1.out) (fun hHeld => ?_)
      clear hK K
      (try simp only [Act.put, List.setIfInBounds_toArray, List.set_cons_zero, List.set_cons_succ])
      refine wpAnyH_ready (rs := [6, 11]) (by kernel_rfl) (by simp) ?_
      refine (AllReadyH.cons (o := { dst := some 17, op := Op.call { callee := Callee.value (Operand.func 56), args := #[Operand.tmp 12, Operand.tmp 16], argTypes := #[36, 3] }, type := 36, pos := "cheapest.go:37", after := #[{ on := 1, ground := Ground.data }, { on := 5, ground := Ground.data }], guard := none }) rfl (fun K hK => ?_) (AllReadyH.cons (o := { dst := some 22, op := Op.makeSlice 36 (Operand.tmp 21) (Operand.tmp 21), type := 36, pos := "cheapest.go:37", after := #[{ on := 10, ground := Ground.data }, { on := 10, ground := Ground.data }], guard := none }) rfl (fun K hK => ?_) AllReadyH.nil))
      · go_simp
        go_at_call 56
        with_reducible (refine (repeat_any wd.heap.size L (by omega) 1000000000 _ (block_lt HG1.out) (by rw [blkc HG1.out]; simp)).mono ?_)
        rintro e w2 ⟨rfl, hc2⟩
        have hb2 := hc2.b
        have HR2 : Hid (w2.heap[w1.heap.size]? = some (.cells (cA L fun _ => 1000000000) 3 (0, 0))) := Lib.hid hc2.arr
        clear hc2
        (try go_wp2_with fail)
        have HB2 := Lib.hid (HB1.out.trans (hb2.mono HB1.out.size))
        have KHG2 := Lib.hid (blk_keep HG1.out hb2)
        clear hb2
        refine hK.out _ _ (HS.out _ HB2.out) (fun hHeld => ?_)
        clear hK K
        (try simp only [Act.put, List.setIfInBounds_toArray, List.set_cons_zero, List.set_cons_succ])
        refine wpAnyH_ready (rs := [11]) (by kernel_rfl) (by simp) ?_
        refine (AllReadyH.cons (o := { dst := some 22, op := Op.makeSlice 36 (Operand.tmp 21) (Operand.tmp 21), type := 36, pos := "cheapest.go:37", after := #[{ on := 10, ground := Ground.data }, { on := 10, ground := Ground.data }], guard := none }) rfl (fun K hK => ?_) AllReadyH.nil)
        have hmk := pa_makeInt R (by omega) w2
        go_simp
        clear hmk
        obtain ⟨w3, hX⟩ : ∃ z, z = w2.alloc (.cells (cA R fun _ => 0) 3) := ⟨_, rfl⟩
        have hb3 : Below w2.heap.size w2 w3 := by rw [hX]; exact (Below.refl _ _).alloc (Nat.le_refl _) _
        have HM3 : Hid (w3.heap[w2.heap.size]? = some (.cells (cA R fun _ => 0) 3 (0, 0))) := Lib.hid (by rw [hX]; exact heap_alloc_new _ _)
        rw [← hX]
        clear hX
        have HB3 := Lib.hid (HB2.out.trans (hb3.mono HB2.out.size))
        have KHG3 := Lib.hid (blk_keep KHG2.out hb3)
        have KHR3 := Lib.hid (blk_keep HR2.out hb3)
        clear hb3
        refine hK.out _ _ (HS.out _ HB3.out) (fun hHeld => ?_)
        clear hK K
        (try simp only [Act.put, List.setIfInBounds_toArray, List.set_cons_zero, List.set_cons_succ])
        refine wpAnyH_take (i := 12) (oi := { dst := some 23, op := Op.build 89 #[(0, Operand.tmp 11), (1, Operand.tmp 17), (2, Operand.tmp 22)], type := 89, pos := "cheapest.go:37", after := #[{ on := 0, ground := Ground.data }, { on := 6, ground := Ground.data }, { on := 11, ground := Ground.data }], guard := none }) (v := ?_) rfl (by kernel_rfl) (by kernel_rfl) (by kernel_rfl) (fun _ _ _ h => h) (Or.inl ⟨by rfl, ?_⟩) (by assumption) ?_
        rotate_left
        · intro w' hSw
          (try dsimp only at hSw)
          (try go_split_ands)
          go_simp
          try with_reducible rfl
        (try simp only [Act.put, List.setIfInBounds_toArray, List.set_cons_zero, List.set_cons_succ])
        refine wpAnyH_ready (rs := [13]) (by kernel_rfl) (by simp) ?_
        refine (AllReadyH.cons (o := { dst := some 24, op := Op.box 89 (Operand.tmp 23), type := 61, pos := "cheapest.go:37", after := #[{ on := 12, ground := Ground.data }], guard := none }) rfl (fun K hK => ?_) AllReadyH.nil)
        go_simp
        obtain ⟨wz4, hX⟩ : ∃ z, z = w3.alloc (.cells #[.pointer (some ⟨pt, 0, none⟩), .slice (some ⟨w1.heap.size, 0, none⟩) L L, .slice (some ⟨w2.heap.size, 0, none⟩) R R] 89) := ⟨_, rfl⟩
        have HF : Hid (w.heap.size ≤ w3.heap.size ∧ OffC wz4 w3.heap.size pt L R C (fun _ => 1000000000) (fun _ => 0) ∧ Below w.heap.size w wz4) := Lib.hid (by
          have hb : Below w3.heap.size w3 wz4 := by rw [hX]; exact (Below.refl _ _).alloc (Nat.le_refl _) _
          have hz : wz4.heap[w3.heap.size]? = some (.cells #[.pointer (some ⟨pt, 0, none⟩), .slice (some ⟨w1.heap.size, 0, none⟩) L L, .slice (some ⟨w2.heap.size, 0, none⟩) R R] 89 (0, 0)) := by rw [hX]; exact heap_alloc_new _ _
          have hbw := HB3.out.trans (hb.mono HB3.out.size)
          exact ⟨HB3.out.size, OffC.of hz (blk_keep KHR3.out hb) (blk_keep HM3.out hb) (HT.out.below hbw), hbw⟩)
        rw [← hX]
        clear hX
        refine hK.out _ _ (HS.out _ HF.out.2.2) (fun hHeld => ?_)
        clear hK K
        (try simp only [Act.put, List.setIfInBounds_toArray, List.set_cons_zero, List.set_cons_succ])
        refine wpAnyH_take (i := 14) (oi := { dst := some 3, op := Op.assign (Operand.tmp 24), type := 61, pos := "cheapest.go:37", after := #[{ on := 13, ground := Ground.data }, { on := 6, ground := Ground.chain }, { on := 0, ground := Ground.phase }, { on := 1, ground := Ground.phase }, { on := 2, ground := Ground.phase }, { on := 3, ground := Ground.phase }, { on := 4, ground := Ground.phase }, { on := 5, ground := Ground.phase }, { on := 6, ground := Ground.phase }, { on := 7, ground := Ground.phase }, { on := 8, ground := Ground.phase }, { on := 9, ground := Ground.phase }, { on := 10, ground := Ground.phase }, { on := 11, ground := Ground.phase }, { on := 12, ground := Ground.phase }, { on := 13, ground := Ground.phase }], guard := none }) (v := ?_) rfl (by kernel_rfl) (by kernel_rfl) (by kernel_rfl) (fun _ _ _ h => h) (Or.inl ⟨by rfl, ?_⟩) (by assumption) ?_
        rotate_left
        · intro w' hSw
          (try dsimp only at hSw)
          (try go_split_ands)
          go_simp
          try with_reducible rfl
        (try simp only [Act.put, List.setIfInBounds_toArray, List.set_cons_zero, List.set_cons_succ])
        refine wpAnyH_done (by kernel_rfl) ?_ _
        go_wp2_with fail
        go_meet
        exact ⟨_, rfl, HF⟩
      · have hmk := pa_makeInt R (by omega) w1
        go_simp
        clear hmk
        obtain ⟨w5, hX⟩ : ∃ z, z = w1.alloc (.cells (cA R fun _ => 0) 3) := ⟨_, rfl⟩
        have hb5 : Below w1.heap.size w1 w5 := by rw [hX]; exact (Below.refl _ _).alloc (Nat.le_refl _) _
        have HM5 : Hid (w5.heap[w1.heap.size]? = some (.cells (cA R fun _ => 0) 3 (0, 0))) := Lib.hid (by rw [hX]; exact heap_alloc_new _ _)
        rw [← hX]
        clear hX
        have HB5 := Lib.hid (HB1.out.trans (hb5.mono HB1.out.size))
        have KHG5 := Lib.hid (blk_keep HG1.out hb5)
        clear hb5
        refine hK.out _ _ (HS.out _ HB5.out) (fun hHeld => ?_)
        clear hK K
        (try simp only [Act.put, List.setIfInBounds_toArray, List.set_cons_zero, List.set_cons_succ])
        refine wpAnyH_ready (rs := [6]) (by kernel_rfl) (by simp) ?_
        refine (AllReadyH.cons (o := { dst := some 17, op := Op.call { callee := Callee.value (Operand.func 56), args := #[Operand.tmp 12, Operand.tmp 16], argTypes := #[36, 3] }, type := 36, pos := "cheapest.go:37", after := #[{ on := 1, ground := Ground.data }, { on := 5, ground := Ground.data }], guard := none }) rfl (fun K hK => ?_) AllReadyH.nil)
        go_simp
        go_at_call 56
        with_reducible (refine (repeat_any wd.heap.size L (by omega) 1000000000 _ (block_lt KHG5.out) (by rw [blkc KHG5.out]; simp)).mono ?_)
        rintro e w6 ⟨rfl, hc6⟩
        have hb6 := hc6.b
        have HR6 : Hid (w6.heap[w5.heap.size]? = some (.cells (cA L fun _ => 1000000000) 3 (0, 0))) := Lib.hid hc6.arr
        clear hc6
        (try go_wp2_with fail)
        have HB6 := Lib.hid (HB5.out.trans (hb6.mono HB5.out.size))
        have KHG6 := Lib.hid (blk_keep KHG5.out hb6)
        have KHM6 := Lib.hid (blk_keep HM5.out hb6)
        clear hb6
        refine hK.out _ _ (HS.out _ HB6.out) (fun hHeld => ?_)
        clear hK K
        (try simp only [Act.put, List.setIfInBounds_toArray, List.set_cons_zero, List.set_cons_succ])
        refine wpAnyH_take (i := 12) (oi := { dst := some 23, op := Op.build 89 #[(0, Operand.tmp 11), (1, Operand.tmp 17), (2, Operand.tmp 22)], type := 89, pos := "cheapest.go:37", after := #[{ on := 0, ground := Ground.data }, { on := 6, ground := Ground.data }, { on := 11, ground := Ground.data }], guard := none }) (v := ?_) rfl (by kernel_rfl) (by kernel_rfl) (by kernel_rfl) (fun _ _ _ h => h) (Or.inl ⟨by rfl, ?_⟩) (by assumption) ?_
        rotate_left
        · intro w' hSw
          (try dsimp only at hSw)
          (try go_split_ands)
          go_simp
          try with_reducible rfl
        (try simp only [Act.put, List.setIfInBounds_toArray, List.set_cons_zero, List.set_cons_succ])
        refine wpAnyH_ready (rs := [13]) (by kernel_rfl) (by simp) ?_
        refine (AllReadyH.cons (o := { dst := some 24, op := Op.box 89 (Operand.tmp 23), type := 61, pos := "cheapest.go:37", after := #[{ on := 12, ground := Ground.data }], guard := none }) rfl (fun K hK => ?_) AllReadyH.nil)
        go_simp
        obtain ⟨wz7, hX⟩ : ∃ z, z = w6.alloc (.cells #[.pointer (some ⟨pt, 0, none⟩), .slice (some ⟨w5.heap.size, 0, none⟩) L L, .slice (some ⟨w1.heap.size, 0, none⟩) R R] 89) := ⟨_, rfl⟩
        have HF : Hid (w.heap.size ≤ w6.heap.size ∧ OffC wz7 w6.heap.size pt L R C (fun _ => 1000000000) (fun _ => 0) ∧ Below w.heap.size w wz7) := Lib.hid (by
          have hb : Below w6.heap.size w6 wz7 := by rw [hX]; exact (Below.refl _ _).alloc (Nat.le_refl _) _
          have hz : wz7.heap[w6.heap.size]? = some (.cells #[.pointer (some ⟨pt, 0, none⟩), .slice (some ⟨w5.heap.size, 0, none⟩) L L, .slice (some ⟨w1.heap.size, 0, none⟩) R R] 89 (0, 0)) := by rw [hX]; exact heap_alloc_new _ _
          have hbw := HB6.out.trans (hb.mono HB6.out.size)
          exact ⟨HB6.out.size, OffC.of hz (blk_keep HR6.out hb) (blk_keep KHM6.out hb) (HT.out.below hbw), hbw⟩)
        rw [← hX]
        clear hX
        refine hK.out _ _ (HS.out _ HF.out.2.2) (fun hHeld => ?_)
        clear hK K
        (try simp only [Act.put, List.setIfInBounds_toArray, List.set_cons_zero, List.set_cons_succ])
        refine wpAnyH_take (i := 14) (oi := { dst := some 3, op := Op.assign (Operand.tmp 24), type := 61, pos := "cheapest.go:37", after := #[{ on := 13, ground := Ground.data }, { on := 6, ground := Ground.chain }, { on := 0, ground := Ground.phase }, { on := 1, ground := Ground.phase }, { on := 2, ground := Ground.phase }, { on := 3, ground := Ground.phase }, { on := 4, ground := Ground.phase }, { on := 5, ground := Ground.phase }, { on := 6, ground := Ground.phase }, { on := 7, ground := Ground.phase }, { on := 8, ground := Ground.phase }, { on := 9, ground := Ground.phase }, { on := 10, ground := Ground.phase }, { on := 11, ground := Ground.phase }, { on := 12, ground := Ground.phase }, { on := 13, ground := Ground.phase }], guard := none }) (v := ?_) rfl (by kernel_rfl) (by kernel_rfl) (by kernel_rfl) (fun _ _ _ h => h) (Or.inl ⟨by rfl, ?_⟩) (by assumption) ?_
        rotate_left
        · intro w' hSw
          (try dsimp only at hSw)
          (try go_split_ands)
          go_simp
          try with_reducible rfl
        (try simp only [Act.put, List.setIfInBounds_toArray, List.set_cons_zero, List.set_cons_succ])
        refine wpAnyH_done (by kernel_rfl) ?_ _
        go_wp2_with fail
        go_meet
        exact ⟨_, rfl, HF⟩
    · have hmk := pa_makeInt R (by omega) wd
      go_simp
      clear hmk
      obtain ⟨w8, hX⟩ : ∃ z, z = wd.alloc (.cells (cA R fun _ => 0) 3) := ⟨_, rfl⟩
      have hb8 : Below wd.heap.size wd w8 := by rw [hX]; exact (Below.refl _ _).alloc (Nat.le_refl _) _
      have HM8 : Hid (w8.heap[wd.heap.size]? = some (.cells (cA R fun _ => 0) 3 (0, 0))) := Lib.hid (by rw [hX]; exact heap_alloc_new _ _)
      rw [← hX]
      clear hX
      have HB8 := Lib.hid (HBd.out.trans (hb8.mono HBd.out.size))
      clear hb8
      refine hK.out _ _ (HS.out _ HB8.out) (fun hHeld => ?_)
      clear hK K
      (try simp only [Act.put, List.setIfInBounds_toArray, List.set_cons_zero, List.set_cons_succ])
      refine wpAnyH_ready (rs := [1]) (by kernel_rfl) (by simp) ?_
      refine (AllReadyH.cons (o := { dst := some 12, op := Op.buildSlice 36 1 #[(0, Operand.const (Value.int IntKind.i64 1000000000))], type := 36, pos := "cheapest.go:37", after := #[], guard := none }) rfl (fun K hK => ?_) AllReadyH.nil)
      go_simp
      obtain ⟨w9, hX⟩ : ∃ z, z = w8.alloc (.cells #[.int .i64 1000000000] 3) := ⟨_, rfl⟩
      have hb9 : Below w8.heap.size w8 w9 := by rw [hX]; exact (Below.refl _ _).alloc (Nat.le_refl _) _
      have HG9 : Hid (w9.heap[w8.heap.size]? = some (.cells #[.int .i64 1000000000] 3 (0, 0))) := Lib.hid (by rw [hX]; exact heap_alloc_new _ _)
      rw [← hX]
      clear hX
      have HB9 := Lib.hid (HB8.out.trans (hb9.mono HB8.out.size))
      have KHM9 := Lib.hid (blk_keep HM8.out hb9)
      clear hb9
      refine hK.out _ _ (HS.out _ HB9.out) (fun hHeld => ?_)
      clear hK K
      (try simp only [Act.put, List.setIfInBounds_toArray, List.set_cons_zero, List.set_cons_succ])
      refine wpAnyH_ready (rs := [6]) (by kernel_rfl) (by simp) ?_
      refine (AllReadyH.cons (o := { dst := some 17, op := Op.call { callee := Callee.value (Operand.func 56), args := #[Operand.tmp 12, Operand.tmp 16], argTypes := #[36, 3] }, type := 36, pos := "cheapest.go:37", after := #[{ on := 1, ground := Ground.data }, { on := 5, ground := Ground.data }], guard := none }) rfl (fun K hK => ?_) AllReadyH.nil)
      go_simp
      go_at_call 56
      with_reducible (refine (repeat_any w8.heap.size L (by omega) 1000000000 _ (block_lt HG9.out) (by rw [blkc HG9.out]; simp)).mono ?_)
      rintro e w10 ⟨rfl, hc10⟩
      have hb10 := hc10.b
      have HR10 : Hid (w10.heap[w9.heap.size]? = some (.cells (cA L fun _ => 1000000000) 3 (0, 0))) := Lib.hid hc10.arr
      clear hc10
      (try go_wp2_with fail)
      have HB10 := Lib.hid (HB9.out.trans (hb10.mono HB9.out.size))
      have KHG10 := Lib.hid (blk_keep HG9.out hb10)
      have KHM10 := Lib.hid (blk_keep KHM9.out hb10)
      clear hb10
      refine hK.out _ _ (HS.out _ HB10.out) (fun hHeld => ?_)
      clear hK K
      (try simp only [Act.put, List.setIfInBounds_toArray, List.set_cons_zero, List.set_cons_succ])
      refine wpAnyH_take (i := 12) (oi := { dst := some 23, op := Op.build 89 #[(0, Operand.tmp 11), (1, Operand.tmp 17), (2, Operand.tmp 22)], type := 89, pos := "cheapest.go:37", after := #[{ on := 0, ground := Ground.data }, { on := 6, ground := Ground.data }, { on := 11, ground := Ground.data }], guard := none }) (v := ?_) rfl (by kernel_rfl) (by kernel_rfl) (by kernel_rfl) (fun _ _ _ h => h) (Or.inl ⟨by rfl, ?_⟩) (by assumption) ?_
      rotate_left
      · intro w' hSw
        (try dsimp only at hSw)
        (try go_split_ands)
        go_simp
        try with_reducible rfl
      (try simp only [Act.put, List.setIfInBounds_toArray, List.set_cons_zero, List.set_cons_succ])
      refine wpAnyH_ready (rs := [13]) (by kernel_rfl) (by simp) ?_
      refine (AllReadyH.cons (o := { dst := some 24, op := Op.box 89 (Operand.tmp 23), type := 61, pos := "cheapest.go:37", after := #[{ on := 12, ground := Ground.data }], guard := none }) rfl (fun K hK => ?_) AllReadyH.nil)
      go_simp
      obtain ⟨wz11, hX⟩ : ∃ z, z = w10.alloc (.cells #[.pointer (some ⟨pt, 0, none⟩), .slice (some ⟨w9.heap.size, 0, none⟩) L L, .slice (some ⟨wd.heap.size, 0, none⟩) R R] 89) := ⟨_, rfl⟩
      have HF : Hid (w.heap.size ≤ w10.heap.size ∧ OffC wz11 w10.heap.size pt L R C (fun _ => 1000000000) (fun _ => 0) ∧ Below w.heap.size w wz11) := Lib.hid (by
        have hb : Below w10.heap.size w10 wz11 := by rw [hX]; exact (Below.refl _ _).alloc (Nat.le_refl _) _
        have hz : wz11.heap[w10.heap.size]? = some (.cells #[.pointer (some ⟨pt, 0, none⟩), .slice (some ⟨w9.heap.size, 0, none⟩) L L, .slice (some ⟨wd.heap.size, 0, none⟩) R R] 89 (0, 0)) := by rw [hX]; exact heap_alloc_new _ _
        have hbw := HB10.out.trans (hb.mono HB10.out.size)
        exact ⟨HB10.out.size, OffC.of hz (blk_keep HR10.out hb) (blk_keep KHM10.out hb) (HT.out.below hbw), hbw⟩)
      rw [← hX]
      clear hX
      refine hK.out _ _ (HS.out _ HF.out.2.2) (fun hHeld => ?_)
      clear hK K
      (try simp only [Act.put, List.setIfInBounds_toArray, List.set_cons_zero, List.set_cons_succ])
      refine wpAnyH_take (i := 14) (oi := { dst := some 3, op := Op.assign (Operand.tmp 24), type := 61, pos := "cheapest.go:37", after := #[{ on := 13, ground := Ground.data }, { on := 6, ground := Ground.chain }, { on := 0, ground := Ground.phase }, { on := 1, ground := Ground.phase }, { on := 2, ground := Ground.phase }, { on := 3, ground := Ground.phase }, { on := 4, ground := Ground.phase }, { on := 5, ground := Ground.phase }, { on := 6, ground := Ground.phase }, { on := 7, ground := Ground.phase }, { on := 8, ground := Ground.phase }, { on := 9, ground := Ground.phase }, { on := 10, ground := Ground.phase }, { on := 11, ground := Ground.phase }, { on := 12, ground := Ground.phase }, { on := 13, ground := Ground.phase }], guard := none }) (v := ?_) rfl (by kernel_rfl) (by kernel_rfl) (by kernel_rfl) (fun _ _ _ h => h) (Or.inl ⟨by rfl, ?_⟩) (by assumption) ?_
      rotate_left
      · intro w' hSw
        (try dsimp only at hSw)
        (try go_split_ands)
        go_simp
        try with_reducible rfl
      (try simp only [Act.put, List.setIfInBounds_toArray, List.set_cons_zero, List.set_cons_succ])
      refine wpAnyH_done (by kernel_rfl) ?_ _
      go_wp2_with fail
      go_meet
      exact ⟨_, rfl, HF⟩
  case rest =>
  obtain ⟨po, rfl, HO⟩ := hcut
  obtain ⟨wv, rfl⟩ : ∃ wv, wv = wc := ⟨wc, rfl⟩
  have HSC : Hid (∀ w', Below wv.heap.size wv w' → w'.cell? ⟨pt, 0, none⟩ = some (.int .i64 L) ∧ w'.cell? ⟨pt, 1, none⟩ = some (.int .i64 R)) := Lib.hid (fun w' hb => ⟨(HO.out.2.1.below hb).tab.c0, (HO.out.2.1.below hb).tab.c1⟩)
  have HOK : Hid (∀ w', Below wv.heap.size wv w' → ∀ i j : Nat, i < L + R → j < R + L → Calls Try.prog 34 #[.pointer (some ⟨po, 0, none⟩), .int .i64 i, .int .i64 j] w' fun e w'' => e = .returned (.bool (tgt L R C (fun _ => 1000000000) (fun _ => 0) i j)) ∧ Below w'.heap.size w' w'') := Lib.hid (fun w' hb i j _ _ => isTight_any po pt L R (by omega) (by omega) C _ _ HRG.out i j w' (HO.out.2.1.below hb))
  have v1 : IntKind.i64.wrap ((R : Int) + (L : Int)) = ((R + L : Nat) : Int) := by rw [IntWalk.i64_in _ (by omega)]; simp
  obtain ⟨n, hn⟩ : ∃ n, n = R + L := ⟨_, rfl⟩
  have hn2 : n ≤ 64 := by omega
  obtain ⟨LL, hLL⟩ : ∃ z, z = L + R := ⟨_, rfl⟩
  have hl2 : LL ≤ 100 := by omega
  rw [← hn] at v1 HOK HF
  rw [← hLL] at HOK HF
  clear hn hLL HS HB0 HRG HT
  go_upto_region 2 with fail
  go_cut [4] (fun s4 wx => s4 = .slice (some ⟨wv.heap.size + 1, 0, none⟩) n n ∧ Hid (CT wv (wv.heap.size + 1) n 3 (fun _ => -1) wx))
  case first =>
    go_region_held3 (fun w' => w'.cell? ⟨pt, 0, none⟩ = some (.int .i64 L) ∧ w'.cell? ⟨pt, 1, none⟩ = some (.int .i64 R))
      (first | exact HSC.out _ (Below.refl _ _).drew | exact HSC.out _ ((Below.refl wv.heap.size wv).drew.trans (hc5.b.mono (Below.refl wv.heap.size wv).drew.size)))
      (first | (go_at_call 36; with_reducible (refine (loners_any n (by omega) _).mono ?_); rintro e w5 ⟨rfl, hc5⟩))
    have HC5 : Hid (CT wv (wv.heap.size + 1) n 3 (fun _ => -1) w5) := Lib.hid ⟨(Below.refl wv.heap.size wv).drew.trans (hc5.b.mono (Below.refl wv.heap.size wv).drew.size), Nat.le_succ _, hc5.arr⟩
    clear hc5
    go_wp2_with fail
    go_meet
    exact ⟨rfl, HC5⟩
  case rest =>
  obtain ⟨rfl, HC⟩ := hcut
  clear v1
  go_wp2_with fail
  refine (placer_any (wv.heap.size + 1) n (.func 34) #[.pointer (some ⟨po, 0, none⟩)] #[] _).mono ?_
  rintro e w2 ⟨rfl, hm⟩
  have HL := Lib.hid (LG.start HC.out hm)
  obtain ⟨b, hb⟩ : ∃ z, z = wc.heap.size := ⟨_, rfl⟩
  rw [← hb] at HL ⊢
  clear hm HC hb
  have HMK := Lib.hid (fun w' => pa_makeBool n (by omega) w')
  unfold plcV
  obtain ⟨d0, -⟩ := HSC.out _ HL.out.bw
  go_wp2_with fail
  clear d0
  go_loopg [43] L (fun gk x wr => ∃ (i : Nat) (o1 : Nat → Int), x = .int .i64 i ∧ i + gk = L ∧ Hid (lwF (tgt L R C (fun _ => 1000000000) (fun _ => 0)) LL n fu gk i o1 = some o') ∧ Hid (LG wv (wv.heap.size + 1) b n o1 (.func (.func 34) #[.pointer (some ⟨po, 0, none⟩)] #[]) wr))
  case atStart => exact ⟨0, _, rfl, by omega, HF, HL⟩
  case round =>
    obtain ⟨i, o1, rfl, hi, HP, HI⟩ := hrel
    by_cases hlt : i < L
    · obtain ⟨gk', rfl⟩ : ∃ m, gk = m + 1 := ⟨gk - 1, by omega⟩
      have hlt' : (i : Int) < L := by omega
      have hp := HP.out
      unfold lwF at hp
      obtain ⟨o2, t2, hr, hp2⟩ : ∃ o2 t2, plF (tgt L R C (fun _ => 1000000000) (fun _ => 0)) LL n fu i 0 o1 (fun _ => false) = some (true, o2, t2) ∧ lwF (tgt L R C (fun _ => 1000000000) (fun _ => 0)) LL n fu gk' (i + 1) o2 = some o' := by
        split at hp
        · rename_i o2 t2 he
          exact ⟨o2, t2, he, hp⟩
        · simp at hp
      have HPN := Lib.hid hp2
      have hmk := HMK.out wr
      obtain ⟨wq, hwq⟩ : ∃ z, z = wr.alloc (.cells (cV n fun _ => .bool false) 4) := ⟨_, rfl⟩
      have hbA : Below wr.heap.size wr wq := by rw [hwq]; exact (Below.refl _ _).alloc (Nat.le_refl _) _
      have hA : wq.heap[wr.heap.size]? = some (.cells (cV n fun _ => .bool false) 4 (0, 0)) := by rw [hwq]; exact heap_alloc_new _ _
      have HCALL := Lib.hid ((HI.out.step hbA).place (cap := n) (q := wr.heap.size) _ (by omega) hl2 (block_lt HI.out.h2) (block_lt hA) (fun i hi => by rw [blkc hA, cV_get hi]) (fun i hi => by simp only [World.frozen?]; rw [hA]; simp) HOK.out fu i true hr)
      have HWQ := Lib.hid hwq
      clear hp hp2 hr hbA hA hwq
      go_upto_region 8 with fail
      rw [← HWQ.out]
      clear hmk
      go_loopg [53] 0 (fun gk s wr => wr = wq)
      case atStart => rfl
      case round =>
        obtain rfl := hrel
        go_wp2_with fail
        refine HCALL.out.mono ?_
        rintro e w5 ⟨rfl, -, hg⟩
        have HG := Lib.hid hg
        clear hg HCALL
        go_wp2
        go_roundg gk'
        case measure => exact Nat.lt_succ_self _
        case rel => exact ⟨i + 1, o2, by go_num, by omega, HPN, HG⟩
    · obtain ⟨rfl, rfl⟩ : gk = 0 ∧ i = L := by omega
      have HE := Lib.hid (And.intro HO.out.2.2 (And.intro HO.out.2.1 HI.out.bw))
      clear HP HF
      go_wp2
      go_ret
      exact ⟨po, rfl, HE.out.2.1.below HE.out.2.2, HE.out.1.trans (HE.out.2.2.mono HE.out.1.size)⟩

end Go.Proofs.Ytchhadkmemckbab

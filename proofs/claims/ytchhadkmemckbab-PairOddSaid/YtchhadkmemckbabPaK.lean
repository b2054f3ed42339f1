/- Pairs: loners, placer, allows, over, isTight. -/
import Derived.Test.YtchhadkmemckbabPaJ
namespace Go.Proofs.Ytchhadkmemckbab
open Go.RowKit
set_option linter.unusedSimpArgs false
set_option linter.unusedVariables false

set_option maxRecDepth 100000 in
theorem loners_any (n : Nat) (hn : n ≤ 100) (w : World) : Calls Try.prog 36 #[.int .i64 n] w fun e w' => e = .returned (.slice (some ⟨w.heap.size + 1, 0, none⟩) n n) ∧ CT w (w.heap.size + 1) n 3 (fun _ => -1) w' := by
  obtain ⟨wa, hwa⟩ : ∃ z, z = w.alloc (.cells #[.int .i64 (-1)] 3) := ⟨_, rfl⟩
  have hs : wa.heap.size = w.heap.size + 1 := by rw [hwa]; simp
  have hb : Below w.heap.size w wa := by rw [hwa]; exact (Below.refl _ _).alloc (Nat.le_refl _) _
  have hc : wa.cell? ⟨w.heap.size, 0, none⟩ = some (.int .i64 (-1)) := by rw [hwa, blkc (heap_alloc_new _ _)]; rfl
  have h := repeat_any w.heap.size n hn (-1) wa (by omega) hc
  rw [hs] at h
  have H := Lib.hid h
  have HB := Lib.hid hb
  have HW := Lib.hid hwa
  clear h hb hc hs hwa
  go_enter Try.func36, Try.ntmps36
  go_upto_region 1 with fail
  go_wp2_with fail
  rw [← HW.out]
  refine H.out.mono ?_
  rintro e w1 ⟨rfl, hc1⟩
  have HC : Hid (CT w (w.heap.size + 1) n 3 (fun _ => -1) w1) := Lib.hid ⟨HB.out.trans (hc1.b.mono HB.out.size), Nat.le_succ _, hc1.arr⟩
  clear hc1
  go_wp2
  go_ret
  exact ⟨rfl, HC.out⟩

/-- What placer lays: the owners' box, the pair's box, the closure's. -/
def plcV (b : Nat) : Value := .func (.func 59) #[] #[.pointer (some ⟨b, 0, none⟩), .pointer (some ⟨b + 1, 0, none⟩), .pointer (some ⟨b + 1 + 1, 0, none⟩)]
set_option maxRecDepth 100000 in
theorem placer_any (p n : Nat) (fn : Fn) (pre post : Array Value) (w : World) : Calls Try.prog 35 #[.slice (some ⟨p, 0, none⟩) n n, .func fn pre post] w fun e w' => e = .returned (plcV w.heap.size) ∧ Mem w [(w.heap.size + 1 + 1, #[plcV w.heap.size], 68), (w.heap.size + 1, #[.func fn pre post], 67), (w.heap.size, #[.slice (some ⟨p, 0, none⟩) n n], 36)] w' := by
  go_enter Try.func35, Try.ntmps35
  go_upto_region 2 with fail
  have hm := (((Mem.nil w).alloc_at (H := w.heap.size) rfl #[.slice (some ⟨p, 0, none⟩) n n] 36).alloc_at (H := w.heap.size + 1) (by simp) #[.func fn pre post] 67).alloc_at (H := w.heap.size + 1 + 1) (by simp) #[.nilFunc] 68
  obtain ⟨w3, hw3⟩ : ∃ z, z = (((w.alloc (.cells #[.slice (some ⟨p, 0, none⟩) n n] 36)).alloc (.cells #[.func fn pre post] 67)).alloc (.cells #[.nilFunc] 68)) := ⟨_, rfl⟩
  rw [← hw3] at hm ⊢
  clear hw3
  have HE := Lib.hid (hm.set0 0 (plcV w.heap.size))
  have c0 : w3.cell? ⟨w.heap.size + 1 + 1, 0, none⟩ = some .nilFunc := hm.cell 0
  have f0 := hm.frozen 0
  have l0 := hm.head_lt
  clear hm
  unfold plcV at HE
  have hst : (store ⟨w.heap.size + 1 + 1, 0, none⟩ (.func (.func 59) #[] #[.pointer (some ⟨w.heap.size, 0, none⟩), .pointer (some ⟨w.heap.size + 1, 0, none⟩), .pointer (some ⟨w.heap.size + 1 + 1, 0, none⟩)])).run Try.prog w3 = .ok () (w3.setCell ⟨w.heap.size + 1 + 1, 0, none⟩ (.func (.func 59) #[] #[.pointer (some ⟨w.heap.size, 0, none⟩), .pointer (some ⟨w.heap.size + 1, 0, none⟩), .pointer (some ⟨w.heap.size + 1 + 1, 0, none⟩)])) := by rw [run_store _ _ _ _ _ rfl, c0]; simp [f0]
  clear c0 f0
  go_upto_region 3 with fail
  clear hst l0
  obtain ⟨w4, hw4⟩ : ∃ z, z = w3.setCell ⟨w.heap.size + 1 + 1, 0, none⟩ (.func (.func 59) #[] #[.pointer (some ⟨w.heap.size, 0, none⟩), .pointer (some ⟨w.heap.size + 1, 0, none⟩), .pointer (some ⟨w.heap.size + 1 + 1, 0, none⟩)]) := ⟨_, rfl⟩
  have HE4 : Hid (Mem w [(w.heap.size + 1 + 1, #[.func (.func 59) #[] #[.pointer (some ⟨w.heap.size, 0, none⟩), .pointer (some ⟨w.heap.size + 1, 0, none⟩), .pointer (some ⟨w.heap.size + 1 + 1, 0, none⟩)]], 68), (w.heap.size + 1, #[.func fn pre post], 67), (w.heap.size, #[.slice (some ⟨p, 0, none⟩) n n], 36)] w4) := Lib.hid (by rw [hw4]; exact HE.out)
  rw [← hw4]
  clear hw4 HE
  have c1 : w4.cell? ⟨w.heap.size + 1 + 1, 0, none⟩ = some (.func (.func 59) #[] #[.pointer (some ⟨w.heap.size, 0, none⟩), .pointer (some ⟨w.heap.size + 1, 0, none⟩), .pointer (some ⟨w.heap.size + 1 + 1, 0, none⟩)]) := HE4.out.cell 0
  go_wp2
  go_ret
  exact ⟨rfl, HE4.out⟩

set_option maxRecDepth 100000 in
theorem allows_any (p L R : Nat) (hL : L ≤ 100) (hR : R ≤ 100) (C : Nat → Nat → Int) (i j : Nat) (hi : i < L) (hj : j < R) (w : World) (h : TabC w p L R C) :
    Calls Try.prog 47 #[.pointer (some ⟨p, 0, none⟩), .int .i64 i, .int .i64 j] w fun e w' => e = .returned (.bool (C i j != -1)) ∧ Below w.heap.size w w' := by
  obtain ⟨x, cap, c2, hr⟩ := h.c2
  obtain ⟨B, mi, rfl, l1, d1, l2, hd⟩ := hr i hi
  have d2 := hd j hj
  have lt := h.lt
  have hi' : (i : Int) < L := by omega
  have hj' : (j : Int) < R := by omega
  have hi0 : (0 : Int) ≤ i := by omega
  have hj0 : (0 : Int) ≤ j := by omega
  obtain ⟨c, hc⟩ : ∃ c, c = C i j := ⟨_, rfl⟩
  rw [← hc] at d2 ⊢
  clear hr hd h hc
  go_enter Try.func47, Try.ntmps47
  go_wp2
  go_ret
  exact ⟨rfl, Below.refl _ _⟩

/-- An offer in memory. -/
structure OffC (w : World) (po pt L R : Nat) (C : Nat → Nat → Int) (a b : Nat → Int) : Prop where
  lt : po < w.heap.size
  c0 : w.cell? ⟨po, 0, none⟩ = some (.pointer (some ⟨pt, 0, none⟩))
  ca : ∃ ba, ba < w.heap.size ∧ w.cell? ⟨po, 1, none⟩ = some (.slice (some ⟨ba, 0, none⟩) L L) ∧ ∀ i, i < L → w.cell? ⟨ba, i, none⟩ = some (.int .i64 (a i))
  cb : ∃ bb, bb < w.heap.size ∧ w.cell? ⟨po, 2, none⟩ = some (.slice (some ⟨bb, 0, none⟩) R R) ∧ ∀ i, i < R → w.cell? ⟨bb, i, none⟩ = some (.int .i64 (b i))
  tab : TabC w pt L R C
theorem OffC.below {w w' : World} {po pt L R : Nat} {C : Nat → Nat → Int} {a b : Nat → Int} (h : OffC w po pt L R C a b) (hb : Below w.heap.size w w') : OffC w' po pt L R C a b := by
  have kc : ∀ {b o : Nat} {x : Value}, b < w.heap.size → w.cell? ⟨b, o, none⟩ = some x → w'.cell? ⟨b, o, none⟩ = some x := fun {b o x} hl hc => (hb.cell (p := ⟨b, o, none⟩) hl).trans hc
  obtain ⟨ba, l1, e1, f1⟩ := h.ca
  obtain ⟨bb, l2, e2, f2⟩ := h.cb
  exact ⟨Nat.lt_of_lt_of_le h.lt hb.size, kc h.lt h.c0, ⟨ba, Nat.lt_of_lt_of_le l1 hb.size, kc h.lt e1, fun i hi => kc l1 (f1 i hi)⟩, ⟨bb, Nat.lt_of_lt_of_le l2 hb.size, kc h.lt e2, fun i hi => kc l2 (f2 i hi)⟩, h.tab.below hb⟩

set_option maxRecDepth 100000 in
set_option maxHeartbeats 3200000 in
theorem pOver_any (po pt L R : Nat) (hL : L ≤ 100) (hR : R ≤ 100) (C : Nat → Nat → Int) (a b : Nat → Int) (i j : Nat) (hi : i < L) (hj : j < R) (hr : (0 ≤ a i ∧ a i ≤ 1000000000) ∧ (0 ≤ b j ∧ b j ≤ 1000000000) ∧ (-1 ≤ C i j ∧ C i j ≤ 4000000)) (w : World) (h : OffC w po pt L R C a b) :
    Calls Try.prog 58 #[.pointer (some ⟨po, 0, none⟩), .int .i64 i, .int .i64 j] w fun e w' => e = .returned (.int .i64 (a i + b j + C i j - 1000000000)) ∧ Below w.heap.size w w' := by
  obtain ⟨x, cap, c2, hr2⟩ := h.tab.c2
  obtain ⟨B, mi, rfl, l1, d1, l2, hd⟩ := hr2 i hi
  have d2 := hd j hj
  have lt := h.lt
  have tl := h.tab.lt
  have c0 := h.c0
  obtain ⟨ba, la, e1, f1⟩ := h.ca
  obtain ⟨bb, lb, e2, f2⟩ := h.cb
  have e3 := f1 i hi
  have e4 := f2 j hj
  have hi' : (i : Int) < L := by omega
  have hj' : (j : Int) < R := by omega
  have hi0 : (0 : Int) ≤ i := by omega
  have hj0 : (0 : Int) ≤ j := by omega
  obtain ⟨c, hc⟩ : ∃ c, c = C i j := ⟨_, rfl⟩
  obtain ⟨av, hav⟩ : ∃ c, c = a i := ⟨_, rfl⟩
  obtain ⟨bv, hbv⟩ : ∃ c, c = b j := ⟨_, rfl⟩
  rw [← hc] at d2 hr ⊢
  rw [← hav] at e3 hr ⊢
  rw [← hbv] at e4 hr ⊢
  obtain ⟨s1, hs1⟩ : ∃ z, z = av + bv := ⟨_, rfl⟩
  have w1 : IntKind.i64.wrap (av + bv) = s1 := by rw [hs1]; exact IntWalk.i64_in _ (by omega)
  rw [← hs1]
  obtain ⟨s2, hs2⟩ : ∃ z, z = s1 + c := ⟨_, rfl⟩
  have w2 : IntKind.i64.wrap (s1 + c) = s2 := by rw [hs2]; exact IntWalk.i64_in _ (by omega)
  rw [← hs2]
  obtain ⟨s3, hs3⟩ : ∃ z, z = s2 - 1000000000 := ⟨_, rfl⟩
  have w3 : IntKind.i64.wrap (s2 - 1000000000) = s3 := by rw [hs3]; exact IntWalk.i64_in _ (by omega)
  rw [← hs3]
  clear hr2 hd h hc hav hbv hr hs1 hs2 hs3 f1 f2
  go_enter Try.func58, Try.ntmps58
  go_upto_region 1 with fail
  go_region_held3 (fun w' => w'.cell? ⟨po, 0, none⟩ = some (.pointer (some ⟨pt, 0, none⟩)) ∧ w'.cell? ⟨po, 1, none⟩ = some (.slice (some ⟨ba, 0, none⟩) L L) ∧ w'.cell? ⟨po, 2, none⟩ = some (.slice (some ⟨bb, 0, none⟩) R R) ∧ w'.cell? ⟨ba, i, none⟩ = some (.int .i64 av) ∧ w'.cell? ⟨bb, j, none⟩ = some (.int .i64 bv) ∧ w'.cell? ⟨pt, 2, none⟩ = some (.slice (some ⟨B, 0, none⟩) L cap) ∧ w'.cell? ⟨B, i, none⟩ = some (.slice (some ⟨mi, 0, none⟩) R R) ∧ w'.cell? ⟨mi, j, none⟩ = some (.int .i64 c))
    (first | (simp only [World.cell?_drew]; exact ⟨c0, e1, e2, e3, e4, c2, d1, d2⟩) | fail) (fail)
  go_wp2
  go_ret
  exact ⟨rfl, (Below.refl _ _).drew⟩

/-- What isTight answers. -/
def tgt (L R : Nat) (C : Nat → Nat → Int) (a b : Nat → Int) (i j : Nat) : Bool :=
  if i < L then (if j < R then (C i j != -1) && (a i + b j + C i j - 1000000000 == 0) else (a i == 0)) else (if j < R then (b j == 0) else true)

set_option maxRecDepth 100000 in
set_option maxHeartbeats 3200000 in
theorem isTight_any (po pt L R : Nat) (hL : L ≤ 100) (hR : R ≤ 100) (C : Nat → Nat → Int) (a b : Nat → Int) (hr : ∀ i j, i < L → j < R → (0 ≤ a i ∧ a i ≤ 1000000000) ∧ (0 ≤ b j ∧ b j ≤ 1000000000) ∧ (-1 ≤ C i j ∧ C i j ≤ 4000000)) (i j : Nat) (w : World) (h : OffC w po pt L R C a b) :
    Calls Try.prog 34 #[.pointer (some ⟨po, 0, none⟩), .int .i64 i, .int .i64 j] w fun e w' => e = .returned (.bool (tgt L R C a b i j)) ∧ Below w.heap.size w w' := by
  have lt := h.lt
  have c0 := h.c0
  have tl := h.tab.lt
  have t0 := h.tab.c0
  have t1 := h.tab.c1
  have HH := Lib.hid h
  by_cases hi : i < L
  · have hi' : decide ((i : Int) < L) = true := decide_eq_true (by omega)
    have hi0 : (0 : Int) ≤ i := by omega
    have hi2 : (i : Int) < L := by omega
    by_cases hj : j < R
    · have hj' : decide ((j : Int) < R) = true := decide_eq_true (by omega)
      have HA := Lib.hid (fun w' hb => allows_any pt L R hL hR C i j hi hj w' (HH.out.tab.below (w' := w') hb))
      have HO := Lib.hid (fun w' hb => pOver_any po pt L R hL hR C a b i j hi hj (hr i j hi hj) w' (HH.out.below (w' := w') hb))
      have e : tgt L R C a b i j = ((C i j != -1) && (a i + b j + C i j - 1000000000 == 0)) := by unfold tgt; rw [if_pos hi, if_pos hj]
      rw [e]
      obtain ⟨x, hx⟩ : ∃ x, x = (C i j != -1) := ⟨_, rfl⟩
      rw [← hx] at HA ⊢
      obtain ⟨y, hy⟩ : ∃ y, y = (a i + b j + C i j - 1000000000) := ⟨_, rfl⟩
      rw [← hy] at HO ⊢
      clear h hr e hx hy hi2 hi0
      go_enter Try.func34, Try.ntmps34
      go_wp2_with fail
      refine (HA.out _ (Below.refl _ _)).mono ?_
      rintro e w1 ⟨rfl, hb1⟩
      have HB1 := Lib.hid hb1
      clear hb1 lt c0 tl t0 t1
      cases x with
      | false =>
        go_wp2
        go_ret
        exact ⟨rfl, HB1.out⟩
      | true =>
        go_wp2_with fail
        refine (HO.out _ HB1.out).mono ?_
        rintro e w2 ⟨rfl, hb2⟩
        have HB2 := Lib.hid (HB1.out.trans (hb2.mono HB1.out.size))
        clear hb2 HB1
        go_wp2
        go_ret
        exact ⟨by simp, HB2.out⟩
    · have hj' : decide ((j : Int) < R) = false := decide_eq_false (by omega)
      obtain ⟨ba, la, e1, f1⟩ := h.ca
      have e3 := f1 i hi
      have e : tgt L R C a b i j = (a i == 0) := by unfold tgt; rw [if_pos hi, if_neg hj]
      rw [e]
      obtain ⟨av, hav⟩ : ∃ c, c = a i := ⟨_, rfl⟩
      rw [← hav] at e3 ⊢
      clear h hr e hav f1
      go_enter Try.func34, Try.ntmps34
      go_wp2
      go_ret
      exact ⟨rfl, Below.refl _ _⟩
  · have hi' : decide ((i : Int) < L) = false := decide_eq_false (by omega)
    by_cases hj : j < R
    · have hj' : decide ((j : Int) < R) = true := decide_eq_true (by omega)
      have hj0 : (0 : Int) ≤ j := by omega
      have hj2 : (j : Int) < R := by omega
      obtain ⟨bb, lb, e1, f1⟩ := h.cb
      have e3 := f1 j hj
      have e : tgt L R C a b i j = (b j == 0) := by unfold tgt; rw [if_neg hi, if_pos hj]
      rw [e]
      obtain ⟨bv, hbv⟩ : ∃ c, c = b j := ⟨_, rfl⟩
      rw [← hbv] at e3 ⊢
      clear h hr e hbv f1
      go_enter Try.func34, Try.ntmps34
      go_wp2
      go_ret
      exact ⟨rfl, Below.refl _ _⟩
    · have hj' : decide ((j : Int) < R) = false := decide_eq_false (by omega)
      have e : tgt L R C a b i j = true := by unfold tgt; rw [if_neg hi, if_neg hj]
      rw [e]
      clear h hr e
      go_enter Try.func34, Try.ntmps34
      go_wp2
      go_ret
      exact ⟨rfl, Below.refl _ _⟩

end Go.Proofs.Ytchhadkmemckbab

/- Skins: Count of a table. -/
import Derived.Test.YtndhnpljdldlpabSlX
import Derived.Test.YtndhnpljdldlpabSlH
import Derived.BigQuiet
namespace Go.Proofs.Ytndhnpljdldlpab
open Go.RowKit

/-- A table: its box p, the rows in block n, row y in block m y. -/
structure TabS (w : World) (p n : Nat) (m : Nat → Nat) (W H : Nat) (f : Nat → Nat → Int) : Prop where
  hp : p < w.heap.size
  cp : w.cell? ⟨p, 0, none⟩ = some (.slice (some ⟨n, 0, none⟩) (H + 1) (H + 1))
  hn : n < w.heap.size
  cn : ∀ y, y ≤ H → w.cell? ⟨n, y, none⟩ = some (.slice (some ⟨m y, 0, none⟩) (W + 1) (W + 1))
  hm : ∀ y, y ≤ H → m y < w.heap.size
  cm : ∀ x y, x ≤ W → y ≤ H → w.cell? ⟨m y, x, none⟩ = some (.int .i64 (f x y))

theorem tab_neq (n : Nat) (l c : Nat) (w : World) : (binOp .eql 118 (.slice (some ⟨n, 0, none⟩) l c) (.slice none 0 0)).run Try.prog w = .ok (.bool false) w := by kernel_rfl

set_option maxRecDepth 100000 in
set_option maxHeartbeats 1600000 in
theorem count_arg (p n : Nat) (m : Nat → Nat) (W H : Nat) (f : Nat → Nat → Int) (x y u v : Int) (hr : rectB x y u v = false) (w : World) (h : TabS w p n m W H f) : Calls Try.prog 93 #[.pointer (some ⟨p, 0, none⟩), .agg #[.int .i64 x, .int .i64 y, .int .i64 u, .int .i64 v]] w fun e w' => e = .returned (.tuple #[.int .i64 0, .int .i64 2]) ∧ Below w.heap.size w w' := by
  have hp := h.hp
  have cp := h.cp
  have hne := tab_neq n (H + 1) (H + 1)
  have HR := Lib.hid (fun w' => isRect_any x y u v w')
  rw [hr] at HR
  obtain ⟨L, hL⟩ : ∃ L : Nat, L = (H + 1) := ⟨_, rfl⟩
  rw [← hL] at cp hne
  clear hL h hr
  go_enter Try.func93, Try.ntmps93
  go_wp2_with fail
  refine (HR.out _).mono ?_
  rintro e w1 ⟨rfl, hb1⟩
  go_wp2
  go_ret2
  exact ⟨rfl, ((Below.refl _ _).alloc (Nat.le_refl _) _).trans (hb1.mono (by simp))⟩

theorem memR {w w' : World} {p n : Nat} {vp vn x y u v : Value} {T : TypeId} (l1 : p < w.heap.size) (l2 : n < w.heap.size) (c1 : w.cell? ⟨p, 0, none⟩ = some vp) (c2 : w.cell? ⟨n, 0, none⟩ = some vn) (h : Mem w [(w.heap.size, #[x, y, u, v], T)] w') :
    Mem w [(w.heap.size, #[x, y, u, v], T)] w' ∧ w'.cell? ⟨p, 0, none⟩ = some vp ∧ w'.cell? ⟨n, 0, none⟩ = some vn ∧ w'.cell? ⟨w.heap.size, 0, none⟩ = some x ∧ w'.cell? ⟨w.heap.size, 1, none⟩ = some y ∧ w'.cell? ⟨w.heap.size, 2, none⟩ = some u ∧ w'.cell? ⟨w.heap.size, 3, none⟩ = some v :=
  ⟨h, (h.b.cell (p := ⟨p, 0, none⟩) l1).trans c1, (h.b.cell (p := ⟨n, 0, none⟩) l2).trans c2, h.cell 0, h.cell 1, h.cell 2, h.cell 3⟩

set_option maxRecDepth 100000 in
set_option maxHeartbeats 3200000 in
theorem count_range (p n : Nat) (m : Nat → Nat) (W H : Nat) (hW : W ≤ 48) (hH : H ≤ 48) (f : Nat → Nat → Int) (x y u v : Int) (hr : rectB x y u v = true) (hlb : liesB x y u v W H = false) (w : World) (h : TabS w p n m W H f) : Calls Try.prog 93 #[.pointer (some ⟨p, 0, none⟩), .agg #[.int .i64 x, .int .i64 y, .int .i64 u, .int .i64 v]] w fun e w' => e = .returned (.tuple #[.int .i64 0, .int .i64 5]) ∧ Below w.heap.size w w' := by
  have hp := h.hp
  have cp := h.cp
  have hn := h.hn
  have cn := h.cn 0 (Nat.zero_le _)
  have hne := tab_neq n (H + 1) (H + 1)
  have HR := Lib.hid (fun w' => isRect_any x y u v w')
  rw [hr] at HR
  obtain ⟨-, -, r3, r4⟩ := rectB_iff.1 hr
  have HL := Lib.hid (lies_any x y u v W H hW hH r3 r4)
  rw [hlb] at HL
  have hM := (Mem.nil w).alloc #[.int .i64 x, .int .i64 y, .int .i64 u, .int .i64 v] 29
  have HM := Lib.hid hM
  have HC := Lib.hid (fun w' hm => memR (w := w) (w' := w') (x := .int .i64 x) (y := .int .i64 y) (u := .int .i64 u) (v := .int .i64 v) (T := 29) hp hn cp cn hm)
  have hl0 : (0 : Int) < ((H + 1 : Nat) : Int) := by omega
  have hl1 : 0 < H + 1 := by omega
  have hw1 : IntKind.i64.wrap (((H + 1 : Nat) : Int) - 1) = H := by rw [IntWalk.i64_in _ (by omega)]; omega
  have hw2 : IntKind.i64.wrap (((W + 1 : Nat) : Int) - 1) = W := by rw [IntWalk.i64_in _ (by omega)]; omega
  obtain ⟨L, hL⟩ : ∃ L : Nat, L = H + 1 := ⟨_, rfl⟩
  obtain ⟨K, hK⟩ : ∃ K : Nat, K = W + 1 := ⟨_, rfl⟩
  rw [← hL] at cp hne hl0 hl1 hw1 HC
  rw [← hK] at cn hw2 HC
  clear hL hK h hr hlb hM
  go_enter Try.func93, Try.ntmps93
  go_wp2_with fail
  refine (HR.out _).mono ?_
  rintro e w1 ⟨rfl, hb1⟩
  have HM1 := Lib.hid (HM.out.step hb1)
  clear hb1
  go_wp2_with fail
  go_region_held3 (fun w' => Mem w [(w.heap.size, #[.int .i64 x, .int .i64 y, .int .i64 u, .int .i64 v], 29)] w' ∧ w'.cell? ⟨p, 0, none⟩ = some (.slice (some ⟨n, 0, none⟩) L L) ∧ w'.cell? ⟨n, 0, none⟩ = some (.slice (some ⟨m 0, 0, none⟩) K K) ∧ w'.cell? ⟨w.heap.size, 0, none⟩ = some (.int .i64 x) ∧ w'.cell? ⟨w.heap.size, 1, none⟩ = some (.int .i64 y) ∧ w'.cell? ⟨w.heap.size, 2, none⟩ = some (.int .i64 u) ∧ w'.cell? ⟨w.heap.size, 3, none⟩ = some (.int .i64 v))
    (first | exact HC.out _ HM1.out.drew | (go_split_ands; exact HC.out _ (Mem.step (by assumption) (by assumption))))
    (first | (go_at_call 101; go_split_ands; with_reducible (refine (HL.out _).mono ?_); rintro e w3 ⟨rfl, hb3⟩))
  go_split_ands
  have HE := Lib.hid (Mem.b (by assumption : Mem w [(w.heap.size, #[.int .i64 x, .int .i64 y, .int .i64 u, .int .i64 v], 29)] w3))
  go_wp2
  go_ret2
  exact ⟨rfl, HE.out⟩

set_option maxRecDepth 100000 in
set_option maxHeartbeats 3200000 in
theorem count_ok (p n : Nat) (m : Nat → Nat) (W H : Nat) (hW : W ≤ 48) (hH : H ≤ 48) (f : Nat → Nat → Int) (hf : ∀ x y, x ≤ W → y ≤ H → 0 ≤ f x y ∧ f x y ≤ 2304) (X Y U V : Nat) (hU : 1 ≤ U) (hV : 1 ≤ V) (hXU : X + U ≤ W) (hYV : Y + V ≤ H) (w : World) (h : TabS w p n m W H f) : Calls Try.prog 93 #[.pointer (some ⟨p, 0, none⟩), .agg #[.int .i64 X, .int .i64 Y, .int .i64 U, .int .i64 V]] w fun e w' => e = .returned (.tuple #[.int .i64 (f (X + U) (Y + V) - f X (Y + V) - f (X + U) Y + f X Y), .int .i64 0]) ∧ Below w.heap.size w w' := by
  have hp := h.hp
  have cp := h.cp
  have hn := h.hn
  have cn := h.cn 0 (Nat.zero_le _)
  have HB := Lib.hid (fun w' (hb : Below w.heap.size w w') => (⟨(hb.cell (p := ⟨n, Y, none⟩) h.hn).trans (h.cn Y (by omega)), (hb.cell (p := ⟨n, Y + V, none⟩) h.hn).trans (h.cn (Y + V) hYV), (hb.cell (p := ⟨m Y, X, none⟩) (h.hm Y (by omega))).trans (h.cm X Y (by omega) (by omega)), (hb.cell (p := ⟨m Y, X + U, none⟩) (h.hm Y (by omega))).trans (h.cm (X + U) Y hXU (by omega)), (hb.cell (p := ⟨m (Y + V), X, none⟩) (h.hm (Y + V) hYV)).trans (h.cm X (Y + V) (by omega) hYV), (hb.cell (p := ⟨m (Y + V), X + U, none⟩) (h.hm (Y + V) hYV)).trans (h.cm (X + U) (Y + V) hXU hYV), Nat.lt_of_lt_of_le h.hp hb.size, Nat.lt_of_lt_of_le h.hn hb.size, Nat.lt_of_lt_of_le (h.hm Y (by omega)) hb.size, Nat.lt_of_lt_of_le (h.hm (Y + V) hYV) hb.size⟩ :
    w'.cell? ⟨n, Y, none⟩ = some (.slice (some ⟨m Y, 0, none⟩) (W + 1) (W + 1)) ∧ w'.cell? ⟨n, Y + V, none⟩ = some (.slice (some ⟨m (Y + V), 0, none⟩) (W + 1) (W + 1)) ∧ w'.cell? ⟨m Y, X, none⟩ = some (.int .i64 (f X Y)) ∧ w'.cell? ⟨m Y, X + U, none⟩ = some (.int .i64 (f (X + U) Y)) ∧ w'.cell? ⟨m (Y + V), X, none⟩ = some (.int .i64 (f X (Y + V))) ∧ w'.cell? ⟨m (Y + V), X + U, none⟩ = some (.int .i64 (f (X + U) (Y + V))) ∧ p < w'.heap.size ∧ n < w'.heap.size ∧ m Y < w'.heap.size ∧ m (Y + V) < w'.heap.size))
  have hne := tab_neq n (H + 1) (H + 1)
  have HR := Lib.hid (fun w' => isRect_any X Y U V w')
  rw [show rectB (X : Int) Y U V = true from rectB_iff.2 (by omega)] at HR
  have HL := Lib.hid (lies_any X Y U V W H hW hH (by omega) (by omega))
  rw [show liesB (X : Int) Y U V W H = true from liesB_iff.2 (by omega)] at HL
  have hM := (Mem.nil w).alloc #[.int .i64 X, .int .i64 Y, .int .i64 U, .int .i64 V] 29
  have HM := Lib.hid hM
  have HC := Lib.hid (fun w' hm => memR (w := w) (w' := w') (x := .int .i64 X) (y := .int .i64 Y) (u := .int .i64 U) (v := .int .i64 V) (T := 29) hp hn cp cn hm)
  have hl0 : (0 : Int) < ((H + 1 : Nat) : Int) := by omega
  have hl1 : 0 < H + 1 := by omega
  have hw1 : IntKind.i64.wrap (((H + 1 : Nat) : Int) - 1) = H := by rw [IntWalk.i64_in _ (by omega)]; omega
  have hw2 : IntKind.i64.wrap (((W + 1 : Nat) : Int) - 1) = W := by rw [IntWalk.i64_in _ (by omega)]; omega
  have hw3 : IntKind.i64.wrap ((X : Int) + U) = ((X + U : Nat) : Int) := by rw [IntWalk.i64_in _ (by omega)]; omega
  have hw4 : IntKind.i64.wrap ((Y : Int) + V) = ((Y + V : Nat) : Int) := by rw [IntWalk.i64_in _ (by omega)]; omega
  have i1 : (Y : Int) < ((H + 1 : Nat) : Int) := by omega
  have i2 : ((Y + V : Nat) : Int) < ((H + 1 : Nat) : Int) := by omega
  have i3 : (X : Int) < ((W + 1 : Nat) : Int) := by omega
  have i4 : ((X + U : Nat) : Int) < ((W + 1 : Nat) : Int) := by omega
  have i5 : Y < H + 1 := by omega
  have i6 : Y + V < H + 1 := by omega
  have i7 : X < W + 1 := by omega
  have i8 : X + U < W + 1 := by omega
  have b1 := hf (X + U) (Y + V) hXU hYV
  have b2 := hf X (Y + V) (by omega) hYV
  have b3 := hf (X + U) Y hXU (by omega)
  have b4 := hf X Y (by omega) (by omega)
  obtain ⟨f1, hf1⟩ : ∃ a, a = f (X + U) (Y + V) := ⟨_, rfl⟩
  obtain ⟨f2, hf2⟩ : ∃ a, a = f X (Y + V) := ⟨_, rfl⟩
  obtain ⟨f3, hf3⟩ : ∃ a, a = f (X + U) Y := ⟨_, rfl⟩
  obtain ⟨f4, hf4⟩ : ∃ a, a = f X Y := ⟨_, rfl⟩
  obtain ⟨m1, hm1⟩ : ∃ a, a = m Y := ⟨_, rfl⟩
  obtain ⟨m2, hm2⟩ : ∃ a, a = m (Y + V) := ⟨_, rfl⟩
  rw [← hf1, ← hf2, ← hf3, ← hf4, ← hm1, ← hm2] at HB
  rw [← hf1] at b1
  rw [← hf2] at b2
  rw [← hf3] at b3
  rw [← hf4] at b4
  rw [← hf1, ← hf2, ← hf3, ← hf4]
  have hx1 : IntKind.i64.wrap (f1 - f2) = f1 - f2 := IntWalk.i64_in _ (by omega)
  have hx2 : IntKind.i64.wrap (f1 - f2 - f3) = f1 - f2 - f3 := IntWalk.i64_in _ (by omega)
  have hx3 : IntKind.i64.wrap (f1 - f2 - f3 + f4) = f1 - f2 - f3 + f4 := IntWalk.i64_in _ (by omega)
  obtain ⟨L, hL⟩ : ∃ L : Nat, L = H + 1 := ⟨_, rfl⟩
  obtain ⟨K, hK⟩ : ∃ K : Nat, K = W + 1 := ⟨_, rfl⟩
  obtain ⟨S, hS⟩ : ∃ S : Nat, S = X + U := ⟨_, rfl⟩
  obtain ⟨T, hT⟩ : ∃ T : Nat, T = Y + V := ⟨_, rfl⟩
  rw [← hL] at cp hne hl0 hl1 hw1 HC i1 i2 i5 i6
  rw [← hK] at cn hw2 HC i3 i4 i7 i8 HB
  rw [← hS] at i4 i8 HB hw3
  rw [← hT] at i2 i6 HB hw4
  clear hL hK hS hT hM hf1 hf2 hf3 hf4 hm1 hm2 h hf b1 b2 b3 b4 hXU hYV hU hV
  go_enter Try.func93, Try.ntmps93
  go_wp2_with fail
  refine (HR.out _).mono ?_
  rintro e w1 ⟨rfl, hb1⟩
  have HM1 := Lib.hid (HM.out.step hb1)
  clear hb1
  go_wp2_with fail
  go_region_held3 (fun w' => Mem w [(w.heap.size, #[.int .i64 X, .int .i64 Y, .int .i64 U, .int .i64 V], 29)] w' ∧ w'.cell? ⟨p, 0, none⟩ = some (.slice (some ⟨n, 0, none⟩) L L) ∧ w'.cell? ⟨n, 0, none⟩ = some (.slice (some ⟨m 0, 0, none⟩) K K) ∧ w'.cell? ⟨w.heap.size, 0, none⟩ = some (.int .i64 X) ∧ w'.cell? ⟨w.heap.size, 1, none⟩ = some (.int .i64 Y) ∧ w'.cell? ⟨w.heap.size, 2, none⟩ = some (.int .i64 U) ∧ w'.cell? ⟨w.heap.size, 3, none⟩ = some (.int .i64 V))
    (first | exact HC.out _ HM1.out.drew | (go_split_ands; exact HC.out _ (Mem.step (by assumption) (by assumption))))
    (first | (go_at_call 101; go_split_ands; with_reducible (refine (HL.out _).mono ?_); rintro e w3 ⟨rfl, hb3⟩))
  go_split_ands
  have HE := Lib.hid (Mem.b (by assumption : Mem w [(w.heap.size, #[.int .i64 X, .int .i64 Y, .int .i64 U, .int .i64 V], 29)] w3))
  have lr := (by assumption : Mem w [(w.heap.size, #[.int .i64 X, .int .i64 Y, .int .i64 U, .int .i64 V], 29)] w3).head_lt
  obtain ⟨e1, e2, e3, e4, e5, e6, e7, e8, e9, e10⟩ := HB.out _ HE.out
  go_wp2_with fail
  go_quiet (fail)
  go_wp2_with fail
  go_quiet (fail)
  go_wp2
  go_ret2
  exact ⟨rfl, below_drewN (below_drewN HE.out _) _⟩

end Go.Proofs.Ytndhnpljdldlpab

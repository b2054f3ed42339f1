/- Skins: the reference's full. -/
import Derived.Test.YtndhnpljdldlpabSmN
import Derived.Test.YtndhnpljdldlpabSmM
import Derived.BigQuiet
namespace Go.Proofs.Ytndhnpljdldlpab
open Go.RowKit

/-- A rectangle within is usable. -/
def fullB (U : Int → Int → Bool) (x y n m : Nat) : Bool := decide ((cBox U x n y m : Int) = (n * m : Nat))
theorem fullB_iff {U : Int → Int → Bool} {W H x y n m : Nat} (hn : 1 ≤ n) (hm : 1 ≤ m) (hx : x + n ≤ W) (hy : y + m ≤ H) : fullB U x y n m = true ↔ fullR U W H x y n m := by
  unfold fullB
  rw [decide_eq_true_iff]
  have := cBox_full U x n y m
  constructor
  · intro h; exact ⟨hn, hm, hx, hy, this.1 (by omega)⟩
  · rintro ⟨-, -, -, -, h⟩; have := this.2 h; omega

/-- The reference's sums in memory. -/
def SumM (w : World) (nb W H : Nat) (U : Int → Int → Bool) : Prop := nb < w.heap.size ∧ ∀ k, k < (W + 1) * (H + 1) → w.cell? ⟨nb, k, none⟩ = some (.int .i64 (tab U (k % (W + 1)) (k / (W + 1))))
theorem SumM.below {w w' : World} {nb W H : Nat} {U : Int → Int → Bool} (h : SumM w nb W H U) (hb : Below w.heap.size w w') : SumM w' nb W H U :=
  ⟨Nat.lt_of_lt_of_le h.1 hb.size, fun k hk => (hb.cell (p := ⟨nb, k, none⟩) h.1).trans (h.2 k hk)⟩
theorem SumM.of {w0 w : World} {nb W H : Nat} {U : Int → Int → Bool} (h : CT w0 nb ((W + 1) * (H + 1)) 3 (fun k => tab U (k % (W + 1)) (k / (W + 1))) w) : SumM w nb W H U := ⟨h.lt, fun _ hk => h.cell hk⟩
theorem SumM.at_ {w : World} {nb W H : Nat} {U : Int → Int → Bool} (h : SumM w nb W H U) {x y : Nat} (hx : x ≤ W) (hy : y ≤ H) : w.cell? ⟨nb, y * (W + 1) + x, none⟩ = some (.int .i64 (tab U x y)) ∧ y * (W + 1) + x < (W + 1) * (H + 1) := by
  have hp := (place_iff (K := W + 1) (k := y * (W + 1) + x) (a := y) (b := x) (by omega)).1 rfl
  have hlt : y * (W + 1) + x < (W + 1) * (H + 1) := by
    have : (y + 1) * (W + 1) ≤ (H + 1) * (W + 1) := Nat.mul_le_mul_right _ (by omega)
    rw [Nat.add_mul, Nat.mul_comm (H + 1)] at this
    omega
  have h1 := h.2 _ hlt
  rw [hp.1, hp.2] at h1
  exact ⟨h1, hlt⟩

set_option maxRecDepth 100000 in
set_option maxHeartbeats 1600000 in
theorem rFull_in (nb W H : Nat) (hW : W ≤ 48) (hH : H ≤ 48) (U : Int → Int → Bool) (X Y n m : Nat) (hn : 1 ≤ n) (hm : 1 ≤ m) (hX : X + n ≤ W) (hY : Y + m ≤ H) (w : World) (h : SumM w nb W H U) :
    Calls Try.prog 37 #[.slice (some ⟨nb, 0, none⟩) ((W + 1) * (H + 1)) ((W + 1) * (H + 1)), .int .i64 W, .int .i64 H, .agg #[.int .i64 X, .int .i64 Y, .int .i64 n, .int .i64 m]] w fun e w' => e = .returned (.bool (fullB U X Y n m)) ∧ Below w.heap.size w w' := by
  obtain ⟨K, hK⟩ : ∃ K, K = W + 1 := ⟨_, rfl⟩
  obtain ⟨N, hN⟩ : ∃ N, N = (W + 1) * (H + 1) := ⟨_, rfl⟩
  obtain ⟨T, hT⟩ : ∃ T, T = Y + m := ⟨_, rfl⟩
  obtain ⟨S, hS⟩ : ∃ S, S = X + n := ⟨_, rfl⟩
  obtain ⟨a, ha⟩ : ∃ a, a = Y * K := ⟨_, rfl⟩
  obtain ⟨b, hb⟩ : ∃ b, b = T * K := ⟨_, rfl⟩
  have g1 := h.at_ (x := S) (y := T) (by omega) (by omega)
  have g2 := h.at_ (x := X) (y := T) (by omega) (by omega)
  have g3 := h.at_ (x := S) (y := Y) (by omega) (by omega)
  have g4 := h.at_ (x := X) (y := Y) (by omega) (by omega)
  have hN2 : K * (H + 1) = N := by rw [hN, hK]
  rw [← hK, ← hb, hN2] at g1 g2
  rw [← hK, ← ha, hN2] at g3 g4
  have hbox := tab_boxI U X n Y m
  rw [← hS, ← hT] at hbox
  obtain ⟨i1, hi1⟩ : ∃ i, i = b + S := ⟨_, rfl⟩
  obtain ⟨i2, hi2⟩ : ∃ i, i = b + X := ⟨_, rfl⟩
  obtain ⟨i3, hi3⟩ : ∃ i, i = a + S := ⟨_, rfl⟩
  obtain ⟨i4, hi4⟩ : ∃ i, i = a + X := ⟨_, rfl⟩
  rw [← hi1] at g1
  rw [← hi2] at g2
  rw [← hi3] at g3
  rw [← hi4] at g4
  have l1 := tab_le U S T
  have l2 := tab_le U X T
  have l3 := tab_le U S Y
  have l4 := tab_le U X Y
  have q1 : S * T ≤ 48 * 48 := Nat.mul_le_mul (by omega) (by omega)
  have q2 : X * T ≤ 48 * 48 := Nat.mul_le_mul (by omega) (by omega)
  have q3 : S * Y ≤ 48 * 48 := Nat.mul_le_mul (by omega) (by omega)
  have q4 : X * Y ≤ 48 * 48 := Nat.mul_le_mul (by omega) (by omega)
  obtain ⟨f1, hf1⟩ : ∃ f, f = tab U S T := ⟨_, rfl⟩
  obtain ⟨f2, hf2⟩ : ∃ f, f = tab U X T := ⟨_, rfl⟩
  obtain ⟨f3, hf3⟩ : ∃ f, f = tab U S Y := ⟨_, rfl⟩
  obtain ⟨f4, hf4⟩ : ∃ f, f = tab U X Y := ⟨_, rfl⟩
  rw [← hf1, ← hf2, ← hf3, ← hf4] at hbox
  rw [← hf1] at g1 l1
  rw [← hf2] at g2 l2
  rw [← hf3] at g3 l3
  rw [← hf4] at g4 l4
  obtain ⟨c, hc⟩ : ∃ c : Int, c = cBox U X n Y m := ⟨_, rfl⟩
  rw [← hc] at hbox
  obtain ⟨p, hp⟩ : ∃ p, p = n * m := ⟨_, rfl⟩
  have hpb : p ≤ 48 * 48 := by rw [hp]; exact Nat.mul_le_mul (by omega) (by omega)
  have ha48 : a ≤ 48 * 49 := by rw [ha]; exact Nat.mul_le_mul (by omega) (by omega)
  have hb48 : b ≤ 48 * 49 := by rw [hb]; exact Nat.mul_le_mul (by omega) (by omega)
  have HB : Hid (fullB U X Y n m = (c == (p : Int))) := Lib.hid (by
    unfold fullB
    rw [← hc, ← hp, Bool.eq_iff_iff, decide_eq_true_iff, beq_iff_eq])
  rw [HB.out]
  have v1 : IntKind.i64.wrap ((W : Int) + 1) = (K : Int) := by rw [IntWalk.i64_in _ (by omega)]; omega
  have v2 : IntKind.i64.wrap ((Y : Int) * (K : Int)) = (a : Int) := by rw [show (Y : Int) * (K : Int) = (a : Int) by rw [ha]; simp]; exact IntWalk.i64_in _ (by omega)
  have v3 : IntKind.i64.wrap ((Y : Int) + (m : Int)) = (T : Int) := by rw [IntWalk.i64_in _ (by omega)]; omega
  have v4 : IntKind.i64.wrap ((X : Int) + (n : Int)) = (S : Int) := by rw [IntWalk.i64_in _ (by omega)]; omega
  have v5 : IntKind.i64.wrap ((T : Int) * (K : Int)) = (b : Int) := by rw [show (T : Int) * (K : Int) = (b : Int) by rw [hb]; simp]; exact IntWalk.i64_in _ (by omega)
  have v6 : IntKind.i64.wrap ((b : Int) + (X : Int)) = (i2 : Int) := by rw [IntWalk.i64_in _ (by omega)]; omega
  have v7 : IntKind.i64.wrap ((i2 : Int) + (n : Int)) = (i1 : Int) := by rw [IntWalk.i64_in _ (by omega)]; omega
  have v8 : IntKind.i64.wrap ((a : Int) + (X : Int)) = (i4 : Int) := by rw [IntWalk.i64_in _ (by omega)]; omega
  have v9 : IntKind.i64.wrap ((i4 : Int) + (n : Int)) = (i3 : Int) := by rw [IntWalk.i64_in _ (by omega)]; omega
  obtain ⟨r1, hr1⟩ : ∃ r : Int, r = (f1 : Int) - f2 := ⟨_, rfl⟩
  obtain ⟨r2, hr2⟩ : ∃ r : Int, r = r1 - f3 := ⟨_, rfl⟩
  have x1 : IntKind.i64.wrap ((f1 : Int) - (f2 : Int)) = r1 := by rw [hr1]; exact IntWalk.i64_in _ (by omega)
  have x2 : IntKind.i64.wrap (r1 - (f3 : Int)) = r2 := by rw [hr2]; exact IntWalk.i64_in _ (by omega)
  have x3 : IntKind.i64.wrap (r2 + (f4 : Int)) = c := by rw [show r2 + (f4 : Int) = c by omega]; exact IntWalk.i64_in _ (by omega)
  have x4 : IntKind.i64.wrap ((n : Int) * (m : Int)) = (p : Int) := by rw [show (n : Int) * (m : Int) = (p : Int) by rw [hp]; simp]; exact IntWalk.i64_in _ (by omega)
  have j1 : (i1 : Int) < N := by omega
  have j2 : (i2 : Int) < N := by omega
  have j3 : (i3 : Int) < N := by omega
  have j4 : (i4 : Int) < N := by omega
  obtain ⟨d1, k1⟩ := g1
  obtain ⟨d2, k2⟩ := g2
  obtain ⟨d3, k3⟩ := g3
  obtain ⟨d4, k4⟩ := g4
  have hnb := h.1
  have y1 : (0 : Int) ≤ X := by omega
  have y2 : (0 : Int) ≤ Y := by omega
  have y3 : ¬ (W : Int) < S := by omega
  have y4 : ¬ (H : Int) < T := by omega
  have HA := Lib.hid ((Below.refl w.heap.size w).alloc (Nat.le_refl _) (.cells #[.int .i64 X, .int .i64 Y, .int .i64 n, .int .i64 m] 29))
  rw [← hN]
  have HD := Lib.hid (fun (W' : World) nq (hb : Below w.heap.size w W') => below_drewN hb nq)
  clear h hK hN hN2 hT hS ha hb hi1 hi2 hi3 hi4 hf1 hf2 hf3 hf4 hc hp hr1 hr2 hbox l1 l2 l3 l4 q1 q2 q3 q4 hX hY hpb ha48 hb48
  go_enter Try.func37, Try.ntmps37
  go_wp2_with fail
  go_quiet (fail)
  go_wp2_with fail
  go_quiet (fail)
  go_wp2
  go_ret
  exact ⟨rfl, HD.out _ _ (HD.out _ _ HA.out)⟩

set_option maxRecDepth 100000 in
set_option maxHeartbeats 1600000 in
theorem rFull_out (nb W H : Nat) (hW : W ≤ 48) (hH : H ≤ 48) (X Y n m : Int) (b1 : -50 ≤ X ∧ X ≤ 50) (b2 : -50 ≤ Y ∧ Y ≤ 50) (b3 : 0 ≤ n ∧ n ≤ 50) (b4 : 0 ≤ m ∧ m ≤ 50) (ho : X < 0 ∨ Y < 0 ∨ W < X + n ∨ H < Y + m) (N : Nat) (w : World) :
    Calls Try.prog 37 #[.slice (some ⟨nb, 0, none⟩) N N, .int .i64 W, .int .i64 H, .agg #[.int .i64 X, .int .i64 Y, .int .i64 n, .int .i64 m]] w fun e w' => e = .returned (.bool false) ∧ Below w.heap.size w w' := by
  obtain ⟨a1, a2⟩ := b1
  obtain ⟨a3, a4⟩ := b2
  obtain ⟨a5, a6⟩ := b3
  obtain ⟨a7, a8⟩ := b4
  have HA := Lib.hid ((Below.refl w.heap.size w).alloc (Nat.le_refl _) (.cells #[.int .i64 X, .int .i64 Y, .int .i64 n, .int .i64 m] 29))
  by_cases h1 : X < 0
  · clear ho
    go_enter Try.func37, Try.ntmps37
    go_wp2
    go_ret
    exact ⟨rfl, HA.out⟩
  · by_cases h2 : Y < 0
    · clear ho
      go_enter Try.func37, Try.ntmps37
      go_wp2
      go_ret
      exact ⟨rfl, HA.out⟩
    · by_cases h3 : (W : Int) < X + n
      · clear ho
        go_enter Try.func37, Try.ntmps37
        go_wp2
        go_ret
        exact ⟨rfl, HA.out⟩
      · have h4 : (H : Int) < Y + m := by omega
        clear ho
        go_enter Try.func37, Try.ntmps37
        go_wp2
        go_ret
        exact ⟨rfl, HA.out⟩

end Go.Proofs.Ytndhnpljdldlpab

/- Skins: eachTall. -/
import Derived.Test.YtndhnpljdldlpabSmG
import Derived.Outline
namespace Go.Proofs.Ytndhnpljdldlpab
open Go.RowKit

/-- What the closure of eachTall reads: the boxes of deep and of visit, a row. -/
def EachM (pd pv nd my : Nat) (W H : Nat) (U : Int → Int → Bool) (Y : Nat) (vv : Value) (wr : World) : Prop :=
  wr.cell? ⟨pd, 0, none⟩ = some (.slice (some ⟨nd, 0, none⟩) (H + 1) (H + 1)) ∧ pd < wr.heap.size ∧ wr.cell? ⟨pv, 0, none⟩ = some vv ∧ pv < wr.heap.size ∧
  wr.cell? ⟨nd, Y, none⟩ = some (.slice (some ⟨my, 0, none⟩) W W) ∧ nd < wr.heap.size ∧ (∀ x, x < W → wr.cell? ⟨my, x, none⟩ = some (.int .i64 (dep U x Y (H - Y)))) ∧ my < wr.heap.size

set_option maxRecDepth 100000 in
set_option maxHeartbeats 1600000 in
theorem tall_best (pd pv nd my : Nat) (W H : Nat) (hW : W ≤ 48) (hH : H ≤ 48) (U : Int → Int → Bool) (p1 p2 : Value) (X Y : Nat) (hX : X < W) (hY : Y < H) (w : World) (J : Nat → World → Prop)
    (h0 : J 0 (w.alloc (.cells #[.int .i64 X, .int .i64 Y] 93)))
    (hM : ∀ n w', J n w' → EachM pd pv nd my W H U Y (.func (.func 72) #[] #[p1, p2]) w' ∧ w'.heap[w.heap.size]? = some (.cells #[.int .i64 X, .int .i64 Y] 93 (0, 0)))
    (hstep : ∀ n w', X + n < W → 1 ≤ low U H X Y (n + 1) → J n w' → Calls Try.prog 72 #[.agg #[.int .i64 X, .int .i64 Y, .int .i64 (n + 1 : Nat), .int .i64 (low U H X Y (n + 1))], p1, p2] w' fun e w'' => e = .returned (.tuple #[]) ∧ J (n + 1) w'') :
    Calls Try.prog 70 #[.agg #[.int .i64 X, .int .i64 Y], .pointer (some ⟨pd, 0, none⟩), .pointer (some ⟨pv, 0, none⟩)] w fun e w' => e = .returned (.tuple #[]) ∧ ∃ n, J n w' ∧ (X + n = W ∨ dep U (X + n) Y (H - Y) = 0) := by
  have H0 := Lib.hid h0
  have HM := Lib.hid hM
  have HST := Lib.hid hstep
  have hk := hM 0 _ h0
  obtain ⟨e1, e2, e3, e4, e5, e6, e7, e8⟩ := hk.1
  have b1 := block_two hk.2
  obtain ⟨q1, q2, ql⟩ := b1
  have c1 := e7 X hX
  obtain ⟨L, hL⟩ : ∃ L : Nat, L = H + 1 := ⟨_, rfl⟩
  have HL := Lib.hid hL
  rw [← hL] at e1
  have i1 : (Y : Int) < L := by omega
  have i2 : Y < L := by omega
  have i3 : (X : Int) < W := by omega
  have hd := dep_le U X (H - Y) Y
  obtain ⟨d, hdd⟩ : ∃ d, d = dep U X Y (H - Y) := ⟨_, rfl⟩
  rw [← hdd] at c1 hd
  have HD0 : Hid (d = low U H X Y 0) := Lib.hid hdd
  have HQ : Hid (∃ wz, wz = w.alloc (.cells #[.int .i64 X, .int .i64 Y] 93)) := Lib.hid ⟨_, rfl⟩
  have hd48 : d ≤ 48 := by omega
  have hX' : X ≤ 48 := by omega
  have hY' : Y ≤ 48 := by omega
  clear h0 hM hstep hk e7 hL hdd hd
  go_enter Try.func70, Try.ntmps70
  go_wp2
  clear e1 e2 e3 e4 e5 e6 e8 q1 q2 ql c1
  go_loopg [5, 6] (W - X) (fun gk v i wr => ∃ q lo : Nat, q + gk = W ∧ X ≤ q ∧ i = .int .i64 q ∧ v = .int .i64 lo ∧ lo ≤ 48 ∧ (q = X ∨ 1 ≤ lo) ∧ Hid (lo = low U H X Y (q - X)) ∧ Hid (J (q - X) wr))
  case atStart => exact ⟨X, d, by omega, Nat.le_refl _, rfl, rfl, hd48, .inl rfl, Lib.hid (by rw [Nat.sub_self]; exact HD0.out), Lib.hid (by rw [Nat.sub_self]; exact H0.out)⟩
  case round =>
    obtain ⟨q, lo, hn, hXq, rfl, rfl, hlo48, hlo1, HLO, HJ⟩ := hrel
    have hk := HM.out _ _ HJ.out
    obtain ⟨e1, e2, e3, e4, e5, e6, e7, e8⟩ := hk.1
    obtain ⟨q1, q2, ql⟩ := block_two hk.2
    by_cases hlt : q < W
    · obtain ⟨gk', rfl⟩ : ∃ m, gk = m + 1 := ⟨gk - 1, by omega⟩
      have c1 := e7 q hlt
      have hd := dep_le U q (H - Y) Y
      have hqW : (q : Int) < W := by omega
      have hq0 : (0 : Int) ≤ q := by omega
      have hq48 : q ≤ 48 := by omega
      obtain ⟨d2, hd2⟩ : ∃ d, d = dep U q Y (H - Y) := ⟨_, rfl⟩
      rw [← hd2] at c1 hd
      have hd248 : d2 ≤ 48 := by omega
      by_cases hpos : 0 < d2
      · have hpos' : (0 : Int) < d2 := by omega
        obtain ⟨n1, hn1⟩ : ∃ n1, n1 = q - X + 1 := ⟨_, rfl⟩
        obtain ⟨lo2, hlo2⟩ : ∃ l, l = low U H X Y (q - X + 1) := ⟨_, rfl⟩
        have hmin : lo2 = min lo d2 := by rw [hlo2, hd2, HLO.out, low, show X + (q - X) = q by omega]
        have hlo21 : 1 ≤ lo2 := by
          rcases hlo1 with h | h
          · subst h
            have e1 : lo = dep U q Y (H - Y) := by rw [HLO.out, Nat.sub_self]; rfl
            omega
          · omega
        have hminI : min (lo : Int) (d2 : Int) = lo2 := by omega
        have hlo248 : lo2 ≤ 48 := by omega
        obtain ⟨n0, hn0⟩ : ∃ n0 : Nat, n0 = q - X := ⟨_, rfl⟩
        have hw1 : IntKind.i64.wrap ((q : Int) - X) = (n0 : Int) := by rw [IntWalk.i64_in _ (by omega)]; omega
        have hw2 : IntKind.i64.wrap ((n0 : Int) + 1) = (n1 : Int) := by rw [IntWalk.i64_in _ (by omega)]; omega
        have HC := Lib.hid (HST.out (q - X) _ (by omega) (by rw [← hlo2]; exact hlo21) HJ.out)
        rw [← hlo2, ← hn1] at HC
        have HLN : Hid (lo2 = low U H X Y (q + 1 - X)) := Lib.hid (by rw [show q + 1 - X = q - X + 1 by omega]; exact hlo2)
        have HN1 : Hid (n1 = q + 1 - X) := Lib.hid (by omega)
        have hn48 : n1 ≤ 49 := by omega
        clear hlo2 hn1 hd2 hk e7 hn0
        clear hminI
        go_wp2_with fail
        · obtain rfl : lo2 = d2 := by omega
          refine HC.out.mono ?_
          rintro e w3 ⟨rfl, hj⟩
          have HJ3 : Hid (J (q + 1 - X) w3) := Lib.hid (by rw [← HN1.out]; exact hj)
          clear hj e1 e2 e3 e4 e5 e6 e8 q1 q2 ql c1 hmin hlo1 hw1 hw2
          go_wp2
          go_roundg gk'
          case measure => exact Nat.lt_succ_self _
          case rel => exact ⟨q + 1, lo2, by omega, by omega, by go_num, rfl, hlo248, .inr hlo21, HLN, HJ3⟩
        · obtain rfl : lo2 = lo := by omega
          refine HC.out.mono ?_
          rintro e w3 ⟨rfl, hj⟩
          have HJ3 : Hid (J (q + 1 - X) w3) := Lib.hid (by rw [← HN1.out]; exact hj)
          clear hj e1 e2 e3 e4 e5 e6 e8 q1 q2 ql c1 hmin hlo1 hw1 hw2
          go_wp2
          go_roundg gk'
          case measure => exact Nat.lt_succ_self _
          case rel => exact ⟨q + 1, lo2, by omega, by omega, by go_num, rfl, hlo248, .inr hlo21, HLN, HJ3⟩
      · have hz : d2 = 0 := by omega
        have HE : Hid (∃ n, J n wr ∧ (X + n = W ∨ dep U (X + n) Y (H - Y) = 0)) := Lib.hid ⟨q - X, HJ.out, .inr (by rw [show X + (q - X) = q by omega, ← hd2]; exact hz)⟩
        have hpos' : ¬ (0 : Int) < d2 := by omega
        clear hz hk e7 hd2
        go_wp2
        go_end0
        exact ⟨rfl, HE.out⟩
    · have HE : Hid (∃ n, J n wr ∧ (X + n = W ∨ dep U (X + n) Y (H - Y) = 0)) := Lib.hid ⟨q - X, HJ.out, .inl (by omega)⟩
      have hqW : ¬ (q : Int) < W := by omega
      clear hk e7
      go_wp2
      go_end0
      exact ⟨rfl, HE.out⟩


end Go.Proofs.Ytndhnpljdldlpab

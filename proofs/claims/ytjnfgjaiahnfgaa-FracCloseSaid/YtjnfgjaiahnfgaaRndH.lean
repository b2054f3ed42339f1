/- Whole of a number up to 2^62; for FracClose. -/
import Derived.Test.YtjnfgjaiahnfgaaRndG
namespace Go.Proofs.Ytjnfgjaiahnfgaa
open Go.RowKit

set_option maxRecDepth 100000 in
theorem small_mid (v : Value) (n : Nat) (hn : n ≤ 4611686018427387904) (w : World) (h : IsNat w v n) :
    Calls Try.prog 75 #[v] w fun e w' => e = .returned (.tuple #[.int .i64 (n : Int), .bool true]) ∧ w = w' := by
  obtain ⟨a, cap, rfl⟩ := IsDig.len h
  have hl := digs_len2 (n := n) (by omega)
  have HH := Lib.hid h
  have HN : Hid (n < 18446744073709551616) := Lib.hid (by omega)
  obtain ⟨z, hz⟩ : ∃ z : Int, z = (n : Int) := ⟨_, rfl⟩
  have hz0 : 0 ≤ z := by omega
  have hz1 : z ≤ 4611686018427387904 := by omega
  have HZ := Lib.hid hz
  clear h hn hz
  revert HH hl
  generalize (digs n).length = k
  intro hl HH
  have hl2 : (k : Int) ≤ 2 := by omega
  clear hl
  go_enter Try.func75, Try.ntmps75
  go_wp2_with fail
  refine (short_any _ n HN.out w HH.out).mono ?_
  rintro e w' ⟨rfl, rfl⟩
  rw [← HZ.out]
  go_wp2
  go_ret2
  exact ⟨by rw [← HZ.out]; rfl, rfl⟩

set_option maxRecDepth 100000 in
set_option maxHeartbeats 3200000 in
theorem whole_big (x : Value) (k : Int) (hk1 : -4611686018427387904 ≤ k) (hk2 : k ≤ 4611686018427387904) (w : World) (h : IsQ w x (k : Rat)) :
    Calls Try.prog 41 #[x] w fun e w' => e = .returned (.tuple #[.int .i64 k, .bool true]) ∧ Below w.heap.size w w' := by
  obtain ⟨a1, a2, n1, n2, c1, c2, rfl, hx1, hx2⟩ := h
  rw [Rat.num_intCast] at hx1
  rw [Rat.den_intCast] at hx2
  have hneg : decide ((k : Rat) < 0) = decide (k < 0) := by
    have := rat_neg_iff (k : Rat)
    rw [Rat.num_intCast] at this
    exact decide_eq_decide.2 this
  rw [hneg]
  obtain ⟨rfl, hc1, hc2, g, rfl, hg, hgc⟩ := one_open hx2
  have HX := Lib.hid hx1
  have HS0 := Lib.hid ((Below.refl w.heap.size w).alloc (Nat.le_refl _) (.cells #[.bool (decide (k < 0)), .slice a1 n1 c1, .slice (some ⟨g, 0, none⟩) 1 c2] 43))
  obtain ⟨z, hz⟩ : ∃ z : Int, z = (k.natAbs : Int) := ⟨_, rfl⟩
  have hz0 : 0 ≤ z := by omega
  have hz1 : z ≤ 4611686018427387904 := by omega
  have HZ := Lib.hid hz
  have HNA : Hid (k.natAbs ≤ 4611686018427387904) := Lib.hid (by omega)
  have hgne : g ≠ w.heap.size := by omega
  by_cases hn : k < 0
  · have HK : Hid (-z = k) := Lib.hid (by omega)
    rw [decide_eq_true hn] at *
    clear hx1 hx2 hneg hz hn hk1 hk2
    go_enter Try.func41, Try.ntmps41
    go_wp2_with fail
    refine (small_mid _ k.natAbs HNA.out _ (HX.out.below HS0.out)).mono ?_
    rintro e w' ⟨rfl, rfl⟩
    rw [← HZ.out]
    go_wp2
    refine bodyPost_ret (v := .tuple #[.int .i64 k, .bool true]) (by rw [← HK.out]; simp [results, Try.results41, go_sem]) rfl ⟨rfl, HS0.out⟩
  · have HK : Hid (z = k) := Lib.hid (by omega)
    rw [decide_eq_false hn] at *
    clear hx1 hx2 hneg hz hn hk1 hk2
    go_enter Try.func41, Try.ntmps41
    go_wp2_with fail
    refine (small_mid _ k.natAbs HNA.out _ (HX.out.below HS0.out)).mono ?_
    rintro e w' ⟨rfl, rfl⟩
    rw [← HZ.out]
    go_wp2
    refine bodyPost_ret (v := .tuple #[.int .i64 k, .bool true]) (by rw [← HK.out]; simp [results, Try.results41, go_sem]) rfl ⟨rfl, HS0.out⟩

end Go.Proofs.Ytjnfgjaiahnfgaa

/- Skins: slices.Equal on rectangles. -/
import Derived.Test.YtndhnpljdldlpabSmB
import Derived.Test.YtndhnpljdldlpabSkM
import Derived.BigQuiet
namespace Go.Proofs.Ytndhnpljdldlpab
open Go.RowKit

set_option maxRecDepth 100000 in
set_option maxHeartbeats 1600000 in
theorem equalR_any (a a2 : Option Addr) (cap cap2 : Nat) (rs : List Rc) (hl : (rs.length : Int) ≤ 9223372036854775807) (w : World) (h : RecS w a rs) (h2 : RecS w a2 rs) :
    Calls Try.prog 10 #[.slice a rs.length cap, .slice a2 rs.length cap2] w fun e w' => e = .returned (.bool true) ∧ Below w.heap.size w w' := by
  have H1 := Lib.hid h
  have H2 := Lib.hid h2
  have hne : ((rs.length : Int) != (rs.length : Int)) = false := by simp
  clear h h2
  go_enter Try.func10, Try.ntmps10
  go_wp2_with fail
  go_loopw [13] (fun i wr => ∃ k : Nat, k ≤ rs.length ∧ i = .int .i64 k ∧ Hid (Below w.heap.size w wr)) (fun i _ => rs.length - (intOf i).toNat)
  case atStart => exact ⟨0, Nat.zero_le _, rfl, Lib.hid (Below.refl _ _)⟩
  case round =>
    obtain ⟨k, hk, rfl, HB⟩ := hrel
    by_cases hkN : k < rs.length
    · have hkN' : (k : Int) < rs.length := by omega
      obtain ⟨b, off, rfl, hb, c0, c1, c2, c3⟩ := (H1.out.below HB.out).at_ hkN
      obtain ⟨b2, off2, rfl, hb2, d0, d1, d2, d3⟩ := (H2.out.below HB.out).at_ hkN
      obtain ⟨⟨x, y, n, m⟩, hr⟩ : ∃ r, r = rs[k] := ⟨_, rfl⟩
      rw [← hr] at c0 c1 c2 c3 d0 d1 d2 d3
      simp only at c0 c1 c2 c3 d0 d1 d2 d3
      have e0 : (x == x) = true := by simp
      have e1 : (y == y) = true := by simp
      have e2 : (n == n) = true := by simp
      have e3 : (m == m) = true := by simp
      have hk0 : (0 : Int) ≤ (k : Int) := by omega
      have HD := Lib.hid (fun nq => below_drewN HB.out nq)
      clear hr
      go_wp2_with fail
      go_quiet (fail)
      go_wp2
      go_roundw
      case rel => exact ⟨k + 1, by omega, by go_num, Lib.hid (HD.out _)⟩
      case measure => simp [intOf]; omega
    · obtain rfl : k = rs.length := by omega
      go_wp2
      go_ret
      exact ⟨rfl, HB.out⟩

end Go.Proofs.Ytndhnpljdldlpab

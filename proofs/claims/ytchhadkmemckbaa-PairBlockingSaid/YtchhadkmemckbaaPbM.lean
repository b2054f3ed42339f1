/- Pairs: slices.Equal on slices of two ints. -/
import Derived.Test.YtchhadkmemckbaaPbH
import Derived.Laws.StructEq
namespace Go.Proofs.Ytchhadkmemckbaa
open Go.RowKit
set_option linter.unusedSimpArgs false
set_option linter.unusedVariables false

theorem run_equal_two (a b : Int) (w : World) : (Op.equalIn 10000 65 (.agg #[.int .i64 a, .int .i64 b]) (.agg #[.int .i64 a, .int .i64 b])).run Try.prog w = .ok true w := by
  have ht : Try.prog.underlying 65 = some (.array 2 3) := by kernel_rfl
  have he : Try.prog.underlying 3 = some (.int .i64) := by kernel_rfl
  have hs : ∀ w, (sizeOf 3).run Try.prog w = .ok 1 w := fun w => by kernel_rfl
  have ha : ∀ w, (isAgg 3).run Try.prog w = .ok false w := fun w => by kernel_rfl
  have hp : ∀ (cs : Array Value) (i : Nat) (v : Value) (w : World), cs[i]? = some v → (part 3 cs i).run Try.prog w = .ok v w := fun cs i v w h => by
    unfold part
    simp only [Sem.run_bind, ha, Result.andThen_ok, Bool.false_eq_true, if_false, h, Sem.run_pure]
  have hq : ∀ (x : Int) (w : World), (Op.equalIn 9999 3 (.int .i64 x) (.int .i64 x)).run Try.prog w = .ok true w := fun x w => by
    rw [show (9999 : Nat) = 9998 + 1 from rfl, run_equalIn_int w 9998 3 .i64 .i64 x x he, beq_self_eq_true]
  have h0 : ∀ w, (part 3 #[Value.int IntKind.i64 a, Value.int IntKind.i64 b] 0).run Try.prog w = .ok (.int .i64 a) w := fun w => hp _ 0 _ w rfl
  have h1 : ∀ w, (part 3 #[Value.int IntKind.i64 a, Value.int IntKind.i64 b] 1).run Try.prog w = .ok (.int .i64 b) w := fun w => hp _ 1 _ w rfl
  rw [show (10000 : Nat) = 9999 + 1 from rfl]
  rw [Op.equalIn]
  simp only [Sem.run_bind, run_underlying ht, Result.andThen_ok, hs]
  rw [Std.Legacy.Range.forIn_eq_forIn_range']
  simp only [Std.Legacy.Range.size, List.range', Nat.sub_zero, List.forIn_cons, List.forIn_nil, Nat.add_sub_cancel, Nat.div_one, Nat.reduceAdd, Nat.reduceSub, Nat.reduceDiv, Nat.zero_add]
  simp only [Sem.run_bind, h0, h1, hq, Result.andThen_ok, Nat.mul_one, Bool.not_true, Bool.false_eq_true, if_false, Sem.run_pure]

set_option maxRecDepth 100000 in
set_option maxHeartbeats 1600000 in
theorem equalP_any (a a2 : Option Addr) (cap cap2 : Nat) (rs : List (Nat × Nat)) (hl : (rs.length : Int) ≤ 9223372036854775807) (w : World) (h : PtS w a rs) (h2 : PtS w a2 rs) :
    Calls Try.prog 41 #[.slice a rs.length cap, .slice a2 rs.length cap2] w fun e w' => e = .returned (.bool true) ∧ Below w.heap.size w w' := by
  have H1 := Lib.hid h
  have H2 := Lib.hid h2
  have hne : ((rs.length : Int) != (rs.length : Int)) = false := by simp
  clear h h2
  go_enter Try.func41, Try.ntmps41
  go_wp2_with fail
  go_loopw [13] (fun i wr => ∃ k : Nat, k ≤ rs.length ∧ i = .int .i64 k ∧ Hid (Below w.heap.size w wr)) (fun i _ => rs.length - (intOf i).toNat)
  case atStart => exact ⟨0, Nat.zero_le _, rfl, Lib.hid (Below.refl _ _)⟩
  case round =>
    obtain ⟨k, hk, rfl, HB⟩ := hrel
    by_cases hkN : k < rs.length
    · have hkN' : (k : Int) < rs.length := by omega
      obtain ⟨b, off, rfl, hb, c0, c1⟩ := (H1.out.below HB.out).at_ hkN
      obtain ⟨b2, off2, rfl, hb2, d0, d1⟩ := (H2.out.below HB.out).at_ hkN
      obtain ⟨⟨x, y⟩, hr⟩ : ∃ r, r = rs[k] := ⟨_, rfl⟩
      rw [← hr] at c0 c1 d0 d1
      simp only at c0 c1 d0 d1
      have hEQ := run_equal_two x y
      have hk0 : (0 : Int) ≤ (k : Int) := by omega
      have HD := Lib.hid (fun nq => below_drewN HB.out nq)
      clear hr
      go_wp2_with fail
      go_quiet (fail)
      go_wp2
      go_roundw
      case rel => exact ⟨k + 1, by omega, by go_num, Lib.hid (HD.out _)⟩
      case measure => simp [intOf]; omega
    · obtain rfl : k = rs.length := by omega
      go_wp2
      go_ret
      exact ⟨rfl, HB.out⟩

end Go.Proofs.Ytchhadkmemckbaa

/- SkinNobody: a table that NewTable did not return reports ErrNil, for every rectangle; no condition. -/
import Derived.Test.YtdhnifhehhbjeaaRows
import Derived.ProofKit
import Derived.OpenShut
import Derived.Lib.SmallJoins
import Derived.Test.YtdhnifhehhbjeaaSkT
namespace Go.Proofs.Ytdhnifhehhbjeaa.lawSkinNobody
open Go.ChangeShapes Go.WideShapes Go.ChangeAt Go.RowKit Go.Joins
set_option linter.unusedVariables false

set_option maxRecDepth 100000 in
set_option maxHeartbeats 1600000 in
theorem count_none (r0 r1 r2 r3 : Int) (w : World) : Calls Try.prog 23 #[.pointer none, .agg #[.int .i64 r0, .int .i64 r1, .int .i64 r2, .int .i64 r3]] w fun e w' => e = .returned (.tuple #[.int .i64 0, .int .i64 1]) ∧ Below w.heap.size w w' := by
  go_enter Try.func23, Try.ntmps23
  go_wp2
  go_ret2
  exact ⟨rfl, (Below.refl _ _).alloc (Nat.le_refl _) _⟩

set_option maxRecDepth 100000 in
set_option maxHeartbeats 1600000 in
theorem count_empty (r0 r1 r2 r3 : Int) (T : Nat) (w : World) (h : w.cell? ⟨T, 0, none⟩ = some (.slice none 0 0)) (hT : T < w.heap.size) : Calls Try.prog 23 #[.pointer (some ⟨T, 0, none⟩), .agg #[.int .i64 r0, .int .i64 r1, .int .i64 r2, .int .i64 r3]] w fun e w' => e = .returned (.tuple #[.int .i64 0, .int .i64 1]) ∧ Below w.heap.size w w' := by
  have heq : ∀ w', (binOp .eql 45 (.slice none 0 0) (.slice none 0 0)).run Try.prog w' = .ok (.bool true) w' := fun _ => by kernel_rfl
  go_enter Try.func23, Try.ntmps23
  go_wp2
  go_ret2
  exact ⟨rfl, (Below.refl _ _).alloc (Nat.le_refl _) _⟩

theorem own : ownKnob Try.prog.godebug = none := by kernel_rfl
theorem cellsRect : Try.prog.cellsOf 39 = 4 := by kernel_rfl
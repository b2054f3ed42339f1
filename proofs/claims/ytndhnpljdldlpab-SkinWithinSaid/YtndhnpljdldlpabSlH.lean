/- Skins: rectangles; Crop and Punch of the program. -/
import Derived.Test.YtndhnpljdldlpabSkD
import Derived.Test.YtndhnpljdldlpabSkN
namespace Go.Proofs.Ytndhnpljdldlpab
open Go.RowKit

/-- A rectangle; within a width and a height; the error of both. -/
def rectB (x y u v : Int) : Bool := decide (0 ≤ x) && decide (0 ≤ y) && decide (1 ≤ u) && decide (1 ≤ v)
def liesB (x y u v W H : Int) : Bool := decide (u ≤ W) && decide (x ≤ W - u) && decide (v ≤ H) && decide (y ≤ H - v)
def rectE (ss : List ByteArray) (x y u v : Int) : Int := if (skB ss && rectB x y u v) = true then (if liesB x y u v (wid ss) ss.length = true then 0 else 5) else 2
theorem rectB_iff {x y u v : Int} : rectB x y u v = true ↔ 0 ≤ x ∧ 0 ≤ y ∧ 1 ≤ u ∧ 1 ≤ v := by unfold rectB; simp [and_assoc]
theorem liesB_iff {x y u v W H : Int} : liesB x y u v W H = true ↔ u ≤ W ∧ x ≤ W - u ∧ v ≤ H ∧ y ≤ H - v := by unfold liesB; simp [and_assoc]

theorem ret_bool {b c : Bool} (h : b = c) : Ending.returned (Value.bool b) = Ending.returned (Value.bool c) := by rw [h]

theorem bool_of {p : Prop} [Decidable p] {b : Bool} (h : b = true ↔ p) : b = decide p := by
  cases b with
  | false => simp only [Bool.false_eq_true, false_iff] at h; simp [h]
  | true => simp only [true_iff] at h; simp [h]

set_option maxRecDepth 100000 in
set_option maxHeartbeats 1600000 in
theorem isRect_any (x y u v : Int) (w : World) : Calls Try.prog 100 #[.agg #[.int .i64 x, .int .i64 y, .int .i64 u, .int .i64 v]] w fun e w' => e = .returned (.bool (rectB x y u v)) ∧ Below w.heap.size w w' := by
  obtain ⟨r, hr⟩ : ∃ r, r = rectB x y u v := ⟨_, rfl⟩
  have hi : r = true ↔ 0 ≤ x ∧ 0 ≤ y ∧ 1 ≤ u ∧ 1 ≤ v := by rw [hr]; exact rectB_iff
  have HI := Lib.hid hi
  rw [← hr]
  clear hr hi
  go_enter Try.func100, Try.ntmps100
  go_wp2
  all_goals
    go_ret
    refine ⟨ret_bool ?_, (Below.refl _ _).alloc (Nat.le_refl _) _⟩
    rw [bool_of HI.out]
    first
      | (refine decide_eq_decide.2 ?_; omega)
      | (refine (decide_eq_false ?_).symm; omega)
      | (refine (decide_eq_true ?_).symm; omega)

set_option maxRecDepth 100000 in
set_option maxHeartbeats 1600000 in
theorem rRect_any (x y u v : Int) (w : World) : Calls Try.prog 15 #[.agg #[.int .i64 x, .int .i64 y, .int .i64 u, .int .i64 v]] w fun e w' => e = .returned (.bool (rectB x y u v)) ∧ Below w.heap.size w w' := by
  obtain ⟨r, hr⟩ : ∃ r, r = rectB x y u v := ⟨_, rfl⟩
  have hi : r = true ↔ 0 ≤ x ∧ 0 ≤ y ∧ 1 ≤ u ∧ 1 ≤ v := by rw [hr]; exact rectB_iff
  have HI := Lib.hid hi
  rw [← hr]
  clear hr hi
  go_enter Try.func15, Try.ntmps15
  go_wp2
  all_goals
    go_ret
    refine ⟨ret_bool ?_, (Below.refl _ _).alloc (Nat.le_refl _) _⟩
    rw [bool_of HI.out]
    first
      | (refine decide_eq_decide.2 ?_; omega)
      | (refine (decide_eq_false ?_).symm; omega)
      | (refine (decide_eq_true ?_).symm; omega)

set_option maxRecDepth 100000 in
set_option maxHeartbeats 3200000 in
theorem lies_any (x y u v : Int) (W H : Nat) (hW : W ≤ 48) (hH : H ≤ 48) (hu1 : 1 ≤ u) (hv1 : 1 ≤ v) (w : World) : Calls Try.prog 101 #[.agg #[.int .i64 x, .int .i64 y, .int .i64 u, .int .i64 v], .int .i64 W, .int .i64 H] w fun e w' => e = .returned (.bool (liesB x y u v W H)) ∧ Below w.heap.size w w' := by
  obtain ⟨r, hr⟩ : ∃ r, r = liesB x y u v W H := ⟨_, rfl⟩
  have hi : r = true ↔ u ≤ W ∧ x ≤ W - u ∧ v ≤ H ∧ y ≤ H - v := by rw [hr]; exact liesB_iff
  have HI := Lib.hid hi
  rw [← hr]
  clear hr hi
  by_cases hu : u ≤ W
  · have hw1 : IntKind.i64.wrap ((W : Int) - u) = (W : Int) - u := IntWalk.i64_in _ (by omega)
    by_cases hv : v ≤ H
    · have hw2 : IntKind.i64.wrap ((H : Int) - v) = (H : Int) - v := IntWalk.i64_in _ (by omega)
      go_enter Try.func101, Try.ntmps101
      go_wp2
      all_goals
        go_ret
        refine ⟨ret_bool ?_, (Below.refl _ _).alloc (Nat.le_refl _) _⟩
        rw [bool_of HI.out]
        first
          | (refine decide_eq_decide.2 ?_; omega)
          | (refine (decide_eq_false ?_).symm; omega)
          | (refine (decide_eq_true ?_).symm; omega)
    · go_enter Try.func101, Try.ntmps101
      go_wp2
      all_goals
        go_ret
        refine ⟨ret_bool ?_, (Below.refl _ _).alloc (Nat.le_refl _) _⟩
        rw [bool_of HI.out]
        first
          | (refine decide_eq_decide.2 ?_; omega)
          | (refine (decide_eq_false ?_).symm; omega)
          | (refine (decide_eq_true ?_).symm; omega)
  · go_enter Try.func101, Try.ntmps101
    go_wp2
    all_goals
      go_ret
      refine ⟨ret_bool ?_, (Below.refl _ _).alloc (Nat.le_refl _) _⟩
      rw [bool_of HI.out]
      first
        | (refine decide_eq_decide.2 ?_; omega)
        | (refine (decide_eq_false ?_).symm; omega)
        | (refine (decide_eq_true ?_).symm; omega)

set_option maxRecDepth 100000 in
set_option maxHeartbeats 3200000 in
theorem rLies_any (x y u v : Int) (W H : Nat) (hW : W ≤ 48) (hH : H ≤ 48) (hu1 : 1 ≤ u) (hv1 : 1 ≤ v) (w : World) : Calls Try.prog 16 #[.agg #[.int .i64 x, .int .i64 y, .int .i64 u, .int .i64 v], .int .i64 W, .int .i64 H] w fun e w' => e = .returned (.bool (liesB x y u v W H)) ∧ Below w.heap.size w w' := by
  obtain ⟨r, hr⟩ : ∃ r, r = liesB x y u v W H := ⟨_, rfl⟩
  have hi : r = true ↔ u ≤ W ∧ x ≤ W - u ∧ v ≤ H ∧ y ≤ H - v := by rw [hr]; exact liesB_iff
  have HI := Lib.hid hi
  rw [← hr]
  clear hr hi
  by_cases hu : u ≤ W
  · have hw1 : IntKind.i64.wrap ((W : Int) - u) = (W : Int) - u := IntWalk.i64_in _ (by omega)
    by_cases hv : v ≤ H
    · have hw2 : IntKind.i64.wrap ((H : Int) - v) = (H : Int) - v := IntWalk.i64_in _ (by omega)
      go_enter Try.func16, Try.ntmps16
      go_wp2
      all_goals
        go_ret
        refine ⟨ret_bool ?_, (Below.refl _ _).alloc (Nat.le_refl _) _⟩
        rw [bool_of HI.out]
        first
          | (refine decide_eq_decide.2 ?_; omega)
          | (refine (decide_eq_false ?_).symm; omega)
          | (refine (decide_eq_true ?_).symm; omega)
    · go_enter Try.func16, Try.ntmps16
      go_wp2
      all_goals
        go_ret
        refine ⟨ret_bool ?_, (Below.refl _ _).alloc (Nat.le_refl _) _⟩
        rw [bool_of HI.out]
        first
          | (refine decide_eq_decide.2 ?_; omega)
          | (refine (decide_eq_false ?_).symm; omega)
          | (refine (decide_eq_true ?_).symm; omega)
  · go_enter Try.func16, Try.ntmps16
    go_wp2
    all_goals
      go_ret
      refine ⟨ret_bool ?_, (Below.refl _ _).alloc (Nat.le_refl _) _⟩
      rw [bool_of HI.out]
      first
        | (refine decide_eq_decide.2 ?_; omega)
        | (refine (decide_eq_false ?_).symm; omega)
        | (refine (decide_eq_true ?_).symm; omega)

end Go.Proofs.Ytndhnpljdldlpab

/- The reference's rounding: the walk. -/
import Derived.Test.YtjnfgjaiahnfgabRndD
namespace Go.Proofs.Ytjnfgjaiahnfgab
open Go.RowKit

theorem heap3 (w : World) (a b : Obj) : ((w.alloc a).alloc b).heap.size = w.heap.size + 1 + 1 := by simp

theorem over_half (x y : Value) (a b : Int) (hb : b ≠ 0) (r1 : -9223372036854775808 ≤ a ∧ a ≤ 9223372036854775807) (r2 : -9223372036854775808 ≤ b ∧ b ≤ 9223372036854775807) (q : Rat) (hq : qof a b = q) (w : World) (h : IsQ w x (a : Rat)) (g : IsQ w y (b : Rat)) :
    Calls Try.prog 60 #[x, y] w fun e w' => ∃ z, e = .returned z ∧ IsQ w' z q ∧ Below w.heap.size w w' := by
  subst hq
  have l1 := LenQ.int r1.1 r1.2
  have l2 := LenQ.int r2.1 r2.2
  exact over_any x y (a : Rat) (b : Rat) (by exact_mod_cast hb) w h g (by have := l1.n; omega) (by have := l1.d; omega) (by have := l2.n; omega) (by have := l2.d; omega)

theorem down_qof (x : Value) (a b : Int) (hb : 0 < b) (r1 : -9223372036854775808 ≤ a ∧ a ≤ 9223372036854775807) (r2 : b ≤ 9223372036854775807) (w : World) (h : IsQ w x (qof a b)) :
    Calls Try.prog 63 #[x] w fun e w' => ∃ z, e = .returned z ∧ IsQ w' z ((a / b : Int) : Rat) ∧ Below w.heap.size w w' := by
  rw [← flo_qof hb]
  exact down_any x (qof a b) w h ((LenQ.qof r1.1 r1.2 hb r2).mono (by decide))

theorem times_int (x y : Value) (a b c : Int) (hc : a * b = c) (r1 : -9223372036854775808 ≤ a ∧ a ≤ 9223372036854775807) (r2 : -9223372036854775808 ≤ b ∧ b ≤ 9223372036854775807) (w : World) (h : IsQ w x (a : Rat)) (g : IsQ w y (b : Rat)) :
    Calls Try.prog 69 #[x, y] w fun e w' => ∃ z, e = .returned z ∧ IsQ w' z (c : Rat) ∧ Below w.heap.size w w' := by
  subst hc
  have l1 := LenQ.int r1.1 r1.2
  have l2 := LenQ.int r2.1 r2.2
  rw [Rat.intCast_mul]
  exact times_q_any x y (a : Rat) (b : Rat) w h g (by have := l1.n; omega) (by have := l1.d; omega) (by have := l2.n; omega) (by have := l2.d; omega)

theorem less_int (x y : Value) (a b c : Int) (hc : a - b = c) (r1 : -9223372036854775808 ≤ a ∧ a ≤ 9223372036854775807) (r2 : -9223372036854775808 ≤ b ∧ b ≤ 9223372036854775807) (w : World) (h : IsQ w x (a : Rat)) (g : IsQ w y (b : Rat)) :
    Calls Try.prog 59 #[x, y] w fun e w' => ∃ z, e = .returned z ∧ IsQ w' z (c : Rat) ∧ Below w.heap.size w w' := by
  subst hc
  rw [Rat.intCast_sub]
  exact less_q_any x y (a : Rat) (b : Rat) w h g ((LenQ.int r1.1 r1.2).mono (by decide)) ((LenQ.int r2.1 r2.2).mono (by decide))

theorem sign_int (x : Value) (a c : Int) (hc : cmpI a 0 = c) (w : World) (h : IsQ w x (a : Rat)) :
    Calls Try.prog 58 #[x] w fun e w' => e = .returned (.int .i64 c) ∧ Below w.heap.size w w' := by
  subst hc
  have e1 : qof a 1 = (a : Rat) := by unfold qof; (first | (simp; done) | grind)
  have := sgn_qof (n := a) (d := 1) (by decide)
  rw [e1] at this
  rw [← this]
  exact sign_any x _ w h

end Go.Proofs.Ytjnfgjaiahnfgab

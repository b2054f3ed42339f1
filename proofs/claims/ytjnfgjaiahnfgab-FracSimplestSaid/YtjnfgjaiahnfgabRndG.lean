/- The reference's RoundTo. -/
import Derived.Test.YtjnfgjaiahnfgabRndF
import Derived.Test.YtjnfgjaiahnfgabBackA
namespace Go.Proofs.Ytjnfgjaiahnfgab
open Go.RowKit

theorem over_qof (x y : Value) (n1 d1 n2 d2 : Int) (h1 : VF n1 d1) (h2 : VF n2 d2) (hz : n2 ≠ 0) (w : World) (h : IsQ w x (qof n1 d1)) (g : IsQ w y (qof n2 d2)) :
    Calls Try.prog 60 #[x, y] w fun e w' => ∃ z, e = .returned z ∧ IsQ w' z (qof (n1 * d2) (d1 * n2)) ∧ Below w.heap.size w w' := by
  have l1 := (LenQ.vf h1).mono (show 1 ≤ 10000000 by decide)
  have l2 := (LenQ.vf h2).mono (show 1 ≤ 10000000 by decide)
  rw [qof_over (by have := h1.d1; omega) (by have := h2.d1; omega) hz]
  exact over_any x y _ _ (h2.ne hz) w h g (by have := l1.n; omega) (by have := l1.d; omega) (by have := l2.n; omega) (by have := l2.d; omega)

theorem times_k (x y : Value) (k n2 d2 : Int) (r : -2000000000000000000 ≤ k ∧ k ≤ 2000000000000000000) (h2 : VF n2 d2) (w : World) (h : IsQ w x (k : Rat)) (g : IsQ w y (qof n2 d2)) :
    Calls Try.prog 69 #[x, y] w fun e w' => ∃ z, e = .returned z ∧ IsQ w' z (qof (k * n2) d2) ∧ Below w.heap.size w w' := by
  have l1 := LenQ.int (n := k) (by omega) (by omega)
  have l2 := (LenQ.vf h2).mono (show 1 ≤ 10000000 by decide)
  have e : qof (k * n2) d2 = (k : Rat) * qof n2 d2 := by
    unfold qof
    rw [Rat.intCast_mul]
    have : (d2 : Rat) ≠ 0 := by exact_mod_cast (show d2 ≠ 0 by have := h2.d1; omega)
    grind
  rw [e]
  exact times_q_any x y _ _ w h g (by have := l1.n; omega) (by have := l1.d; omega) (by have := l2.n; omega) (by have := l2.d; omega)

end Go.Proofs.Ytjnfgjaiahnfgab

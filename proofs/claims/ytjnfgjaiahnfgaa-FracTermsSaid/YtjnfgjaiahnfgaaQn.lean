/- The reference's operations, at quotients of two whole numbers. -/
import Derived.Test.YtjnfgjaiahnfgaaRndE
import Derived.Test.YtjnfgjaiahnfgaaMQ
namespace Go.Proofs.Ytjnfgjaiahnfgaa
open Go.RowKit
set_option linter.unusedSimpArgs false

/-- The number one, behind a name. -/
def oneQ : Rat := 1
theorem oneQ_eq : oneQ = qof 1 1 := by unfold oneQ qof; decide +kernel

theorem one_q (w : World) : Calls Try.prog 61 #[.int .i64 1] w fun e w' => ∃ b u k c u2 k2 c2, e = .returned (.agg #[.bool b, .slice u k c, .slice u2 k2 c2]) ∧ IsQ w' (.agg #[.bool b, .slice u k c, .slice u2 k2 c2]) oneQ ∧ Below w.heap.size w w' := by
  have := int_any 1 (by decide) (by decide) w
  have e : ((1 : Int) : Rat) = oneQ := rfl
  rw [e] at this
  exact calls_q this

/-- b less the whole number n. -/
theorem less_n (x y : Value) (a b n c : Int) (hb : 0 < b) (hc : c = a - n * b) (r1 : -9223372036854775808 ≤ a ∧ a ≤ 9223372036854775807) (r2 : b ≤ 9223372036854775807) (r3 : -9223372036854775808 ≤ n ∧ n ≤ 9223372036854775807) (w : World) (h : IsQ w x (qof a b)) (g : IsQ w y (qof n 1)) :
    Calls Try.prog 37 #[x, y] w fun e w' => ∃ z, e = .returned z ∧ IsQ w' z (qof c b) ∧ Below w.heap.size w w' := by
  subst hc
  have e1 : qof n 1 = (n : Rat) := by unfold qof; (first | (simp; done) | grind)
  rw [← rest_qof hb n, ← e1]
  rw [e1] at g ⊢
  exact less_q_any x y _ _ w h g ((LenQ.qof r1.1 r1.2 hb r2).mono (by decide)) ((LenQ.int r3.1 r3.2).mono (by decide))

theorem qof_inv {a b : Int} (ha : 0 < a) (hb : 0 < b) : oneQ / qof a b = qof b a := by
  unfold oneQ qof
  have h1 := ratne (show a ≠ 0 by omega)
  have h2 := ratne (show b ≠ 0 by omega)
  grind

/-- One over it. -/
theorem inv_q (x y : Value) (a b : Int) (ha : 0 < a) (hb : 0 < b) (r1 : a ≤ 9223372036854775807) (r2 : b ≤ 9223372036854775807) (w : World) (h : IsQ w x oneQ) (g : IsQ w y (qof a b)) :
    Calls Try.prog 42 #[x, y] w fun e w' => ∃ z, e = .returned z ∧ IsQ w' z (qof b a) ∧ Below w.heap.size w w' := by
  have l1 := LenQ.int (n := 1) (by decide) (by decide)
  have l2 := LenQ.qof (a := a) (b := b) (by omega) (by omega) hb (by omega)
  have hz : qof a b ≠ 0 := by
    unfold qof
    have h1 := ratne (show a ≠ 0 by omega)
    have h2 := ratne (show b ≠ 0 by omega)
    grind
  rw [← qof_inv ha hb]
  have e : ((1 : Int) : Rat) = oneQ := rfl
  rw [e] at l1
  exact over_any x y _ _ hz w h g (by have := l1.n; omega) (by have := l1.d; omega) (by have := l2.n; omega) (by have := l2.d; omega)

/-- n and a fraction. -/
theorem plus_n (x y : Value) (n a b c : Int) (hb : 0 < b) (hc : c = n * b + a) (r1 : -9223372036854775808 ≤ a ∧ a ≤ 9223372036854775807) (r2 : b ≤ 9223372036854775807) (r3 : -9223372036854775808 ≤ n ∧ n ≤ 9223372036854775807) (w : World) (h : IsQ w x (qof n 1)) (g : IsQ w y (qof a b)) :
    Calls Try.prog 44 #[x, y] w fun e w' => ∃ z, e = .returned z ∧ IsQ w' z (qof c b) ∧ Below w.heap.size w w' := by
  subst hc
  have e1 : qof n 1 = (n : Rat) := by unfold qof; (first | (simp; done) | grind)
  have e : qof (n * b + a) b = (n : Rat) + qof a b := by
    unfold qof
    rw [Rat.intCast_add, Rat.intCast_mul]
    have h2 := ratne (show b ≠ 0 by omega)
    grind
  rw [e]
  rw [e1] at h
  have l1 := LenQ.int r3.1 r3.2
  have l2 := LenQ.qof r1.1 r1.2 hb r2
  exact plus_q_any x y _ _ w h g (by have := l1.n; omega) (by have := l1.d; omega) (by have := l2.n; omega) (by have := l2.d; omega)

theorem order_n (x y : Value) (a b c d o : Int) (hb : 0 < b) (hd : 0 < d) (ho : cmpI (a * d) (c * b) = o) (r1 : -9223372036854775808 ≤ a ∧ a ≤ 9223372036854775807) (r2 : b ≤ 9223372036854775807) (r3 : -9223372036854775808 ≤ c ∧ c ≤ 9223372036854775807) (r4 : d ≤ 9223372036854775807) (w : World) (h : IsQ w x (qof a b)) (g : IsQ w y (qof c d)) :
    Calls Try.prog 43 #[x, y] w fun e w' => e = .returned (.int .i64 o) ∧ Below w.heap.size w w' := by
  rw [← ho, ← ordQ_cross hb hd]
  exact order_any x y _ _ w h g ((LenQ.qof r1.1 r1.2 hb r2).mono (by decide)) ((LenQ.qof r3.1 r3.2 hd r4).mono (by decide))

theorem sign_n (x : Value) (a b s : Int) (hb : 0 < b) (hs : cmpI a 0 = s) (w : World) (h : IsQ w x (qof a b)) :
    Calls Try.prog 39 #[x] w fun e w' => e = .returned (.int .i64 s) ∧ Below w.heap.size w w' := by
  rw [← hs, ← sgn_qof hb]
  exact sign_any x _ w h

theorem down_n (x : Value) (a b m : Int) (hb : 0 < b) (hm : a / b = m) (r1 : -9223372036854775808 ≤ a ∧ a ≤ 9223372036854775807) (r2 : b ≤ 9223372036854775807) (w : World) (h : IsQ w x (qof a b)) :
    Calls Try.prog 82 #[x] w fun e w' => ∃ z, e = .returned z ∧ IsQ w' z (qof m 1) ∧ Below w.heap.size w w' := by
  subst hm
  have e1 : qof (a / b) 1 = ((a / b : Int) : Rat) := by unfold qof; (first | (simp; done) | grind)
  rw [e1]
  exact down_qof x a b hb r1 r2 w h

end Go.Proofs.Ytjnfgjaiahnfgaa

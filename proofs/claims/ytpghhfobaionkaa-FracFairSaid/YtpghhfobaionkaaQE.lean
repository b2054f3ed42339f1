/- The reference's Down. -/
import Derived.Test.YtpghhfobaionkaaQD
namespace Go.Proofs.Ytpghhfobaionkaa
open Go.RowKit

/-- One rational's box and the result's block. -/
def S1Q (w : World) (x0 x1 x2 : Value) (w' : World) : Prop :=
  Below w.heap.size w w' ∧ w'.heap[w.heap.size]? = some (.cells #[x0, x1, x2] 52 (0, 0)) ∧ IsBlk3 w' (w.heap.size + 1)

theorem S1Q.start (w : World) (x0 x1 x2 : Value) (z0 : Bool) (z1 z2 : Value) (T2 : TypeId) : S1Q w x0 x1 x2 ((w.alloc (.cells #[x0, x1, x2] 52)).alloc (.cells #[.bool z0, z1, z2] T2)) := by
  have e1 : (w.alloc (.cells #[x0, x1, x2] 52)).heap.size = w.heap.size + 1 := by simp
  refine ⟨Below2 w _ _, ?_, ?_⟩
  · rw [Below.heap_alloc _ _ _ (by omega)]; exact heap_alloc_new w _
  · exact ⟨z0, z1, z2, T2, by rw [← e1]; exact heap_alloc_new _ _⟩

theorem S1Q.step {w : World} {x0 x1 x2 : Value} {w1 w2 : World} (h : S1Q w x0 x1 x2 w1) (hb : Below w1.heap.size w1 w2) : S1Q w x0 x1 x2 w2 :=
  ⟨h.1.trans (hb.mono h.1.size), (hb.block _ (Array.getElem?_eq_some_iff.1 h.2.1).1).trans h.2.1, h.2.2.below hb⟩

theorem S1Q.cells {w : World} {x0 x1 x2 : Value} {w1 : World} (h : S1Q w x0 x1 x2 w1) : w1.cell? ⟨w.heap.size, 0, none⟩ = some x0 ∧ w1.cell? ⟨w.heap.size, 1, none⟩ = some x1 ∧ w1.cell? ⟨w.heap.size, 2, none⟩ = some x2 :=
  ⟨cell_blk h.2.1 0, cell_blk h.2.1 1, cell_blk h.2.1 2⟩

theorem S1Q.store {w : World} {x0 x1 x2 : Value} {w1 : World} (h : S1Q w x0 x1 x2 w1) (a : Bool) (b c : Value) :
    Below w.heap.size w (((w1.setCell ⟨w.heap.size + 1, 0, none⟩ (.bool a)).setCell ⟨w.heap.size + 1, 1, none⟩ b).setCell ⟨w.heap.size + 1, 2, none⟩ c) :=
  ((h.1.setCell (by simp) _).setCell (by simp) _).setCell (by simp) _

/-- The greatest whole number that is not above q. -/
def flo (q : Rat) : Int := q.num / (q.den : Int)

theorem flo_neg (q : Rat) : decide (q < 0) = decide (flo q < 0) := by
  have h := rat_neg_iff q
  have hd : (0 : Int) < (q.den : Int) := by have := q.den_pos; omega
  by_cases hq : q < 0
  · rw [decide_eq_true hq, decide_eq_true (show flo q < 0 from Int.ediv_neg_of_neg_of_pos (h.1 hq) hd)]
  · have h2 : 0 ≤ q.num := by have : ¬ q.num < 0 := fun h3 => hq (h.2 h3); omega
    have h3 : 0 ≤ flo q := Int.ediv_nonneg h2 (by omega)
    rw [decide_eq_false hq, decide_eq_false (by omega)]

theorem flo_abs_pos {q : Rat} (h : ¬ q < 0) : (flo q).natAbs = q.num.natAbs / q.den := by
  have h0 := rat_neg_iff q
  have h2 : 0 ≤ q.num := by have : ¬ q.num < 0 := fun h3 => h (h0.2 h3); omega
  obtain ⟨a, ha⟩ := Int.eq_ofNat_of_zero_le h2
  unfold flo
  rw [ha, Int.natAbs_natCast, ← Int.natCast_ediv, Int.natAbs_natCast]

theorem flo_abs_neg {q : Rat} (h : q < 0) : (flo q).natAbs = q.num.natAbs / q.den + (if q.num.natAbs % q.den = 0 then 0 else 1) := by
  have h2 := (rat_neg_iff q).1 h
  obtain ⟨a, ha⟩ := Int.eq_ofNat_of_zero_le (show 0 ≤ -q.num by omega)
  have e : q.num = -(a : Int) := by omega
  unfold flo
  rw [e, Int.natAbs_neg, Int.natAbs_natCast]
  have hd := q.den_pos
  generalize q.den = d at hd
  have h4 : d * (a / d) + a % d = a := Nat.div_add_mod a d
  have h5 : a % d < d := Nat.mod_lt _ hd
  by_cases h3 : a % d = 0
  · rw [if_pos h3]
    have : -(a : Int) / (d : Int) = -((a / d : Nat) : Int) := by
      rw [show (a : Int) = (d : Int) * ((a / d : Nat) : Int) by rw [← Int.natCast_mul]; congr 1; omega]
      rw [← Int.mul_neg, Int.mul_ediv_cancel_left _ (by omega)]
    rw [this]
    generalize a / d = k
    omega
  · rw [if_neg h3]
    have : -(a : Int) / (d : Int) = -((a / d : Nat) : Int) - 1 := by
      have e2 : -(a : Int) = (d - (a % d : Nat) : Int) + (d : Int) * (-((a / d : Nat) : Int) - 1) := by
        have : (a : Int) = (d : Int) * ((a / d : Nat) : Int) + ((a % d : Nat) : Int) := by rw [← Int.natCast_mul, ← Int.natCast_add]; congr 1; omega
        grind
      rw [e2, Int.add_mul_ediv_left _ _ (by omega), Int.ediv_eq_zero_of_lt (by omega) (by omega)]; omega
    rw [this]
    generalize a / d = k
    omega

end Go.Proofs.Ytpghhfobaionkaa

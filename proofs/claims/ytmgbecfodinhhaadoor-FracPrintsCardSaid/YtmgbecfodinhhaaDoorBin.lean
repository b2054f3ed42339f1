/- The binary operations: the program's and the reference's, each by one specification. -/
import Derived.Test.YtmgbecfodinhhaaDoorCombA
namespace Go.Proofs.YtmgbecfodinhhaaDoor
open Go.RowKit

/-- What an operation on two fractions answers, q the exact result. -/
noncomputable def opS (n1 d1 n2 d2 : Int) (q : Rat) : Int × Int × Int := if vfB n1 d1 = true ∧ vfB n2 d2 = true then ansQ q else (0, 0, 2)
theorem opS_yes {n1 d1 n2 d2 : Int} {q : Rat} (h1 : VF n1 d1) (h2 : VF n2 d2) : opS n1 d1 n2 d2 q = ansQ q := by unfold opS; rw [if_pos ⟨(vfB_iff _ _).2 h1, (vfB_iff _ _).2 h2⟩]
theorem opS_no {n1 d1 n2 d2 : Int} {q : Rat} (h : ¬ (VF n1 d1 ∧ VF n2 d2)) : opS n1 d1 n2 d2 q = (0, 0, 2) := by
  unfold opS; rw [if_neg (fun h2 => h ⟨(vfB_iff _ _).1 h2.1, (vfB_iff _ _).1 h2.2⟩)]

theorem vfB_false {n d : Int} (h : ¬ VF n d) : vfB n d = false := by
  cases hb : vfB n d
  · rfl
  · exact absurd ((vfB_iff n d).1 hb) h

theorem LenQ.vf {n d : Int} (h : VF n d) : LenQ (qof n d) 1 where
  n := by
    rw [digs_length_le_iff, h.num.1, Nat.pow_one]
    have := h.n1; have := h.n2; unfold Bse; omega
  d := by
    rw [digs_length_le_iff, Nat.pow_one]
    have := h.num.2; have := h.d2; unfold Bse; omega

theorem LenQ.mono {q : Rat} {a b : Nat} (h : LenQ q a) (hab : a ≤ b) : LenQ q b := ⟨Nat.le_trans h.n hab, Nat.le_trans h.d hab⟩

theorem of_q (n d : Int) (h1 : -9223372036854775808 ≤ n) (h2 : n ≤ 9223372036854775807) (h3 : -9223372036854775808 ≤ d) (h4 : d ≤ 9223372036854775807) (h0 : d ≠ 0) (w : World) :
    Calls Tryd.prog 27 #[.agg #[.int .i64 n, .int .i64 d]] w fun e w' => ∃ z, e = .returned z ∧ IsQ w' z (qof n d) ∧ Below w.heap.size w w' := of_any n d h1 h2 h3 h4 h0 w

end Go.Proofs.YtmgbecfodinhhaaDoor

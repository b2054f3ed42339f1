/- Cmp, Neg, Abs, Div: the program's and the reference's. -/
import Derived.Test.YtpghhfobaionkaaCmp
namespace Go.Proofs.Ytpghhfobaionkaa
open Go.RowKit

/-- Two boxes of two numbers. -/
def S20 (w : World) (x0 x1 y0 y1 : Int) (T : TypeId) (w' : World) : Prop :=
  Below w.heap.size w w' ∧ w'.heap[w.heap.size]? = some (.cells #[.int .i64 x0, .int .i64 x1] T (0, 0)) ∧ w'.heap[w.heap.size + 1]? = some (.cells #[.int .i64 y0, .int .i64 y1] T (0, 0))
theorem S20.l {w : World} {x0 x1 y0 y1 : Int} {T : TypeId} {w' : World} (h : S20 w x0 x1 y0 y1 T w') : S20 w x0 x1 y0 y1 T w' ∧ w'.cell? ⟨w.heap.size, 0, none⟩ = some (.int .i64 x0) ∧ w'.cell? ⟨w.heap.size, 1, none⟩ = some (.int .i64 x1) ∧ w'.cell? ⟨w.heap.size + 1, 0, none⟩ = some (.int .i64 y0) ∧ w'.cell? ⟨w.heap.size + 1, 1, none⟩ = some (.int .i64 y1) :=
  ⟨h, cell_blk2 h.2.1 0, cell_blk2 h.2.1 1, cell_blk2 h.2.2 0, cell_blk2 h.2.2 1⟩
theorem S20.start (w : World) (x0 x1 y0 y1 : Int) (T : TypeId) : S20 w x0 x1 y0 y1 T ((w.alloc (.cells #[.int .i64 x0, .int .i64 x1] T)).alloc (.cells #[.int .i64 y0, .int .i64 y1] T)) :=
  ⟨Below2 _ _ _, heap_alloc1 _ _ _, heap_alloc2 _ _ _⟩
theorem S20.drew {w : World} {x0 x1 y0 y1 : Int} {T : TypeId} {w' : World} (h : S20 w x0 x1 y0 y1 T w') : S20 w x0 x1 y0 y1 T w'.drew := ⟨h.1.drew, h.2.1, h.2.2⟩
theorem S20.step {w : World} {x0 x1 y0 y1 : Int} {T : TypeId} {w1 w2 : World} (h : S20 w x0 x1 y0 y1 T w1) (hb : Below w1.heap.size w1 w2) : S20 w x0 x1 y0 y1 T w2 :=
  ⟨h.1.trans (hb.mono h.1.size), (hb.block _ (Array.getElem?_eq_some_iff.1 h.2.1).1).trans h.2.1, (hb.block _ (Array.getElem?_eq_some_iff.1 h.2.2).1).trans h.2.2⟩
theorem S20.b {w : World} {x0 x1 y0 y1 : Int} {T : TypeId} {w' : World} (h : S20 w x0 x1 y0 y1 T w') : Below w.heap.size w w' := h.1

theorem HasFr.two2 (w : World) (n1 d1 n2 d2 : Int) (T : TypeId) : HasFr (((w.alloc (.cells #[.int .i64 n1, .int .i64 d1] T)).alloc (.cells #[.int .i64 n2, .int .i64 d2] T)).alloc (.cells #[.int .i64 n1, .int .i64 d1, .int .i64 n2, .int .i64 d2] T)) (w.heap.size + 1 + 1) [(n1, d1), (n2, d2)] := by
  have h := HasFr.two ((w.alloc (.cells #[.int .i64 n1, .int .i64 d1] T)).alloc (.cells #[.int .i64 n2, .int .i64 d2] T)) n1 d1 n2 d2 T
  have e : ((w.alloc (.cells #[.int .i64 n1, .int .i64 d1] T)).alloc (.cells #[.int .i64 n2, .int .i64 d2] T)).heap.size = w.heap.size + 1 + 1 := by simp
  rw [e] at h
  exact h

theorem allB_two (n1 d1 n2 d2 : Int) : allB [(n1, d1), (n2, d2)] = (vfB n1 d1 && vfB n2 d2) := by simp [allB]

open Classical in
noncomputable def cmpS (n1 d1 n2 d2 : Int) : Int × Int := if VF n1 d1 ∧ VF n2 d2 then (ordQ (qof n1 d1) (qof n2 d2), 0) else (0, 2)
open Classical in
theorem cmpS_yes {n1 d1 n2 d2 : Int} (h : VF n1 d1 ∧ VF n2 d2) : cmpS n1 d1 n2 d2 = (ordQ (qof n1 d1) (qof n2 d2), 0) := by unfold cmpS; rw [if_pos h]
open Classical in
theorem cmpS_no {n1 d1 n2 d2 : Int} (h : ¬ (VF n1 d1 ∧ VF n2 d2)) : cmpS n1 d1 n2 d2 = (0, 2) := by unfold cmpS; rw [if_neg h]

theorem vf_and {n1 d1 n2 d2 : Int} (h : VF n1 d1 ∧ VF n2 d2) : (vfB n1 d1 && vfB n2 d2) = true := by rw [(vfB_iff _ _).2 h.1, (vfB_iff _ _).2 h.2]; rfl
theorem vf_nand {n1 d1 n2 d2 : Int} (h : ¬ (VF n1 d1 ∧ VF n2 d2)) : (vfB n1 d1 && vfB n2 d2) = false := by
  cases hb : (vfB n1 d1 && vfB n2 d2)
  · rfl
  · rw [Bool.and_eq_true] at hb; exact absurd ⟨(vfB_iff _ _).1 hb.1, (vfB_iff _ _).1 hb.2⟩ h

end Go.Proofs.Ytpghhfobaionkaa

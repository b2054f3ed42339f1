/- Neg, Abs, Div: the program's and the reference's. -/
import Derived.Test.YtpghhfobaionkaaCmpB
namespace Go.Proofs.Ytpghhfobaionkaa
open Go.RowKit

/-- One box of two numbers and the result's block. -/
def S12 (w : World) (x0 x1 : Int) (T : TypeId) (w' : World) : Prop :=
  Below w.heap.size w w' ∧ w'.heap[w.heap.size]? = some (.cells #[.int .i64 x0, .int .i64 x1] T (0, 0)) ∧ IsBlk2 w' (w.heap.size + 1)
theorem S12.start (w : World) (n d : Int) (T : TypeId) : S12 w n d T ((w.alloc (.cells #[.int .i64 n, .int .i64 d] T)).alloc (.cells #[.int .i64 0, .int .i64 0] T)) :=
  ⟨Below2 _ _ _, heap_alloc1 _ _ _, ⟨0, 0, T, heap_alloc2 _ _ _⟩⟩
theorem S12.step {w : World} {x0 x1 : Int} {T : TypeId} {w1 w2 : World} (h : S12 w x0 x1 T w1) (hb : Below w1.heap.size w1 w2) : S12 w x0 x1 T w2 :=
  ⟨h.1.trans (hb.mono h.1.size), (hb.block _ (Array.getElem?_eq_some_iff.1 h.2.1).1).trans h.2.1, h.2.2.below hb⟩
theorem S12.c {w : World} {x0 x1 : Int} {T : TypeId} {w1 : World} (h : S12 w x0 x1 T w1) : w1.cell? ⟨w.heap.size, 0, none⟩ = some (.int .i64 x0) ∧ w1.cell? ⟨w.heap.size, 1, none⟩ = some (.int .i64 x1) := ⟨cell_blk2 h.2.1 0, cell_blk2 h.2.1 1⟩
theorem S12.store {w : World} {x0 x1 : Int} {T : TypeId} {w1 : World} (h : S12 w x0 x1 T w1) (a b : Value) : Below w.heap.size w ((w1.setCell ⟨w.heap.size + 1, 0, none⟩ a).setCell ⟨w.heap.size + 1, 1, none⟩ b) :=
  (h.1.setCell (by simp) _).setCell (by simp) _

open Classical in
noncomputable def oneS (n d a : Int) : Int × Int × Int := if VF n d then (a, d, 0) else (0, 0, 2)
open Classical in
theorem oneS_yes {n d a : Int} (h : VF n d) : oneS n d a = (a, d, 0) := by unfold oneS; rw [if_pos h]
open Classical in
theorem oneS_no {n d a : Int} (h : ¬ VF n d) : oneS n d a = (0, 0, 2) := by unfold oneS; rw [if_neg h]

theorem VF.neg {n d : Int} (h : VF n d) : VF (-n) d := ⟨h.d1, h.d2, by have := h.n2; omega, by have := h.n1; omega, by rw [Int.natAbs_neg]; exact h.g⟩

theorem rfrac_vf (n d : Int) (h : VF n d) (w : World) :
    Calls Try.prog 33 #[.agg #[.int .i64 n, .int .i64 d]] w fun e w' => e = .returned (.tuple #[.agg #[.int .i64 n, .int .i64 d], .int .i64 0]) ∧ Below w.heap.size w w' := by
  have h1 := rfrac_yes n d (by have := h.n1; omega) (by have := h.n2; omega) (by have := h.d1; omega) (by have := h.d2; omega) (by have := h.d1; omega) h.rep w
  rwa [h.num.1, h.num.2] at h1

end Go.Proofs.Ytpghhfobaionkaa

/- The program's minus and combine. -/
import Derived.Test.YtpghhfobaionkaaOps
namespace Go.Proofs.Ytpghhfobaionkaa
open Go.RowKit

/-- A block of two numbers. -/
def IsBlk2 (w : World) (g : Nat) : Prop := ∃ c0 c1 T, w.heap[g]? = some (.cells #[.int .i64 c0, .int .i64 c1] T (0, 0))

theorem IsBlk2.below {w w' : World} {g : Nat} (h : IsBlk2 w g) (hb : Below w.heap.size w w') : IsBlk2 w' g := by
  obtain ⟨c0, c1, T, h⟩ := h
  exact ⟨c0, c1, T, (hb.block g (Array.getElem?_eq_some_iff.1 h).1).trans h⟩

theorem IsBlk2.facts {w1 : World} {g : Nat} (h : IsBlk2 w1 g) : ∃ c0 c1, w1.cell? ⟨g, 0, none⟩ = some (.int .i64 c0) ∧ w1.cell? ⟨g, 1, none⟩ = some (.int .i64 c1) ∧
      w1.frozen? ⟨g, 0, none⟩ = false ∧ w1.frozen? ⟨g, 1, none⟩ = false ∧ g < w1.heap.size := by
  obtain ⟨c0, c1, T, hb⟩ := h
  have hlt : g < w1.heap.size := (Array.getElem?_eq_some_iff.1 hb).1
  have ec : ∀ j, w1.cell? ⟨g, j, none⟩ = #[.int .i64 c0, .int .i64 c1][j]? := fun j => by simp only [World.cell?]; rw [hb]; rfl
  have ef : ∀ j, w1.frozen? ⟨g, j, none⟩ = false := fun j => by simp only [World.frozen?]; rw [hb]; simp
  exact ⟨c0, c1, ec 0, ec 1, ef 0, ef 1, hlt⟩

theorem heap_set2 (w : World) (g : Nat) (x y : Value) (k : Nat) (hk : k ≠ g) : ((w.setCell ⟨g, 0, none⟩ x).setCell ⟨g, 1, none⟩ y).heap[k]? = w.heap[k]? := by
  rw [Below.heap_setCell _ _ _ _ hk, Below.heap_setCell _ _ _ _ hk]

/-- Two boxes of two numbers, and the result's block. -/
def S22 (w : World) (x0 x1 y0 y1 : Int) (T : TypeId) (w' : World) : Prop :=
  Below w.heap.size w w' ∧ w'.heap[w.heap.size]? = some (.cells #[.int .i64 x0, .int .i64 x1] T (0, 0)) ∧ w'.heap[w.heap.size + 1]? = some (.cells #[.int .i64 y0, .int .i64 y1] T (0, 0)) ∧ IsBlk2 w' (w.heap.size + 1 + 1)

theorem S22.l {w : World} {x0 x1 y0 y1 : Int} {T : TypeId} {w' : World} (h : S22 w x0 x1 y0 y1 T w') : S22 w x0 x1 y0 y1 T w' ∧ w'.cell? ⟨w.heap.size, 0, none⟩ = some (.int .i64 x0) ∧ w'.cell? ⟨w.heap.size, 1, none⟩ = some (.int .i64 x1) ∧ w'.cell? ⟨w.heap.size + 1, 0, none⟩ = some (.int .i64 y0) ∧ w'.cell? ⟨w.heap.size + 1, 1, none⟩ = some (.int .i64 y1) :=
  ⟨h, cell_blk2 h.2.1 0, cell_blk2 h.2.1 1, cell_blk2 h.2.2.1 0, cell_blk2 h.2.2.1 1⟩

theorem S22.start (w : World) (x0 x1 y0 y1 z0 z1 : Int) (T T2 : TypeId) :
    S22 w x0 x1 y0 y1 T (((w.alloc (.cells #[.int .i64 x0, .int .i64 x1] T)).alloc (.cells #[.int .i64 y0, .int .i64 y1] T)).alloc (.cells #[.int .i64 z0, .int .i64 z1] T2)) := by
  have e2 : ((w.alloc (.cells #[.int .i64 x0, .int .i64 x1] T)).alloc (.cells #[.int .i64 y0, .int .i64 y1] T)).heap.size = w.heap.size + 1 + 1 := by simp
  refine ⟨Below3 _ _ _ _, ?_, ?_, ?_⟩
  · rw [Below.heap_alloc _ _ _ (by omega)]; exact heap_alloc1 _ _ _
  · rw [Below.heap_alloc _ _ _ (by omega)]; exact heap_alloc2 _ _ _
  · exact ⟨z0, z1, T2, by rw [← e2]; exact heap_alloc_new _ _⟩

theorem S22.drew {w : World} {x0 x1 y0 y1 : Int} {T : TypeId} {w' : World} (h : S22 w x0 x1 y0 y1 T w') : S22 w x0 x1 y0 y1 T w'.drew := ⟨h.1.drew, h.2.1, h.2.2.1, h.2.2.2⟩

theorem S22.step {w : World} {x0 x1 y0 y1 : Int} {T : TypeId} {w1 w2 : World} (h : S22 w x0 x1 y0 y1 T w1) (hb : Below w1.heap.size w1 w2) : S22 w x0 x1 y0 y1 T w2 :=
  ⟨h.1.trans (hb.mono h.1.size), (hb.block _ (Array.getElem?_eq_some_iff.1 h.2.1).1).trans h.2.1, (hb.block _ (Array.getElem?_eq_some_iff.1 h.2.2.1).1).trans h.2.2.1, h.2.2.2.below hb⟩

theorem S22.b {w : World} {x0 x1 y0 y1 : Int} {T : TypeId} {w' : World} (h : S22 w x0 x1 y0 y1 T w') : Below w.heap.size w w' := h.1

theorem S22.blk {w : World} {x0 x1 y0 y1 : Int} {T : TypeId} {w1 w2 : World} (h : S22 w x0 x1 y0 y1 T w1) (hb : Below w1.heap.size w1 w2) : ∃ c0 c1, w2.cell? ⟨w.heap.size + 1 + 1, 0, none⟩ = some (.int .i64 c0) ∧ w2.cell? ⟨w.heap.size + 1 + 1, 1, none⟩ = some (.int .i64 c1) ∧
      w2.frozen? ⟨w.heap.size + 1 + 1, 0, none⟩ = false ∧ w2.frozen? ⟨w.heap.size + 1 + 1, 1, none⟩ = false ∧ w.heap.size + 1 + 1 < w2.heap.size := (h.2.2.2.below hb).facts

theorem S22.store {w : World} {x0 x1 y0 y1 : Int} {T : TypeId} {w1 : World} (h : S22 w x0 x1 y0 y1 T w1) (a b : Int) :
    S22 w x0 x1 y0 y1 T ((w1.setCell ⟨w.heap.size + 1 + 1, 0, none⟩ (.int .i64 a)).setCell ⟨w.heap.size + 1 + 1, 1, none⟩ (.int .i64 b)) := by
  refine ⟨(h.1.setCell (by simp; omega) _).setCell (by simp; omega) _, ?_, ?_, ?_⟩
  · rw [heap_set2 _ _ _ _ _ (by omega)]; exact h.2.1
  · rw [heap_set2 _ _ _ _ _ (by omega)]; exact h.2.2.1
  · obtain ⟨c0, c1, T, hb⟩ := h.2.2.2
    refine ⟨a, b, T, ?_⟩
    simp only [World.setCell, Array.getElem?_modify, hb]
    simp

end Go.Proofs.Ytpghhfobaionkaa

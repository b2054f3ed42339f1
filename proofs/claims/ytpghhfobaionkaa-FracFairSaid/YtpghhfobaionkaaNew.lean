/- New and Whole: the program's and the reference's. -/
import Derived.Test.YtpghhfobaionkaaAwake
namespace Go.Proofs.Ytpghhfobaionkaa
open Go.RowKit

noncomputable def newS (n d : Int) : Int × Int × Int := if d = 0 then (0, 0, 4) else ansQ (qof n d)
theorem newS_zero (n : Int) {d : Int} (h : d = 0) : newS n d = (0, 0, 4) := by unfold newS; rw [if_pos h]
theorem newS_else (n : Int) {d : Int} (h : d ≠ 0) : newS n d = ansQ (qof n d) := by unfold newS; rw [if_neg h]

/-- A block of two numbers that the call itself has laid, in a later world. -/
theorem blk2 {w w1 : World} {c0 c1 : Value} {T : TypeId} (h : Below (w.heap.size + 1) (w.alloc (.cells #[c0, c1] T)) w1) :
    w1.cell? ⟨w.heap.size, 0, none⟩ = some c0 ∧ w1.cell? ⟨w.heap.size, 1, none⟩ = some c1 ∧ w1.frozen? ⟨w.heap.size, 0, none⟩ = false ∧ w1.frozen? ⟨w.heap.size, 1, none⟩ = false ∧ w.heap.size < w1.heap.size := by
  obtain ⟨h1, h2, h3⟩ := blk_at h (by omega) (heap_alloc_new w _)
  exact ⟨h1 0, h1 1, h2 0, h2 1, h3⟩

theorem cell_keep {w w' : World} {p : Addr} {v : Value} (h : w.cell? p = some v) (hb : Below w.heap.size w w') : w'.cell? p = some v := (hb.cell (World.block_lt_of_cell? w _ h)).trans h

end Go.Proofs.Ytpghhfobaionkaa

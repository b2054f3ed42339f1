/- The reference's rounding: what holds through its walk. -/
import Derived.Deep.DeepCutAuto
import Derived.Test.YtjnfgjaiahnfgaaRndC
namespace Go.Proofs.Ytjnfgjaiahnfgaa
open Go.RowKit

theorem IsQ.set3 {w1 : World} {g : Nat} {q : Rat} {x a b c : Value} (h : IsQ w1 x q) (hg : ∀ n, w1.cell? ⟨g, 0, none⟩ ≠ some (.int .u32 n)) : IsQ (((w1.setCell ⟨g, 0, none⟩ a).setCell ⟨g, 1, none⟩ b).setCell ⟨g, 2, none⟩ c) x q := by
  obtain ⟨a1, a2, n1, n2, c1, c2, hx, h1, h2⟩ := h
  exact ⟨a1, a2, n1, n2, c1, c2, hx, IsDig.of_blocks h1 g hg (by simp [World.setCell]) (heap_set3 _ _ _ _ _), IsDig.of_blocks h2 g hg (by simp [World.setCell]) (heap_set3 _ _ _ _ _)⟩

/-- A block of a rational's three cells. -/
def IsH (w : World) (g : Nat) (a : Bool) (b c : Value) : Prop := ∃ T, w.heap[g]? = some (.cells #[.bool a, b, c] T (0, 0))
theorem IsH.step {w w' : World} {g : Nat} {a : Bool} {b c : Value} (h : IsH w g a b c) (hb : Below w.heap.size w w') : IsH w' g a b c := by
  obtain ⟨T, h⟩ := h
  exact ⟨T, (hb.block _ (Array.getElem?_eq_some_iff.1 h).1).trans h⟩
theorem IsH.cells {w : World} {g : Nat} {a : Bool} {b c : Value} (h : IsH w g a b c) : w.cell? ⟨g, 0, none⟩ = some (.bool a) ∧ w.cell? ⟨g, 1, none⟩ = some b ∧ w.cell? ⟨g, 2, none⟩ = some c := by
  obtain ⟨T, h⟩ := h
  exact ⟨cell_blk h 0, cell_blk h 1, cell_blk h 2⟩
theorem IsH.lt {w : World} {g : Nat} {a : Bool} {b c : Value} (h : IsH w g a b c) : g < w.heap.size := by
  obtain ⟨T, h⟩ := h
  exact (Array.getElem?_eq_some_iff.1 h).1
theorem IsH.blk {w : World} {g : Nat} {a : Bool} {b c : Value} (h : IsH w g a b c) : IsBlk3 w g := by
  obtain ⟨T, h⟩ := h
  exact ⟨a, b, c, T, h⟩
theorem IsH.alloc {w : World} (a : Bool) (b c : Value) (T : TypeId) : IsH (w.alloc (.cells #[.bool a, b, c] T)) w.heap.size a b c := ⟨T, heap_alloc_new _ _⟩
theorem IsBlk3.set {w : World} {g : Nat} (h : IsBlk3 w g) (a : Bool) (b c : Value) : IsH (((w.setCell ⟨g, 0, none⟩ (.bool a)).setCell ⟨g, 1, none⟩ b).setCell ⟨g, 2, none⟩ c) g a b c := by
  obtain ⟨c0, c1, c2, T, hb⟩ := h
  refine ⟨T, ?_⟩
  simp only [World.setCell, Array.getElem?_modify, hb]
  simp
theorem IsBlk3.set_other {w : World} {g k : Nat} (h : IsBlk3 w k) (hk : k ≠ g) (a b c : Value) : IsBlk3 (((w.setCell ⟨g, 0, none⟩ a).setCell ⟨g, 1, none⟩ b).setCell ⟨g, 2, none⟩ c) k := by
  obtain ⟨c0, c1, c2, T, hb⟩ := h
  exact ⟨c0, c1, c2, T, by rw [heap_set3 _ _ _ _ _ _ hk]; exact hb⟩
theorem IsH.set_other {w : World} {g k : Nat} {x : Bool} {y z : Value} (h : IsH w k x y z) (hk : k ≠ g) (a b c : Value) : IsH (((w.setCell ⟨g, 0, none⟩ a).setCell ⟨g, 1, none⟩ b).setCell ⟨g, 2, none⟩ c) k x y z := by
  obtain ⟨T, hb⟩ := h
  exact ⟨T, by rw [heap_set3 _ _ _ _ _ _ hk]; exact hb⟩
theorem IsBlk3.not32 {w : World} {g : Nat} (h : IsBlk3 w g) : ∀ n, w.cell? ⟨g, 0, none⟩ ≠ some (.int .u32 n) := by
  intro n hn
  obtain ⟨c0, c1, c2, T, hb⟩ := h
  rw [cell_blk hb 0] at hn
  simp at hn

/-- What holds in the walk of rounded: the argument's box, the result's block, those of low, rest and high. -/
structure RL (w : World) (xb : Bool) (x1 x2 : Value) (gl gr gh : Nat) (lb : Bool) (l1 l2 : Value) (rb : Bool) (r1 r2 : Value) (q ql qr : Rat) (w' : World) : Prop where
  s : S1Q w (.bool xb) x1 x2 w'
  o1 : w.heap.size + 1 < gl
  o2 : gl < gr
  o3 : gr < gh
  bl : IsH w' gl lb l1 l2
  br : IsH w' gr rb r1 r2
  bh : IsBlk3 w' gh
  ix : IsQ w' (.agg #[.bool xb, x1, x2]) q
  il : IsQ w' (.agg #[.bool lb, l1, l2]) ql
  ir : IsQ w' (.agg #[.bool rb, r1, r2]) qr

section
variable {w : World} {xb : Bool} {x1 x2 : Value} {gl gr gh : Nat} {lb : Bool} {l1 l2 : Value} {rb : Bool} {r1 r2 : Value} {q ql qr : Rat} {w' w2 : World}
theorem RL.step (h : RL w xb x1 x2 gl gr gh lb l1 l2 rb r1 r2 q ql qr w') (hb : Below w'.heap.size w' w2) : RL w xb x1 x2 gl gr gh lb l1 l2 rb r1 r2 q ql qr w2 :=
  ⟨h.s.step hb, h.o1, h.o2, h.o3, h.bl.step hb, h.br.step hb, h.bh.below hb, h.ix.below hb, h.il.below hb, h.ir.below hb⟩
theorem RL.set (h : RL w xb x1 x2 gl gr gh lb l1 l2 rb r1 r2 q ql qr w') (a : Bool) (b c : Value) : RL w xb x1 x2 gl gr gh lb l1 l2 rb r1 r2 q ql qr (((w'.setCell ⟨gh, 0, none⟩ (.bool a)).setCell ⟨gh, 1, none⟩ b).setCell ⟨gh, 2, none⟩ c) := by
  have o1 := h.o1
  have o2 := h.o2
  have o3 := h.o3
  refine ⟨⟨((h.s.1.setCell (by simp; omega) _).setCell (by simp; omega) _).setCell (by simp; omega) _, by rw [heap_set3 _ _ _ _ _ _ (by omega)]; exact h.s.2.1, h.s.2.2.set_other (by omega) _ _ _⟩, o1, o2, o3, h.bl.set_other (by omega) _ _ _, h.br.set_other (by omega) _ _ _, (h.bh.set a b c).blk, h.ix.set3 h.bh.not32, h.il.set3 h.bh.not32, h.ir.set3 h.bh.not32⟩
theorem RL.facts (h : RL w xb x1 x2 gl gr gh lb l1 l2 rb r1 r2 q ql qr w') :
    (w'.cell? ⟨w.heap.size, 0, none⟩ = some (.bool xb) ∧ w'.cell? ⟨w.heap.size, 1, none⟩ = some x1 ∧ w'.cell? ⟨w.heap.size, 2, none⟩ = some x2) ∧
    (w'.cell? ⟨gl, 0, none⟩ = some (.bool lb) ∧ w'.cell? ⟨gl, 1, none⟩ = some l1 ∧ w'.cell? ⟨gl, 2, none⟩ = some l2) ∧
    (w'.cell? ⟨gr, 0, none⟩ = some (.bool rb) ∧ w'.cell? ⟨gr, 1, none⟩ = some r1 ∧ w'.cell? ⟨gr, 2, none⟩ = some r2) :=
  ⟨h.s.cells, h.bl.cells, h.br.cells⟩
theorem RL.ll (h : RL w xb x1 x2 gl gr gh lb l1 l2 rb r1 r2 q ql qr w') : RL w xb x1 x2 gl gr gh lb l1 l2 rb r1 r2 q ql qr w' ∧ w'.cell? ⟨gl, 0, none⟩ = some (.bool lb) ∧ w'.cell? ⟨gl, 1, none⟩ = some l1 ∧ w'.cell? ⟨gl, 2, none⟩ = some l2 := ⟨h, h.bl.cells⟩
theorem RL.lr (h : RL w xb x1 x2 gl gr gh lb l1 l2 rb r1 r2 q ql qr w') : RL w xb x1 x2 gl gr gh lb l1 l2 rb r1 r2 q ql qr w' ∧ w'.cell? ⟨gr, 0, none⟩ = some (.bool rb) ∧ w'.cell? ⟨gr, 1, none⟩ = some r1 ∧ w'.cell? ⟨gr, 2, none⟩ = some r2 := ⟨h, h.br.cells⟩
theorem RL.drew (h : RL w xb x1 x2 gl gr gh lb l1 l2 rb r1 r2 q ql qr w') : RL w xb x1 x2 gl gr gh lb l1 l2 rb r1 r2 q ql qr w'.drew := h.step (Below.refl _ _).drew
end

/-- With high as it is from its last assignment on. -/
structure RH (w : World) (xb : Bool) (x1 x2 : Value) (gl gr gh : Nat) (lb : Bool) (l1 l2 : Value) (rb : Bool) (r1 r2 : Value) (hb : Bool) (h1 h2 : Value) (q ql qr qh : Rat) (w' : World) : Prop where
  r : RL w xb x1 x2 gl gr gh lb l1 l2 rb r1 r2 q ql qr w'
  hh : IsH w' gh hb h1 h2
  ih : IsQ w' (.agg #[.bool hb, h1, h2]) qh

section
variable {w : World} {xb : Bool} {x1 x2 : Value} {gl gr gh : Nat} {lb : Bool} {l1 l2 : Value} {rb : Bool} {r1 r2 : Value} {hb : Bool} {h1 h2 : Value} {q ql qr qh : Rat} {w' w2 : World}
theorem RH.step (h : RH w xb x1 x2 gl gr gh lb l1 l2 rb r1 r2 hb h1 h2 q ql qr qh w') (b : Below w'.heap.size w' w2) : RH w xb x1 x2 gl gr gh lb l1 l2 rb r1 r2 hb h1 h2 q ql qr qh w2 := ⟨h.r.step b, h.hh.step b, h.ih.below b⟩
theorem RH.drew (h : RH w xb x1 x2 gl gr gh lb l1 l2 rb r1 r2 hb h1 h2 q ql qr qh w') : RH w xb x1 x2 gl gr gh lb l1 l2 rb r1 r2 hb h1 h2 q ql qr qh w'.drew := h.step (Below.refl _ _).drew
theorem RH.ll (h : RH w xb x1 x2 gl gr gh lb l1 l2 rb r1 r2 hb h1 h2 q ql qr qh w') : RH w xb x1 x2 gl gr gh lb l1 l2 rb r1 r2 hb h1 h2 q ql qr qh w' ∧ w'.cell? ⟨gl, 0, none⟩ = some (.bool lb) ∧ w'.cell? ⟨gl, 1, none⟩ = some l1 ∧ w'.cell? ⟨gl, 2, none⟩ = some l2 := ⟨h, h.r.bl.cells⟩
theorem RH.lr (h : RH w xb x1 x2 gl gr gh lb l1 l2 rb r1 r2 hb h1 h2 q ql qr qh w') : RH w xb x1 x2 gl gr gh lb l1 l2 rb r1 r2 hb h1 h2 q ql qr qh w' ∧ w'.cell? ⟨gr, 0, none⟩ = some (.bool rb) ∧ w'.cell? ⟨gr, 1, none⟩ = some r1 ∧ w'.cell? ⟨gr, 2, none⟩ = some r2 := ⟨h, h.r.br.cells⟩
theorem RH.il (h : RH w xb x1 x2 gl gr gh lb l1 l2 rb r1 r2 hb h1 h2 q ql qr qh w') : IsQ w' (.agg #[.bool lb, l1, l2]) ql := h.r.il
theorem RH.ir (h : RH w xb x1 x2 gl gr gh lb l1 l2 rb r1 r2 hb h1 h2 q ql qr qh w') : IsQ w' (.agg #[.bool rb, r1, r2]) qr := h.r.ir
theorem RH.endl (h : RH w xb x1 x2 gl gr gh lb l1 l2 rb r1 r2 hb h1 h2 q ql qr qh w') :
    IsQ (((w'.setCell ⟨w.heap.size + 1, 0, none⟩ (.bool lb)).setCell ⟨w.heap.size + 1, 1, none⟩ l1).setCell ⟨w.heap.size + 1, 2, none⟩ l2) (.agg #[.bool lb, l1, l2]) ql ∧
    Below w.heap.size w (((w'.setCell ⟨w.heap.size + 1, 0, none⟩ (.bool lb)).setCell ⟨w.heap.size + 1, 1, none⟩ l1).setCell ⟨w.heap.size + 1, 2, none⟩ l2) := ⟨h.r.il.set3 h.r.s.2.2.not32, h.r.s.store _ _ _⟩
theorem RH.endh (h : RH w xb x1 x2 gl gr gh lb l1 l2 rb r1 r2 hb h1 h2 q ql qr qh w') :
    IsQ (((w'.setCell ⟨w.heap.size + 1, 0, none⟩ (.bool hb)).setCell ⟨w.heap.size + 1, 1, none⟩ h1).setCell ⟨w.heap.size + 1, 2, none⟩ h2) (.agg #[.bool hb, h1, h2]) qh ∧
    Below w.heap.size w (((w'.setCell ⟨w.heap.size + 1, 0, none⟩ (.bool hb)).setCell ⟨w.heap.size + 1, 1, none⟩ h1).setCell ⟨w.heap.size + 1, 2, none⟩ h2) := ⟨h.ih.set3 h.r.s.2.2.not32, h.r.s.store _ _ _⟩
end

end Go.Proofs.Ytjnfgjaiahnfgaa

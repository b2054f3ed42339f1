/- Pairs: the reference's table, Good. -/
import Derived.Test.YtchhadkmemckbabPaP
namespace Go.Proofs.Ytchhadkmemckbab
open Go.RowKit
set_option linter.unusedSimpArgs false
set_option linter.unusedVariables false

/-- Rows of ints in memory. -/
def TabR (w : World) (x : Option Addr) (L R : Nat) (C : Nat → Nat → Int) : Prop :=
  ∀ i, i < L → ∃ B mi, x = some ⟨B, 0, none⟩ ∧ B < w.heap.size ∧ w.cell? ⟨B, i, none⟩ = some (.slice (some ⟨mi, 0, none⟩) R R) ∧ mi < w.heap.size ∧ ∀ j, j < R → w.cell? ⟨mi, j, none⟩ = some (.int .i64 (C i j))
theorem TabR.below {w w' : World} {x : Option Addr} {L R : Nat} {C : Nat → Nat → Int} (h : TabR w x L R C) (hb : Below w.heap.size w w') : TabR w' x L R C := fun i hi => by
  have kc : ∀ {b o : Nat} {x : Value}, b < w.heap.size → w.cell? ⟨b, o, none⟩ = some x → w'.cell? ⟨b, o, none⟩ = some x := fun {b o x} hl hc => (hb.cell (p := ⟨b, o, none⟩) hl).trans hc
  obtain ⟨B, mi, e1, l1, c1, l2, c2⟩ := h i hi
  exact ⟨B, mi, e1, Nat.lt_of_lt_of_le l1 hb.size, kc l1 c1, Nat.lt_of_lt_of_le l2 hb.size, fun j hj => kc l2 (c2 j hj)⟩
structure LQ (w0 : World) (pu : Nat) (cu : Array Value) (R : Nat) (C : Nat → Nat → Int) (m : Nat → Nat) (k : Nat) (v : Value) (wr : World) : Prop where
  ov : OV w0 36 v (rowsV R m k) wr
  hu : wr.heap[pu]? = some (.cells cu 26 (0, 0))
  hm : ∀ i, i < k → w0.heap.size ≤ m i ∧ wr.heap[m i]? = some (.cells (cA R (C i)) 3 (0, 0))
section
variable {w0 wr w2 : World} {pu R k g : Nat} {cu : Array Value} {C : Nat → Nat → Int} {m : Nat → Nat} {v v' : Value}
theorem LQ.step (h : LQ w0 pu cu R C m k v wr) (hb : Below wr.heap.size wr w2) : LQ w0 pu cu R C m k v w2 :=
  ⟨h.ov.step hb, blk_keep h.hu hb, fun i hi => ⟨(h.hm i hi).1, blk_keep (h.hm i hi).2 hb⟩⟩
theorem LQ.push (h : LQ w0 pu cu R C m k v wr) (hg : wr.heap[g]? = some (.cells (cA R (C k)) 3 (0, 0))) (hlg : w0.heap.size ≤ g) (hown : w2.ownsRow w0.heap.size 36 1 v' (k + 1) (rowsV R m k ++ [.slice (some ⟨g, 0, none⟩) R R])) (hgr : wr.grownBy w2 v.ownBlock) :
    LQ w0 pu cu R C (fset m k g) (k + 1) v' w2 := by
  have kp : ∀ {p : Nat} {cs : Array Value} {T : TypeId}, wr.heap[p]? = some (.cells cs T (0, 0)) → T ≠ 36 → w2.heap[p]? = some (.cells cs T (0, 0)) := fun hp hT => (hgr.block _ (block_lt hp) (own_type h.ov hp hT)).trans hp
  refine ⟨?_, kp h.hu (by decide), fun i hi => ?_⟩
  · rw [rowsV_next]
    exact h.ov.push (by rw [rowsV_len]; exact hown) hgr
  · unfold fset
    by_cases e : i = k
    · subst e
      rw [if_pos rfl]
      exact ⟨hlg, kp hg (by decide)⟩
    · rw [if_neg e]
      exact ⟨(h.hm i (by omega)).1, kp (h.hm i (by omega)).2 (by decide)⟩
theorem LQ.tab (h : LQ w0 pu cu R C m k v wr) : ∃ x cap, v = .slice x k cap ∧ TabR wr x k R C := by
  obtain ⟨x, cap, hv, hx⟩ := h.ov.form
  rw [rowsV_len] at hv
  refine ⟨x, cap, hv, fun i hi => ?_⟩
  rcases hx with hx | ⟨g, ha, hgl, hc⟩
  · have := rowsV_len R m k
    rw [hx] at this
    simp at this
    omega
  · have hc1 := hc i (by rw [rowsV_len]; exact hi)
    have e : (rowsV R m k)[i]'(by rw [rowsV_len]; exact hi) = .slice (some ⟨m i, 0, none⟩) R R := by simp [rowsV]
    rw [e] at hc1
    obtain ⟨-, hmi⟩ := h.hm i hi
    exact ⟨g, m i, ha, hgl, hc1, block_lt hmi, fun j hj => by rw [blkc hmi, cA_get hj]⟩
end

end Go.Proofs.Ytchhadkmemckbab

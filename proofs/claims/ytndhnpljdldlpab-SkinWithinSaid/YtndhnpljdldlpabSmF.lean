/- Skins: the memory of depths: rows of ints that are made from the lowest up. -/
import Derived.Test.YtndhnpljdldlpabSmD
import Derived.Test.YtndhnpljdldlpabSmM
namespace Go.Proofs.Ytndhnpljdldlpab
open Go.RowKit

/-- What depths holds when row y is done up to column x, and all rows below. -/
def depTo (U : Int → Int → Bool) (H y x : Nat) : Nat → Nat → Int := fun y' x' => if y < y' ∨ (y' = y ∧ x' < x) then (dep U x' y' (H - y') : Int) else 0
theorem depTo_bounds (U : Int → Int → Bool) (H y x y' x' : Nat) (hH : H ≤ 48) : 0 ≤ depTo U H y x y' x' ∧ depTo U H y x y' x' ≤ 48 := by
  have := dep_le U x' (H - y') y'
  unfold depTo
  split <;> omega
theorem depTo_row (U : Int → Int → Bool) (W H y y' x' : Nat) (hx : x' < W) (hy : y ≤ y') : depTo U H y W y' x' = dep U x' y' (H - y') := by
  unfold depTo
  rw [if_pos (by omega)]
theorem dep_succ (U : Int → Int → Bool) (H x y : Nat) (hy : y < H) : dep U x y (H - y) = if U x y = true then dep U x (y + 1) (H - (y + 1)) + 1 else 0 := by
  obtain ⟨k, hk⟩ : ∃ k, H - y = k + 1 := ⟨H - y - 1, by omega⟩
  rw [hk, dep, show H - (y + 1) = k by omega]

/-- Row y: made if K ≤ y. -/
def rowD (m : Nat → Nat) (W K : Nat) (y : Nat) : Value := if K ≤ y then .slice (some ⟨m y, 0, none⟩) W W else .slice none 0 0

/-- The world w0, and rows of ints: the rows in block n, row y (from K on) in block m y. -/
structure DM (w0 : World) (n W H K : Nat) (m : Nat → Nat) (f : Nat → Nat → Int) (wr : World) : Prop where
  b : Below w0.heap.size w0 wr
  le : w0.heap.size ≤ n
  hn : wr.heap[n]? = some (.cells (cV (H + 1) (rowD m W K)) 50 (0, 0))
  hm : ∀ y, K ≤ y → y ≤ H → wr.heap[m y]? = some (.cells (cA W (f y)) 3 (0, 0))
  gt : ∀ y, K ≤ y → y ≤ H → n < m y
  anti : ∀ y y', K ≤ y → y < y' → y' ≤ H → m y' < m y
section
variable {w0 wr w2 : World} {n W H K : Nat} {m : Nat → Nat} {f f' : Nat → Nat → Int}
theorem DM.step (h : DM w0 n W H K m f wr) (hb : Below wr.heap.size wr w2) : DM w0 n W H K m f w2 :=
  ⟨h.b.trans (hb.mono h.b.size), h.le, (hb.block _ (block_lt h.hn)).trans h.hn, fun y hy hH => (hb.block _ (block_lt (h.hm y hy hH))).trans (h.hm y hy hH), h.gt, h.anti⟩
theorem DM.ln (h : DM w0 n W H K m f wr) : n < wr.heap.size := block_lt h.hn
theorem DM.lm (h : DM w0 n W H K m f wr) {y : Nat} (hy : K ≤ y) (hH : y ≤ H) : m y < wr.heap.size := block_lt (h.hm y hy hH)
theorem DM.cn (h : DM w0 n W H K m f wr) {y : Nat} (hy : K ≤ y) (hH : y ≤ H) : wr.cell? ⟨n, y, none⟩ = some (.slice (some ⟨m y, 0, none⟩) W W) := by
  have e : rowD m W K y = .slice (some ⟨m y, 0, none⟩) W W := if_pos hy
  simp only [World.cell?]
  rw [h.hn, ← e]
  exact cV_get (by omega)
theorem DM.cnil (h : DM w0 n W H K m f wr) {y : Nat} (hy : y < K) (hH : y ≤ H) : wr.cell? ⟨n, y, none⟩ = some (.slice none 0 0) := by
  have e : rowD m W K y = .slice none 0 0 := if_neg (by omega)
  simp only [World.cell?]
  rw [h.hn, ← e]
  exact cV_get (by omega)
theorem DM.fn (h : DM w0 n W H K m f wr) (x : Nat) : wr.frozen? ⟨n, x, none⟩ = false := by
  simp only [World.frozen?]; rw [h.hn]; simp
theorem DM.cm (h : DM w0 n W H K m f wr) {x y : Nat} (hy : K ≤ y) (hH : y ≤ H) (hx : x < W) : wr.cell? ⟨m y, x, none⟩ = some (.int .i64 (f y x)) := by
  simp only [World.cell?]
  rw [h.hm y hy hH]
  exact cA_get hx
theorem DM.fm (h : DM w0 n W H K m f wr) {y : Nat} (hy : K ≤ y) (hH : y ≤ H) (x : Nat) : wr.frozen? ⟨m y, x, none⟩ = false := by
  simp only [World.frozen?]; rw [h.hm y hy hH]; simp
theorem DM.congr (h : DM w0 n W H K m f wr) (e : ∀ y x, K ≤ y → y ≤ H → x < W → f y x = f' y x) : DM w0 n W H K m f' wr :=
  ⟨h.b, h.le, h.hn, fun y hy hH => by rw [h.hm y hy hH, cA_eqs (fun k hk => e y k hy hH hk)], h.gt, h.anti⟩
theorem DM.ne (h : DM w0 n W H K m f wr) {y y' : Nat} (hy : K ≤ y) (hH : y ≤ H) (hy' : K ≤ y') (hH' : y' ≤ H) (hne : y ≠ y') : m y ≠ m y' := by
  rcases Nat.lt_or_gt_of_ne hne with hlt | hgt
  · have := h.anti y y' hy hlt hH'; omega
  · have := h.anti y' y hy' hgt hH; omega
/-- A cell of a row is set. -/
theorem DM.set (h : DM w0 n W H K m f wr) {y : Nat} (hy : K ≤ y) (hH : y ≤ H) (x : Nat) (v : Int) : DM w0 n W H K m (fun y' x' => if y' = y ∧ x' = x then v else f y' x') (wr.setCell ⟨m y, x, none⟩ (.int .i64 v)) := by
  have hne : ∀ q, q ≠ m y → (wr.setCell ⟨m y, x, none⟩ (.int .i64 v)).heap[q]? = wr.heap[q]? := by
    intro q hq
    simp only [World.setCell, Array.getElem?_modify]
    rw [if_neg (fun e => hq e.symm)]
  have hg := h.gt y hy hH
  refine ⟨h.b.setCell (by have := h.le; show w0.heap.size ≤ m y; omega) _, h.le, (hne _ (by omega)).trans h.hn, fun y' hy' hH' => ?_, h.gt, h.anti⟩
  by_cases e : y' = y
  · subst e
    simp only [World.setCell, Array.getElem?_modify, h.hm y' hy' hH']
    simp [cA_set]
  · rw [hne _ (h.ne hy' hH' hy hH e), h.hm y' hy' hH']
    simp [e]
/-- One row more, above the others. -/
theorem DM.row (h : DM w0 n W H (K + 1) m f wr) (hK : K ≤ H) : DM w0 n W H K (fun y => if y = K then wr.heap.size else m y) (fun y x => if y = K then 0 else f y x) ((wr.setCell ⟨n, K, none⟩ (.slice (some ⟨wr.heap.size, 0, none⟩) W W)).alloc (.cells (cA W fun _ => 0) 3)) := by
  obtain ⟨w1, hw1⟩ : ∃ w1, w1 = wr.setCell ⟨n, K, none⟩ (.slice (some ⟨wr.heap.size, 0, none⟩) W W) := ⟨_, rfl⟩
  have hsz : w1.heap.size = wr.heap.size := by rw [hw1]; simp [World.setCell]
  have hne : ∀ q, q ≠ n → w1.heap[q]? = wr.heap[q]? := by
    intro q hq
    rw [hw1]
    simp only [World.setCell, Array.getElem?_modify]
    rw [if_neg (fun e => hq e.symm)]
  have hb1 : Below w0.heap.size w0 w1 := by rw [hw1]; exact h.b.setCell h.le _
  have hn1 : w1.heap[n]? = some (.cells (cV (H + 1) (rowD (fun y => if y = K then wr.heap.size else m y) W K)) 50 (0, 0)) := by
    rw [hw1]
    simp only [World.setCell, Array.getElem?_modify, h.hn]
    simp [cV_set]
    exact cV_congr fun k _ => by
      unfold rowD
      by_cases e : k = K
      · subst e; simp
      · rw [if_neg e]
        by_cases e2 : K + 1 ≤ k
        · rw [if_pos e2, if_pos (by omega)]
          simp [e]
        · rw [if_neg e2, if_neg (by omega)]
  rw [← hw1]
  have ha := Below.heap_alloc w1 (.cells (cA W fun _ => 0) 3)
  have hnew := heap_alloc_new w1 (.cells (cA W fun _ => 0) 3)
  rw [hsz] at hnew
  have hln := h.ln
  refine ⟨hb1.alloc (by have := hb1.size; omega) _, h.le, by rw [ha _ (by omega)]; exact hn1, fun y hy hH' => ?_, fun y hy hH' => ?_, fun y y' hy hlt hH' => ?_⟩
  · by_cases e : y = K
    · subst e
      simp only [if_true]
      exact hnew
    · simp only [if_neg e]
      have hlm := h.lm (y := y) (by omega) hH'
      have hgt := h.gt y (by omega) hH'
      rw [ha _ (by omega), hne _ (by omega)]
      exact h.hm y (by omega) hH'
  · by_cases e : y = K
    · simp only [if_pos e]; omega
    · simp only [if_neg e]; exact h.gt y (by omega) hH'
  · have e' : y' ≠ K := by omega
    simp only [if_neg e']
    by_cases e : y = K
    · simp only [if_pos e]; exact h.lm (by omega) hH'
    · simp only [if_neg e]; exact h.anti y y' (by omega) hlt hH'
end

/-- The first row of all. -/
theorem DM.start (w : World) (W H : Nat) (f : Nat → Nat → Int) : DM w w.heap.size W H (H + 1) (fun _ => 0) f (w.alloc (.cells (cV (H + 1) fun _ => .slice none 0 0) 50)) := by
  refine ⟨(Below.refl _ _).alloc (Nat.le_refl _) _, Nat.le_refl _, ?_, fun y hy hH => by omega, fun y hy hH => by omega, fun y y' hy hl hH => by omega⟩
  have e : cV (H + 1) (fun _ => Value.slice none 0 0) = cV (H + 1) (rowD (fun _ => 0) W (H + 1)) := cV_congr fun k hk => by
    unfold rowD
    rw [if_neg (by omega)]
  rw [← e]
  exact heap_alloc_new _ _

end Go.Proofs.Ytndhnpljdldlpab

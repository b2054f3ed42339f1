/- Skins: the memory of tableOf: the boxes of usable, of t and of the table, the rows, and a block for each row. -/
import Derived.Test.YtndhnpljdldlpabSlY
import Derived.Test.YtndhnpljdldlpabSlA
namespace Go.Proofs.Ytndhnpljdldlpab
open Go.RowKit

/-- Row y of a table of which K rows are made. -/
def rowV (B W K : Nat) (y : Nat) : Value := if y < K then .slice (some ⟨B + y, 0, none⟩) (W + 1) (W + 1) else .slice none 0 0

/-- The world w0, and a table of which K rows are made: row y lies in block B + y. -/
structure GM (w0 : World) (pu pt p n B W H K : Nat) (vu : Value) (f : Nat → Nat → Int) (wr : World) : Prop where
  b : Below w0.heap.size w0 wr
  le : w0.heap.size ≤ pu ∧ w0.heap.size ≤ pt ∧ w0.heap.size ≤ p ∧ w0.heap.size ≤ n
  lt : pu < B ∧ pt < B ∧ p < B ∧ n < B
  hd : pu ≠ n ∧ pt ≠ n ∧ p ≠ n
  hu : wr.heap[pu]? = some (.cells #[vu] 58 (0, 0))
  ht : wr.heap[pt]? = some (.cells #[.pointer (some ⟨p, 0, none⟩)] 61 (0, 0))
  hp : wr.heap[p]? = some (.cells #[.slice (some ⟨n, 0, none⟩) (H + 1) (H + 1)] 120 (0, 0))
  hn : wr.heap[n]? = some (.cells (cV (H + 1) (rowV B W K)) 50 (0, 0))
  hm : ∀ y, y < K → wr.heap[B + y]? = some (.cells (cA (W + 1) (f y)) 3 (0, 0))
  hB : B + K ≤ wr.heap.size

section
variable {w0 wr w2 : World} {pu pt p n B W H K : Nat} {vu : Value} {f f' : Nat → Nat → Int}
theorem cA_eqs {N : Nat} {f g : Nat → Int} (h : ∀ k, k < N → f k = g k) : cA N f = cA N g := by
  apply Array.ext
  · rw [cA_size, cA_size]
  · intro i h1 h2
    have hi : i < N := by rw [cA_size] at h1; exact h1
    have e1 := cA_get (f := f) hi
    have e2 := cA_get (f := g) hi
    rw [Array.getElem?_eq_getElem h1] at e1
    rw [Array.getElem?_eq_getElem h2] at e2
    rw [Option.some.inj e1, Option.some.inj e2, h i hi]
theorem GM.step (h : GM w0 pu pt p n B W H K vu f wr) (hb : Below wr.heap.size wr w2) : GM w0 pu pt p n B W H K vu f w2 :=
  ⟨h.b.trans (hb.mono h.b.size), h.le, h.lt, h.hd, (hb.block _ (block_lt h.hu)).trans h.hu, (hb.block _ (block_lt h.ht)).trans h.ht, (hb.block _ (block_lt h.hp)).trans h.hp, (hb.block _ (block_lt h.hn)).trans h.hn, fun y hy => (hb.block _ (block_lt (h.hm y hy))).trans (h.hm y hy), Nat.le_trans h.hB hb.size⟩
theorem GM.cu (h : GM w0 pu pt p n B W H K vu f wr) : wr.cell? ⟨pu, 0, none⟩ = some vu := by
  simp only [World.cell?]; rw [h.hu]; rfl
theorem GM.ct (h : GM w0 pu pt p n B W H K vu f wr) : wr.cell? ⟨pt, 0, none⟩ = some (.pointer (some ⟨p, 0, none⟩)) := by
  simp only [World.cell?]; rw [h.ht]; rfl
theorem GM.cp (h : GM w0 pu pt p n B W H K vu f wr) : wr.cell? ⟨p, 0, none⟩ = some (.slice (some ⟨n, 0, none⟩) (H + 1) (H + 1)) := by
  simp only [World.cell?]; rw [h.hp]; rfl
theorem GM.cn (h : GM w0 pu pt p n B W H K vu f wr) {y : Nat} (hy : y < K) (hH : y ≤ H) : wr.cell? ⟨n, y, none⟩ = some (.slice (some ⟨B + y, 0, none⟩) (W + 1) (W + 1)) := by
  have e : rowV B W K y = .slice (some ⟨B + y, 0, none⟩) (W + 1) (W + 1) := if_pos hy
  simp only [World.cell?]
  rw [h.hn, ← e]
  exact cV_get (by omega)
theorem GM.cm (h : GM w0 pu pt p n B W H K vu f wr) {x y : Nat} (hy : y < K) (hx : x ≤ W) : wr.cell? ⟨B + y, x, none⟩ = some (.int .i64 (f y x)) := by
  simp only [World.cell?]
  rw [h.hm y hy]
  exact cA_get (by omega)
theorem GM.fm (h : GM w0 pu pt p n B W H K vu f wr) {y : Nat} (hy : y < K) (x : Nat) : wr.frozen? ⟨B + y, x, none⟩ = false := by
  simp only [World.frozen?]; rw [h.hm y hy]; simp
theorem GM.fn (h : GM w0 pu pt p n B W H K vu f wr) (x : Nat) : wr.frozen? ⟨n, x, none⟩ = false := by
  simp only [World.frozen?]; rw [h.hn]; simp
theorem GM.lts (h : GM w0 pu pt p n B W H K vu f wr) : pu < wr.heap.size ∧ pt < wr.heap.size ∧ p < wr.heap.size ∧ n < wr.heap.size := ⟨block_lt h.hu, block_lt h.ht, block_lt h.hp, block_lt h.hn⟩
theorem GM.lm (h : GM w0 pu pt p n B W H K vu f wr) {y : Nat} (hy : y < K) : B + y < wr.heap.size := block_lt (h.hm y hy)
theorem GM.congr (h : GM w0 pu pt p n B W H K vu f wr) (e : ∀ y x, y < K → x ≤ W → f y x = f' y x) : GM w0 pu pt p n B W H K vu f' wr :=
  ⟨h.b, h.le, h.lt, h.hd, h.hu, h.ht, h.hp, h.hn, fun y hy => by rw [h.hm y hy, cA_eqs (fun k hk => e y k hy (by omega))], h.hB⟩
/-- A cell of a row is set. -/
theorem GM.set (h : GM w0 pu pt p n B W H K vu f wr) {y : Nat} (hy : y < K) (x : Nat) (v : Int) : GM w0 pu pt p n B W H K vu (fun y' x' => if y' = y ∧ x' = x then v else f y' x') (wr.setCell ⟨B + y, x, none⟩ (.int .i64 v)) := by
  obtain ⟨l1, l2, l3, l4⟩ := h.lt
  obtain ⟨m1, m2, m3, m4⟩ := h.le
  have hne : ∀ q, q ≠ B + y → (wr.setCell ⟨B + y, x, none⟩ (.int .i64 v)).heap[q]? = wr.heap[q]? := by
    intro q hq
    simp only [World.setCell, Array.getElem?_modify]
    rw [if_neg (fun e => hq e.symm)]
  refine ⟨h.b.setCell (by show w0.heap.size ≤ B + y; omega) _, h.le, h.lt, h.hd, (hne _ (by omega)).trans h.hu, (hne _ (by omega)).trans h.ht, (hne _ (by omega)).trans h.hp, (hne _ (by omega)).trans h.hn, fun y' hy' => ?_, ?_⟩
  · by_cases e : y' = y
    · subst e
      simp only [World.setCell, Array.getElem?_modify, h.hm y' hy']
      simp [cA_set]
    · rw [hne _ (by omega), h.hm y' hy']
      simp [e]
  · have := h.hB
    simpa [World.setCell] using this
/-- What a table's reader wants. -/
theorem GM.tab (h : GM w0 pu pt p n B W H (H + 1) vu f wr) : TabS wr p n (fun y => B + y) W H (fun x y => f y x) :=
  ⟨h.lts.2.2.1, h.cp, h.lts.2.2.2, fun _ hy => h.cn (by omega) hy, fun _ hy => h.lm (by omega), fun _ _ hx hy => h.cm (by omega) hx⟩
end

end Go.Proofs.Ytndhnpljdldlpab

/- Skins: the list of the maximal usable rectangles. No program. -/
import Derived.Test.YtndhnpljdldlpabSmO
import Derived.Test.YtndhnpljdldlpabSmB
namespace Go.Proofs.Ytndhnpljdldlpab
open Go.RowKit

/-- Usable, wherever it may lie. -/
def fullG (U : Int → Int → Bool) (W H : Nat) (x y : Int) (n m : Nat) : Bool := decide (0 ≤ x ∧ 0 ≤ y ∧ x + n ≤ W ∧ y + m ≤ H) && decide (cBox U x n y m = n * m)
theorem fullG_in {U : Int → Int → Bool} {W H x y n m : Nat} (hx : x + n ≤ W) (hy : y + m ≤ H) : fullG U W H x y n m = fullB U x y n m := by
  unfold fullG fullB
  rw [decide_eq_true (by omega), Bool.true_and]
  refine decide_eq_decide.2 ?_
  omega
theorem fullG_out {U : Int → Int → Bool} {W H : Nat} {x y : Int} {n m : Nat} (h : x < 0 ∨ y < 0 ∨ W < x + n ∨ H < y + m) : fullG U W H x y n m = false := by
  unfold fullG
  rw [decide_eq_false (by omega), Bool.false_and]
theorem fullG_low {U : Int → Int → Bool} {W H x y n m : Nat} (hn : 1 ≤ n) (hx : x + n ≤ W) (hm : 1 ≤ m) : fullG U W H x y n m = true ↔ m ≤ low U H x y n := by
  by_cases hy : y + m ≤ H
  · rw [fullG_in hx hy, fullB_iff hn hm hx hy, full_low U W H x y n m hn hx hm]
  · rw [fullG_out (by omega)]
    have := low_le U H x y n
    constructor
    · intro h; cases h
    · intro h; omega
/-- A wider or higher one, to the left, to the right, up. -/
def growB (U : Int → Int → Bool) (W H x y n m : Nat) : Bool := fullG U W H ((x : Int) - 1) y (n + 1) m || fullG U W H x y (n + 1) m || fullG U W H x ((y : Int) - 1) n (m + 1)
def maxB (U : Int → Int → Bool) (W H x y n m : Nat) : Bool := fullG U W H x y n m && !fullG U W H ((x : Int) - 1) y (n + 1) m && !fullG U W H x ((y : Int) - 1) n (m + 1) && !fullG U W H x y (n + 1) m && !fullG U W H x y n (m + 1)
theorem maxB_eq (U : Int → Int → Bool) (W H x y n m : Nat) : maxB U W H x y n m = (fullG U W H x y n m && !fullG U W H x y n (m + 1) && !growB U W H x y n m) := by
  unfold maxB growB
  cases fullG U W H x y n m <;> cases fullG U W H ((x : Int) - 1) y (n + 1) m <;> cases fullG U W H x ((y : Int) - 1) n (m + 1) <;> cases fullG U W H x y (n + 1) m <;> cases fullG U W H x y n (m + 1) <;> rfl

/-- Of one place and one width, by height. -/
def mx4 (U : Int → Int → Bool) (W H x y n : Nat) : Nat → List Rc
  | 0 => []
  | k + 1 => mx4 U W H x y n k ++ (if maxB U W H x y n (k + 1) = true then [((x : Int), (y : Int), (n : Int), ((k + 1 : Nat) : Int))] else [])
def mx3 (U : Int → Int → Bool) (W H x y : Nat) : Nat → List Rc
  | 0 => []
  | k + 1 => mx3 U W H x y k ++ mx4 U W H x y (k + 1) (H - y)
def mx2 (U : Int → Int → Bool) (W H y : Nat) : Nat → List Rc
  | 0 => []
  | k + 1 => mx2 U W H y k ++ mx3 U W H k y (W - k)
def mx1 (U : Int → Int → Bool) (W H : Nat) : Nat → List Rc
  | 0 => []
  | k + 1 => mx1 U W H k ++ mx2 U W H k W
/-- All before a place. -/
def mxTo (U : Int → Int → Bool) (W H y x n m : Nat) : List Rc := mx1 U W H y ++ (mx2 U W H y x ++ (mx3 U W H x y n ++ mx4 U W H x y (n + 1) m))
theorem mxTo_next (U : Int → Int → Bool) (W H y x n m : Nat) : mxTo U W H y x n (m + 1) = mxTo U W H y x n m ++ (if maxB U W H x y (n + 1) (m + 1) = true then [((x : Int), (y : Int), ((n + 1 : Nat) : Int), ((m + 1 : Nat) : Int))] else []) := by
  unfold mxTo
  rw [mx4]
  simp only [List.append_assoc]
theorem mxTo_wide (U : Int → Int → Bool) (W H y x n : Nat) : mxTo U W H y x n (H - y) = mxTo U W H y x (n + 1) 0 := by
  unfold mxTo
  rw [mx3]
  simp [mx4]
theorem mxTo_col (U : Int → Int → Bool) (W H y x : Nat) : mxTo U W H y x (W - x) 0 = mxTo U W H y (x + 1) 0 0 := by
  unfold mxTo
  rw [mx2]
  simp [mx4, mx3]
theorem mxTo_row (U : Int → Int → Bool) (W H y : Nat) : mxTo U W H y W 0 0 = mxTo U W H (y + 1) 0 0 0 := by
  unfold mxTo
  rw [mx1]
  simp [mx4, mx3, mx2]
theorem mxTo_start (U : Int → Int → Bool) (W H : Nat) : mxTo U W H 0 0 0 0 = [] := rfl
theorem mx4_eq (U : Int → Int → Bool) (W H x y n : Nat) (hn : 1 ≤ n) (hx : x + n ≤ W) : ∀ k : Nat, mx4 U W H x y n k = if 1 ≤ low U H x y n ∧ low U H x y n ≤ k ∧ growB U W H x y n (low U H x y n) = false then [((x : Int), (y : Int), (n : Int), (low U H x y n : Int))] else []
  | 0 => by
    rw [mx4, if_neg (by omega)]
  | k + 1 => by
    rw [mx4, mx4_eq U W H x y n hn hx k]
    have h1 := fullG_low (U := U) (W := W) (H := H) (x := x) (y := y) (n := n) (m := k + 1) hn hx (by omega)
    have h2 := fullG_low (U := U) (W := W) (H := H) (x := x) (y := y) (n := n) (m := k + 1 + 1) hn hx (by omega)
    rw [maxB_eq]
    obtain ⟨lo, hlo⟩ : ∃ lo, lo = low U H x y n := ⟨_, rfl⟩
    rw [← hlo] at h1 h2 ⊢
    by_cases e : lo = k + 1
    · rw [e]
      rw [if_neg (by omega), List.nil_append, h1.2 (by omega)]
      have h3 : fullG U W H x y n (k + 1 + 1) = false := by
        rw [Bool.eq_false_iff]; intro h; have := h2.1 h; omega
      rw [h3]
      cases hg : growB U W H x y n (k + 1) with
      | true => simp
      | false => simp
    · have hz : (fullG U W H x y n (k + 1) && !fullG U W H x y n (k + 1 + 1) && !growB U W H x y n (k + 1)) = false := by
        by_cases hle : k + 1 ≤ lo
        · rw [h2.2 (by omega)]; simp
        · have h3 : fullG U W H x y n (k + 1) = false := by
            rw [Bool.eq_false_iff]; intro h; have := h1.1 h; omega
          rw [h3]; simp
      rw [hz]
      simp only [Bool.false_eq_true, if_false, List.append_nil]
      by_cases hc : 1 ≤ lo ∧ lo ≤ k ∧ growB U W H x y n lo = false
      · rw [if_pos hc, if_pos ⟨hc.1, by omega, hc.2.2⟩]
      · rw [if_neg hc, if_neg (by intro h; exact hc ⟨h.1, by omega, h.2.2⟩)]
/-- The program's step: only the deepest of each width. -/
theorem mxTo_tall (U : Int → Int → Bool) (W H y x n : Nat) (hx : x + (n + 1) ≤ W) (hl : 1 ≤ low U H x y (n + 1)) : mxTo U W H y x (n + 1) 0 = mxTo U W H y x n 0 ++ (if growB U W H x y (n + 1) (low U H x y (n + 1)) = false then [((x : Int), (y : Int), ((n + 1 : Nat) : Int), (low U H x y (n + 1) : Int))] else []) := by
  rw [← mxTo_wide]
  unfold mxTo
  rw [mx4_eq U W H x y (n + 1) (by omega) hx (H - y)]
  have hle := low_le U H x y (n + 1)
  by_cases hg : growB U W H x y (n + 1) (low U H x y (n + 1)) = false
  · rw [if_pos ⟨hl, hle, hg⟩, if_pos hg]
    simp [mx4]
  · rw [if_neg (fun h => hg h.2.2), if_neg hg]
    simp [mx4]
theorem mx3_same (U : Int → Int → Bool) (W H x y n : Nat) (hend : x + n = W ∨ dep U (x + n) y (H - y) = 0) : ∀ k : Nat, x + (n + k) ≤ W → mx3 U W H x y (n + k) = mx3 U W H x y n
  | 0, _ => rfl
  | k + 1, hk => by
    rw [← Nat.add_assoc, mx3, mx3_same U W H x y n hend k (by omega), mx4_eq U W H x y (n + k + 1) (by omega) (by omega)]
    have hz : low U H x y (n + k + 1) = 0 := by
      rcases hend with h | h
      · omega
      · rcases Nat.eq_zero_or_pos (low U H x y (n + k + 1)) with h0 | h0
        · exact h0
        · have := (low_iff U H x y 1 (n + k + 1) (by omega)).1 h0 n (by omega)
          omega
    rw [hz, if_neg (by omega), List.append_nil]
/-- Where the widths end, the column is through. -/
theorem mxTo_end (U : Int → Int → Bool) (W H y x n : Nat) (hx : x + n ≤ W) (hend : x + n = W ∨ dep U (x + n) y (H - y) = 0) : mxTo U W H y x n 0 = mxTo U W H y (x + 1) 0 0 := by
  rw [← mxTo_col]
  unfold mxTo
  rw [show W - x = n + (W - x - n) by omega, mx3_same U W H x y n hend _ (by omega)]
  simp [mx4]

theorem mx4_len (U : Int → Int → Bool) (W H x y n : Nat) : ∀ k, (mx4 U W H x y n k).length ≤ k
  | 0 => Nat.le_refl _
  | k + 1 => by
    have := mx4_len U W H x y n k
    rw [mx4, List.length_append]
    split <;> simp <;> omega
theorem mx3_len (U : Int → Int → Bool) (W H x y : Nat) (hH : H ≤ 48) : ∀ k, (mx3 U W H x y k).length ≤ k * 48
  | 0 => Nat.le_refl _
  | k + 1 => by
    have h1 := mx3_len U W H x y hH k
    have h2 := mx4_len U W H x y (k + 1) (H - y)
    rw [mx3, List.length_append]
    omega
theorem mx2_len (U : Int → Int → Bool) (W H y : Nat) (hW : W ≤ 48) (hH : H ≤ 48) : ∀ k, (mx2 U W H y k).length ≤ k * 2304
  | 0 => Nat.le_refl _
  | k + 1 => by
    have h1 := mx2_len U W H y hW hH k
    have h2 := mx3_len U W H k y hH (W - k)
    rw [mx2, List.length_append]
    omega
theorem mx1_len (U : Int → Int → Bool) (W H : Nat) (hW : W ≤ 48) (hH : H ≤ 48) : ∀ k, (mx1 U W H k).length ≤ k * 110592
  | 0 => Nat.le_refl _
  | k + 1 => by
    have h1 := mx1_len U W H hW hH k
    have h2 := mx2_len U W H k hW hH W
    rw [mx1, List.length_append]
    omega
theorem mxTo_len (U : Int → Int → Bool) (W H y x n m : Nat) (hW : W ≤ 48) (hH : H ≤ 48) (hy : y ≤ 48) (hx : x ≤ 48) (hn : n ≤ 48) (hm : m ≤ 48) : (mxTo U W H y x n m).length ≤ 6000000 := by
  have h1 := mx1_len U W H hW hH y
  have h2 := mx2_len U W H y hW hH x
  have h3 := mx3_len U W H x y hH n
  have h4 := mx4_len U W H x y (n + 1) m
  unfold mxTo
  simp only [List.length_append]
  omega

/-- The cells of a list of rectangles. -/
def rcVals (l : List Rc) : List Value := l.flatMap fun r => [.int .i64 r.1, .int .i64 r.2.1, .int .i64 r.2.2.1, .int .i64 r.2.2.2]
theorem rcVals_append (l m : List Rc) : rcVals (l ++ m) = rcVals l ++ rcVals m := by simp [rcVals]
theorem rcVals_len (l : List Rc) : (rcVals l).length = l.length * 4 := by
  induction l with
  | nil => rfl
  | cons a t ih => simp [rcVals] at ih ⊢; omega
theorem rcVals_get : ∀ {l : List Rc} {k : Nat} (hk : k < l.length), (rcVals l)[k * 4]? = some (.int .i64 l[k].1) ∧ (rcVals l)[k * 4 + 1]? = some (.int .i64 l[k].2.1) ∧ (rcVals l)[k * 4 + 2]? = some (.int .i64 l[k].2.2.1) ∧ (rcVals l)[k * 4 + 3]? = some (.int .i64 l[k].2.2.2)
  | [], k, hk => by simp at hk
  | a :: t, 0, _ => by simp [rcVals]
  | a :: t, k + 1, hk => by
    have ih := rcVals_get (l := t) (k := k) (by simpa using hk)
    have e : rcVals (a :: t) = [.int .i64 a.1, .int .i64 a.2.1, .int .i64 a.2.2.1, .int .i64 a.2.2.2] ++ rcVals t := by simp [rcVals]
    rw [e]
    refine ⟨?_, ?_, ?_, ?_⟩
    · rw [show (k + 1) * 4 = 4 + k * 4 by omega, List.getElem?_append_right (by simp)]; simpa using ih.1
    · rw [show (k + 1) * 4 + 1 = 4 + (k * 4 + 1) by omega, List.getElem?_append_right (by simp)]; simpa using ih.2.1
    · rw [show (k + 1) * 4 + 2 = 4 + (k * 4 + 2) by omega, List.getElem?_append_right (by simp)]; simpa using ih.2.2.1
    · rw [show (k + 1) * 4 + 3 = 4 + (k * 4 + 3) by omega, List.getElem?_append_right (by simp)]; simpa using ih.2.2.2

/-- The world w0, with new blocks: v is a slice of its own, of the rectangles l. -/
structure RV (w0 : World) (v : Value) (l : List Rc) (wr : World) : Prop where
  b : Below w0.heap.size w0 wr
  own : wr.ownsRow w0.heap.size 29 4 v l.length (rcVals l)
theorem RV.start (w : World) : RV w (.slice none 0 0) [] w := ⟨Below.refl _ _, ⟨by simp [rcVals], .inl ⟨rfl, rfl⟩⟩⟩
theorem RV.step {w0 : World} {v : Value} {l : List Rc} {wr w2 : World} (h : RV w0 v l wr) (hb : Below wr.heap.size wr w2) : RV w0 v l w2 :=
  ⟨h.b.trans (hb.mono h.b.size), h.own.kept (row := none) (grownBy_below none hb) (by
    cases hk : v.ownBlock with
    | none => exact .inl rfl
    | some k => exact .inr (by simp))⟩
theorem RV.push {w0 : World} {v v' : Value} {l : List Rc} {r : Rc} {wr w2 : World} (h : RV w0 v l wr) (hown : w2.ownsRow w0.heap.size 29 4 v' (l.length + 1) (rcVals l ++ [.int .i64 r.1, .int .i64 r.2.1, .int .i64 r.2.2.1, .int .i64 r.2.2.2])) (hg : wr.grownBy w2 v.ownBlock) : RV w0 v' (l ++ [r]) w2 := by
  have hlt := h.own.lt
  refine ⟨⟨hg.os.trans h.b.os, hg.tape.trans h.b.tape, hg.output.trans h.b.output, Nat.le_trans h.b.size hg.size, fun i hi => ?_⟩, ?_⟩
  · exact (hg.block i (Nat.lt_of_lt_of_le hi h.b.size) (fun e => by have := (hlt i e.symm).1; omega)).trans (h.b.block i hi)
  · rw [rcVals_append, List.length_append]
    simpa [rcVals] using hown
theorem ownsRow_recs {w : World} {B : Nat} {v : Value} {l : List Rc} (h : w.ownsRow B 29 4 v l.length (rcVals l)) : ∃ a cap, v = .slice a l.length cap ∧ RecS w a l := by
  rcases h.2 with ⟨hv, h0⟩ | ⟨g, cap, cur, hv, hb, hh, -⟩
  · exact ⟨none, 0, by rw [hv, h0], .inl (List.length_eq_zero_iff.1 h0)⟩
  · refine ⟨some ⟨g, 0, none⟩, cap, hv, .inr ⟨g, 0, rfl, block_lt hh, fun k hk => ?_⟩⟩
    obtain ⟨h1, h2, h3, h4⟩ := rcVals_get hk
    have e1 := h.cells (g := g) (by rw [hv]; rfl) _ _ h1
    have e2 := h.cells (g := g) (by rw [hv]; rfl) _ _ h2
    have e3 := h.cells (g := g) (by rw [hv]; rfl) _ _ h3
    have e4 := h.cells (g := g) (by rw [hv]; rfl) _ _ h4
    rw [add_off, Nat.zero_add] at e1 e2 e3 e4
    simp only [Nat.zero_add]
    exact ⟨e1, e2, e3, e4⟩
theorem cell_four_new (w : World) (u v x y : Value) (T : TypeId) : ∀ (j : Nat) (z : Value), [u, v, x, y][j]? = some z → (w.alloc (.cells #[u, v, x, y] T)).cell? ((⟨w.heap.size, 0, none⟩ : Addr).add j) = some z := by
  have h := heap_alloc_new w (.cells #[u, v, x, y] T)
  intro j z hz
  have e : (w.alloc (.cells #[u, v, x, y] T)).cell? ((⟨w.heap.size, 0, none⟩ : Addr).add j) = (#[u, v, x, y] : Array Value)[j]? := by
    rw [add_off]
    simp only [World.cell?]
    rw [h]
    simp
  rw [e]
  simpa using hz
theorem own_neT {w : World} {base : Nat} {e T : TypeId} {size : Nat} {v : Value} {n : Nat} {xs : List Value} {g : Nat} {cs : Array Value} (h : w.ownsRow base e size v n xs) (hg : w.heap[g]? = some (.cells cs T (0, 0))) (hT : T ≠ e) : v.ownBlock ≠ some g := by
  intro hk
  rcases h.2 with ⟨rfl, _⟩ | ⟨g', cap, cur, rfl, _, hgg, _⟩
  · simp [Value.ownBlock] at hk
  · simp [Value.ownBlock] at hk
    subst hk
    rw [hg] at hgg
    injection hgg with h1
    injection h1 with _ h2
    exact hT h2
theorem infoRect : (Try.prog.info? 29).map (fun i => (i.zero, i.size, i.bytes)) = some (some (.agg #[.int .i64 0, .int .i64 0, .int .i64 0, .int .i64 0]), 4, 32) := by kernel_rfl
theorem uRects : Try.prog.underlying 23 = some (.slice 29) := by kernel_rfl

end Go.Proofs.Ytndhnpljdldlpab

/- Skins: the better of two rectangles; the closure of best. -/
import Derived.Test.YtndhnpljdldlpabSmH
import Derived.Outline
namespace Go.Proofs.Ytndhnpljdldlpab
open Go.RowKit

/-- What Largest's choice is. -/
def PickL (x y n k x' y' n' k' a b c d : Nat) : Prop := ((n' * k' < n * k ∨ (n * k = n' * k' ∧ x = x' ∧ y = y')) ∧ a = x ∧ b = y ∧ c = n ∧ d = k) ∨ (¬ (n' * k' < n * k ∨ (n * k = n' * k' ∧ x = x' ∧ y = y')) ∧ a = x' ∧ b = y' ∧ c = n' ∧ d = k')
/-- What Square's choice is. -/
def PickS (x y n k x' y' n' k' a b c d : Nat) : Prop := (n' < min n k ∧ a = x ∧ b = y ∧ c = min n k ∧ d = min n k) ∨ (¬ n' < min n k ∧ a = x' ∧ b = y' ∧ c = n' ∧ d = k')

theorem block_4 {w : World} {g : Nat} {a b c d : Value} {T : TypeId} (h : w.heap[g]? = some (.cells #[a, b, c, d] T (0, 0))) : w.cell? ⟨g, 0, none⟩ = some a ∧ w.cell? ⟨g, 1, none⟩ = some b ∧ w.cell? ⟨g, 2, none⟩ = some c ∧ w.cell? ⟨g, 3, none⟩ = some d := by
  refine ⟨?_, ?_, ?_, ?_⟩ <;> simp [World.cell?, h]
theorem block_fz {w : World} {g : Nat} {cs : Array Value} {T : TypeId} (h : w.heap[g]? = some (.cells cs T (0, 0))) (i : Nat) : w.frozen? ⟨g, i, none⟩ = false := by
  simp [World.frozen?, h]

/-- The memory of Largest and Square: the boxes of better, of the best one, of deep, of visit; the depths. -/
structure LM (w0 : World) (pb pr pd pv nd : Nat) (m : Nat → Nat) (W H : Nat) (U : Int → Int → Bool) (vb vv : Value) (x y n k : Nat) (wr : World) : Prop where
  dm : DM w0 nd W H 0 m (fun y x => dep U x y (H - y)) wr
  hb : wr.heap[pb]? = some (.cells #[vb] 71 (0, 0))
  hr : wr.heap[pr]? = some (.cells #[.int .i64 x, .int .i64 y, .int .i64 n, .int .i64 k] 29 (0, 0))
  hd : wr.heap[pd]? = some (.cells #[.slice (some ⟨nd, 0, none⟩) (H + 1) (H + 1)] 118 (0, 0))
  hv : wr.heap[pv]? = some (.cells #[vv] 64 (0, 0))
  le : w0.heap.size ≤ pr
  ne : pb ≠ pr ∧ pd ≠ pr ∧ pv ≠ pr ∧ pr < nd
section
variable {w0 wr w2 : World} {pb pr pd pv nd : Nat} {m : Nat → Nat} {W H : Nat} {U : Int → Int → Bool} {vb vv : Value} {x y n k : Nat}
theorem LM.step (h : LM w0 pb pr pd pv nd m W H U vb vv x y n k wr) (hb : Below wr.heap.size wr w2) : LM w0 pb pr pd pv nd m W H U vb vv x y n k w2 :=
  ⟨h.dm.step hb, (hb.block _ (block_lt h.hb)).trans h.hb, (hb.block _ (block_lt h.hr)).trans h.hr, (hb.block _ (block_lt h.hd)).trans h.hd, (hb.block _ (block_lt h.hv)).trans h.hv, h.le, h.ne⟩
theorem LM.cb (h : LM w0 pb pr pd pv nd m W H U vb vv x y n k wr) : wr.cell? ⟨pb, 0, none⟩ = some vb := by
  simp only [World.cell?]; rw [h.hb]; rfl
theorem LM.cr (h : LM w0 pb pr pd pv nd m W H U vb vv x y n k wr) : wr.cell? ⟨pr, 0, none⟩ = some (.int .i64 x) ∧ wr.cell? ⟨pr, 1, none⟩ = some (.int .i64 y) ∧ wr.cell? ⟨pr, 2, none⟩ = some (.int .i64 n) ∧ wr.cell? ⟨pr, 3, none⟩ = some (.int .i64 k) := block_4 h.hr
/-- The best one is written anew, behind calls that make memory. -/
theorem LM.put (h : LM w0 pb pr pd pv nd m W H U vb vv x y n k wr) (hb : Below wr.heap.size wr w2) (a b c d : Nat) :
    wr.grownBy ((((w2.setCell ⟨pr, 0, none⟩ (.int .i64 a)).setCell ⟨pr, 1, none⟩ (.int .i64 b)).setCell ⟨pr, 2, none⟩ (.int .i64 c)).setCell ⟨pr, 3, none⟩ (.int .i64 d)) (some pr) ∧
    LM w0 pb pr pd pv nd m W H U vb vv a b c d ((((w2.setCell ⟨pr, 0, none⟩ (.int .i64 a)).setCell ⟨pr, 1, none⟩ (.int .i64 b)).setCell ⟨pr, 2, none⟩ (.int .i64 c)).setCell ⟨pr, 3, none⟩ (.int .i64 d)) := by
  have h2 := h.step hb
  obtain ⟨w4, hw4⟩ : ∃ w4, w4 = ((((w2.setCell ⟨pr, 0, none⟩ (.int .i64 a)).setCell ⟨pr, 1, none⟩ (.int .i64 b)).setCell ⟨pr, 2, none⟩ (.int .i64 c)).setCell ⟨pr, 3, none⟩ (.int .i64 d)) := ⟨_, rfl⟩
  have hne : ∀ q, q ≠ pr → w4.heap[q]? = w2.heap[q]? := by
    intro q hq
    rw [hw4, Below.heap_setCell _ _ _ _ hq, Below.heap_setCell _ _ _ _ hq, Below.heap_setCell _ _ _ _ hq, Below.heap_setCell _ _ _ _ hq]
  have hat : w4.heap[pr]? = some (.cells #[.int .i64 a, .int .i64 b, .int .i64 c, .int .i64 d] 29 (0, 0)) := by
    rw [hw4]
    simp [World.setCell, Array.getElem?_modify, h2.hr]
  have hb4 : Below w0.heap.size w0 w4 := by
    rw [hw4]
    exact (((h2.dm.b.setCell h.le _).setCell h.le _).setCell h.le _).setCell h.le _
  have hsz : w4.heap.size = w2.heap.size := by rw [hw4]; simp [World.setCell]
  obtain ⟨n1, n2, n3, n4⟩ := h.ne
  rw [← hw4]
  refine ⟨⟨?_, ?_, ?_, by rw [hsz]; exact hb.size, fun q hq hne' => ?_⟩, ⟨⟨hb4, h2.dm.le, (hne _ (by omega)).trans h2.dm.hn, fun y hy hH => ?_, h2.dm.gt, h2.dm.anti⟩, (hne _ n1).trans h2.hb, hat, (hne _ n2).trans h2.hd, (hne _ n3).trans h2.hv, h.le, h.ne⟩⟩
  · rw [hw4]; exact hb.os
  · rw [hw4]; exact hb.tape
  · rw [hw4]; exact hb.output
  · rw [hne q (fun e => hne' (by rw [e])), hb.block q hq]
  · have := h2.dm.gt y hy hH
    rw [hne _ (by omega)]
    exact h2.dm.hm y hy hH
end

set_option maxRecDepth 100000 in
set_option maxHeartbeats 1600000 in
theorem larger_any (x y n k x' y' n' k' : Nat) (h1 : n ≤ 48) (h2 : k ≤ 48) (h3 : n' ≤ 48) (h4 : k' ≤ 48) (w : World) :
    Calls Try.prog 40 #[.agg #[.int .i64 x, .int .i64 y, .int .i64 n, .int .i64 k], .agg #[.int .i64 x', .int .i64 y', .int .i64 n', .int .i64 k']] w fun e w' => ∃ a b c d : Nat, e = .returned (.agg #[.int .i64 a, .int .i64 b, .int .i64 c, .int .i64 d]) ∧ Below w.heap.size w w' ∧ PickL x y n k x' y' n' k' a b c d := by
  obtain ⟨p, hp⟩ : ∃ p, p = n * k := ⟨_, rfl⟩
  obtain ⟨p', hp'⟩ : ∃ p, p = n' * k' := ⟨_, rfl⟩
  have b1 : p ≤ 48 * 48 := by rw [hp]; exact Nat.mul_le_mul h1 h2
  have b2 : p' ≤ 48 * 48 := by rw [hp']; exact Nat.mul_le_mul h3 h4
  have hw1 : IntKind.i64.wrap ((n : Int) * (k : Int)) = (p : Int) := by rw [show (n : Int) * (k : Int) = (p : Int) by rw [hp]; simp]; exact IntWalk.i64_in _ (by omega)
  have hw2 : IntKind.i64.wrap ((n' : Int) * (k' : Int)) = (p' : Int) := by rw [show (n' : Int) * (k' : Int) = (p' : Int) by rw [hp']; simp]; exact IntWalk.i64_in _ (by omega)
  obtain ⟨D, hD⟩ : ∃ D : Int, D = (p : Int) - p' := ⟨_, rfl⟩
  have hw3 : IntKind.i64.wrap ((p : Int) - (p' : Int)) = D := by rw [hD]; exact IntWalk.i64_in _ (by omega)
  have HP := Lib.hid (And.intro hp hp')
  have HD := Lib.hid hD
  have HMt := Lib.hid (((((Below.refl w.heap.size w).alloc (Nat.le_refl _) (.cells #[.int .i64 x, .int .i64 y, .int .i64 n, .int .i64 k] 29)).alloc (by simp <;> omega) (.cells #[.int .i64 x', .int .i64 y', .int .i64 n', .int .i64 k'] 29)).alloc (by simp <;> omega) (.cells #[.int .i64 x, .int .i64 y, .int .i64 n, .int .i64 k] 29)))
  have HMo := Lib.hid (((((Below.refl w.heap.size w).alloc (Nat.le_refl _) (.cells #[.int .i64 x, .int .i64 y, .int .i64 n, .int .i64 k] 29)).alloc (by simp <;> omega) (.cells #[.int .i64 x', .int .i64 y', .int .i64 n', .int .i64 k'] 29)).alloc (by simp <;> omega) (.cells #[.int .i64 x', .int .i64 y', .int .i64 n', .int .i64 k'] 29)))
  clear hp hp' hD b1 b2 h1 h2 h3 h4
  rcases Int.lt_or_le 0 D with hpos | hle
  · have hc : Hid (PickL x y n k x' y' n' k' x y n k) := Lib.hid (.inl ⟨by have := HP.out.1; have := HP.out.2; have := HD.out; omega, rfl, rfl, rfl, rfl⟩)
    go_enter Try.func40, Try.ntmps40
    go_wp2
    refine bodyPost_ret (v := .agg #[.int .i64 x, .int .i64 y, .int .i64 n, .int .i64 k]) (by simp [results, Try.results40, go_sem]) rfl ⟨x, y, n, k, rfl, HMt.out, hc.out⟩
  · by_cases hz : D = 0
    · by_cases hx : x = x'
      · by_cases hy : y = y'
        · have hc : Hid (PickL x y n k x' y' n' k' x y n k) := Lib.hid (.inl ⟨by have := HP.out.1; have := HP.out.2; have := HD.out; omega, rfl, rfl, rfl, rfl⟩)
          have HXY := Lib.hid (And.intro hx hy)
          have e1 : ((x : Int) == (x' : Int)) = true := by rw [hx]; simp
          have e2 : ((y : Int) == (y' : Int)) = true := by rw [hy]; simp
          subst hz
          clear hx hy hle
          go_enter Try.func40, Try.ntmps40
          go_wp2
          refine bodyPost_ret (v := .agg #[.int .i64 x, .int .i64 y, .int .i64 n, .int .i64 k]) (by simp [results, Try.results40, go_sem]) rfl ⟨x, y, n, k, rfl, HMt.out, hc.out⟩
        · have hc : Hid (PickL x y n k x' y' n' k' x' y' n' k') := Lib.hid (.inr ⟨by have := HP.out.1; have := HP.out.2; have := HD.out; omega, rfl, rfl, rfl, rfl⟩)
          have e1 : ((x : Int) == (x' : Int)) = true := by rw [hx]; simp
          have e2 : ((y : Int) == (y' : Int)) = false := by rw [beq_eq_false_iff_ne]; omega
          subst hz
          clear hx hy hle
          go_enter Try.func40, Try.ntmps40
          go_wp2
          refine bodyPost_ret (v := .agg #[.int .i64 x', .int .i64 y', .int .i64 n', .int .i64 k']) (by simp [results, Try.results40, go_sem]) rfl ⟨x', y', n', k', rfl, HMo.out, hc.out⟩
      · have hc : Hid (PickL x y n k x' y' n' k' x' y' n' k') := Lib.hid (.inr ⟨by have := HP.out.1; have := HP.out.2; have := HD.out; omega, rfl, rfl, rfl, rfl⟩)
        have e1 : ((x : Int) == (x' : Int)) = false := by rw [beq_eq_false_iff_ne]; omega
        subst hz
        clear hx hle
        go_enter Try.func40, Try.ntmps40
        go_wp2
        refine bodyPost_ret (v := .agg #[.int .i64 x', .int .i64 y', .int .i64 n', .int .i64 k']) (by simp [results, Try.results40, go_sem]) rfl ⟨x', y', n', k', rfl, HMo.out, hc.out⟩
    · have hc : Hid (PickL x y n k x' y' n' k' x' y' n' k') := Lib.hid (.inr ⟨by have := HP.out.1; have := HP.out.2; have := HD.out; omega, rfl, rfl, rfl, rfl⟩)
      have e0 : (D == 0) = false := by rw [beq_eq_false_iff_ne]; exact hz
      have hle' : ¬ 0 < D := by omega
      clear hz
      go_enter Try.func40, Try.ntmps40
      go_wp2
      refine bodyPost_ret (v := .agg #[.int .i64 x', .int .i64 y', .int .i64 n', .int .i64 k']) (by simp [results, Try.results40, go_sem]) rfl ⟨x', y', n', k', rfl, HMo.out, hc.out⟩

set_option maxRecDepth 100000 in
set_option maxHeartbeats 1600000 in
theorem best1_L (w0 : World) (pb pr pd pv nd : Nat) (m : Nat → Nat) (W H : Nat) (U : Int → Int → Bool) (vv : Value) (x y n k x' y' n' k' : Nat) (h1 : n ≤ 48) (h2 : k ≤ 48) (h3 : n' ≤ 48) (h4 : k' ≤ 48) (w : World) (h : LM w0 pb pr pd pv nd m W H U (.func (.func 40) #[] #[]) vv x' y' n' k' w) :
    Calls Try.prog 72 #[.agg #[.int .i64 x, .int .i64 y, .int .i64 n, .int .i64 k], .pointer (some ⟨pb, 0, none⟩), .pointer (some ⟨pr, 0, none⟩)] w fun e w' => e = .returned (.tuple #[]) ∧ w.grownBy w' (some pr) ∧ ∃ a b c d : Nat, PickL x y n k x' y' n' k' a b c d ∧ LM w0 pb pr pd pv nd m W H U (.func (.func 40) #[] #[]) vv a b c d w' := by
  have HH := Lib.hid h
  have l1 := block_lt h.hb
  have l2 := block_lt h.hr
  have c1 := h.cb
  obtain ⟨d1, d2, d3, d4⟩ := h.cr
  have HL := Lib.hid (fun w' => larger_any x y n k x' y' n' k' h1 h2 h3 h4 w')
  have HG1 := Lib.hid ((Below.refl w.heap.size w).alloc (Nat.le_refl _) (.cells #[.int .i64 x, .int .i64 y, .int .i64 n, .int .i64 k] 29))
  clear h h1 h2 h3 h4
  go_enter Try.func72, Try.ntmps72
  go_wp2_with fail
  refine (HL.out _).mono ?_
  rintro e w1 ⟨a, b, c, d, rfl, hb, hp⟩
  have HB := Lib.hid (HG1.out.trans (hb.mono HG1.out.size))
  have HP := Lib.hid hp
  have hr1 := (HB.out.block pr l2).trans HH.out.hr
  obtain ⟨e1, e2, e3, e4⟩ := block_4 hr1
  have f0 := block_fz hr1 0
  have f1 := block_fz hr1 1
  have f2 := block_fz hr1 2
  have f3 := block_fz hr1 3
  have l3 := block_lt hr1
  have HF := Lib.hid (LM.put HH.out HB.out a b c d)
  clear hb hp c1 d1 d2 d3 d4 l1 l2 hr1
  go_wp2
  go_end0
  exact ⟨rfl, HF.out.1, a, b, c, d, HP.out, HF.out.2⟩

end Go.Proofs.Ytndhnpljdldlpab

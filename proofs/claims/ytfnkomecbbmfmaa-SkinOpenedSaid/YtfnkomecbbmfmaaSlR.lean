/- Skins: the calls of a sweep: minus, the picks; its memory. -/
import Derived.Test.YtfnkomecbbmfmaaSlQ
import Derived.Test.YtfnkomecbbmfmaaSlI
namespace Go.Proofs.Ytfnkomecbbmfmaa
open Go.RowKit

set_option maxRecDepth 100000 in
set_option maxHeartbeats 1600000 in
theorem cminus_any (x y u v : Int) (hx : -1000000 ≤ x ∧ x ≤ 1000000) (hy : -1000000 ≤ y ∧ y ≤ 1000000) (hu : -1000000 ≤ u ∧ u ≤ 1000000) (hv : -1000000 ≤ v ∧ v ≤ 1000000) (w : World) :
    Calls Try.prog 100 #[.agg #[.int .i64 x, .int .i64 y], .agg #[.int .i64 u, .int .i64 v]] w fun e w' => e = .returned (.agg #[.int .i64 (x - u), .int .i64 (y - v)]) ∧ Below w.heap.size w w' := by
  obtain ⟨x1, x2⟩ := hx
  obtain ⟨y1, y2⟩ := hy
  obtain ⟨u1, u2⟩ := hu
  obtain ⟨v1, v2⟩ := hv
  have e1 : IntKind.i64.wrap (x - u) = x - u := IntWalk.i64_in _ (by omega)
  have e2 : IntKind.i64.wrap (y - v) = y - v := IntWalk.i64_in _ (by omega)
  go_enter Try.func100, Try.ntmps100
  go_wp2
  refine bodyPost_ret (v := .agg #[.int .i64 (x - u), .int .i64 (y - v)]) (by simp [results, Try.results100, go_sem]) rfl ⟨rfl, ?_⟩
  exact ((Below.refl _ _).alloc (Nat.le_refl _) _).alloc (by simp) _ |>.alloc (by simp; omega) _

theorem ret_int {b c : Int} (h : b = c) : Ending.returned (Value.int .i64 b) = Ending.returned (Value.int .i64 c) := by rw [h]

set_option maxRecDepth 100000 in
theorem pickE_any (a b : Int) (w : World) : Calls Try.prog 78 #[.int .i64 a, .int .i64 b] w fun e w' => e = .returned (.int .i64 (pk true a b)) ∧ Below w.heap.size w w' := by
  obtain ⟨r, hr⟩ : ∃ r, r = pk true a b := ⟨_, rfl⟩
  have HR : Hid (r = if b < a then b else a) := Lib.hid (by rw [hr]; rfl)
  rw [← hr]
  clear hr
  go_enter Try.func78, Try.ntmps78
  go_wp2
  all_goals
    go_ret
    refine ⟨ret_int ?_, Below.refl _ _⟩
    rw [HR.out]
    first
      | exact (if_pos (by omega)).symm
      | exact (if_neg (by omega)).symm

set_option maxRecDepth 100000 in
theorem pickD_any (a b : Int) (w : World) : Calls Try.prog 80 #[.int .i64 a, .int .i64 b] w fun e w' => e = .returned (.int .i64 (pk false a b)) ∧ Below w.heap.size w w' := by
  obtain ⟨r, hr⟩ : ∃ r, r = pk false a b := ⟨_, rfl⟩
  have HR : Hid (r = if a < b then b else a) := Lib.hid (by rw [hr]; rfl)
  rw [← hr]
  clear hr
  go_enter Try.func80, Try.ntmps80
  go_wp2
  all_goals
    go_ret
    refine ⟨ret_int ?_, Below.refl _ _⟩
    rw [HR.out]
    first
      | exact (if_pos (by omega)).symm
      | exact (if_neg (by omega)).symm

/-- The memory of a sweep's closure: the cell's block, the blocks of the cell before (A) and of the cell after (B). -/
structure SX (w : World) (C A B : Nat) (x y p q r s : Int) (wr : World) : Prop where
  b : Below w.heap.size w wr
  le : w.heap.size ≤ C ∧ w.heap.size ≤ A ∧ w.heap.size ≤ B
  ne : C ≠ A ∧ C ≠ B ∧ A ≠ B
  hC : wr.heap[C]? = some (.cells #[.int .i64 x, .int .i64 y] 87 (0, 0))
  hA : wr.heap[A]? = some (.cells #[.int .i64 p, .int .i64 q] 87 (0, 0))
  hB : wr.heap[B]? = some (.cells #[.int .i64 r, .int .i64 s] 87 (0, 0))
section
variable {w wr w2 : World} {C A B : Nat} {x y p q r s : Int} {L : List (Nat × Array Value × TypeId)}
theorem SX.of1 (h : Mem w ((B, #[.int .i64 r, .int .i64 s], 87) :: (A, #[.int .i64 p, .int .i64 q], 87) :: (C, #[.int .i64 x, .int .i64 y], 87) :: L) wr) : SX w C A B x y p q r s wr :=
  ⟨h.b, ⟨h.tail.tail.head_le, h.tail.head_le, h.head_le⟩, ⟨Nat.ne_of_lt h.tail.gt, Nat.ne_of_lt (Nat.lt_trans h.tail.gt h.gt), Nat.ne_of_lt h.gt⟩, (h.tail.tail.h _ (List.mem_cons_self ..)).2, (h.tail.h _ (List.mem_cons_self ..)).2, (h.h _ (List.mem_cons_self ..)).2⟩
theorem SX.of2 (h : Mem w ((A, #[.int .i64 p, .int .i64 q], 87) :: (B, #[.int .i64 r, .int .i64 s], 87) :: (C, #[.int .i64 x, .int .i64 y], 87) :: L) wr) : SX w C A B x y p q r s wr :=
  ⟨h.b, ⟨h.tail.tail.head_le, h.head_le, h.tail.head_le⟩, ⟨Nat.ne_of_lt (Nat.lt_trans h.tail.gt h.gt), Nat.ne_of_lt h.tail.gt, (Nat.ne_of_lt h.gt).symm⟩, (h.tail.tail.h _ (List.mem_cons_self ..)).2, (h.h _ (List.mem_cons_self ..)).2, (h.tail.h _ (List.mem_cons_self ..)).2⟩
theorem SX.step (h : SX w C A B x y p q r s wr) (hb : Below wr.heap.size wr w2) : SX w C A B x y p q r s w2 :=
  ⟨h.b.trans (hb.mono h.b.size), h.le, h.ne, (hb.block _ (block_lt h.hC)).trans h.hC, (hb.block _ (block_lt h.hA)).trans h.hA, (hb.block _ (block_lt h.hB)).trans h.hB⟩
theorem SX.drew (h : SX w C A B x y p q r s wr) : SX w C A B x y p q r s wr.drew := h.step (Below.refl _ _).drew
theorem two_set {W : World} {k : Nat} {a b : Value} {T : TypeId} (c d : Value) (h : W.heap[k]? = some (.cells #[a, b] T (0, 0))) : ((W.setCell ⟨k, 0, none⟩ c).setCell ⟨k, 1, none⟩ d).heap[k]? = some (.cells #[c, d] T (0, 0)) := by
  have h1 := heap_setCell_same W k 0 #[a, b] T c h
  have h2 := heap_setCell_same _ k 1 _ T d h1
  simpa using h2
theorem two_other {W : World} {k j : Nat} (c d : Value) (hne : j ≠ k) : ((W.setCell ⟨k, 0, none⟩ c).setCell ⟨k, 1, none⟩ d).heap[j]? = W.heap[j]? :=
  (heap_setCell_other _ ⟨k, 1, none⟩ j d hne).trans (heap_setCell_other W ⟨k, 0, none⟩ j c hne)
theorem SX.setA (h : SX w C A B x y p q r s wr) (p' q' : Int) : SX w C A B x y p' q' r s ((wr.setCell ⟨A, 0, none⟩ (.int .i64 p')).setCell ⟨A, 1, none⟩ (.int .i64 q')) :=
  ⟨(h.b.setCell h.le.2.1 _).setCell h.le.2.1 _, h.le, h.ne, (two_other _ _ h.ne.1).trans h.hC, two_set _ _ h.hA, (two_other _ _ h.ne.2.2.symm).trans h.hB⟩
theorem SX.setB (h : SX w C A B x y p q r s wr) (r' s' : Int) : SX w C A B x y p q r' s' ((wr.setCell ⟨B, 0, none⟩ (.int .i64 r')).setCell ⟨B, 1, none⟩ (.int .i64 s')) :=
  ⟨(h.b.setCell h.le.2.2 _).setCell h.le.2.2 _, h.le, h.ne, (two_other _ _ h.ne.2.1).trans h.hC, (two_other _ _ h.ne.2.2).trans h.hA, two_set _ _ h.hB⟩
end

/-- What a sweep's closure holds: the boxes of the skin, of the number of steps, of the step, of the pick. -/
structure SQ (w : World) (ps pn pt pf : Nat) (a : Option Addr) (cap : Nat) (ss : List ByteArray) (k : Nat) (dx dy : Int) (f : Value) : Prop where
  l : ps < w.heap.size ∧ pn < w.heap.size ∧ pt < w.heap.size ∧ pf < w.heap.size
  cs : w.cell? ⟨ps, 0, none⟩ = some (.slice a ss.length cap)
  cn : w.cell? ⟨pn, 0, none⟩ = some (.int .i64 k)
  ct : w.cell? ⟨pt, 0, none⟩ = some (.int .i64 dx) ∧ w.cell? ⟨pt, 1, none⟩ = some (.int .i64 dy)
  cf : w.cell? ⟨pf, 0, none⟩ = some f
  st : StrS w a ss
theorem SQ.below {w w' : World} {ps pn pt pf : Nat} {a : Option Addr} {cap : Nat} {ss : List ByteArray} {k : Nat} {dx dy : Int} {f : Value} (h : SQ w ps pn pt pf a cap ss k dx dy f) (hb : Below w.heap.size w w') : SQ w' ps pn pt pf a cap ss k dx dy f :=
  ⟨⟨Nat.lt_of_lt_of_le h.l.1 hb.size, Nat.lt_of_lt_of_le h.l.2.1 hb.size, Nat.lt_of_lt_of_le h.l.2.2.1 hb.size, Nat.lt_of_lt_of_le h.l.2.2.2 hb.size⟩, (hb.cell (p := ⟨ps, 0, none⟩) h.l.1).trans h.cs, (hb.cell (p := ⟨pn, 0, none⟩) h.l.2.1).trans h.cn, ⟨(hb.cell (p := ⟨pt, 0, none⟩) h.l.2.2.1).trans h.ct.1, (hb.cell (p := ⟨pt, 1, none⟩) h.l.2.2.1).trans h.ct.2⟩, (hb.cell (p := ⟨pf, 0, none⟩) h.l.2.2.2).trans h.cf, h.st.below hb⟩

end Go.Proofs.Ytfnkomecbbmfmaa

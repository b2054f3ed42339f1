/- Pairs: a region that measures four gloves into four new arrays, in whatever order. -/
import Derived.Test.YtchhadkmemckbabPaB
namespace Go.Proofs.Ytchhadkmemckbab
open Go.RowKit
set_option linter.unusedSimpArgs false
set_option linter.unusedVariables false

theorem wpAnyH_merge {P : Program} {md : Region.Mode} {ops : Array Oper} {Q : Exit → Act → World → Prop} {S : World → Prop} {M : Nat → Array Bool → Act → World → Prop} {f0 : Nat}
    (h0 : ∀ listed a w, M 0 listed a w → wpAnyH P md ops Q S f0 listed a w)
    (hs : ∀ n listed a w, M (n + 1) listed a w → ∃ rs, Region.ready md ops listed = rs ∧ rs ≠ [] ∧ ∀ i ∈ rs, wpOp P ops Q i (fun a' w' => S w' ∧ M n (listed.setIfInBounds i true) a' w') a w) :
    ∀ n listed a w, M n listed a w → wpAnyH P md ops Q S (f0 + n) listed a w
  | 0, _, _, _, h => h0 _ _ _ h
  | n + 1, _, _, _, h => by
    obtain ⟨rs, hr, hne, hi⟩ := hs n _ _ _ h
    exact wpAnyH_all hr hne (fun i hm => wpOp_mono (fun a w hh => ⟨hh.1, wpAnyH_merge h0 hs n _ _ _ hh.2⟩) (hi i hm))

def pvB (b : Bool) (p : Nat) : Value := if b then .pointer (some ⟨p, 0, none⟩) else undef
def cvB (c : Bool) (v : Value) : Value := if c then v else undef
def nfB (b : Bool) : Nat := if b then 0 else 1
/-- Calls come in their order. -/
def chB (c1 c2 c3 c4 : Bool) : Bool := (!c2 || c1) && (!c3 || c2) && (!c4 || c3)
theorem chB_step0 {c2 c3 c4 : Bool} (h : chB false c2 c3 c4 = true) : chB true c2 c3 c4 = true := by revert h; cases c2 <;> cases c3 <;> cases c4 <;> decide
theorem chB_step1 {c3 c4 : Bool} (h : chB true false c3 c4 = true) : chB true true c3 c4 = true := by revert h; cases c3 <;> cases c4 <;> decide
theorem chB_step2 {c1 c4 : Bool} (h : chB c1 true false c4 = true) : chB true true true c4 = true := by revert h; cases c1 <;> cases c4 <;> decide
theorem chB_step3 {c1 c2 : Bool} (_ : chB c1 c2 true false = true) : chB true true true true = true := by decide
theorem nfB_zero {c1 c2 c3 c4 b0 b1 b2 b3 : Bool} (h : 0 = nfB c1 + nfB c2 + nfB c3 + nfB c4 + nfB b0 + nfB b1 + nfB b2 + nfB b3) : c1 = true ∧ c2 = true ∧ c3 = true ∧ c4 = true ∧ b0 = true ∧ b1 = true ∧ b2 = true ∧ b3 = true := by
  revert h; cases c1 <;> cases c2 <;> cases c3 <;> cases c4 <;> cases b0 <;> cases b1 <;> cases b2 <;> cases b3 <;> simp [nfB]
theorem nfB_some {n : Nat} {c1 c2 c3 c4 b0 b1 b2 b3 : Bool} (h : n + 1 = nfB c1 + nfB c2 + nfB c3 + nfB c4 + nfB b0 + nfB b1 + nfB b2 + nfB b3) : (c1 && c2 && c3 && c4 && b0 && b1 && b2 && b3) = false := by
  cases e : (c1 && c2 && c3 && c4 && b0 && b1 && b2 && b3) with
  | false => rfl
  | true =>
    simp only [Bool.and_eq_true] at e
    obtain ⟨⟨⟨⟨⟨⟨⟨rfl, rfl⟩, rfl⟩, rfl⟩, rfl⟩, rfl⟩, rfl⟩, rfl⟩ := e
    simp [nfB] at h
/-- What may come up next. -/
def okI (c1 c2 c3 c4 b0 b1 b2 b3 : Bool) (i : Nat) : Bool :=
  (i == 10 && !b0) || (i == 11 && !b1) || (i == 12 && !b2) || (i == 13 && !b3) || (i == 1 && !c1) || (i == 3 && c1 && !c2) || (i == 6 && (c1 && c2) && !c3) || (i == 9 && (c1 && c2 && c3) && !c4)
theorem okI_cases {c1 c2 c3 c4 b0 b1 b2 b3 : Bool} {i : Nat} (h : okI c1 c2 c3 c4 b0 b1 b2 b3 i = true) :
    (i = 10 ∧ b0 = false) ∨ (i = 11 ∧ b1 = false) ∨ (i = 12 ∧ b2 = false) ∨ (i = 13 ∧ b3 = false) ∨ (i = 1 ∧ c1 = false) ∨ (i = 3 ∧ c1 = true ∧ c2 = false) ∨ (i = 6 ∧ (c1 = true ∧ c2 = true) ∧ c3 = false) ∨ (i = 9 ∧ (c1 = true ∧ c2 = true ∧ c3 = true) ∧ c4 = false) := by
  simp only [okI, Bool.or_eq_true, Bool.and_eq_true, beq_iff_eq, Bool.not_eq_true'] at h
  rcases h with ((((((h | h) | h) | h) | h) | h) | h) | h
  · exact .inl h
  · exact .inr (.inl h)
  · exact .inr (.inr (.inl h))
  · exact .inr (.inr (.inr (.inl h)))
  · exact .inr (.inr (.inr (.inr (.inl h))))
  · exact .inr (.inr (.inr (.inr (.inr (.inl ⟨h.1.1, h.1.2, h.2⟩)))))
  · exact .inr (.inr (.inr (.inr (.inr (.inr (.inl ⟨h.1.1, h.1.2, h.2⟩))))))
  · exact .inr (.inr (.inr (.inr (.inr (.inr (.inr ⟨h.1.1, ⟨h.1.2.1.1, h.1.2.1.2, h.1.2.2⟩, h.2⟩))))))

/-- Four new blocks, of which some are laid, empty. -/
def z4 : Array Value := #[.int .i64 0, .int .i64 0, .int .i64 0, .int .i64 0]
structure NB4 (w0 : World) (T : TypeId) (b0 b1 b2 b3 : Bool) (p0 p1 p2 p3 : Nat) (w : World) : Prop where
  b : Below w0.heap.size w0 w
  e0 : b0 = true → w0.heap.size ≤ p0 ∧ w.heap[p0]? = some (.cells z4 T (0, 0))
  e1 : b1 = true → w0.heap.size ≤ p1 ∧ w.heap[p1]? = some (.cells z4 T (0, 0))
  e2 : b2 = true → w0.heap.size ≤ p2 ∧ w.heap[p2]? = some (.cells z4 T (0, 0))
  e3 : b3 = true → w0.heap.size ≤ p3 ∧ w.heap[p3]? = some (.cells z4 T (0, 0))
  n01 : b0 = true → b1 = true → p0 ≠ p1
  n02 : b0 = true → b2 = true → p0 ≠ p2
  n03 : b0 = true → b3 = true → p0 ≠ p3
  n12 : b1 = true → b2 = true → p1 ≠ p2
  n13 : b1 = true → b3 = true → p1 ≠ p3
  n23 : b2 = true → b3 = true → p2 ≠ p3
structure B4 (w0 : World) (T : TypeId) (p0 p1 p2 p3 : Nat) (k0 k1 k2 k3 : Array Value) (w : World) : Prop where
  b : Below w0.heap.size w0 w
  l0 : w0.heap.size ≤ p0
  l1 : w0.heap.size ≤ p1
  l2 : w0.heap.size ≤ p2
  l3 : w0.heap.size ≤ p3
  h0 : w.heap[p0]? = some (.cells k0 T (0, 0))
  h1 : w.heap[p1]? = some (.cells k1 T (0, 0))
  h2 : w.heap[p2]? = some (.cells k2 T (0, 0))
  h3 : w.heap[p3]? = some (.cells k3 T (0, 0))
  n01 : p0 ≠ p1
  n02 : p0 ≠ p2
  n03 : p0 ≠ p3
  n12 : p1 ≠ p2
  n13 : p1 ≠ p3
  n23 : p2 ≠ p3

section
variable {w0 w w' : World} {T : TypeId} {b0 b1 b2 b3 : Bool} {p0 p1 p2 p3 p k : Nat} {k0 k1 k2 k3 : Array Value} {z0 z1 z2 z3 a b c d : Value}
theorem NB4.start (w : World) (T : TypeId) : NB4 w T false false false false 0 0 0 0 w := ⟨Below.refl _ _, nofun, nofun, nofun, nofun, nofun, nofun, nofun, nofun, nofun, nofun⟩
theorem keep_blk {o : Obj} (h : w.heap[p]? = some o) (hb : Below w.heap.size w w') : w'.heap[p]? = some o := (hb.block _ (block_lt h)).trans h
theorem NB4.step (h : NB4 w0 T b0 b1 b2 b3 p0 p1 p2 p3 w) (hb : Below w.heap.size w w') : NB4 w0 T b0 b1 b2 b3 p0 p1 p2 p3 w' :=
  ⟨h.b.trans (hb.mono h.b.size), fun e => ⟨(h.e0 e).1, keep_blk (h.e0 e).2 hb⟩, fun e => ⟨(h.e1 e).1, keep_blk (h.e1 e).2 hb⟩, fun e => ⟨(h.e2 e).1, keep_blk (h.e2 e).2 hb⟩, fun e => ⟨(h.e3 e).1, keep_blk (h.e3 e).2 hb⟩, h.n01, h.n02, h.n03, h.n12, h.n13, h.n23⟩
theorem NB4.alloc0 (h : NB4 w0 T false b1 b2 b3 p0 p1 p2 p3 w) : NB4 w0 T true b1 b2 b3 w.heap.size p1 p2 p3 (w.alloc (.cells z4 T)) := by
  have h' := h.step ((Below.refl _ _).alloc (Nat.le_refl _) (.cells z4 T))
  exact ⟨h'.b, fun _ => ⟨h.b.size, heap_alloc_new _ _⟩, h'.e1, h'.e2, h'.e3, fun _ e => (Nat.ne_of_lt (block_lt (h.e1 e).2)).symm, fun _ e => (Nat.ne_of_lt (block_lt (h.e2 e).2)).symm, fun _ e => (Nat.ne_of_lt (block_lt (h.e3 e).2)).symm, h.n12, h.n13, h.n23⟩
theorem NB4.alloc1 (h : NB4 w0 T b0 false b2 b3 p0 p1 p2 p3 w) : NB4 w0 T b0 true b2 b3 p0 w.heap.size p2 p3 (w.alloc (.cells z4 T)) := by
  have h' := h.step ((Below.refl _ _).alloc (Nat.le_refl _) (.cells z4 T))
  exact ⟨h'.b, h'.e0, fun _ => ⟨h.b.size, heap_alloc_new _ _⟩, h'.e2, h'.e3, fun e _ => Nat.ne_of_lt (block_lt (h.e0 e).2), h.n02, h.n03, fun _ e => (Nat.ne_of_lt (block_lt (h.e2 e).2)).symm, fun _ e => (Nat.ne_of_lt (block_lt (h.e3 e).2)).symm, h.n23⟩
theorem NB4.alloc2 (h : NB4 w0 T b0 b1 false b3 p0 p1 p2 p3 w) : NB4 w0 T b0 b1 true b3 p0 p1 w.heap.size p3 (w.alloc (.cells z4 T)) := by
  have h' := h.step ((Below.refl _ _).alloc (Nat.le_refl _) (.cells z4 T))
  exact ⟨h'.b, h'.e0, h'.e1, fun _ => ⟨h.b.size, heap_alloc_new _ _⟩, h'.e3, h.n01, fun e _ => Nat.ne_of_lt (block_lt (h.e0 e).2), h.n03, fun e _ => Nat.ne_of_lt (block_lt (h.e1 e).2), h.n13, fun _ e => (Nat.ne_of_lt (block_lt (h.e3 e).2)).symm⟩
theorem NB4.alloc3 (h : NB4 w0 T b0 b1 b2 false p0 p1 p2 p3 w) : NB4 w0 T b0 b1 b2 true p0 p1 p2 w.heap.size (w.alloc (.cells z4 T)) := by
  have h' := h.step ((Below.refl _ _).alloc (Nat.le_refl _) (.cells z4 T))
  exact ⟨h'.b, h'.e0, h'.e1, h'.e2, fun _ => ⟨h.b.size, heap_alloc_new _ _⟩, h.n01, h.n02, fun e _ => Nat.ne_of_lt (block_lt (h.e0 e).2), h.n12, fun e _ => Nat.ne_of_lt (block_lt (h.e1 e).2), fun e _ => Nat.ne_of_lt (block_lt (h.e2 e).2)⟩
theorem NB4.full (h : NB4 w0 T true true true true p0 p1 p2 p3 w) : B4 w0 T p0 p1 p2 p3 z4 z4 z4 z4 w :=
  ⟨h.b, (h.e0 rfl).1, (h.e1 rfl).1, (h.e2 rfl).1, (h.e3 rfl).1, (h.e0 rfl).2, (h.e1 rfl).2, (h.e2 rfl).2, (h.e3 rfl).2, h.n01 rfl rfl, h.n02 rfl rfl, h.n03 rfl rfl, h.n12 rfl rfl, h.n13 rfl rfl, h.n23 rfl rfl⟩
theorem blk_cells4 (h : w.heap[p]? = some (.cells #[z0, z1, z2, z3] T (0, 0))) : w.cell? ⟨p, 0, none⟩ = some z0 ∧ w.cell? ⟨p, 1, none⟩ = some z1 ∧ w.cell? ⟨p, 2, none⟩ = some z2 ∧ w.cell? ⟨p, 3, none⟩ = some z3 ∧ w.frozen? ⟨p, 0, none⟩ = false ∧ w.frozen? ⟨p, 1, none⟩ = false ∧ w.frozen? ⟨p, 2, none⟩ = false ∧ w.frozen? ⟨p, 3, none⟩ = false ∧ p < w.heap.size := by
  have hl := block_lt h
  refine ⟨?_, ?_, ?_, ?_, ?_, ?_, ?_, ?_, hl⟩ <;> first | (simp only [World.cell?]; rw [h]; rfl) | (simp only [World.frozen?]; rw [h]; simp)
theorem B4.c0 (h : B4 w0 T p0 p1 p2 p3 z4 k1 k2 k3 w) : w.cell? ⟨p0, 0, none⟩ = some (.int .i64 0) ∧ w.cell? ⟨p0, 1, none⟩ = some (.int .i64 0) ∧ w.cell? ⟨p0, 2, none⟩ = some (.int .i64 0) ∧ w.cell? ⟨p0, 3, none⟩ = some (.int .i64 0) ∧ w.frozen? ⟨p0, 0, none⟩ = false ∧ w.frozen? ⟨p0, 1, none⟩ = false ∧ w.frozen? ⟨p0, 2, none⟩ = false ∧ w.frozen? ⟨p0, 3, none⟩ = false ∧ p0 < w.heap.size := blk_cells4 h.h0
theorem B4.c1 (h : B4 w0 T p0 p1 p2 p3 k0 z4 k2 k3 w) : w.cell? ⟨p1, 0, none⟩ = some (.int .i64 0) ∧ w.cell? ⟨p1, 1, none⟩ = some (.int .i64 0) ∧ w.cell? ⟨p1, 2, none⟩ = some (.int .i64 0) ∧ w.cell? ⟨p1, 3, none⟩ = some (.int .i64 0) ∧ w.frozen? ⟨p1, 0, none⟩ = false ∧ w.frozen? ⟨p1, 1, none⟩ = false ∧ w.frozen? ⟨p1, 2, none⟩ = false ∧ w.frozen? ⟨p1, 3, none⟩ = false ∧ p1 < w.heap.size := blk_cells4 h.h1
theorem B4.c2 (h : B4 w0 T p0 p1 p2 p3 k0 k1 z4 k3 w) : w.cell? ⟨p2, 0, none⟩ = some (.int .i64 0) ∧ w.cell? ⟨p2, 1, none⟩ = some (.int .i64 0) ∧ w.cell? ⟨p2, 2, none⟩ = some (.int .i64 0) ∧ w.cell? ⟨p2, 3, none⟩ = some (.int .i64 0) ∧ w.frozen? ⟨p2, 0, none⟩ = false ∧ w.frozen? ⟨p2, 1, none⟩ = false ∧ w.frozen? ⟨p2, 2, none⟩ = false ∧ w.frozen? ⟨p2, 3, none⟩ = false ∧ p2 < w.heap.size := blk_cells4 h.h2
theorem B4.c3 (h : B4 w0 T p0 p1 p2 p3 k0 k1 k2 z4 w) : w.cell? ⟨p3, 0, none⟩ = some (.int .i64 0) ∧ w.cell? ⟨p3, 1, none⟩ = some (.int .i64 0) ∧ w.cell? ⟨p3, 2, none⟩ = some (.int .i64 0) ∧ w.cell? ⟨p3, 3, none⟩ = some (.int .i64 0) ∧ w.frozen? ⟨p3, 0, none⟩ = false ∧ w.frozen? ⟨p3, 1, none⟩ = false ∧ w.frozen? ⟨p3, 2, none⟩ = false ∧ w.frozen? ⟨p3, 3, none⟩ = false ∧ p3 < w.heap.size := blk_cells4 h.h3
theorem heap_put4 (h : w.heap[p]? = some (.cells #[z0, z1, z2, z3] T (0, 0))) : ((((w.setCell ⟨p, 0, none⟩ a).setCell ⟨p, 1, none⟩ b).setCell ⟨p, 2, none⟩ c).setCell ⟨p, 3, none⟩ d).heap[p]? = some (.cells #[a, b, c, d] T (0, 0)) := by
  simp [World.setCell, Array.getElem?_modify, h]
theorem heap_put4o (hk : k ≠ p) : ((((w.setCell ⟨p, 0, none⟩ a).setCell ⟨p, 1, none⟩ b).setCell ⟨p, 2, none⟩ c).setCell ⟨p, 3, none⟩ d).heap[k]? = w.heap[k]? := by
  rw [Below.heap_setCell _ _ _ _ hk, Below.heap_setCell _ _ _ _ hk, Below.heap_setCell _ _ _ _ hk, Below.heap_setCell _ _ _ _ hk]
theorem below_put4 {B : Nat} (h : Below B w0 w) (hp : B ≤ p) : Below B w0 ((((w.setCell ⟨p, 0, none⟩ a).setCell ⟨p, 1, none⟩ b).setCell ⟨p, 2, none⟩ c).setCell ⟨p, 3, none⟩ d) := (((h.setCell hp a).setCell hp b).setCell hp c).setCell hp d
theorem B4.put0 (h : B4 w0 T p0 p1 p2 p3 z4 k1 k2 k3 w) (a b c d : Value) : B4 w0 T p0 p1 p2 p3 #[a, b, c, d] k1 k2 k3 ((((w.setCell ⟨p0, 0, none⟩ a).setCell ⟨p0, 1, none⟩ b).setCell ⟨p0, 2, none⟩ c).setCell ⟨p0, 3, none⟩ d) :=
  ⟨below_put4 h.b h.l0, h.l0, h.l1, h.l2, h.l3, heap_put4 h.h0, (heap_put4o h.n01.symm).trans h.h1, (heap_put4o h.n02.symm).trans h.h2, (heap_put4o h.n03.symm).trans h.h3, h.n01, h.n02, h.n03, h.n12, h.n13, h.n23⟩
theorem B4.put1 (h : B4 w0 T p0 p1 p2 p3 k0 z4 k2 k3 w) (a b c d : Value) : B4 w0 T p0 p1 p2 p3 k0 #[a, b, c, d] k2 k3 ((((w.setCell ⟨p1, 0, none⟩ a).setCell ⟨p1, 1, none⟩ b).setCell ⟨p1, 2, none⟩ c).setCell ⟨p1, 3, none⟩ d) :=
  ⟨below_put4 h.b h.l1, h.l0, h.l1, h.l2, h.l3, (heap_put4o h.n01).trans h.h0, heap_put4 h.h1, (heap_put4o h.n12.symm).trans h.h2, (heap_put4o h.n13.symm).trans h.h3, h.n01, h.n02, h.n03, h.n12, h.n13, h.n23⟩
theorem B4.put2 (h : B4 w0 T p0 p1 p2 p3 k0 k1 z4 k3 w) (a b c d : Value) : B4 w0 T p0 p1 p2 p3 k0 k1 #[a, b, c, d] k3 ((((w.setCell ⟨p2, 0, none⟩ a).setCell ⟨p2, 1, none⟩ b).setCell ⟨p2, 2, none⟩ c).setCell ⟨p2, 3, none⟩ d) :=
  ⟨below_put4 h.b h.l2, h.l0, h.l1, h.l2, h.l3, (heap_put4o h.n02).trans h.h0, (heap_put4o h.n12).trans h.h1, heap_put4 h.h2, (heap_put4o h.n23.symm).trans h.h3, h.n01, h.n02, h.n03, h.n12, h.n13, h.n23⟩
theorem B4.put3 (h : B4 w0 T p0 p1 p2 p3 k0 k1 k2 z4 w) (a b c d : Value) : B4 w0 T p0 p1 p2 p3 k0 k1 k2 #[a, b, c, d] ((((w.setCell ⟨p3, 0, none⟩ a).setCell ⟨p3, 1, none⟩ b).setCell ⟨p3, 2, none⟩ c).setCell ⟨p3, 3, none⟩ d) :=
  ⟨below_put4 h.b h.l3, h.l0, h.l1, h.l2, h.l3, (heap_put4o h.n03).trans h.h0, (heap_put4o h.n13).trans h.h1, (heap_put4o h.n23).trans h.h2, heap_put4 h.h3, h.n01, h.n02, h.n03, h.n12, h.n13, h.n23⟩
theorem B4.step (h : B4 w0 T p0 p1 p2 p3 k0 k1 k2 k3 w) (hb : Below w.heap.size w w') : B4 w0 T p0 p1 p2 p3 k0 k1 k2 k3 w' :=
  ⟨h.b.trans (hb.mono h.b.size), h.l0, h.l1, h.l2, h.l3, keep_blk h.h0 hb, keep_blk h.h1 hb, keep_blk h.h2 hb, keep_blk h.h3 hb, h.n01, h.n02, h.n03, h.n12, h.n13, h.n23⟩
end

/-- The operations of the region that measures (Pc). -/
def opsPc : Array Oper := #[{ dst := some 14, op := Op.load 32 (Operand.tmp 3), type := 32, pos := "pair.go:53", after := #[], guard := none }, { dst := some 15, op := Op.call { callee := Callee.value (Operand.func 70), args := #[Operand.tmp 14], argTypes := #[32] }, type := 99, pos := "pair.go:53", after := #[{ on := 0, ground := Ground.data }], guard := none }, { dst := some 16, op := Op.load 32 (Operand.tmp 4), type := 32, pos := "pair.go:53", after := #[], guard := none }, { dst := some 17, op := Op.call { callee := Callee.value (Operand.func 70), args := #[Operand.tmp 16], argTypes := #[32] }, type := 99, pos := "pair.go:53", after := #[{ on := 2, ground := Ground.data }, { on := 1, ground := Ground.chain }], guard := none }, { dst := some 18, op := Op.fieldAddr 34 (Operand.tmp 5) 0, type := 0, pos := "pair.go:53", after := #[], guard := none }, { dst := some 19, op := Op.load 32 (Operand.tmp 18), type := 32, pos := "pair.go:53", after := #[{ on := 4, ground := Ground.data }], guard := none }, { dst := some 20, op := Op.call { callee := Callee.value (Operand.func 70), args := #[Operand.tmp 19], argTypes := #[32] }, type := 99, pos := "pair.go:53", after := #[{ on := 5, ground := Ground.data }, { on := 3, ground := Ground.chain }], guard := none }, { dst := some 21, op := Op.fieldAddr 34 (Operand.tmp 5) 1, type := 0, pos := "pair.go:53", after := #[], guard := none }, { dst := some 22, op := Op.load 32 (Operand.tmp 21), type := 32, pos := "pair.go:53", after := #[{ on := 7, ground := Ground.data }], guard := none }, { dst := some 23, op := Op.call { callee := Callee.value (Operand.func 70), args := #[Operand.tmp 22], argTypes := #[32] }, type := 99, pos := "pair.go:53", after := #[{ on := 8, ground := Ground.data }, { on := 6, ground := Ground.chain }], guard := none }, { dst := some 7, op := Op.alloc 99, type := 0, pos := "pair.go:53", after := #[], guard := none }, { dst := some 8, op := Op.alloc 99, type := 0, pos := "pair.go:53", after := #[], guard := none }, { dst := some 9, op := Op.alloc 99, type := 0, pos := "pair.go:53", after := #[], guard := none }, { dst := some 10, op := Op.alloc 99, type := 0, pos := "pair.go:53", after := #[], guard := none }, { dst := none, op := Op.store 99 (Operand.tmp 7) (Operand.tmp 15), type := 0, pos := "pair.go:53", after := #[{ on := 10, ground := Ground.data }, { on := 1, ground := Ground.data }, { on := 9, ground := Ground.chain }, { on := 0, ground := Ground.phase }, { on := 1, ground := Ground.phase }, { on := 2, ground := Ground.textOnly Departure.lateStores }, { on := 3, ground := Ground.textOnly Departure.lateStoresUnsure }, { on := 4, ground := Ground.textOnly Departure.lateStores }, { on := 5, ground := Ground.textOnly Departure.lateStores }, { on := 6, ground := Ground.textOnly Departure.lateStoresUnsure }, { on := 7, ground := Ground.textOnly Departure.lateStores }, { on := 8, ground := Ground.textOnly Departure.lateStores }, { on := 9, ground := Ground.textOnly Departure.lateStoresUnsure }, { on := 10, ground := Ground.phase }, { on := 11, ground := Ground.phase }, { on := 12, ground := Ground.phase }, { on := 13, ground := Ground.phase }], guard := none }, { dst := none, op := Op.store 99 (Operand.tmp 8) (Operand.tmp 17), type := 0, pos := "pair.go:53", after := #[{ on := 11, ground := Ground.data }, { on := 3, ground := Ground.data }, { on := 14, ground := Ground.chain }, { on := 0, ground := Ground.phase }, { on := 1, ground := Ground.phase }, { on := 2, ground := Ground.phase }, { on := 3, ground := Ground.phase }, { on := 4, ground := Ground.textOnly Departure.lateStores }, { on := 5, ground := Ground.textOnly Departure.lateStores }, { on := 6, ground := Ground.textOnly Departure.lateStoresUnsure }, { on := 7, ground := Ground.textOnly Departure.lateStores }, { on := 8, ground := Ground.textOnly Departure.lateStores }, { on := 9, ground := Ground.textOnly Departure.lateStoresUnsure }, { on := 10, ground := Ground.phase }, { on := 11, ground := Ground.phase }, { on := 12, ground := Ground.phase }, { on := 13, ground := Ground.phase }, { on := 14, ground := Ground.phase }], guard := none }, { dst := none, op := Op.store 99 (Operand.tmp 9) (Operand.tmp 20), type := 0, pos := "pair.go:53", after := #[{ on := 12, ground := Ground.data }, { on := 6, ground := Ground.data }, { on := 15, ground := Ground.chain }, { on := 0, ground := Ground.phase }, { on := 1, ground := Ground.phase }, { on := 2, ground := Ground.phase }, { on := 3, ground := Ground.phase }, { on := 4, ground := Ground.phase }, { on := 5, ground := Ground.phase }, { on := 6, ground := Ground.phase }, { on := 7, ground := Ground.textOnly Departure.lateStores }, { on := 8, ground := Ground.textOnly Departure.lateStores }, { on := 9, ground := Ground.textOnly Departure.lateStoresUnsure }, { on := 10, ground := Ground.phase }, { on := 11, ground := Ground.phase }, { on := 12, ground := Ground.phase }, { on := 13, ground := Ground.phase }, { on := 14, ground := Ground.phase }, { on := 15, ground := Ground.phase }], guard := none }, { dst := none, op := Op.store 99 (Operand.tmp 10) (Operand.tmp 23), type := 0, pos := "pair.go:53", after := #[{ on := 13, ground := Ground.data }, { on := 9, ground := Ground.data }, { on := 16, ground := Ground.chain }, { on := 0, ground := Ground.phase }, { on := 1, ground := Ground.phase }, { on := 2, ground := Ground.phase }, { on := 3, ground := Ground.phase }, { on := 4, ground := Ground.phase }, { on := 5, ground := Ground.phase }, { on := 6, ground := Ground.phase }, { on := 7, ground := Ground.phase }, { on := 8, ground := Ground.phase }, { on := 9, ground := Ground.phase }, { on := 10, ground := Ground.phase }, { on := 11, ground := Ground.phase }, { on := 12, ground := Ground.phase }, { on := 13, ground := Ground.phase }, { on := 14, ground := Ground.phase }, { on := 15, ground := Ground.phase }, { on := 16, ground := Ground.phase }], guard := none }]

def MPc (w : World) (T0 T1 T2 T3 T4 T5 T6 PA PB : Value) (a0 a1 a2 a3 p0 p1 p2 p3 x0 x1 x2 x3 y0 y1 y2 y3 : Int) (n : Nat) (listed : Array Bool) (a : Act) (w2 : World) : Prop :=
  ∃ (c1 c2 c3 c4 b0 b1 b2 b3 : Bool) (q0 q1 q2 q3 : Nat), n = nfB c1 + nfB c2 + nfB c3 + nfB c4 + nfB b0 + nfB b1 + nfB b2 + nfB b3 ∧ chB c1 c2 c3 c4 = true ∧ listed = #[true, c1, true, c2, true, true, c3, true, true, c4, b0, b1, b2, b3, false, false, false, false] ∧
    a = { tmps := #[T0, T1, T2, T3, T4, T5, T6, pvB b0 q0, pvB b1 q1, pvB b2 q2, pvB b3 q3, undef, undef, undef, .agg #[.int .i64 a0, .int .i64 a1, .int .i64 a2, .int .i64 a3], cvB c1 (.agg #[.int .i64 a0, .int .i64 a1, .int .i64 a2, .int .i64 a3]), .agg #[.int .i64 p0, .int .i64 p1, .int .i64 p2, .int .i64 p3], cvB c2 (.agg #[.int .i64 p0, .int .i64 p1, .int .i64 p2, .int .i64 p3]), PA, .agg #[.int .i64 x0, .int .i64 x1, .int .i64 x2, .int .i64 x3], cvB c3 (.agg #[.int .i64 x0, .int .i64 x1, .int .i64 x2, .int .i64 x3]), PB, .agg #[.int .i64 y0, .int .i64 y1, .int .i64 y2, .int .i64 y3], cvB c4 (.agg #[.int .i64 y0, .int .i64 y1, .int .i64 y2, .int .i64 y3]), undef, undef, undef, undef, undef, undef, undef, undef, undef, undef, undef, undef, undef, undef, undef, undef, undef, undef, undef, undef, undef, undef, undef, undef, undef, undef, undef, undef, undef, undef, undef, undef], defers := [] } ∧ NB4 w 99 b0 b1 b2 b3 q0 q1 q2 q3 w2

theorem readyPc : ∀ c1 c2 c3 c4 b0 b1 b2 b3 : Bool, chB c1 c2 c3 c4 = true → (c1 && c2 && c3 && c4 && b0 && b1 && b2 && b3) = false →
    Region.ready .any opsPc #[true, c1, true, c2, true, true, c3, true, true, c4, b0, b1, b2, b3, false, false, false, false] ≠ [] ∧ (Region.ready .any opsPc #[true, c1, true, c2, true, true, c3, true, true, c4, b0, b1, b2, b3, false, false, false, false]).all (fun i => okI c1 c2 c3 c4 b0 b1 b2 b3 i) = true := by decide +kernel

set_option maxRecDepth 100000 in
set_option maxHeartbeats 1600000 in
theorem mergePc (T0 T1 T2 T3 T4 T5 T6 PA PB : Value) (a0 a1 a2 a3 p0 p1 p2 p3 x0 x1 x2 x3 y0 y1 y2 y3 : Int) (Q : Exit → Act → World → Prop) (Sx : World → Prop) (w : World) (hS : ∀ w', Below w.heap.size w w' → Sx w')
    (hQ : ∀ q0 q1 q2 q3 w', B4 w 99 q0 q1 q2 q3 #[.int .i64 a0, .int .i64 a1, .int .i64 a2, .int .i64 a3] #[.int .i64 p0, .int .i64 p1, .int .i64 p2, .int .i64 p3] #[.int .i64 x0, .int .i64 x1, .int .i64 x2, .int .i64 x3] #[.int .i64 y0, .int .i64 y1, .int .i64 y2, .int .i64 y3] w' → Q .normal { tmps := #[T0, T1, T2, T3, T4, T5, T6, .pointer (some ⟨q0, 0, none⟩), .pointer (some ⟨q1, 0, none⟩), .pointer (some ⟨q2, 0, none⟩), .pointer (some ⟨q3, 0, none⟩), undef, undef, undef, .agg #[.int .i64 a0, .int .i64 a1, .int .i64 a2, .int .i64 a3], .agg #[.int .i64 a0, .int .i64 a1, .int .i64 a2, .int .i64 a3], .agg #[.int .i64 p0, .int .i64 p1, .int .i64 p2, .int .i64 p3], .agg #[.int .i64 p0, .int .i64 p1, .int .i64 p2, .int .i64 p3], PA, .agg #[.int .i64 x0, .int .i64 x1, .int .i64 x2, .int .i64 x3], .agg #[.int .i64 x0, .int .i64 x1, .int .i64 x2, .int .i64 x3], PB, .agg #[.int .i64 y0, .int .i64 y1, .int .i64 y2, .int .i64 y3], .agg #[.int .i64 y0, .int .i64 y1, .int .i64 y2, .int .i64 y3], undef, undef, undef, undef, undef, undef, undef, undef, undef, undef, undef, undef, undef, undef, undef, undef, undef, undef, undef, undef, undef, undef, undef, undef, undef, undef, undef, undef, undef, undef, undef, undef], defers := [] } w') :
    wpAnyH Try.prog .any opsPc Q Sx 12 #[true, false, true, false, true, true, false, true, true, false, false, false, false, false, false, false, false, false] { tmps := #[T0, T1, T2, T3, T4, T5, T6, undef, undef, undef, undef, undef, undef, undef, .agg #[.int .i64 a0, .int .i64 a1, .int .i64 a2, .int .i64 a3], undef, .agg #[.int .i64 p0, .int .i64 p1, .int .i64 p2, .int .i64 p3], undef, PA, .agg #[.int .i64 x0, .int .i64 x1, .int .i64 x2, .int .i64 x3], undef, PB, .agg #[.int .i64 y0, .int .i64 y1, .int .i64 y2, .int .i64 y3], undef, undef, undef, undef, undef, undef, undef, undef, undef, undef, undef, undef, undef, undef, undef, undef, undef, undef, undef, undef, undef, undef, undef, undef, undef, undef, undef, undef, undef, undef, undef, undef, undef], defers := [] } w := by
  have HS := Lib.hid hS
  have HQ := Lib.hid hQ
  clear hS hQ
  refine wpAnyH_merge (M := MPc w T0 T1 T2 T3 T4 T5 T6 PA PB a0 a1 a2 a3 p0 p1 p2 p3 x0 x1 x2 x3 y0 y1 y2 y3) (f0 := 4) ?_ ?_ 8 _ _ _ ⟨false, false, false, false, false, false, false, false, 0, 0, 0, 0, rfl, rfl, rfl, rfl, NB4.start _ _⟩
  · rintro listed a w2 ⟨c1, c2, c3, c4, b0, b1, b2, b3, q0, q1, q2, q3, hn, -, rfl, rfl, hN⟩
    obtain ⟨rfl, rfl, rfl, rfl, rfl, rfl, rfl, rfl⟩ := nfB_zero hn
    have h0 := hN.full
    clear hN hn
    simp only [pvB, cvB, if_true]
    unfold opsPc
    refine wpAnyH_ready (rs := [14]) (by kernel_rfl) (by simp) ?_
    refine (AllReadyH.cons (o := { dst := none, op := Op.store 99 (Operand.tmp 7) (Operand.tmp 15), type := 0, pos := "pair.go:53", after := #[{ on := 10, ground := Ground.data }, { on := 1, ground := Ground.data }, { on := 9, ground := Ground.chain }, { on := 0, ground := Ground.phase }, { on := 1, ground := Ground.phase }, { on := 2, ground := Ground.textOnly Departure.lateStores }, { on := 3, ground := Ground.textOnly Departure.lateStoresUnsure }, { on := 4, ground := Ground.textOnly Departure.lateStores }, { on := 5, ground := Ground.textOnly Departure.lateStores }, { on := 6, ground := Ground.textOnly Departure.lateStoresUnsure }, { on := 7, ground := Ground.textOnly Departure.lateStores }, { on := 8, ground := Ground.textOnly Departure.lateStores }, { on := 9, ground := Ground.textOnly Departure.lateStoresUnsure }, { on := 10, ground := Ground.phase }, { on := 11, ground := Ground.phase }, { on := 12, ground := Ground.phase }, { on := 13, ground := Ground.phase }], guard := none }) rfl (fun K hK => ?_) AllReadyH.nil)
    obtain ⟨d0, d1, d2, d3, f0, f1, f2, f3, l0⟩ := h0.c0
    go_simp
    have h1 := h0.put0 (.int .i64 a0) (.int .i64 a1) (.int .i64 a2) (.int .i64 a3)
    clear d0 d1 d2 d3 f0 f1 f2 f3 l0 h0
    refine hK.out _ _ (HS.out _ h1.b) (fun hHeld => ?_)
    clear hK K
    (try simp only [Act.put, List.setIfInBounds_toArray, List.set_cons_zero, List.set_cons_succ])
    obtain ⟨wy0, hwy⟩ : ∃ z, z = ((((w2.setCell ⟨q0, 0, none⟩ (.int .i64 a0)).setCell ⟨q0, 1, none⟩ (.int .i64 a1)).setCell ⟨q0, 2, none⟩ (.int .i64 a2)).setCell ⟨q0, 3, none⟩ (.int .i64 a3)) := ⟨_, rfl⟩
    rw [← hwy] at h1 hHeld ⊢
    clear hwy
    refine wpAnyH_ready (rs := [15]) (by kernel_rfl) (by simp) ?_
    refine (AllReadyH.cons (o := { dst := none, op := Op.store 99 (Operand.tmp 8) (Operand.tmp 17), type := 0, pos := "pair.go:53", after := #[{ on := 11, ground := Ground.data }, { on := 3, ground := Ground.data }, { on := 14, ground := Ground.chain }, { on := 0, ground := Ground.phase }, { on := 1, ground := Ground.phase }, { on := 2, ground := Ground.phase }, { on := 3, ground := Ground.phase }, { on := 4, ground := Ground.textOnly Departure.lateStores }, { on := 5, ground := Ground.textOnly Departure.lateStores }, { on := 6, ground := Ground.textOnly Departure.lateStoresUnsure }, { on := 7, ground := Ground.textOnly Departure.lateStores }, { on := 8, ground := Ground.textOnly Departure.lateStores }, { on := 9, ground := Ground.textOnly Departure.lateStoresUnsure }, { on := 10, ground := Ground.phase }, { on := 11, ground := Ground.phase }, { on := 12, ground := Ground.phase }, { on := 13, ground := Ground.phase }, { on := 14, ground := Ground.phase }], guard := none }) rfl (fun K hK => ?_) AllReadyH.nil)
    obtain ⟨d0, d1, d2, d3, f0, f1, f2, f3, l0⟩ := h1.c1
    go_simp
    have h2 := h1.put1 (.int .i64 p0) (.int .i64 p1) (.int .i64 p2) (.int .i64 p3)
    clear d0 d1 d2 d3 f0 f1 f2 f3 l0 h1
    refine hK.out _ _ (HS.out _ h2.b) (fun hHeld => ?_)
    clear hK K
    (try simp only [Act.put, List.setIfInBounds_toArray, List.set_cons_zero, List.set_cons_succ])
    obtain ⟨wy1, hwy⟩ : ∃ z, z = ((((wy0.setCell ⟨q1, 0, none⟩ (.int .i64 p0)).setCell ⟨q1, 1, none⟩ (.int .i64 p1)).setCell ⟨q1, 2, none⟩ (.int .i64 p2)).setCell ⟨q1, 3, none⟩ (.int .i64 p3)) := ⟨_, rfl⟩
    rw [← hwy] at h2 hHeld ⊢
    clear hwy
    refine wpAnyH_ready (rs := [16]) (by kernel_rfl) (by simp) ?_
    refine (AllReadyH.cons (o := { dst := none, op := Op.store 99 (Operand.tmp 9) (Operand.tmp 20), type := 0, pos := "pair.go:53", after := #[{ on := 12, ground := Ground.data }, { on := 6, ground := Ground.data }, { on := 15, ground := Ground.chain }, { on := 0, ground := Ground.phase }, { on := 1, ground := Ground.phase }, { on := 2, ground := Ground.phase }, { on := 3, ground := Ground.phase }, { on := 4, ground := Ground.phase }, { on := 5, ground := Ground.phase }, { on := 6, ground := Ground.phase }, { on := 7, ground := Ground.textOnly Departure.lateStores }, { on := 8, ground := Ground.textOnly Departure.lateStores }, { on := 9, ground := Ground.textOnly Departure.lateStoresUnsure }, { on := 10, ground := Ground.phase }, { on := 11, ground := Ground.phase }, { on := 12, ground := Ground.phase }, { on := 13, ground := Ground.phase }, { on := 14, ground := Ground.phase }, { on := 15, ground := Ground.phase }], guard := none }) rfl (fun K hK => ?_) AllReadyH.nil)
    obtain ⟨d0, d1, d2, d3, f0, f1, f2, f3, l0⟩ := h2.c2
    go_simp
    have h3 := h2.put2 (.int .i64 x0) (.int .i64 x1) (.int .i64 x2) (.int .i64 x3)
    clear d0 d1 d2 d3 f0 f1 f2 f3 l0 h2
    refine hK.out _ _ (HS.out _ h3.b) (fun hHeld => ?_)
    clear hK K
    (try simp only [Act.put, List.setIfInBounds_toArray, List.set_cons_zero, List.set_cons_succ])
    obtain ⟨wy2, hwy⟩ : ∃ z, z = ((((wy1.setCell ⟨q2, 0, none⟩ (.int .i64 x0)).setCell ⟨q2, 1, none⟩ (.int .i64 x1)).setCell ⟨q2, 2, none⟩ (.int .i64 x2)).setCell ⟨q2, 3, none⟩ (.int .i64 x3)) := ⟨_, rfl⟩
    rw [← hwy] at h3 hHeld ⊢
    clear hwy
    refine wpAnyH_ready (rs := [17]) (by kernel_rfl) (by simp) ?_
    refine (AllReadyH.cons (o := { dst := none, op := Op.store 99 (Operand.tmp 10) (Operand.tmp 23), type := 0, pos := "pair.go:53", after := #[{ on := 13, ground := Ground.data }, { on := 9, ground := Ground.data }, { on := 16, ground := Ground.chain }, { on := 0, ground := Ground.phase }, { on := 1, ground := Ground.phase }, { on := 2, ground := Ground.phase }, { on := 3, ground := Ground.phase }, { on := 4, ground := Ground.phase }, { on := 5, ground := Ground.phase }, { on := 6, ground := Ground.phase }, { on := 7, ground := Ground.phase }, { on := 8, ground := Ground.phase }, { on := 9, ground := Ground.phase }, { on := 10, ground := Ground.phase }, { on := 11, ground := Ground.phase }, { on := 12, ground := Ground.phase }, { on := 13, ground := Ground.phase }, { on := 14, ground := Ground.phase }, { on := 15, ground := Ground.phase }, { on := 16, ground := Ground.phase }], guard := none }) rfl (fun K hK => ?_) AllReadyH.nil)
    obtain ⟨d0, d1, d2, d3, f0, f1, f2, f3, l0⟩ := h3.c3
    go_simp
    have h4 := h3.put3 (.int .i64 y0) (.int .i64 y1) (.int .i64 y2) (.int .i64 y3)
    clear d0 d1 d2 d3 f0 f1 f2 f3 l0 h3
    refine hK.out _ _ (HS.out _ h4.b) (fun hHeld => ?_)
    clear hK K
    (try simp only [Act.put, List.setIfInBounds_toArray, List.set_cons_zero, List.set_cons_succ])
    obtain ⟨wy3, hwy⟩ : ∃ z, z = ((((wy2.setCell ⟨q3, 0, none⟩ (.int .i64 y0)).setCell ⟨q3, 1, none⟩ (.int .i64 y1)).setCell ⟨q3, 2, none⟩ (.int .i64 y2)).setCell ⟨q3, 3, none⟩ (.int .i64 y3)) := ⟨_, rfl⟩
    rw [← hwy] at h4 hHeld ⊢
    clear hwy
    refine wpAnyH_done (by kernel_rfl) ?_ _
    exact HQ.out _ _ _ _ _ h4
  · rintro n listed a w2 ⟨c1, c2, c3, c4, b0, b1, b2, b3, q0, q1, q2, q3, hn, hc, rfl, rfl, hN⟩
    obtain ⟨hne, hall⟩ := readyPc c1 c2 c3 c4 b0 b1 b2 b3 hc (nfB_some hn)
    refine ⟨_, rfl, hne, fun i hi => ?_⟩
    have hi2 := List.all_eq_true.1 hall i hi
    clear hne hall hi
    unfold opsPc
    rcases okI_cases hi2 with ⟨rfl, rfl⟩ | ⟨rfl, rfl⟩ | ⟨rfl, rfl⟩ | ⟨rfl, rfl⟩ | ⟨rfl, rfl⟩ | ⟨rfl, rfl, rfl⟩ | ⟨rfl, ⟨rfl, rfl⟩, rfl⟩ | ⟨rfl, ⟨rfl, rfl, rfl⟩, rfl⟩
    · have hN2 := hN.alloc0
      refine wpOp_step (o := { dst := some 7, op := Op.alloc 99, type := 0, pos := "pair.go:53", after := #[], guard := none }) rfl (fun K' hK => ?_)
      have HK := Lib.hid hK
      clear hK
      go_simp
      refine HK.out _ _ ⟨HS.out _ hN2.b, c1, c2, c3, c4, true, b1, b2, b3, w2.heap.size, q1, q2, q3, by simp [nfB] at hn ⊢; omega, hc, rfl, rfl, hN2⟩
    · have hN2 := hN.alloc1
      refine wpOp_step (o := { dst := some 8, op := Op.alloc 99, type := 0, pos := "pair.go:53", after := #[], guard := none }) rfl (fun K' hK => ?_)
      have HK := Lib.hid hK
      clear hK
      go_simp
      refine HK.out _ _ ⟨HS.out _ hN2.b, c1, c2, c3, c4, b0, true, b2, b3, q0, w2.heap.size, q2, q3, by simp [nfB] at hn ⊢; omega, hc, rfl, rfl, hN2⟩
    · have hN2 := hN.alloc2
      refine wpOp_step (o := { dst := some 9, op := Op.alloc 99, type := 0, pos := "pair.go:53", after := #[], guard := none }) rfl (fun K' hK => ?_)
      have HK := Lib.hid hK
      clear hK
      go_simp
      refine HK.out _ _ ⟨HS.out _ hN2.b, c1, c2, c3, c4, b0, b1, true, b3, q0, q1, w2.heap.size, q3, by simp [nfB] at hn ⊢; omega, hc, rfl, rfl, hN2⟩
    · have hN2 := hN.alloc3
      refine wpOp_step (o := { dst := some 10, op := Op.alloc 99, type := 0, pos := "pair.go:53", after := #[], guard := none }) rfl (fun K' hK => ?_)
      have HK := Lib.hid hK
      clear hK
      go_simp
      refine HK.out _ _ ⟨HS.out _ hN2.b, c1, c2, c3, c4, b0, b1, b2, true, q0, q1, q2, w2.heap.size, by simp [nfB] at hn ⊢; omega, hc, rfl, rfl, hN2⟩
    · refine wpOp_step (o := { dst := some 15, op := Op.call { callee := Callee.value (Operand.func 70), args := #[Operand.tmp 14], argTypes := #[32] }, type := 99, pos := "pair.go:53", after := #[{ on := 0, ground := Ground.data }], guard := none }) rfl (fun K' hK => ?_)
      have HK := Lib.hid hK
      clear hK
      go_simp
      go_at_call 70
      with_reducible (refine (measures_any a0 a1 a2 a3 _).mono ?_)
      rintro e w5 ⟨rfl, hb5⟩
      have hN2 := hN.step hb5
      (try go_wp2_with fail)
      refine HK.out _ _ ⟨HS.out _ hN2.b, true, c2, c3, c4, b0, b1, b2, b3, q0, q1, q2, q3, by simp [nfB] at hn ⊢; omega, chB_step0 hc, rfl, rfl, hN2⟩
    · refine wpOp_step (o := { dst := some 17, op := Op.call { callee := Callee.value (Operand.func 70), args := #[Operand.tmp 16], argTypes := #[32] }, type := 99, pos := "pair.go:53", after := #[{ on := 2, ground := Ground.data }, { on := 1, ground := Ground.chain }], guard := none }) rfl (fun K' hK => ?_)
      have HK := Lib.hid hK
      clear hK
      go_simp
      go_at_call 70
      with_reducible (refine (measures_any p0 p1 p2 p3 _).mono ?_)
      rintro e w5 ⟨rfl, hb5⟩
      have hN2 := hN.step hb5
      (try go_wp2_with fail)
      refine HK.out _ _ ⟨HS.out _ hN2.b, true, true, c3, c4, b0, b1, b2, b3, q0, q1, q2, q3, by simp [nfB] at hn ⊢; omega, chB_step1 hc, rfl, rfl, hN2⟩
    · refine wpOp_step (o := { dst := some 20, op := Op.call { callee := Callee.value (Operand.func 70), args := #[Operand.tmp 19], argTypes := #[32] }, type := 99, pos := "pair.go:53", after := #[{ on := 5, ground := Ground.data }, { on := 3, ground := Ground.chain }], guard := none }) rfl (fun K' hK => ?_)
      have HK := Lib.hid hK
      clear hK
      go_simp
      go_at_call 70
      with_reducible (refine (measures_any x0 x1 x2 x3 _).mono ?_)
      rintro e w5 ⟨rfl, hb5⟩
      have hN2 := hN.step hb5
      (try go_wp2_with fail)
      refine HK.out _ _ ⟨HS.out _ hN2.b, true, true, true, c4, b0, b1, b2, b3, q0, q1, q2, q3, by simp [nfB] at hn ⊢; omega, chB_step2 hc, rfl, rfl, hN2⟩
    · refine wpOp_step (o := { dst := some 23, op := Op.call { callee := Callee.value (Operand.func 70), args := #[Operand.tmp 22], argTypes := #[32] }, type := 99, pos := "pair.go:53", after := #[{ on := 8, ground := Ground.data }, { on := 6, ground := Ground.chain }], guard := none }) rfl (fun K' hK => ?_)
      have HK := Lib.hid hK
      clear hK
      go_simp
      go_at_call 70
      with_reducible (refine (measures_any y0 y1 y2 y3 _).mono ?_)
      rintro e w5 ⟨rfl, hb5⟩
      have hN2 := hN.step hb5
      (try go_wp2_with fail)
      refine HK.out _ _ ⟨HS.out _ hN2.b, true, true, true, true, b0, b1, b2, b3, q0, q1, q2, q3, by simp [nfB] at hn ⊢; omega, chB_step3 hc, rfl, rfl, hN2⟩

/-- The operations of the region that measures (Rc). -/
def opsRc : Array Oper := #[{ dst := some 14, op := Op.load 24 (Operand.tmp 3), type := 24, pos := "ref.go:48", after := #[], guard := none }, { dst := some 15, op := Op.call { callee := Callee.value (Operand.func 66), args := #[Operand.tmp 14], argTypes := #[24] }, type := 99, pos := "ref.go:48", after := #[{ on := 0, ground := Ground.data }], guard := none }, { dst := some 16, op := Op.load 24 (Operand.tmp 4), type := 24, pos := "ref.go:48", after := #[], guard := none }, { dst := some 17, op := Op.call { callee := Callee.value (Operand.func 66), args := #[Operand.tmp 16], argTypes := #[24] }, type := 99, pos := "ref.go:48", after := #[{ on := 2, ground := Ground.data }, { on := 1, ground := Ground.chain }], guard := none }, { dst := some 18, op := Op.fieldAddr 26 (Operand.tmp 5) 0, type := 0, pos := "ref.go:48", after := #[], guard := none }, { dst := some 19, op := Op.load 24 (Operand.tmp 18), type := 24, pos := "ref.go:48", after := #[{ on := 4, ground := Ground.data }], guard := none }, { dst := some 20, op := Op.call { callee := Callee.value (Operand.func 66), args := #[Operand.tmp 19], argTypes := #[24] }, type := 99, pos := "ref.go:48", after := #[{ on := 5, ground := Ground.data }, { on := 3, ground := Ground.chain }], guard := none }, { dst := some 21, op := Op.fieldAddr 26 (Operand.tmp 5) 1, type := 0, pos := "ref.go:48", after := #[], guard := none }, { dst := some 22, op := Op.load 24 (Operand.tmp 21), type := 24, pos := "ref.go:48", after := #[{ on := 7, ground := Ground.data }], guard := none }, { dst := some 23, op := Op.call { callee := Callee.value (Operand.func 66), args := #[Operand.tmp 22], argTypes := #[24] }, type := 99, pos := "ref.go:48", after := #[{ on := 8, ground := Ground.data }, { on := 6, ground := Ground.chain }], guard := none }, { dst := some 7, op := Op.alloc 99, type := 0, pos := "ref.go:48", after := #[], guard := none }, { dst := some 8, op := Op.alloc 99, type := 0, pos := "ref.go:48", after := #[], guard := none }, { dst := some 9, op := Op.alloc 99, type := 0, pos := "ref.go:48", after := #[], guard := none }, { dst := some 10, op := Op.alloc 99, type := 0, pos := "ref.go:48", after := #[], guard := none }, { dst := none, op := Op.store 99 (Operand.tmp 7) (Operand.tmp 15), type := 0, pos := "ref.go:48", after := #[{ on := 10, ground := Ground.data }, { on := 1, ground := Ground.data }, { on := 9, ground := Ground.chain }, { on := 0, ground := Ground.phase }, { on := 1, ground := Ground.phase }, { on := 2, ground := Ground.textOnly Departure.lateStores }, { on := 3, ground := Ground.textOnly Departure.lateStoresUnsure }, { on := 4, ground := Ground.textOnly Departure.lateStores }, { on := 5, ground := Ground.textOnly Departure.lateStores }, { on := 6, ground := Ground.textOnly Departure.lateStoresUnsure }, { on := 7, ground := Ground.textOnly Departure.lateStores }, { on := 8, ground := Ground.textOnly Departure.lateStores }, { on := 9, ground := Ground.textOnly Departure.lateStoresUnsure }, { on := 10, ground := Ground.phase }, { on := 11, ground := Ground.phase }, { on := 12, ground := Ground.phase }, { on := 13, ground := Ground.phase }], guard := none }, { dst := none, op := Op.store 99 (Operand.tmp 8) (Operand.tmp 17), type := 0, pos := "ref.go:48", after := #[{ on := 11, ground := Ground.data }, { on := 3, ground := Ground.data }, { on := 14, ground := Ground.chain }, { on := 0, ground := Ground.phase }, { on := 1, ground := Ground.phase }, { on := 2, ground := Ground.phase }, { on := 3, ground := Ground.phase }, { on := 4, ground := Ground.textOnly Departure.lateStores }, { on := 5, ground := Ground.textOnly Departure.lateStores }, { on := 6, ground := Ground.textOnly Departure.lateStoresUnsure }, { on := 7, ground := Ground.textOnly Departure.lateStores }, { on := 8, ground := Ground.textOnly Departure.lateStores }, { on := 9, ground := Ground.textOnly Departure.lateStoresUnsure }, { on := 10, ground := Ground.phase }, { on := 11, ground := Ground.phase }, { on := 12, ground := Ground.phase }, { on := 13, ground := Ground.phase }, { on := 14, ground := Ground.phase }], guard := none }, { dst := none, op := Op.store 99 (Operand.tmp 9) (Operand.tmp 20), type := 0, pos := "ref.go:48", after := #[{ on := 12, ground := Ground.data }, { on := 6, ground := Ground.data }, { on := 15, ground := Ground.chain }, { on := 0, ground := Ground.phase }, { on := 1, ground := Ground.phase }, { on := 2, ground := Ground.phase }, { on := 3, ground := Ground.phase }, { on := 4, ground := Ground.phase }, { on := 5, ground := Ground.phase }, { on := 6, ground := Ground.phase }, { on := 7, ground := Ground.textOnly Departure.lateStores }, { on := 8, ground := Ground.textOnly Departure.lateStores }, { on := 9, ground := Ground.textOnly Departure.lateStoresUnsure }, { on := 10, ground := Ground.phase }, { on := 11, ground := Ground.phase }, { on := 12, ground := Ground.phase }, { on := 13, ground := Ground.phase }, { on := 14, ground := Ground.phase }, { on := 15, ground := Ground.phase }], guard := none }, { dst := none, op := Op.store 99 (Operand.tmp 10) (Operand.tmp 23), type := 0, pos := "ref.go:48", after := #[{ on := 13, ground := Ground.data }, { on := 9, ground := Ground.data }, { on := 16, ground := Ground.chain }, { on := 0, ground := Ground.phase }, { on := 1, ground := Ground.phase }, { on := 2, ground := Ground.phase }, { on := 3, ground := Ground.phase }, { on := 4, ground := Ground.phase }, { on := 5, ground := Ground.phase }, { on := 6, ground := Ground.phase }, { on := 7, ground := Ground.phase }, { on := 8, ground := Ground.phase }, { on := 9, ground := Ground.phase }, { on := 10, ground := Ground.phase }, { on := 11, ground := Ground.phase }, { on := 12, ground := Ground.phase }, { on := 13, ground := Ground.phase }, { on := 14, ground := Ground.phase }, { on := 15, ground := Ground.phase }, { on := 16, ground := Ground.phase }], guard := none }]

def MRc (w : World) (T0 T1 T2 T3 T4 T5 T6 PA PB : Value) (a0 a1 a2 a3 p0 p1 p2 p3 x0 x1 x2 x3 y0 y1 y2 y3 : Int) (n : Nat) (listed : Array Bool) (a : Act) (w2 : World) : Prop :=
  ∃ (c1 c2 c3 c4 b0 b1 b2 b3 : Bool) (q0 q1 q2 q3 : Nat), n = nfB c1 + nfB c2 + nfB c3 + nfB c4 + nfB b0 + nfB b1 + nfB b2 + nfB b3 ∧ chB c1 c2 c3 c4 = true ∧ listed = #[true, c1, true, c2, true, true, c3, true, true, c4, b0, b1, b2, b3, false, false, false, false] ∧
    a = { tmps := #[T0, T1, T2, T3, T4, T5, T6, pvB b0 q0, pvB b1 q1, pvB b2 q2, pvB b3 q3, undef, undef, undef, .agg #[.int .i64 a0, .int .i64 a1, .int .i64 a2, .int .i64 a3], cvB c1 (.agg #[.int .i64 a0, .int .i64 a1, .int .i64 a2, .int .i64 a3]), .agg #[.int .i64 p0, .int .i64 p1, .int .i64 p2, .int .i64 p3], cvB c2 (.agg #[.int .i64 p0, .int .i64 p1, .int .i64 p2, .int .i64 p3]), PA, .agg #[.int .i64 x0, .int .i64 x1, .int .i64 x2, .int .i64 x3], cvB c3 (.agg #[.int .i64 x0, .int .i64 x1, .int .i64 x2, .int .i64 x3]), PB, .agg #[.int .i64 y0, .int .i64 y1, .int .i64 y2, .int .i64 y3], cvB c4 (.agg #[.int .i64 y0, .int .i64 y1, .int .i64 y2, .int .i64 y3]), undef, undef, undef, undef, undef, undef, undef, undef, undef, undef, undef, undef, undef, undef, undef, undef, undef, undef, undef, undef, undef, undef, undef, undef, undef, undef, undef, undef, undef, undef, undef, undef], defers := [] } ∧ NB4 w 99 b0 b1 b2 b3 q0 q1 q2 q3 w2

theorem readyRc : ∀ c1 c2 c3 c4 b0 b1 b2 b3 : Bool, chB c1 c2 c3 c4 = true → (c1 && c2 && c3 && c4 && b0 && b1 && b2 && b3) = false →
    Region.ready .any opsRc #[true, c1, true, c2, true, true, c3, true, true, c4, b0, b1, b2, b3, false, false, false, false] ≠ [] ∧ (Region.ready .any opsRc #[true, c1, true, c2, true, true, c3, true, true, c4, b0, b1, b2, b3, false, false, false, false]).all (fun i => okI c1 c2 c3 c4 b0 b1 b2 b3 i) = true := by decide +kernel

set_option maxRecDepth 100000 in
set_option maxHeartbeats 1600000 in
theorem mergeRc (T0 T1 T2 T3 T4 T5 T6 PA PB : Value) (a0 a1 a2 a3 p0 p1 p2 p3 x0 x1 x2 x3 y0 y1 y2 y3 : Int) (Q : Exit → Act → World → Prop) (Sx : World → Prop) (w : World) (hS : ∀ w', Below w.heap.size w w' → Sx w')
    (hQ : ∀ q0 q1 q2 q3 w', B4 w 99 q0 q1 q2 q3 #[.int .i64 a0, .int .i64 a1, .int .i64 a2, .int .i64 a3] #[.int .i64 p0, .int .i64 p1, .int .i64 p2, .int .i64 p3] #[.int .i64 x0, .int .i64 x1, .int .i64 x2, .int .i64 x3] #[.int .i64 y0, .int .i64 y1, .int .i64 y2, .int .i64 y3] w' → Q .normal { tmps := #[T0, T1, T2, T3, T4, T5, T6, .pointer (some ⟨q0, 0, none⟩), .pointer (some ⟨q1, 0, none⟩), .pointer (some ⟨q2, 0, none⟩), .pointer (some ⟨q3, 0, none⟩), undef, undef, undef, .agg #[.int .i64 a0, .int .i64 a1, .int .i64 a2, .int .i64 a3], .agg #[.int .i64 a0, .int .i64 a1, .int .i64 a2, .int .i64 a3], .agg #[.int .i64 p0, .int .i64 p1, .int .i64 p2, .int .i64 p3], .agg #[.int .i64 p0, .int .i64 p1, .int .i64 p2, .int .i64 p3], PA, .agg #[.int .i64 x0, .int .i64 x1, .int .i64 x2, .int .i64 x3], .agg #[.int .i64 x0, .int .i64 x1, .int .i64 x2, .int .i64 x3], PB, .agg #[.int .i64 y0, .int .i64 y1, .int .i64 y2, .int .i64 y3], .agg #[.int .i64 y0, .int .i64 y1, .int .i64 y2, .int .i64 y3], undef, undef, undef, undef, undef, undef, undef, undef, undef, undef, undef, undef, undef, undef, undef, undef, undef, undef, undef, undef, undef, undef, undef, undef, undef, undef, undef, undef, undef, undef, undef, undef], defers := [] } w') :
    wpAnyH Try.prog .any opsRc Q Sx 12 #[true, false, true, false, true, true, false, true, true, false, false, false, false, false, false, false, false, false] { tmps := #[T0, T1, T2, T3, T4, T5, T6, undef, undef, undef, undef, undef, undef, undef, .agg #[.int .i64 a0, .int .i64 a1, .int .i64 a2, .int .i64 a3], undef, .agg #[.int .i64 p0, .int .i64 p1, .int .i64 p2, .int .i64 p3], undef, PA, .agg #[.int .i64 x0, .int .i64 x1, .int .i64 x2, .int .i64 x3], undef, PB, .agg #[.int .i64 y0, .int .i64 y1, .int .i64 y2, .int .i64 y3], undef, undef, undef, undef, undef, undef, undef, undef, undef, undef, undef, undef, undef, undef, undef, undef, undef, undef, undef, undef, undef, undef, undef, undef, undef, undef, undef, undef, undef, undef, undef, undef, undef], defers := [] } w := by
  have HS := Lib.hid hS
  have HQ := Lib.hid hQ
  clear hS hQ
  refine wpAnyH_merge (M := MRc w T0 T1 T2 T3 T4 T5 T6 PA PB a0 a1 a2 a3 p0 p1 p2 p3 x0 x1 x2 x3 y0 y1 y2 y3) (f0 := 4) ?_ ?_ 8 _ _ _ ⟨false, false, false, false, false, false, false, false, 0, 0, 0, 0, rfl, rfl, rfl, rfl, NB4.start _ _⟩
  · rintro listed a w2 ⟨c1, c2, c3, c4, b0, b1, b2, b3, q0, q1, q2, q3, hn, -, rfl, rfl, hN⟩
    obtain ⟨rfl, rfl, rfl, rfl, rfl, rfl, rfl, rfl⟩ := nfB_zero hn
    have h0 := hN.full
    clear hN hn
    simp only [pvB, cvB, if_true]
    unfold opsRc
    refine wpAnyH_ready (rs := [14]) (by kernel_rfl) (by simp) ?_
    refine (AllReadyH.cons (o := { dst := none, op := Op.store 99 (Operand.tmp 7) (Operand.tmp 15), type := 0, pos := "ref.go:48", after := #[{ on := 10, ground := Ground.data }, { on := 1, ground := Ground.data }, { on := 9, ground := Ground.chain }, { on := 0, ground := Ground.phase }, { on := 1, ground := Ground.phase }, { on := 2, ground := Ground.textOnly Departure.lateStores }, { on := 3, ground := Ground.textOnly Departure.lateStoresUnsure }, { on := 4, ground := Ground.textOnly Departure.lateStores }, { on := 5, ground := Ground.textOnly Departure.lateStores }, { on := 6, ground := Ground.textOnly Departure.lateStoresUnsure }, { on := 7, ground := Ground.textOnly Departure.lateStores }, { on := 8, ground := Ground.textOnly Departure.lateStores }, { on := 9, ground := Ground.textOnly Departure.lateStoresUnsure }, { on := 10, ground := Ground.phase }, { on := 11, ground := Ground.phase }, { on := 12, ground := Ground.phase }, { on := 13, ground := Ground.phase }], guard := none }) rfl (fun K hK => ?_) AllReadyH.nil)
    obtain ⟨d0, d1, d2, d3, f0, f1, f2, f3, l0⟩ := h0.c0
    go_simp
    have h1 := h0.put0 (.int .i64 a0) (.int .i64 a1) (.int .i64 a2) (.int .i64 a3)
    clear d0 d1 d2 d3 f0 f1 f2 f3 l0 h0
    refine hK.out _ _ (HS.out _ h1.b) (fun hHeld => ?_)
    clear hK K
    (try simp only [Act.put, List.setIfInBounds_toArray, List.set_cons_zero, List.set_cons_succ])
    obtain ⟨wy0, hwy⟩ : ∃ z, z = ((((w2.setCell ⟨q0, 0, none⟩ (.int .i64 a0)).setCell ⟨q0, 1, none⟩ (.int .i64 a1)).setCell ⟨q0, 2, none⟩ (.int .i64 a2)).setCell ⟨q0, 3, none⟩ (.int .i64 a3)) := ⟨_, rfl⟩
    rw [← hwy] at h1 hHeld ⊢
    clear hwy
    refine wpAnyH_ready (rs := [15]) (by kernel_rfl) (by simp) ?_
    refine (AllReadyH.cons (o := { dst := none, op := Op.store 99 (Operand.tmp 8) (Operand.tmp 17), type := 0, pos := "ref.go:48", after := #[{ on := 11, ground := Ground.data }, { on := 3, ground := Ground.data }, { on := 14, ground := Ground.chain }, { on := 0, ground := Ground.phase }, { on := 1, ground := Ground.phase }, { on := 2, ground := Ground.phase }, { on := 3, ground := Ground.phase }, { on := 4, ground := Ground.textOnly Departure.lateStores }, { on := 5, ground := Ground.textOnly Departure.lateStores }, { on := 6, ground := Ground.textOnly Departure.lateStoresUnsure }, { on := 7, ground := Ground.textOnly Departure.lateStores }, { on := 8, ground := Ground.textOnly Departure.lateStores }, { on := 9, ground := Ground.textOnly Departure.lateStoresUnsure }, { on := 10, ground := Ground.phase }, { on := 11, ground := Ground.phase }, { on := 12, ground := Ground.phase }, { on := 13, ground := Ground.phase }, { on := 14, ground := Ground.phase }], guard := none }) rfl (fun K hK => ?_) AllReadyH.nil)
    obtain ⟨d0, d1, d2, d3, f0, f1, f2, f3, l0⟩ := h1.c1
    go_simp
    have h2 := h1.put1 (.int .i64 p0) (.int .i64 p1) (.int .i64 p2) (.int .i64 p3)
    clear d0 d1 d2 d3 f0 f1 f2 f3 l0 h1
    refine hK.out _ _ (HS.out _ h2.b) (fun hHeld => ?_)
    clear hK K
    (try simp only [Act.put, List.setIfInBounds_toArray, List.set_cons_zero, List.set_cons_succ])
    obtain ⟨wy1, hwy⟩ : ∃ z, z = ((((wy0.setCell ⟨q1, 0, none⟩ (.int .i64 p0)).setCell ⟨q1, 1, none⟩ (.int .i64 p1)).setCell ⟨q1, 2, none⟩ (.int .i64 p2)).setCell ⟨q1, 3, none⟩ (.int .i64 p3)) := ⟨_, rfl⟩
    rw [← hwy] at h2 hHeld ⊢
    clear hwy
    refine wpAnyH_ready (rs := [16]) (by kernel_rfl) (by simp) ?_
    refine (AllReadyH.cons (o := { dst := none, op := Op.store 99 (Operand.tmp 9) (Operand.tmp 20), type := 0, pos := "ref.go:48", after := #[{ on := 12, ground := Ground.data }, { on := 6, ground := Ground.data }, { on := 15, ground := Ground.chain }, { on := 0, ground := Ground.phase }, { on := 1, ground := Ground.phase }, { on := 2, ground := Ground.phase }, { on := 3, ground := Ground.phase }, { on := 4, ground := Ground.phase }, { on := 5, ground := Ground.phase }, { on := 6, ground := Ground.phase }, { on := 7, ground := Ground.textOnly Departure.lateStores }, { on := 8, ground := Ground.textOnly Departure.lateStores }, { on := 9, ground := Ground.textOnly Departure.lateStoresUnsure }, { on := 10, ground := Ground.phase }, { on := 11, ground := Ground.phase }, { on := 12, ground := Ground.phase }, { on := 13, ground := Ground.phase }, { on := 14, ground := Ground.phase }, { on := 15, ground := Ground.phase }], guard := none }) rfl (fun K hK => ?_) AllReadyH.nil)
    obtain ⟨d0, d1, d2, d3, f0, f1, f2, f3, l0⟩ := h2.c2
    go_simp
    have h3 := h2.put2 (.int .i64 x0) (.int .i64 x1) (.int .i64 x2) (.int .i64 x3)
    clear d0 d1 d2 d3 f0 f1 f2 f3 l0 h2
    refine hK.out _ _ (HS.out _ h3.b) (fun hHeld => ?_)
    clear hK K
    (try simp only [Act.put, List.setIfInBounds_toArray, List.set_cons_zero, List.set_cons_succ])
    obtain ⟨wy2, hwy⟩ : ∃ z, z = ((((wy1.setCell ⟨q2, 0, none⟩ (.int .i64 x0)).setCell ⟨q2, 1, none⟩ (.int .i64 x1)).setCell ⟨q2, 2, none⟩ (.int .i64 x2)).setCell ⟨q2, 3, none⟩ (.int .i64 x3)) := ⟨_, rfl⟩
    rw [← hwy] at h3 hHeld ⊢
    clear hwy
    refine wpAnyH_ready (rs := [17]) (by kernel_rfl) (by simp) ?_
    refine (AllReadyH.cons (o := { dst := none, op := Op.store 99 (Operand.tmp 10) (Operand.tmp 23), type := 0, pos := "ref.go:48", after := #[{ on := 13, ground := Ground.data }, { on := 9, ground := Ground.data }, { on := 16, ground := Ground.chain }, { on := 0, ground := Ground.phase }, { on := 1, ground := Ground.phase }, { on := 2, ground := Ground.phase }, { on := 3, ground := Ground.phase }, { on := 4, ground := Ground.phase }, { on := 5, ground := Ground.phase }, { on := 6, ground := Ground.phase }, { on := 7, ground := Ground.phase }, { on := 8, ground := Ground.phase }, { on := 9, ground := Ground.phase }, { on := 10, ground := Ground.phase }, { on := 11, ground := Ground.phase }, { on := 12, ground := Ground.phase }, { on := 13, ground := Ground.phase }, { on := 14, ground := Ground.phase }, { on := 15, ground := Ground.phase }, { on := 16, ground := Ground.phase }], guard := none }) rfl (fun K hK => ?_) AllReadyH.nil)
    obtain ⟨d0, d1, d2, d3, f0, f1, f2, f3, l0⟩ := h3.c3
    go_simp
    have h4 := h3.put3 (.int .i64 y0) (.int .i64 y1) (.int .i64 y2) (.int .i64 y3)
    clear d0 d1 d2 d3 f0 f1 f2 f3 l0 h3
    refine hK.out _ _ (HS.out _ h4.b) (fun hHeld => ?_)
    clear hK K
    (try simp only [Act.put, List.setIfInBounds_toArray, List.set_cons_zero, List.set_cons_succ])
    obtain ⟨wy3, hwy⟩ : ∃ z, z = ((((wy2.setCell ⟨q3, 0, none⟩ (.int .i64 y0)).setCell ⟨q3, 1, none⟩ (.int .i64 y1)).setCell ⟨q3, 2, none⟩ (.int .i64 y2)).setCell ⟨q3, 3, none⟩ (.int .i64 y3)) := ⟨_, rfl⟩
    rw [← hwy] at h4 hHeld ⊢
    clear hwy
    refine wpAnyH_done (by kernel_rfl) ?_ _
    exact HQ.out _ _ _ _ _ h4
  · rintro n listed a w2 ⟨c1, c2, c3, c4, b0, b1, b2, b3, q0, q1, q2, q3, hn, hc, rfl, rfl, hN⟩
    obtain ⟨hne, hall⟩ := readyRc c1 c2 c3 c4 b0 b1 b2 b3 hc (nfB_some hn)
    refine ⟨_, rfl, hne, fun i hi => ?_⟩
    have hi2 := List.all_eq_true.1 hall i hi
    clear hne hall hi
    unfold opsRc
    rcases okI_cases hi2 with ⟨rfl, rfl⟩ | ⟨rfl, rfl⟩ | ⟨rfl, rfl⟩ | ⟨rfl, rfl⟩ | ⟨rfl, rfl⟩ | ⟨rfl, rfl, rfl⟩ | ⟨rfl, ⟨rfl, rfl⟩, rfl⟩ | ⟨rfl, ⟨rfl, rfl, rfl⟩, rfl⟩
    · have hN2 := hN.alloc0
      refine wpOp_step (o := { dst := some 7, op := Op.alloc 99, type := 0, pos := "ref.go:48", after := #[], guard := none }) rfl (fun K' hK => ?_)
      have HK := Lib.hid hK
      clear hK
      go_simp
      refine HK.out _ _ ⟨HS.out _ hN2.b, c1, c2, c3, c4, true, b1, b2, b3, w2.heap.size, q1, q2, q3, by simp [nfB] at hn ⊢; omega, hc, rfl, rfl, hN2⟩
    · have hN2 := hN.alloc1
      refine wpOp_step (o := { dst := some 8, op := Op.alloc 99, type := 0, pos := "ref.go:48", after := #[], guard := none }) rfl (fun K' hK => ?_)
      have HK := Lib.hid hK
      clear hK
      go_simp
      refine HK.out _ _ ⟨HS.out _ hN2.b, c1, c2, c3, c4, b0, true, b2, b3, q0, w2.heap.size, q2, q3, by simp [nfB] at hn ⊢; omega, hc, rfl, rfl, hN2⟩
    · have hN2 := hN.alloc2
      refine wpOp_step (o := { dst := some 9, op := Op.alloc 99, type := 0, pos := "ref.go:48", after := #[], guard := none }) rfl (fun K' hK => ?_)
      have HK := Lib.hid hK
      clear hK
      go_simp
      refine HK.out _ _ ⟨HS.out _ hN2.b, c1, c2, c3, c4, b0, b1, true, b3, q0, q1, w2.heap.size, q3, by simp [nfB] at hn ⊢; omega, hc, rfl, rfl, hN2⟩
    · have hN2 := hN.alloc3
      refine wpOp_step (o := { dst := some 10, op := Op.alloc 99, type := 0, pos := "ref.go:48", after := #[], guard := none }) rfl (fun K' hK => ?_)
      have HK := Lib.hid hK
      clear hK
      go_simp
      refine HK.out _ _ ⟨HS.out _ hN2.b, c1, c2, c3, c4, b0, b1, b2, true, q0, q1, q2, w2.heap.size, by simp [nfB] at hn ⊢; omega, hc, rfl, rfl, hN2⟩
    · refine wpOp_step (o := { dst := some 15, op := Op.call { callee := Callee.value (Operand.func 66), args := #[Operand.tmp 14], argTypes := #[24] }, type := 99, pos := "ref.go:48", after := #[{ on := 0, ground := Ground.data }], guard := none }) rfl (fun K' hK => ?_)
      have HK := Lib.hid hK
      clear hK
      go_simp
      go_at_call 66
      with_reducible (refine (rFour_any a0 a1 a2 a3 _).mono ?_)
      rintro e w5 ⟨rfl, hb5⟩
      have hN2 := hN.step hb5
      (try go_wp2_with fail)
      refine HK.out _ _ ⟨HS.out _ hN2.b, true, c2, c3, c4, b0, b1, b2, b3, q0, q1, q2, q3, by simp [nfB] at hn ⊢; omega, chB_step0 hc, rfl, rfl, hN2⟩
    · refine wpOp_step (o := { dst := some 17, op := Op.call { callee := Callee.value (Operand.func 66), args := #[Operand.tmp 16], argTypes := #[24] }, type := 99, pos := "ref.go:48", after := #[{ on := 2, ground := Ground.data }, { on := 1, ground := Ground.chain }], guard := none }) rfl (fun K' hK => ?_)
      have HK := Lib.hid hK
      clear hK
      go_simp
      go_at_call 66
      with_reducible (refine (rFour_any p0 p1 p2 p3 _).mono ?_)
      rintro e w5 ⟨rfl, hb5⟩
      have hN2 := hN.step hb5
      (try go_wp2_with fail)
      refine HK.out _ _ ⟨HS.out _ hN2.b, true, true, c3, c4, b0, b1, b2, b3, q0, q1, q2, q3, by simp [nfB] at hn ⊢; omega, chB_step1 hc, rfl, rfl, hN2⟩
    · refine wpOp_step (o := { dst := some 20, op := Op.call { callee := Callee.value (Operand.func 66), args := #[Operand.tmp 19], argTypes := #[24] }, type := 99, pos := "ref.go:48", after := #[{ on := 5, ground := Ground.data }, { on := 3, ground := Ground.chain }], guard := none }) rfl (fun K' hK => ?_)
      have HK := Lib.hid hK
      clear hK
      go_simp
      go_at_call 66
      with_reducible (refine (rFour_any x0 x1 x2 x3 _).mono ?_)
      rintro e w5 ⟨rfl, hb5⟩
      have hN2 := hN.step hb5
      (try go_wp2_with fail)
      refine HK.out _ _ ⟨HS.out _ hN2.b, true, true, true, c4, b0, b1, b2, b3, q0, q1, q2, q3, by simp [nfB] at hn ⊢; omega, chB_step2 hc, rfl, rfl, hN2⟩
    · refine wpOp_step (o := { dst := some 23, op := Op.call { callee := Callee.value (Operand.func 66), args := #[Operand.tmp 22], argTypes := #[24] }, type := 99, pos := "ref.go:48", after := #[{ on := 8, ground := Ground.data }, { on := 6, ground := Ground.chain }], guard := none }) rfl (fun K' hK => ?_)
      have HK := Lib.hid hK
      clear hK
      go_simp
      go_at_call 66
      with_reducible (refine (rFour_any y0 y1 y2 y3 _).mono ?_)
      rintro e w5 ⟨rfl, hb5⟩
      have hN2 := hN.step hb5
      (try go_wp2_with fail)
      refine HK.out _ _ ⟨HS.out _ hN2.b, true, true, true, true, b0, b1, b2, b3, q0, q1, q2, q3, by simp [nfB] at hn ⊢; omega, chB_step3 hc, rfl, rfl, hN2⟩

end Go.Proofs.Ytchhadkmemckbab

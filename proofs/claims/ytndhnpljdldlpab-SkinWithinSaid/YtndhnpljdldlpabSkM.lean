/- Blocks that a call lays, kept through its walk (as XMem has them, for a seat without fractions). -/
import Derived.Test.YtndhnpljdldlpabSkC
namespace Go.Proofs.Ytndhnpljdldlpab
open Go.RowKit

/-- Blocks that a call has laid behind the world w0 (number, cells, type), the newest first. -/
structure Mem (w0 : World) (L : List (Nat × Array Value × TypeId)) (w : World) : Prop where
  b : Below w0.heap.size w0 w
  h : ∀ x ∈ L, w0.heap.size ≤ x.1 ∧ w.heap[x.1]? = some (.cells x.2.1 x.2.2 (0, 0))
  p : L.Pairwise fun x y => y.1 < x.1

section
variable {w0 w w' : World} {L L' : List (Nat × Array Value × TypeId)} {v : Value} {g i : Nat} {cs : Array Value} {T : TypeId} {x y : Nat × Array Value × TypeId}
theorem Mem.nil (w : World) : Mem w [] w := ⟨Below.refl _ _, by simp, .nil⟩
theorem Mem.lt (h : Mem w0 L w) (hx : x ∈ L) : x.1 < w.heap.size := (Array.getElem?_eq_some_iff.1 (h.h x hx).2).1
theorem Mem.step (h : Mem w0 L w) (hb : Below w.heap.size w w') : Mem w0 L w' :=
  ⟨h.b.trans (hb.mono h.b.size), fun x hx => ⟨(h.h x hx).1, (hb.block _ (h.lt hx)).trans (h.h x hx).2⟩, h.p⟩
theorem Mem.drew (h : Mem w0 L w) : Mem w0 L w.drew := h.step (Below.refl _ _).drew
theorem Mem.skip (h : Mem w0 L w) (o : Obj) : Mem w0 L (w.alloc o) := h.step ((Below.refl _ _).alloc (Nat.le_refl _) _)
theorem Mem.alloc (h : Mem w0 L w) (cs : Array Value) (T : TypeId) : Mem w0 ((w.heap.size, cs, T) :: L) (w.alloc (.cells cs T)) := by
  have h1 := h.skip (.cells cs T)
  refine ⟨h1.b, fun x hx => ?_, List.pairwise_cons.2 ⟨fun y hy => h.lt hy, h.p⟩⟩
  rcases List.mem_cons.1 hx with rfl | hx
  · exact ⟨h.b.size, heap_alloc_new _ _⟩
  · exact h1.h x hx
theorem Mem.tail (h : Mem w0 (x :: L) w) : Mem w0 L w := ⟨h.b, fun y hy => h.h y (List.mem_cons_of_mem _ hy), (List.pairwise_cons.1 h.p).2⟩
theorem Mem.drop2 (h : Mem w0 (x :: y :: L) w) : Mem w0 (x :: L) w :=
  ⟨h.b, fun z hz => h.h z (by rcases List.mem_cons.1 hz with rfl | hz <;> simp [*]), List.pairwise_cons.2 ⟨fun z hz => (List.pairwise_cons.1 h.p).1 z (List.mem_cons_of_mem _ hz), (List.pairwise_cons.1 (List.pairwise_cons.1 h.p).2).2⟩⟩
theorem Mem.cell (h : Mem w0 ((g, cs, T) :: L) w) (i : Nat) : w.cell? ⟨g, i, none⟩ = cs[i]? := by
  have := (h.h _ (List.mem_cons_self ..)).2
  simp only [World.cell?]
  rw [this]; rfl
theorem Mem.frozen (h : Mem w0 ((g, cs, T) :: L) w) (i : Nat) : w.frozen? ⟨g, i, none⟩ = false := by
  have := (h.h _ (List.mem_cons_self ..)).2
  simp only [World.frozen?]
  rw [this]; simp
theorem Mem.head_lt (h : Mem w0 ((g, cs, T) :: L) w) : g < w.heap.size := h.lt (List.mem_cons_self ..)
theorem Mem.head_le (h : Mem w0 ((g, cs, T) :: L) w) : w0.heap.size ≤ g := (h.h _ (List.mem_cons_self ..)).1
theorem Mem.gt (h : Mem w0 (x :: y :: L) w) : y.1 < x.1 := (List.pairwise_cons.1 h.p).1 y (List.mem_cons_self ..)
/-- The head block's cells as a list. -/
theorem Mem.two (h : Mem w0 ((g, cs, T) :: L) w) : (∀ i, w.cell? ⟨g, i, none⟩ = cs[i]?) ∧ (∀ i, w.frozen? ⟨g, i, none⟩ = false) ∧ g < w.heap.size ∧ w0.heap.size ≤ g := ⟨h.cell, h.frozen, h.head_lt, h.head_le⟩
theorem Mem.set0 (h : Mem w0 ((g, cs, T) :: L) w) (i : Nat) (v : Value) : Mem w0 ((g, cs.setIfInBounds i v, T) :: L) (w.setCell ⟨g, i, none⟩ v) := by
  refine ⟨h.b.setCell h.head_le v, fun x hx => ?_, ?_⟩
  · rcases List.mem_cons.1 hx with rfl | hx
    · refine ⟨h.head_le, ?_⟩
      have := (h.h _ (List.mem_cons_self ..)).2
      simp only [World.setCell, Array.getElem?_modify, this]
      simp
    · have hne : x.1 ≠ g := Nat.ne_of_lt ((List.pairwise_cons.1 h.p).1 x hx)
      exact ⟨(h.h x (List.mem_cons_of_mem _ hx)).1, by rw [Below.heap_setCell _ _ _ _ hne]; exact (h.h x (List.mem_cons_of_mem _ hx)).2⟩
  · exact List.pairwise_cons.2 ⟨fun y hy => (List.pairwise_cons.1 h.p).1 y hy, (List.pairwise_cons.1 h.p).2⟩
theorem Mem.setx (h : Mem w0 (x :: L) w) (h' : Mem w0 L' (w.setCell ⟨g, i, none⟩ v)) (hg : x.1 ≠ g) (hL : ∀ y ∈ L', y.1 < x.1) : Mem w0 (x :: L') (w.setCell ⟨g, i, none⟩ v) :=
  ⟨h'.b, fun y hy => by
    rcases List.mem_cons.1 hy with rfl | hy
    · exact ⟨(h.h _ (List.mem_cons_self ..)).1, by rw [Below.heap_setCell _ _ _ _ hg]; exact (h.h _ (List.mem_cons_self ..)).2⟩
    · exact h'.h y hy, List.pairwise_cons.2 ⟨hL, h'.p⟩⟩
theorem Mem.set1 (h : Mem w0 (x :: (g, cs, T) :: L) w) (i : Nat) (v : Value) : Mem w0 (x :: (g, cs.setIfInBounds i v, T) :: L) (w.setCell ⟨g, i, none⟩ v) := by
  refine h.setx (h.tail.set0 i v) (Nat.ne_of_gt h.gt) fun y hy => ?_
  rcases List.mem_cons.1 hy with rfl | hy
  · exact h.gt
  · exact (List.pairwise_cons.1 h.p).1 y (List.mem_cons_of_mem _ hy)
theorem Mem.set2 (h : Mem w0 (y :: x :: (g, cs, T) :: L) w) (i : Nat) (v : Value) : Mem w0 (y :: x :: (g, cs.setIfInBounds i v, T) :: L) (w.setCell ⟨g, i, none⟩ v) := by
  refine h.setx (h.tail.set1 i v) (Nat.ne_of_gt ((List.pairwise_cons.1 h.p).1 (g, cs, T) (by simp))) fun z hz => ?_
  rcases List.mem_cons.1 hz with rfl | hz
  · exact h.gt
  · rcases List.mem_cons.1 hz with rfl | hz
    · exact (List.pairwise_cons.1 h.p).1 (g, cs, T) (by simp)
    · exact (List.pairwise_cons.1 h.p).1 z (by simp [hz])
variable {a b c d e f : Value}
theorem Mem.c2 (h : Mem w0 ((g, #[a, b], T) :: L) w) : w.cell? ⟨g, 0, none⟩ = some a ∧ w.cell? ⟨g, 1, none⟩ = some b ∧ w.frozen? ⟨g, 0, none⟩ = false ∧ w.frozen? ⟨g, 1, none⟩ = false ∧ g < w.heap.size := ⟨h.cell 0, h.cell 1, h.frozen 0, h.frozen 1, h.head_lt⟩
theorem Mem.c3 (h : Mem w0 ((g, #[a, b, c], T) :: L) w) : w.cell? ⟨g, 0, none⟩ = some a ∧ w.cell? ⟨g, 1, none⟩ = some b ∧ w.cell? ⟨g, 2, none⟩ = some c ∧ w.frozen? ⟨g, 0, none⟩ = false ∧ w.frozen? ⟨g, 1, none⟩ = false ∧ w.frozen? ⟨g, 2, none⟩ = false ∧ g < w.heap.size := ⟨h.cell 0, h.cell 1, h.cell 2, h.frozen 0, h.frozen 1, h.frozen 2, h.head_lt⟩
theorem Mem.set_new {H : Nat} (h : Mem w0 ((g, cs, T) :: L) w) (hH : g < H) (i : Nat) (v : Value) : Mem w0 ((g, cs, T) :: L) (w.setCell ⟨H, i, none⟩ v) := by
  refine ⟨h.b.setCell (Nat.le_of_lt (Nat.lt_of_le_of_lt h.head_le hH)) v, fun x hx => ?_, h.p⟩
  have hne : x.1 ≠ H := by
    rcases List.mem_cons.1 hx with rfl | hx
    · exact Nat.ne_of_lt hH
    · exact Nat.ne_of_lt (Nat.lt_trans ((List.pairwise_cons.1 h.p).1 x hx) hH)
  exact ⟨(h.h x hx).1, by rw [Below.heap_setCell _ _ _ _ hne]; exact (h.h x hx).2⟩
theorem Mem.set_new2 {H : Nat} (h : Mem w0 ((g, cs, T) :: L) w) (hH : g < H) (u v : Value) : Mem w0 ((g, cs, T) :: L) ((w.setCell ⟨H, 0, none⟩ u).setCell ⟨H, 1, none⟩ v) := (h.set_new hH 0 u).set_new hH 1 v
theorem Mem.set_new3 {H : Nat} (h : Mem w0 ((g, cs, T) :: L) w) (hH : g < H) (t u v : Value) : Mem w0 ((g, cs, T) :: L) (((w.setCell ⟨H, 0, none⟩ t).setCell ⟨H, 1, none⟩ u).setCell ⟨H, 2, none⟩ v) := ((h.set_new hH 0 t).set_new hH 1 u).set_new hH 2 v
theorem Mem.realloc {o : Obj} (h : Mem w0 ((g, cs, T) :: L) (w.alloc o)) (hg : g < w.heap.size) (o' : Obj) : Mem w0 ((g, cs, T) :: L) (w.alloc o') := by
  have hle : w0.heap.size < w.heap.size := Nat.lt_of_le_of_lt h.head_le hg
  refine ⟨⟨h.b.os, h.b.tape, h.b.output, by have := h.b.size; simp at this ⊢; omega, fun k hk => ?_⟩, fun x hx => ⟨(h.h x hx).1, ?_⟩, h.p⟩
  · rw [Below.heap_alloc _ _ _ (by omega), ← h.b.block k hk, Below.heap_alloc _ _ _ (by omega)]
  · have hx2 : x.1 < w.heap.size := by
      rcases List.mem_cons.1 hx with rfl | hx
      · exact hg
      · exact Nat.lt_trans ((List.pairwise_cons.1 h.p).1 x hx) hg
    rw [Below.heap_alloc _ _ _ hx2, ← (h.h x hx).2, Below.heap_alloc _ _ _ hx2]
theorem Mem.alloc_at {H : Nat} (h : Mem w0 L w) (hH : w.heap.size = H) (cs : Array Value) (T : TypeId) : Mem w0 ((H, cs, T) :: L) (w.alloc (.cells cs T)) := by
  subst hH; exact h.alloc cs T
theorem Mem.set_old {H : Nat} (h : Mem w0 [(g, cs, T)] w) (h0 : w0.heap.size ≤ H) (hH : H < g) (i : Nat) (v : Value) : Mem w0 [(g, cs, T)] (w.setCell ⟨H, i, none⟩ v) := by
  refine ⟨h.b.setCell h0 v, fun x hx => ?_, h.p⟩
  obtain rfl : x = (g, cs, T) := by simpa using hx
  exact ⟨h.head_le, by rw [Below.heap_setCell _ _ _ _ (Nat.ne_of_gt hH)]; exact (h.h _ hx).2⟩
theorem Mem.set_old2 {H : Nat} (h : Mem w0 [(g, cs, T)] w) (h0 : w0.heap.size ≤ H) (hH : H < g) (u v : Value) : Mem w0 [(g, cs, T)] ((w.setCell ⟨H, 0, none⟩ u).setCell ⟨H, 1, none⟩ v) := (h.set_old h0 hH 0 u).set_old h0 hH 1 v
theorem Mem.all2 {g1 g2 : Nat} {a1 b1 a2 b2 : Value} {T1 T2 : TypeId} (h : Mem w0 ((g1, #[a1, b1], T1) :: (g2, #[a2, b2], T2) :: L) w) :
    w.cell? ⟨g1, 0, none⟩ = some a1 ∧ w.cell? ⟨g1, 1, none⟩ = some b1 ∧ w.cell? ⟨g2, 0, none⟩ = some a2 ∧ w.cell? ⟨g2, 1, none⟩ = some b2 := ⟨h.cell 0, h.cell 1, h.tail.cell 0, h.tail.cell 1⟩
theorem Mem.all3 {g1 g2 g3 : Nat} {a1 b1 a2 b2 a3 b3 : Value} {T1 T2 T3 : TypeId} (h : Mem w0 ((g1, #[a1, b1], T1) :: (g2, #[a2, b2], T2) :: (g3, #[a3, b3], T3) :: L) w) :
    w.cell? ⟨g1, 0, none⟩ = some a1 ∧ w.cell? ⟨g1, 1, none⟩ = some b1 ∧ w.cell? ⟨g2, 0, none⟩ = some a2 ∧ w.cell? ⟨g2, 1, none⟩ = some b2 ∧ w.cell? ⟨g3, 0, none⟩ = some a3 ∧ w.cell? ⟨g3, 1, none⟩ = some b3 :=
  ⟨h.cell 0, h.cell 1, h.tail.all2⟩
theorem Mem.all4 {g1 g2 g3 g4 : Nat} {a1 b1 a2 b2 a3 b3 a4 b4 : Value} {T1 T2 T3 T4 : TypeId} (h : Mem w0 ((g1, #[a1, b1], T1) :: (g2, #[a2, b2], T2) :: (g3, #[a3, b3], T3) :: (g4, #[a4, b4], T4) :: L) w) :
    w.cell? ⟨g1, 0, none⟩ = some a1 ∧ w.cell? ⟨g1, 1, none⟩ = some b1 ∧ w.cell? ⟨g2, 0, none⟩ = some a2 ∧ w.cell? ⟨g2, 1, none⟩ = some b2 ∧ w.cell? ⟨g3, 0, none⟩ = some a3 ∧ w.cell? ⟨g3, 1, none⟩ = some b3 ∧ w.cell? ⟨g4, 0, none⟩ = some a4 ∧ w.cell? ⟨g4, 1, none⟩ = some b4 :=
  ⟨h.cell 0, h.cell 1, h.tail.all3⟩
theorem Mem.put2 (h : Mem w0 ((g, #[a, b], T) :: L) w) (c d : Value) : Mem w0 ((g, #[c, d], T) :: L) ((w.setCell ⟨g, 0, none⟩ c).setCell ⟨g, 1, none⟩ d) := (h.set0 0 c).set0 1 d
theorem Mem.put2s (h : Mem w0 (x :: (g, #[a, b], T) :: L) w) (c d : Value) : Mem w0 (x :: (g, #[c, d], T) :: L) ((w.setCell ⟨g, 0, none⟩ c).setCell ⟨g, 1, none⟩ d) := (h.set1 0 c).set1 1 d
theorem Mem.put2t (h : Mem w0 (y :: x :: (g, #[a, b], T) :: L) w) (c d : Value) : Mem w0 (y :: x :: (g, #[c, d], T) :: L) ((w.setCell ⟨g, 0, none⟩ c).setCell ⟨g, 1, none⟩ d) := (h.set2 0 c).set2 1 d
theorem Mem.put3 (h : Mem w0 ((g, #[a, b, c], T) :: L) w) (d e f : Value) : Mem w0 ((g, #[d, e, f], T) :: L) (((w.setCell ⟨g, 0, none⟩ d).setCell ⟨g, 1, none⟩ e).setCell ⟨g, 2, none⟩ f) := ((h.set0 0 d).set0 1 e).set0 2 f
end

/-- Behind a call the old blocks read as before: two rules and a bound for the walk. -/
theorem old_cells {W w1 : World} (hb : Below W.heap.size W w1) : (∀ b o, b < W.heap.size → w1.cell? ⟨b, o, none⟩ = W.cell? ⟨b, o, none⟩) ∧ (∀ b o, b < W.heap.size → w1.frozen? ⟨b, o, none⟩ = W.frozen? ⟨b, o, none⟩) ∧ W.heap.size ≤ w1.heap.size :=
  ⟨fun b o h => hb.cell (p := ⟨b, o, none⟩) h, fun b o h => hb.frozen (p := ⟨b, o, none⟩) h, hb.size⟩

theorem StrS.mem {w0 w : World} {L : List (Nat × Array Value × TypeId)} {a : Option Addr} {ss : List ByteArray} (h : StrS w0 a ss) (hm : Mem w0 L w) : StrS w a ss := h.below hm.b

end Go.Proofs.Ytndhnpljdldlpab

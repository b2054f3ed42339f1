/- Worlds that hold several blocks and several rationals. -/
import Derived.Test.YtjnfgjaiahnfgaaMem
import Derived.Test.YtjnfgjaiahnfgaaRndD
namespace Go.Proofs.Ytjnfgjaiahnfgaa
open Go.RowKit

theorem IsQ.al {w : World} {x : Value} {q : Rat} (h : IsQ w x q) {o : Obj} : IsQ (w.alloc o) x q := h.below ((Below.refl _ _).alloc (Nat.le_refl _) _)

/-- Blocks that a call has laid, and values that read as rationals. -/
structure MQ (w0 : World) (L : List (Nat × Array Value × TypeId)) (Q : List (Value × Rat)) (w : World) : Prop where
  m : Mem w0 L w
  q : ∀ x ∈ Q, IsQ w x.1 x.2

section
variable {w0 w w' : World} {L : List (Nat × Array Value × TypeId)} {Q : List (Value × Rat)} {x0 x1 x2 x3 x4 : Value × Rat} {x y : Nat × Array Value × TypeId} {g : Nat} {a b c : Value} {T : TypeId}

theorem MQ.step (h : MQ w0 L Q w) (hb : Below w.heap.size w w') : MQ w0 L Q w' := ⟨h.m.step hb, fun x hx => (h.q x hx).below hb⟩

theorem MQ.drew (h : MQ w0 L Q w) : MQ w0 L Q w.drew := h.step (Below.refl _ _).drew

theorem MQ.skip (h : MQ w0 L Q w) (o : Obj) : MQ w0 L Q (w.alloc o) := h.step ((Below.refl _ _).alloc (Nat.le_refl _) _)

theorem MQ.alloc (h : MQ w0 L Q w) (cs : Array Value) (T : TypeId) : MQ w0 ((w.heap.size, cs, T) :: L) Q (w.alloc (.cells cs T)) := ⟨h.m.alloc cs T, (h.skip (.cells cs T)).q⟩

theorem MQ.push (h : MQ w0 L Q w) {v : Value} {p : Rat} (hv : IsQ w v p) : MQ w0 L ((v, p) :: Q) w := ⟨h.m, fun x hx => by
  rcases List.mem_cons.1 hx with rfl | hx
  · exact hv
  · exact h.q x hx⟩

theorem MQ.q0 (h : MQ w0 L (x0 :: Q) w) : IsQ w x0.1 x0.2 := h.q _ (by simp)

theorem MQ.q1 (h : MQ w0 L (x0 :: x1 :: Q) w) : IsQ w x1.1 x1.2 := h.q _ (by simp)

theorem MQ.q2 (h : MQ w0 L (x0 :: x1 :: x2 :: Q) w) : IsQ w x2.1 x2.2 := h.q _ (by simp)

theorem MQ.q3 (h : MQ w0 L (x0 :: x1 :: x2 :: x3 :: Q) w) : IsQ w x3.1 x3.2 := h.q _ (by simp)

theorem MQ.q4 (h : MQ w0 L (x0 :: x1 :: x2 :: x3 :: x4 :: Q) w) : IsQ w x4.1 x4.2 := h.q _ (by simp)

theorem Mem.d3 (h : Mem w0 ((g, #[a, b, c], T) :: L) w) : w.cell? ⟨g, 0, none⟩ = some a ∧ w.cell? ⟨g, 1, none⟩ = some b ∧ w.cell? ⟨g, 2, none⟩ = some c := ⟨h.cell 0, h.cell 1, h.cell 2⟩

theorem MQ.sub {Q' : List (Value × Rat)} (h : MQ w0 L Q w) (hs : ∀ x ∈ Q', x ∈ Q) : MQ w0 L Q' w := ⟨h.m, fun x hx => h.q x (hs x hx)⟩

theorem MQ.put3 {p : Bool} (h : MQ w0 ((g, #[.bool p, b, c], T) :: L) Q w) (d : Bool) (e f : Value) : MQ w0 ((g, #[.bool d, e, f], T) :: L) Q (((w.setCell ⟨g, 0, none⟩ (.bool d)).setCell ⟨g, 1, none⟩ e).setCell ⟨g, 2, none⟩ f) :=
  ⟨h.m.put3 _ _ _, fun x hx => (h.q x hx).set3 (fun n hn => by
    have hc := h.m.cell 0
    rw [hn] at hc
    simp at hc)⟩

theorem MQ.realloc {cs : Array Value} {o : Obj} (h : MQ w0 ((g, cs, T) :: L) [] (w.alloc o)) (hg : g < w.heap.size) (o' : Obj) : MQ w0 ((g, cs, T) :: L) [] (w.alloc o') := ⟨h.m.realloc hg o', by simp⟩

theorem MQ.set_new3 {H : Nat} {cs : Array Value} {t u v : Value} (h : MQ w0 ((g, cs, T) :: L) [] w) (hH : g < H) : MQ w0 ((g, cs, T) :: L) [] (((w.setCell ⟨H, 0, none⟩ t).setCell ⟨H, 1, none⟩ u).setCell ⟨H, 2, none⟩ v) := ⟨h.m.set_new3 hH t u v, by simp⟩

theorem IsQ.dr {w : World} {x : Value} {q : Rat} (h : IsQ w x q) : IsQ w.drew x q := h.below (Below.refl _ _).drew

theorem Mem.far {H : Nat} (h : Mem w0 L w) (h0 : w0.heap.size ≤ H) (hne : ∀ x ∈ L, x.1 ≠ H) (i : Nat) (v : Value) : Mem w0 L (w.setCell ⟨H, i, none⟩ v) :=
  ⟨h.b.setCell h0 v, fun x hx => ⟨(h.h x hx).1, by rw [Below.heap_setCell _ _ _ _ (hne x hx)]; exact (h.h x hx).2⟩, h.p⟩

theorem MQ.far3 {H : Nat} {t u v : Value} (h : MQ w0 L [] w) (h0 : w0.heap.size ≤ H) (hne : ∀ x ∈ L, x.1 ≠ H) : MQ w0 L [] (((w.setCell ⟨H, 0, none⟩ t).setCell ⟨H, 1, none⟩ u).setCell ⟨H, 2, none⟩ v) := ⟨((h.m.far h0 hne 0 t).far h0 hne 1 u).far h0 hne 2 v, by simp⟩

theorem MQ.tail (h : MQ w0 (x :: L) Q w) : MQ w0 L Q w := ⟨h.m.tail, h.q⟩

theorem MQ.del2 (h : MQ w0 (x :: y :: L) Q w) : MQ w0 (x :: L) Q w := ⟨h.m.drop2, h.q⟩

theorem MQ.sl {L' : List (Nat × Array Value × TypeId)} (h : MQ w0 L Q w) (hs : L'.Sublist L) : MQ w0 L' Q w := ⟨⟨h.m.b, fun x hx => h.m.h x (hs.subset hx), h.m.p.sublist hs⟩, h.q⟩

theorem MQ.far2 {H : Nat} {t u : Value} (h : MQ w0 L [] w) (h0 : w0.heap.size ≤ H) (hne : ∀ x ∈ L, x.1 ≠ H) : MQ w0 L [] ((w.setCell ⟨H, 0, none⟩ t).setCell ⟨H, 1, none⟩ u) := ⟨(h.m.far h0 hne 0 t).far h0 hne 1 u, by simp⟩

end

end Go.Proofs.Ytjnfgjaiahnfgaa

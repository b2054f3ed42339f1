/- Pairs: blocks of memory, slices of ints and of gloves, arrays; as the texts of skins have them. -/
import Derived.Test.YtchhadkmemckbabProg
import Derived.WalkKit
import Derived.WalkLawsBesides
import Derived.WalkSpells
import Derived.RegionTactic
import Derived.ChangeAlike
import Derived.LoopTactic
import Derived.Deep.QuietTactic
import Derived.BigQuiet
import Derived.Lib.Hide
import Derived.OwnWalk
import Derived.IntWalk
import Derived.Deep.RegionHeld3
import Derived.OpenShut
import Derived.Lib.SmallJoins
import Derived.SliceStrings
import Derived.ChangeSlices
import Derived.ChangeOld
import Derived.Deep.DeepAppendWide
import Derived.Deep.Slices
import Derived.Deep.Fields
import Derived.ChangeSame
import Derived.Deep.DeepCutAuto
import Derived.Deep.LoopGhost
import Derived.Laws.IdiomRangeMap
namespace Go.Proofs.Ytchhadkmemckbab
open Go.ChangeShapes Go.WideShapes Go.ChangeAt Go.RowKit Go.Deep

theorem block_lt {w : World} {k : Nat} {o : Obj} (h : w.heap[k]? = some o) : k < w.heap.size := (Array.getElem?_eq_some_iff.1 h).1

theorem grownBy_trans {w w1 w2 : World} {row : Option Nat} (h : w.grownBy w1 row) (k : w1.grownBy w2 row) : w.grownBy w2 row :=
  ⟨k.os.trans h.os, k.tape.trans h.tape, k.output.trans h.output, Nat.le_trans h.size k.size, fun i hi hne => (k.block i (Nat.lt_of_lt_of_le hi h.size) hne).trans (h.block i hi hne)⟩
theorem grownBy_below {w w1 : World} (row : Option Nat) (h : Below w.heap.size w w1) : w.grownBy w1 row :=
  ⟨h.os, h.tape, h.output, h.size, fun i hi _ => h.block i hi⟩

theorem block_box {w : World} {H : Nat} {v : Value} {T : TypeId} (h : w.heap[H]? = some (.cells #[v] T (0, 0))) : w.cell? ⟨H, 0, none⟩ = some v ∧ w.frozen? ⟨H, 0, none⟩ = false ∧ H < w.heap.size := by
  refine ⟨?_, ?_, block_lt h⟩
  · simp [World.cell?, h]
  · simp [World.frozen?, h]

/-- Blocks that a call has laid behind the world w0 (number, cells, type), the newest first. -/
structure Mem (w0 : World) (L : List (Nat × Array Value × TypeId)) (w : World) : Prop where
  b : Below w0.heap.size w0 w
  h : ∀ x ∈ L, w0.heap.size ≤ x.1 ∧ w.heap[x.1]? = some (.cells x.2.1 x.2.2 (0, 0))
  p : L.Pairwise fun x y => y.1 < x.1

section
variable {w0 w w' : World} {L L' : List (Nat × Array Value × TypeId)} {v : Value} {g i : Nat} {cs : Array Value} {T : TypeId} {x y : Nat × Array Value × TypeId}
theorem Mem.nil (w : World) : Mem w [] w := ⟨Below.refl _ _, by simp, .nil⟩
theorem Mem.lt (h : Mem w0 L w) (hx : x ∈ L) : x.1 < w.heap.size := (Array.getElem?_eq_some_iff.1 (h.h x hx).2).1
theorem Mem.step (h : Mem w0 L w) (hb : Below w.heap.size w w') : Mem w0 L w' :=
  ⟨h.b.trans (hb.mono h.b.size), fun x hx => ⟨(h.h x hx).1, (hb.block _ (h.lt hx)).trans (h.h x hx).2⟩, h.p⟩
theorem Mem.drew (h : Mem w0 L w) : Mem w0 L w.drew := h.step (Below.refl _ _).drew
theorem Mem.skip (h : Mem w0 L w) (o : Obj) : Mem w0 L (w.alloc o) := h.step ((Below.refl _ _).alloc (Nat.le_refl _) _)
theorem Mem.alloc (h : Mem w0 L w) (cs : Array Value) (T : TypeId) : Mem w0 ((w.heap.size, cs, T) :: L) (w.alloc (.cells cs T)) := by
  have h1 := h.skip (.cells cs T)
  refine ⟨h1.b, fun x hx => ?_, List.pairwise_cons.2 ⟨fun y hy => h.lt hy, h.p⟩⟩
  rcases List.mem_cons.1 hx with rfl | hx
  · exact ⟨h.b.size, heap_alloc_new _ _⟩
  · exact h1.h x hx
theorem Mem.tail (h : Mem w0 (x :: L) w) : Mem w0 L w := ⟨h.b, fun y hy => h.h y (List.mem_cons_of_mem _ hy), (List.pairwise_cons.1 h.p).2⟩
theorem Mem.drop2 (h : Mem w0 (x :: y :: L) w) : Mem w0 (x :: L) w :=
  ⟨h.b, fun z hz => h.h z (by rcases List.mem_cons.1 hz with rfl | hz <;> simp [*]), List.pairwise_cons.2 ⟨fun z hz => (List.pairwise_cons.1 h.p).1 z (List.mem_cons_of_mem _ hz), (List.pairwise_cons.1 (List.pairwise_cons.1 h.p).2).2⟩⟩
theorem Mem.cell (h : Mem w0 ((g, cs, T) :: L) w) (i : Nat) : w.cell? ⟨g, i, none⟩ = cs[i]? := by
  have := (h.h _ (List.mem_cons_self ..)).2
  simp only [World.cell?]
  rw [this]; rfl
theorem Mem.frozen (h : Mem w0 ((g, cs, T) :: L) w) (i : Nat) : w.frozen? ⟨g, i, none⟩ = false := by
  have := (h.h _ (List.mem_cons_self ..)).2
  simp only [World.frozen?]
  rw [this]; simp
theorem Mem.head_lt (h : Mem w0 ((g, cs, T) :: L) w) : g < w.heap.size := h.lt (List.mem_cons_self ..)
theorem Mem.head_le (h : Mem w0 ((g, cs, T) :: L) w) : w0.heap.size ≤ g := (h.h _ (List.mem_cons_self ..)).1
theorem Mem.gt (h : Mem w0 (x :: y :: L) w) : y.1 < x.1 := (List.pairwise_cons.1 h.p).1 y (List.mem_cons_self ..)
/-- The head block's cells as a list. -/
theorem Mem.two (h : Mem w0 ((g, cs, T) :: L) w) : (∀ i, w.cell? ⟨g, i, none⟩ = cs[i]?) ∧ (∀ i, w.frozen? ⟨g, i, none⟩ = false) ∧ g < w.heap.size ∧ w0.heap.size ≤ g := ⟨h.cell, h.frozen, h.head_lt, h.head_le⟩
theorem Mem.set0 (h : Mem w0 ((g, cs, T) :: L) w) (i : Nat) (v : Value) : Mem w0 ((g, cs.setIfInBounds i v, T) :: L) (w.setCell ⟨g, i, none⟩ v) := by
  refine ⟨h.b.setCell h.head_le v, fun x hx => ?_, ?_⟩
  · rcases List.mem_cons.1 hx with rfl | hx
    · refine ⟨h.head_le, ?_⟩
      have := (h.h _ (List.mem_cons_self ..)).2
      simp only [World.setCell, Array.getElem?_modify, this]
      simp
    · have hne : x.1 ≠ g := Nat.ne_of_lt ((List.pairwise_cons.1 h.p).1 x hx)
      exact ⟨(h.h x (List.mem_cons_of_mem _ hx)).1, by rw [Below.heap_setCell _ _ _ _ hne]; exact (h.h x (List.mem_cons_of_mem _ hx)).2⟩
  · exact List.pairwise_cons.2 ⟨fun y hy => (List.pairwise_cons.1 h.p).1 y hy, (List.pairwise_cons.1 h.p).2⟩
theorem Mem.setx (h : Mem w0 (x :: L) w) (h' : Mem w0 L' (w.setCell ⟨g, i, none⟩ v)) (hg : x.1 ≠ g) (hL : ∀ y ∈ L', y.1 < x.1) : Mem w0 (x :: L') (w.setCell ⟨g, i, none⟩ v) :=
  ⟨h'.b, fun y hy => by
    rcases List.mem_cons.1 hy with rfl | hy
    · exact ⟨(h.h _ (List.mem_cons_self ..)).1, by rw [Below.heap_setCell _ _ _ _ hg]; exact (h.h _ (List.mem_cons_self ..)).2⟩
    · exact h'.h y hy, List.pairwise_cons.2 ⟨hL, h'.p⟩⟩
theorem Mem.set1 (h : Mem w0 (x :: (g, cs, T) :: L) w) (i : Nat) (v : Value) : Mem w0 (x :: (g, cs.setIfInBounds i v, T) :: L) (w.setCell ⟨g, i, none⟩ v) := by
  refine h.setx (h.tail.set0 i v) (Nat.ne_of_gt h.gt) fun y hy => ?_
  rcases List.mem_cons.1 hy with rfl | hy
  · exact h.gt
  · exact (List.pairwise_cons.1 h.p).1 y (List.mem_cons_of_mem _ hy)
theorem Mem.set2 (h : Mem w0 (y :: x :: (g, cs, T) :: L) w) (i : Nat) (v : Value) : Mem w0 (y :: x :: (g, cs.setIfInBounds i v, T) :: L) (w.setCell ⟨g, i, none⟩ v) := by
  refine h.setx (h.tail.set1 i v) (Nat.ne_of_gt ((List.pairwise_cons.1 h.p).1 (g, cs, T) (by simp))) fun z hz => ?_
  rcases List.mem_cons.1 hz with rfl | hz
  · exact h.gt
  · rcases List.mem_cons.1 hz with rfl | hz
    · exact (List.pairwise_cons.1 h.p).1 (g, cs, T) (by simp)
    · exact (List.pairwise_cons.1 h.p).1 z (by simp [hz])
variable {a b c d e f : Value}
theorem Mem.c2 (h : Mem w0 ((g, #[a, b], T) :: L) w) : w.cell? ⟨g, 0, none⟩ = some a ∧ w.cell? ⟨g, 1, none⟩ = some b ∧ w.frozen? ⟨g, 0, none⟩ = false ∧ w.frozen? ⟨g, 1, none⟩ = false ∧ g < w.heap.size := ⟨h.cell 0, h.cell 1, h.frozen 0, h.frozen 1, h.head_lt⟩
theorem Mem.c3 (h : Mem w0 ((g, #[a, b, c], T) :: L) w) : w.cell? ⟨g, 0, none⟩ = some a ∧ w.cell? ⟨g, 1, none⟩ = some b ∧ w.cell? ⟨g, 2, none⟩ = some c ∧ w.frozen? ⟨g, 0, none⟩ = false ∧ w.frozen? ⟨g, 1, none⟩ = false ∧ w.frozen? ⟨g, 2, none⟩ = false ∧ g < w.heap.size := ⟨h.cell 0, h.cell 1, h.cell 2, h.frozen 0, h.frozen 1, h.frozen 2, h.head_lt⟩
theorem Mem.set_new {H : Nat} (h : Mem w0 ((g, cs, T) :: L) w) (hH : g < H) (i : Nat) (v : Value) : Mem w0 ((g, cs, T) :: L) (w.setCell ⟨H, i, none⟩ v) := by
  refine ⟨h.b.setCell (Nat.le_of_lt (Nat.lt_of_le_of_lt h.head_le hH)) v, fun x hx => ?_, h.p⟩
  have hne : x.1 ≠ H := by
    rcases List.mem_cons.1 hx with rfl | hx
    · exact Nat.ne_of_lt hH
    · exact Nat.ne_of_lt (Nat.lt_trans ((List.pairwise_cons.1 h.p).1 x hx) hH)
  exact ⟨(h.h x hx).1, by rw [Below.heap_setCell _ _ _ _ hne]; exact (h.h x hx).2⟩
theorem Mem.set_new2 {H : Nat} (h : Mem w0 ((g, cs, T) :: L) w) (hH : g < H) (u v : Value) : Mem w0 ((g, cs, T) :: L) ((w.setCell ⟨H, 0, none⟩ u).setCell ⟨H, 1, none⟩ v) := (h.set_new hH 0 u).set_new hH 1 v
theorem Mem.set_new3 {H : Nat} (h : Mem w0 ((g, cs, T) :: L) w) (hH : g < H) (t u v : Value) : Mem w0 ((g, cs, T) :: L) (((w.setCell ⟨H, 0, none⟩ t).setCell ⟨H, 1, none⟩ u).setCell ⟨H, 2, none⟩ v) := ((h.set_new hH 0 t).set_new hH 1 u).set_new hH 2 v
theorem Mem.realloc {o : Obj} (h : Mem w0 ((g, cs, T) :: L) (w.alloc o)) (hg : g < w.heap.size) (o' : Obj) : Mem w0 ((g, cs, T) :: L) (w.alloc o') := by
  have hle : w0.heap.size < w.heap.size := Nat.lt_of_le_of_lt h.head_le hg
  refine ⟨⟨h.b.os, h.b.tape, h.b.output, by have := h.b.size; simp at this ⊢; omega, fun k hk => ?_⟩, fun x hx => ⟨(h.h x hx).1, ?_⟩, h.p⟩
  · rw [Below.heap_alloc _ _ _ (by omega), ← h.b.block k hk, Below.heap_alloc _ _ _ (by omega)]
  · have hx2 : x.1 < w.heap.size := by
      rcases List.mem_cons.1 hx with rfl | hx
      · exact hg
      · exact Nat.lt_trans ((List.pairwise_cons.1 h.p).1 x hx) hg
    rw [Below.heap_alloc _ _ _ hx2, ← (h.h x hx).2, Below.heap_alloc _ _ _ hx2]
theorem Mem.alloc_at {H : Nat} (h : Mem w0 L w) (hH : w.heap.size = H) (cs : Array Value) (T : TypeId) : Mem w0 ((H, cs, T) :: L) (w.alloc (.cells cs T)) := by
  subst hH; exact h.alloc cs T
theorem Mem.set_old {H : Nat} (h : Mem w0 [(g, cs, T)] w) (h0 : w0.heap.size ≤ H) (hH : H < g) (i : Nat) (v : Value) : Mem w0 [(g, cs, T)] (w.setCell ⟨H, i, none⟩ v) := by
  refine ⟨h.b.setCell h0 v, fun x hx => ?_, h.p⟩
  obtain rfl : x = (g, cs, T) := by simpa using hx
  exact ⟨h.head_le, by rw [Below.heap_setCell _ _ _ _ (Nat.ne_of_gt hH)]; exact (h.h _ hx).2⟩
theorem Mem.set_old2 {H : Nat} (h : Mem w0 [(g, cs, T)] w) (h0 : w0.heap.size ≤ H) (hH : H < g) (u v : Value) : Mem w0 [(g, cs, T)] ((w.setCell ⟨H, 0, none⟩ u).setCell ⟨H, 1, none⟩ v) := (h.set_old h0 hH 0 u).set_old h0 hH 1 v
theorem Mem.all2 {g1 g2 : Nat} {a1 b1 a2 b2 : Value} {T1 T2 : TypeId} (h : Mem w0 ((g1, #[a1, b1], T1) :: (g2, #[a2, b2], T2) :: L) w) :
    w.cell? ⟨g1, 0, none⟩ = some a1 ∧ w.cell? ⟨g1, 1, none⟩ = some b1 ∧ w.cell? ⟨g2, 0, none⟩ = some a2 ∧ w.cell? ⟨g2, 1, none⟩ = some b2 := ⟨h.cell 0, h.cell 1, h.tail.cell 0, h.tail.cell 1⟩
theorem Mem.all3 {g1 g2 g3 : Nat} {a1 b1 a2 b2 a3 b3 : Value} {T1 T2 T3 : TypeId} (h : Mem w0 ((g1, #[a1, b1], T1) :: (g2, #[a2, b2], T2) :: (g3, #[a3, b3], T3) :: L) w) :
    w.cell? ⟨g1, 0, none⟩ = some a1 ∧ w.cell? ⟨g1, 1, none⟩ = some b1 ∧ w.cell? ⟨g2, 0, none⟩ = some a2 ∧ w.cell? ⟨g2, 1, none⟩ = some b2 ∧ w.cell? ⟨g3, 0, none⟩ = some a3 ∧ w.cell? ⟨g3, 1, none⟩ = some b3 :=
  ⟨h.cell 0, h.cell 1, h.tail.all2⟩
theorem Mem.all4 {g1 g2 g3 g4 : Nat} {a1 b1 a2 b2 a3 b3 a4 b4 : Value} {T1 T2 T3 T4 : TypeId} (h : Mem w0 ((g1, #[a1, b1], T1) :: (g2, #[a2, b2], T2) :: (g3, #[a3, b3], T3) :: (g4, #[a4, b4], T4) :: L) w) :
    w.cell? ⟨g1, 0, none⟩ = some a1 ∧ w.cell? ⟨g1, 1, none⟩ = some b1 ∧ w.cell? ⟨g2, 0, none⟩ = some a2 ∧ w.cell? ⟨g2, 1, none⟩ = some b2 ∧ w.cell? ⟨g3, 0, none⟩ = some a3 ∧ w.cell? ⟨g3, 1, none⟩ = some b3 ∧ w.cell? ⟨g4, 0, none⟩ = some a4 ∧ w.cell? ⟨g4, 1, none⟩ = some b4 :=
  ⟨h.cell 0, h.cell 1, h.tail.all3⟩
theorem Mem.put2 (h : Mem w0 ((g, #[a, b], T) :: L) w) (c d : Value) : Mem w0 ((g, #[c, d], T) :: L) ((w.setCell ⟨g, 0, none⟩ c).setCell ⟨g, 1, none⟩ d) := (h.set0 0 c).set0 1 d
theorem Mem.put2s (h : Mem w0 (x :: (g, #[a, b], T) :: L) w) (c d : Value) : Mem w0 (x :: (g, #[c, d], T) :: L) ((w.setCell ⟨g, 0, none⟩ c).setCell ⟨g, 1, none⟩ d) := (h.set1 0 c).set1 1 d
theorem Mem.put2t (h : Mem w0 (y :: x :: (g, #[a, b], T) :: L) w) (c d : Value) : Mem w0 (y :: x :: (g, #[c, d], T) :: L) ((w.setCell ⟨g, 0, none⟩ c).setCell ⟨g, 1, none⟩ d) := (h.set2 0 c).set2 1 d
theorem Mem.put3 (h : Mem w0 ((g, #[a, b, c], T) :: L) w) (d e f : Value) : Mem w0 ((g, #[d, e, f], T) :: L) (((w.setCell ⟨g, 0, none⟩ d).setCell ⟨g, 1, none⟩ e).setCell ⟨g, 2, none⟩ f) := ((h.set0 0 d).set0 1 e).set0 2 f
end

/-- Behind a call the old blocks read as before: two rules and a bound for the walk. -/
theorem old_cells {W w1 : World} (hb : Below W.heap.size W w1) : (∀ b o, b < W.heap.size → w1.cell? ⟨b, o, none⟩ = W.cell? ⟨b, o, none⟩) ∧ (∀ b o, b < W.heap.size → w1.frozen? ⟨b, o, none⟩ = W.frozen? ⟨b, o, none⟩) ∧ W.heap.size ≤ w1.heap.size :=
  ⟨fun b o h => hb.cell (p := ⟨b, o, none⟩) h, fun b o h => hb.frozen (p := ⟨b, o, none⟩) h, hb.size⟩

theorem cell_block_lt {w : World} {a : Addr} {v : Value} (h : w.cell? a = some v) : a.block < w.heap.size := by
  rcases Nat.lt_or_ge a.block w.heap.size with hlt | hge
  · exact hlt
  · simp [World.cell?, Array.getElem?_eq_none hge] at h

theorem add_off (b off i : Nat) : (⟨b, off, none⟩ : Addr).add i = ⟨b, off + i, none⟩ := by
  unfold Addr.add; split <;> simp_all

/-- The slice's value and memory read as these ints. -/
def IntK (w : World) (a : Option Addr) (zs : List Int) : Prop :=
  zs = [] ∨ ∃ b off, a = some ⟨b, off, none⟩ ∧ b < w.heap.size ∧ ∀ j (h : j < zs.length), w.cell? ⟨b, off + j, none⟩ = some (.int .i64 zs[j])

theorem IntK.below {w w' : World} {a : Option Addr} {zs : List Int} (h : IntK w a zs) (hb : Below w.heap.size w w') : IntK w' a zs := by
  rcases h with h | ⟨b, off, e, hl, hc⟩
  · exact .inl h
  · exact .inr ⟨b, off, e, Nat.lt_of_lt_of_le hl hb.size, fun j hj => (hb.cell (p := ⟨b, off + j, none⟩) hl).trans (hc j hj)⟩
theorem IntK.at_ {w : World} {a : Option Addr} {zs : List Int} (h : IntK w a zs) {k : Nat} (hk : k < zs.length) :
    ∃ b off, a = some ⟨b, off, none⟩ ∧ b < w.heap.size ∧ w.cell? ⟨b, off + k, none⟩ = some (.int .i64 zs[k]) := by
  rcases h with h | ⟨b, off, e, hl, hc⟩
  · subst h; simp at hk
  · exact ⟨b, off, e, hl, hc k hk⟩

theorem open_intK {H : Type} {enc : TypeId × Value → H} {W : World} {a : Option Addr} {len cap : Nat} {d : DataW H} {p : List MemPlace}
    (h : DataW.Trod enc Try.prog W 0 (fun _ => true) true 36 (.slice a len cap) d p) : ∃ zs : List Int, zs.length = len ∧ IntK W a zs ∧ zs.length ≤ maxLen ∧ ∀ z ∈ zs, (Lit.int .i64 z).wf = true := by
  obtain ⟨fuel, hf⟩ := h
  rcases open_ints Try.underlying36 Try.underlying3 (by kernel_rfl) hf with ⟨hcs, _⟩ | ⟨x, l, c, zs, hcs, _, hl, hm, hz, _, hcell, hwz⟩
  · simp [Value.cells] at hcs
    obtain ⟨rfl, rfl, rfl⟩ := hcs
    exact ⟨[], rfl, .inl rfl, by simp, by simp⟩
  · simp [Value.cells] at hcs
    obtain ⟨rfl, rfl, rfl⟩ := hcs
    have hz' : zs.length = cap := by simpa using hz
    refine ⟨zs.take len, by rw [List.length_take]; omega, ?_, by rw [List.length_take]; omega, fun z hz => hwz z (List.mem_of_mem_take hz)⟩
    by_cases h0 : len = 0
    · exact .inl (by simp [h0])
    · right
      have hc0 := hcell 0 (by omega)
      have hsp := World.cell?_spot hc0
      obtain ⟨b, off, spot⟩ := x
      have hspot : spot = none := by simpa [Addr.add] using hsp
      subst hspot
      refine ⟨b, off, rfl, by simpa [Addr.add] using cell_block_lt hc0, fun j hj => ?_⟩
      have hj' : j < zs.length := by rw [List.length_take] at hj; omega
      have := hcell j hj'
      rw [add_off] at this
      rw [this, List.getElem_take]
      simp [List.getD_eq_getElem?_getD, List.getElem?_eq_getElem hj']

/-- The cells of N ints. -/
def cA (N : Nat) (f : Nat → Int) : Array Value := Array.ofFn (n := N) fun i => Value.int .i64 (f i)
theorem cA_size (N : Nat) (f : Nat → Int) : (cA N f).size = N := by unfold cA; exact Array.size_ofFn
theorem cA_get {N : Nat} {f : Nat → Int} {i : Nat} (h : i < N) : (cA N f)[i]? = some (.int .i64 (f i)) := by
  rw [Array.getElem?_eq_getElem (by rw [cA_size]; exact h)]
  unfold cA
  rw [Array.getElem_ofFn]
theorem cA_set {N : Nat} {f : Nat → Int} {i : Nat} (x : Int) : (cA N f).setIfInBounds i (.int .i64 x) = cA N fun k => if k = i then x else f k := by
  apply Array.ext
  · rw [Array.size_setIfInBounds, cA_size, cA_size]
  · intro k h1 h2
    have hk : k < N := by rw [cA_size] at h2; exact h2
    rw [Array.getElem_setIfInBounds]
    have e2 := cA_get (f := fun k => if k = i then x else f k) hk
    rw [Array.getElem?_eq_getElem h2] at e2
    have e1 := cA_get (f := f) hk
    rw [Array.getElem?_eq_getElem (by rw [cA_size]; exact hk)] at e1
    rw [Option.some.inj e2]
    by_cases hki : k = i
    · subst hki; simp
    · rw [if_neg (fun e => hki e.symm), Option.some.inj e1, if_neg hki]
    rw [cA_size]; exact hk

/-- The world w0, with new blocks, block n of them N ints. -/
structure CT (w0 : World) (n N : Nat) (T : TypeId) (f : Nat → Int) (wr : World) : Prop where
  b : Below w0.heap.size w0 wr
  le : w0.heap.size ≤ n
  arr : wr.heap[n]? = some (.cells (cA N f) T (0, 0))
section
variable {w0 wr w2 : World} {n N : Nat} {T : TypeId} {f : Nat → Int}
theorem CT.step (h : CT w0 n N T f wr) (hb : Below wr.heap.size wr w2) : CT w0 n N T f w2 := ⟨h.b.trans (hb.mono h.b.size), h.le, (hb.block _ (block_lt h.arr)).trans h.arr⟩
theorem CT.cell (h : CT w0 n N T f wr) {i : Nat} (hi : i < N) : wr.cell? ⟨n, i, none⟩ = some (.int .i64 (f i)) := by
  simp only [World.cell?]; rw [h.arr]; exact cA_get hi
theorem CT.frozen (h : CT w0 n N T f wr) (i : Nat) : wr.frozen? ⟨n, i, none⟩ = false := by
  simp only [World.frozen?]; rw [h.arr]; simp
theorem CT.lt (h : CT w0 n N T f wr) : n < wr.heap.size := block_lt h.arr
theorem CT.set (h : CT w0 n N T f wr) (i : Nat) (x : Int) : CT w0 n N T (fun k => if k = i then x else f k) (wr.setCell ⟨n, i, none⟩ (.int .i64 x)) := by
  refine ⟨h.b.setCell h.le _, h.le, ?_⟩
  simp only [World.setCell, Array.getElem?_modify, h.arr]
  simp [cA_set]
theorem CT.congr (h : CT w0 n N T f wr) {f' : Nat → Int} (e : f = f') : CT w0 n N T f' wr := e ▸ h
end

/-- N cells. -/
def cV (N : Nat) (V : Nat → Value) : Array Value := Array.ofFn (n := N) fun i => V i
theorem cV_size (N : Nat) (V : Nat → Value) : (cV N V).size = N := by unfold cV; exact Array.size_ofFn
theorem cV_get {N : Nat} {V : Nat → Value} {i : Nat} (h : i < N) : (cV N V)[i]? = some (V i) := by
  rw [Array.getElem?_eq_getElem (by rw [cV_size]; exact h)]
  unfold cV
  rw [Array.getElem_ofFn]
theorem cV_congr {N : Nat} {V V' : Nat → Value} (h : ∀ k, k < N → V k = V' k) : cV N V = cV N V' := by
  apply Array.ext
  · rw [cV_size, cV_size]
  · intro i h1 h2
    have hi : i < N := by rw [cV_size] at h1; exact h1
    have e1 := cV_get (V := V) hi
    have e2 := cV_get (V := V') hi
    rw [Array.getElem?_eq_getElem h1] at e1
    rw [Array.getElem?_eq_getElem h2] at e2
    rw [Option.some.inj e1, Option.some.inj e2, h i hi]
theorem cV_set {N : Nat} {V : Nat → Value} {i : Nat} (x : Value) : (cV N V).setIfInBounds i x = cV N fun k => if k = i then x else V k := by
  apply Array.ext
  · rw [Array.size_setIfInBounds, cV_size, cV_size]
  · intro k h1 h2
    have hk : k < N := by rw [cV_size] at h2; exact h2
    rw [Array.getElem_setIfInBounds]
    have e2 := cV_get (V := fun k => if k = i then x else V k) hk
    rw [Array.getElem?_eq_getElem h2] at e2
    have e1 := cV_get (V := V) hk
    rw [Array.getElem?_eq_getElem (by rw [cV_size]; exact hk)] at e1
    rw [Option.some.inj e2]
    by_cases hki : k = i
    · subst hki; simp
    · rw [if_neg (fun e => hki e.symm), Option.some.inj e1, if_neg hki]
    rw [cV_size]; exact hk

/-- The world w0, with new blocks, block n of them N cells. -/
structure VT (w0 : World) (n N : Nat) (T : TypeId) (V : Nat → Value) (wr : World) : Prop where
  b : Below w0.heap.size w0 wr
  le : w0.heap.size ≤ n
  arr : wr.heap[n]? = some (.cells (cV N V) T (0, 0))
section
variable {w0 wr w2 : World} {n N : Nat} {T : TypeId} {V V' : Nat → Value}
theorem VT.step (h : VT w0 n N T V wr) (hb : Below wr.heap.size wr w2) : VT w0 n N T V w2 := ⟨h.b.trans (hb.mono h.b.size), h.le, (hb.block _ (block_lt h.arr)).trans h.arr⟩
theorem VT.cell (h : VT w0 n N T V wr) {i : Nat} (hi : i < N) : wr.cell? ⟨n, i, none⟩ = some (V i) := by
  simp only [World.cell?]; rw [h.arr]; exact cV_get hi
theorem VT.frozen (h : VT w0 n N T V wr) (i : Nat) : wr.frozen? ⟨n, i, none⟩ = false := by
  simp only [World.frozen?]; rw [h.arr]; simp
theorem VT.lt (h : VT w0 n N T V wr) : n < wr.heap.size := block_lt h.arr
theorem VT.set (h : VT w0 n N T V wr) (i : Nat) (x : Value) : VT w0 n N T (fun k => if k = i then x else V k) (wr.setCell ⟨n, i, none⟩ x) := by
  refine ⟨h.b.setCell h.le _, h.le, ?_⟩
  simp only [World.setCell, Array.getElem?_modify, h.arr]
  simp [cV_set]
theorem VT.congr (h : VT w0 n N T V wr) (e : ∀ k, k < N → V k = V' k) : VT w0 n N T V' wr := ⟨h.b, h.le, by rw [h.arr, cV_congr e]⟩
theorem VT.new (w : World) (N : Nat) (T : TypeId) (V : Nat → Value) : VT w w.heap.size N T V (w.alloc (.cells (cV N V) T)) := ⟨(Below.refl _ _).alloc (Nat.le_refl _) _, Nat.le_refl _, heap_alloc_new _ _⟩
end

theorem cV_made (v : Value) (hv : v.cells = #[v]) (n : Nat) : madeCells v.cells n = cV n fun _ => v := by
  rw [hv]
  apply Array.ext'
  apply List.ext_getElem
  · simp [madeCells, cV]
  · intro i h1 h2
    simp [madeCells, cV, Nat.mod_one]

/-- The world w0, with new blocks: v is a slice of its own, of the one-cell values xs. -/
structure OV (w0 : World) (e : TypeId) (v : Value) (xs : List Value) (wr : World) : Prop where
  b : Below w0.heap.size w0 wr
  own : wr.ownsRow w0.heap.size e 1 v xs.length xs
section
variable {w0 wr w2 : World} {e : TypeId} {v v' x : Value} {xs : List Value}
theorem OV.start (w : World) (e : TypeId) : OV w e (.slice none 0 0) [] w := ⟨Below.refl _ _, ⟨by simp, .inl ⟨rfl, rfl⟩⟩⟩
theorem OV.step (h : OV w0 e v xs wr) (hb : Below wr.heap.size wr w2) : OV w0 e v xs w2 :=
  ⟨h.b.trans (hb.mono h.b.size), h.own.kept (row := none) (grownBy_below none hb) (by
    cases hk : v.ownBlock with
    | none => exact .inl rfl
    | some k => exact .inr (by simp))⟩
theorem OV.push (h : OV w0 e v xs wr) (hown : w2.ownsRow w0.heap.size e 1 v' (xs.length + 1) (xs ++ [x])) (hg : wr.grownBy w2 v.ownBlock) : OV w0 e v' (xs ++ [x]) w2 := by
  have hlt := h.own.lt
  refine ⟨⟨hg.os.trans h.b.os, hg.tape.trans h.b.tape, hg.output.trans h.b.output, Nat.le_trans h.b.size hg.size, fun i hi => ?_⟩, ?_⟩
  · exact (hg.block i (Nat.lt_of_lt_of_le hi h.b.size) (fun e => by have := (hlt i e.symm).1; omega)).trans (h.b.block i hi)
  · rw [List.length_append]; exact hown
theorem OV.form (h : OV w0 e v xs wr) : ∃ a cap, v = .slice a xs.length cap ∧ (xs = [] ∨ ∃ g, a = some ⟨g, 0, none⟩ ∧ g < wr.heap.size ∧ ∀ j (hj : j < xs.length), wr.cell? ⟨g, j, none⟩ = some xs[j]) := by
  rcases h.own.2 with ⟨hv, h0⟩ | ⟨g, cap, cur, hv, hb, hh, -⟩
  · exact ⟨none, 0, by rw [hv, h0], .inl (List.length_eq_zero_iff.1 h0)⟩
  · refine ⟨some ⟨g, 0, none⟩, cap, hv, .inr ⟨g, rfl, block_lt hh, fun j hj => ?_⟩⟩
    have := h.own.cells (g := g) (by rw [hv]; rfl) j xs[j] (List.getElem?_eq_getElem hj)
    rwa [add_off, Nat.zero_add] at this
theorem OV.ints {zs : List Int} (h : OV w0 e v (zs.map (Value.int .i64)) wr) : ∃ a cap, v = .slice a zs.length cap ∧ IntK wr a zs := by
  obtain ⟨a, cap, hv, hx⟩ := h.form
  rw [List.length_map] at hv
  refine ⟨a, cap, hv, ?_⟩
  rcases hx with hx | ⟨g, ha, hl, hc⟩
  · exact .inl (List.map_eq_nil_iff.1 hx)
  · exact .inr ⟨g, 0, ha, hl, fun j hj => by
      have := hc j (by rw [List.length_map]; exact hj)
      rw [Nat.zero_add, this, List.getElem_map]⟩

end

theorem cell_one_new (w : World) (u : Value) (T : TypeId) : ∀ (j : Nat) (x : Value), [u][j]? = some x → (w.alloc (.cells #[u] T)).cell? ((⟨w.heap.size, 0, none⟩ : Addr).add j) = some x := by
  have h := block_box (heap_alloc_new w (.cells #[u] T))
  intro j x hx
  match j, hx with
  | 0, hx => simp at hx; subst hx; exact h.1
  | j + 1, hx => simp at hx

section
variable {H : Type} {enc : TypeId × Value → H} {P : Program} {w : World} {base : Nat} {spare : Nat → Bool} {held : Bool}
/-- A slice of structs of one-cell fields, cell by cell. -/
theorem open_sliceF {t e : TypeId} {fs : Array Field} {fuel : Nat} {cs : List Value} {x : DataW H × List MemPlace} (ht : P.underlying t = some (.slice e)) (he : P.underlying e = some (.struct fs))
    (hone : oneCellFields P fs = true) (hC : P.cellsOf e = fs.size) (h : DataW.trod enc P w base spare held fuel t cs = some x) :
    cs = [.slice none 0 0] ∨
    ∃ (a : Addr) (len cap m : Nat), cs = [.slice (some a) len cap] ∧ len ≤ cap ∧ cap ≤ maxLen ∧ m = (if spare a.block then cap else len) ∧
      ∀ i, i < m → ∀ (j : Nat) (f : Field), fs[j]? = some f → ∃ (v : Value) (y : DataW H × List MemPlace) (n : Nat), w.cell? (a.add (i * fs.size + j)) = some v ∧ DataW.trod enc P w base spare held n f.type [v] = some y := by
  obtain h0 | ⟨a, len, cap, m, n, D, Pl, hcs, -, hl, hm, hmm, -, hi⟩ := open_slice ht h
  · left; exact h0.1
  right
  refine ⟨a, len, cap, m, hcs, hl, hm, hmm, ?_⟩
  intro i him j f hj
  have hjs : j < fs.size := (Array.getElem?_eq_some_iff.1 hj).1
  obtain ⟨vs, hc, hs⟩ := hi i him
  obtain ⟨ys, k, -, -, hlen, hyl, hf⟩ := DataW.trod_struct he hs
  obtain ⟨-, hcl, hat⟩ := World.cells?_some hc
  rw [hC] at hcl hat
  have hvl : j < vs.length := by omega
  have hyl' : j < ys.length := by omega
  obtain ⟨ho, hk⟩ := hone_of hone j f hj
  have ht := hf j f hj
  rw [ho, hk, List.drop_eq_getElem_cons hvl, List.take_succ_cons, List.take_zero] at ht
  have hcell := hat j hjs
  exact ⟨vs[j], ys[j], k, by rw [← Go.Deep.add_add, hcell, List.getElem?_eq_getElem hvl], ht.trans (List.getElem?_eq_getElem hyl')⟩
end

abbrev Rc := Int × Int × Int × Int
/-- The slice's value and memory read as these rectangles. -/
def RecS (w : World) (a : Option Addr) (rs : List Rc) : Prop :=
  rs = [] ∨ ∃ b off, a = some ⟨b, off, none⟩ ∧ b < w.heap.size ∧ ∀ j (h : j < rs.length), w.cell? ⟨b, off + j * 4, none⟩ = some (.int .i64 rs[j].1) ∧ w.cell? ⟨b, off + j * 4 + 1, none⟩ = some (.int .i64 rs[j].2.1) ∧ w.cell? ⟨b, off + j * 4 + 2, none⟩ = some (.int .i64 rs[j].2.2.1) ∧ w.cell? ⟨b, off + j * 4 + 3, none⟩ = some (.int .i64 rs[j].2.2.2)
theorem RecS.below {w w' : World} {a : Option Addr} {rs : List Rc} (h : RecS w a rs) (hb : Below w.heap.size w w') : RecS w' a rs := by
  rcases h with h | ⟨b, off, e, hl, hc⟩
  · exact .inl h
  · refine .inr ⟨b, off, e, Nat.lt_of_lt_of_le hl hb.size, fun j hj => ?_⟩
    obtain ⟨h1, h2, h3, h4⟩ := hc j hj
    exact ⟨(hb.cell (p := ⟨b, _, none⟩) hl).trans h1, (hb.cell (p := ⟨b, _, none⟩) hl).trans h2, (hb.cell (p := ⟨b, _, none⟩) hl).trans h3, (hb.cell (p := ⟨b, _, none⟩) hl).trans h4⟩
theorem RecS.at_ {w : World} {a : Option Addr} {rs : List Rc} (h : RecS w a rs) {k : Nat} (hk : k < rs.length) :
    ∃ b off, a = some ⟨b, off, none⟩ ∧ b < w.heap.size ∧ w.cell? ⟨b, off + k * 4, none⟩ = some (.int .i64 rs[k].1) ∧ w.cell? ⟨b, off + k * 4 + 1, none⟩ = some (.int .i64 rs[k].2.1) ∧ w.cell? ⟨b, off + k * 4 + 2, none⟩ = some (.int .i64 rs[k].2.2.1) ∧ w.cell? ⟨b, off + k * 4 + 3, none⟩ = some (.int .i64 rs[k].2.2.2) := by
  rcases h with h | ⟨b, off, e, hl, hc⟩
  · subst h; simp at hk
  · exact ⟨b, off, e, hl, hc k hk⟩

theorem open_recs {H : Type} {enc : TypeId × Value → H} {W : World} {a : Option Addr} {len cap : Nat} {d : DataW H} {p : List MemPlace}
    (h : DataW.Trod enc Try.prog W 0 (fun _ => true) true 22 (.slice a len cap) d p) : ∃ rs : List Rc, rs.length = len ∧ RecS W a rs ∧ rs.length ≤ maxLen ∧ ∀ r ∈ rs, (Lit.int .i64 r.1).wf = true ∧ (Lit.int .i64 r.2.1).wf = true ∧ (Lit.int .i64 r.2.2.1).wf = true ∧ (Lit.int .i64 r.2.2.2).wf = true := by
  obtain ⟨fuel, hf⟩ := h
  rcases open_sliceF Try.underlying22 Try.underlying24 (by kernel_rfl) (by kernel_rfl) hf with hcs | ⟨x, l, c, m, hcs, hl, hm, hmm, hall⟩
  · simp [Value.cells] at hcs
    obtain ⟨rfl, rfl, rfl⟩ := hcs
    exact ⟨[], rfl, .inl rfl, by simp, by simp⟩
  · simp [Value.cells] at hcs
    obtain ⟨rfl, rfl, rfl⟩ := hcs
    have hlm : len ≤ m := by rw [hmm]; simpa using hl
    have hint : ∀ (i j : Nat) (hj : j < 4), i < m → ∃ u : Int, W.cell? (x.add (i * 4 + j)) = some (.int .i64 u) ∧ (Lit.int .i64 u).wf = true := fun i j hj hi => by
      have hall := hall i hi
      match j, hj with
      | 0, _ =>
        obtain ⟨v, y, n, hc, ht⟩ := hall 0 _ rfl
        obtain ⟨u, e0, _, w0⟩ := DataW.trod_int Try.underlying3 ht
        simp at e0
        exact ⟨u, by rw [← e0]; exact hc, w0⟩
      | 1, _ =>
        obtain ⟨v, y, n, hc, ht⟩ := hall 1 _ rfl
        obtain ⟨u, e0, _, w0⟩ := DataW.trod_int Try.underlying3 ht
        simp at e0
        exact ⟨u, by rw [← e0]; exact hc, w0⟩
      | 2, _ =>
        obtain ⟨v, y, n, hc, ht⟩ := hall 2 _ rfl
        obtain ⟨u, e0, _, w0⟩ := DataW.trod_int Try.underlying3 ht
        simp at e0
        exact ⟨u, by rw [← e0]; exact hc, w0⟩
      | 3, _ =>
        obtain ⟨v, y, n, hc, ht⟩ := hall 3 _ rfl
        obtain ⟨u, e0, _, w0⟩ := DataW.trod_int Try.underlying3 ht
        simp at e0
        exact ⟨u, by rw [← e0]; exact hc, w0⟩
    let num : Nat → Int := fun j => match W.cell? (x.add j) with | some (.int _ n) => n | _ => 0
    have hnum : ∀ (i j : Nat), j < 4 → i < m → W.cell? (x.add (i * 4 + j)) = some (.int .i64 (num (i * 4 + j))) ∧ (Lit.int .i64 (num (i * 4 + j))).wf = true := fun i j hj hi => by
      obtain ⟨u, h1, h2⟩ := hint i j hj hi
      simp only [num, h1]
      exact ⟨trivial, h2⟩
    refine ⟨(List.range len).map fun i => (num (i * 4 + 0), num (i * 4 + 1), num (i * 4 + 2), num (i * 4 + 3)), by simp, ?_, by simp; omega, ?_⟩
    · by_cases h0 : len = 0
      · exact .inl (by simp [h0])
      · right
        have hc0 := (hnum 0 0 (by omega) (by omega)).1
        have hsp := World.cell?_spot hc0
        obtain ⟨b, off, spot⟩ := x
        have hspot : spot = none := by simpa [Addr.add] using hsp
        subst hspot
        refine ⟨b, off, rfl, by simpa [Addr.add] using cell_block_lt hc0, fun j hj => ?_⟩
        have hj' : j < len := by simpa using hj
        have k0 := (hnum j 0 (by omega) (by omega)).1
        have k1 := (hnum j 1 (by omega) (by omega)).1
        have k2 := (hnum j 2 (by omega) (by omega)).1
        have k3 := (hnum j 3 (by omega) (by omega)).1
        rw [add_off] at k0 k1 k2 k3
        simp only [List.getElem_map, List.getElem_range]
        exact ⟨k0, by rw [Nat.add_assoc]; exact k1, by rw [Nat.add_assoc]; exact k2, by rw [Nat.add_assoc]; exact k3⟩
    · intro r hr
      obtain ⟨i, hi, rfl⟩ := List.mem_map.1 hr
      have hi' : i < m := by have := List.mem_range.1 hi; omega
      exact ⟨(hnum i 0 (by omega) hi').2, (hnum i 1 (by omega) hi').2, (hnum i 2 (by omega) hi').2, (hnum i 3 (by omega) hi').2⟩

end Go.Proofs.Ytchhadkmemckbab

/- Pairs: the world but for two blocks, an array of ints and one of bools. -/
import Derived.Test.YtchhadkmemckbabPaG
namespace Go.Proofs.Ytchhadkmemckbab
open Go.RowKit
set_option linter.unusedSimpArgs false
set_option linter.unusedVariables false

/-- All blocks are as before, but p and q. -/
structure Ex (p q : Nat) (w0 w : World) : Prop where
  os : w.os = w0.os
  tape : w.tape = w0.tape
  output : w.output = w0.output
  size : w0.heap.size ≤ w.heap.size
  blk : ∀ k, k < w0.heap.size → k ≠ p → k ≠ q → w.heap[k]? = w0.heap[k]?
section
variable {p q n b : Nat} {w0 w w' : World} {o : Nat → Int} {t : Nat → Bool}
theorem Ex.refl (p q : Nat) (w : World) : Ex p q w w := ⟨rfl, rfl, rfl, Nat.le_refl _, fun _ _ _ _ => rfl⟩
theorem Ex.step (h : Ex p q w0 w) (hb : Below w.heap.size w w') : Ex p q w0 w' :=
  ⟨hb.os.trans h.os, hb.tape.trans h.tape, hb.output.trans h.output, Nat.le_trans h.size hb.size, fun k hk h1 h2 => (hb.block k (Nat.lt_of_lt_of_le hk h.size)).trans (h.blk k hk h1 h2)⟩
theorem Ex.cell (h : Ex p q w0 w) (hb : b < w0.heap.size) (h1 : b ≠ p) (h2 : b ≠ q) (i : Nat) : w.cell? ⟨b, i, none⟩ = w0.cell? ⟨b, i, none⟩ := by
  simp only [World.cell?]; rw [h.blk b hb h1 h2]
theorem Ex.set (h : Ex p q w0 w) {g : Nat} (hg : g = p ∨ g = q) (i : Nat) (v : Value) : Ex p q w0 (w.setCell ⟨g, i, none⟩ v) :=
  ⟨h.os, h.tape, h.output, by simpa [World.setCell] using h.size, fun k hk h1 h2 => by
    rw [Below.heap_setCell _ _ _ _ (by rcases hg with rfl | rfl <;> assumption)]
    exact h.blk k hk h1 h2⟩
/-- Blocks below B are kept, where p and q are not. -/
theorem Ex.below (h : Ex p q w0 w) {B : Nat} {v : World} (hv : Below B v w0) (hB : B ≤ w0.heap.size) (hp : B ≤ p) (hq : B ≤ q) : Below B v w :=
  ⟨h.os.trans hv.os, h.tape.trans hv.tape, h.output.trans hv.output, Nat.le_trans hv.size h.size, fun k hk => (h.blk k (Nat.lt_of_lt_of_le hk hB) (by omega) (by omega)).trans (hv.block k hk)⟩

/-- The world w0 but for blocks p (n ints) and q (n bools). -/
structure AB (w0 : World) (p q n : Nat) (o : Nat → Int) (t : Nat → Bool) (w : World) : Prop where
  ex : Ex p q w0 w
  ne : p ≠ q
  ho : w.heap[p]? = some (.cells (cA n o) 3 (0, 0))
  hq : q < w.heap.size
  ht : ∀ i, i < n → w.cell? ⟨q, i, none⟩ = some (.bool (t i))
  hf : ∀ i, i < n → w.frozen? ⟨q, i, none⟩ = false
theorem AB.step (h : AB w0 p q n o t w) (hb : Below w.heap.size w w') : AB w0 p q n o t w' := ⟨h.ex.step hb, h.ne, blk_keep h.ho hb, Nat.lt_of_lt_of_le h.hq hb.size, fun i hi => (hb.cell (p := ⟨q, i, none⟩) h.hq).trans (h.ht i hi), fun i hi => (hb.frozen (p := ⟨q, i, none⟩) h.hq).trans (h.hf i hi)⟩
theorem AB.drew (h : AB w0 p q n o t w) : AB w0 p q n o t w.drew := h.step (Below.refl _ _).drew
theorem AB.co (h : AB w0 p q n o t w) {i : Nat} (hi : i < n) : w.cell? ⟨p, i, none⟩ = some (.int .i64 (o i)) := by rw [blkc h.ho, cA_get hi]
theorem AB.ct (h : AB w0 p q n o t w) {i : Nat} (hi : i < n) : w.cell? ⟨q, i, none⟩ = some (.bool (t i)) := h.ht i hi
theorem AB.fo (h : AB w0 p q n o t w) (i : Nat) : w.frozen? ⟨p, i, none⟩ = false ∧ p < w.heap.size := by
  refine ⟨?_, block_lt h.ho⟩
  simp only [World.frozen?]; rw [h.ho]; simp
theorem AB.ft (h : AB w0 p q n o t w) {i : Nat} (hi : i < n) : w.frozen? ⟨q, i, none⟩ = false ∧ q < w.heap.size := ⟨h.hf i hi, h.hq⟩
theorem AB.setO (h : AB w0 p q n o t w) (i : Nat) (x : Int) : AB w0 p q n (fset o i x) t (w.setCell ⟨p, i, none⟩ (.int .i64 x)) := by
  refine ⟨h.ex.set (.inl rfl) _ _, h.ne, ?_, by simpa [World.setCell] using h.hq, fun k hk => (World.cell?_setCell_far _ _ _ _ h.ne).trans (h.ht k hk), fun k hk => by rw [World.frozen?_setCell]; exact h.hf k hk⟩
  simp only [World.setCell, Array.getElem?_modify, h.ho]
  simp [cA_set, fset]
  rfl
theorem AB.setT (h : AB w0 p q n o t w) (i : Nat) (x : Bool) : AB w0 p q n o (fset t i x) (w.setCell ⟨q, i, none⟩ (.bool x)) := by
  refine ⟨h.ex.set (.inr rfl) _ _, h.ne, by rw [Below.heap_setCell _ _ _ _ h.ne]; exact h.ho, by simpa [World.setCell] using h.hq, fun k hk => ?_, fun k hk => by rw [World.frozen?_setCell]; exact h.hf k hk⟩
  unfold fset
  by_cases e : k = i
  · subst e
    rw [if_pos rfl]
    exact World.cell?_setCell_same _ _ _ (h.ht k hk)
  · rw [if_neg e, World.cell?_setCell_other _ _ _ _ (by simp [Ne.symm e])]
    exact h.ht k hk
end

theorem plF_keep {ok : Nat → Nat → Bool} {L n : Nat} : ∀ (f i j : Nat) (o : Nat → Int) (t : Nat → Bool) (b : Bool) (o' : Nat → Int) (t' : Nat → Bool), plF ok L n f i j o t = some (b, o', t') → ∀ k, t k = true → o' k = o k ∧ t' k = true
  | 0, _, _, _, _, _, _, _, h, _, _ => by simp [plF] at h
  | f + 1, i, j, o, t, b, o', t', h, k, hk => by
    unfold plF at h
    split at h
    · split at h
      · split at h
        · exact plF_keep f i (j + 1) o t b o' t' h k hk
        · rename_i hto
          simp only [Bool.or_eq_true, not_or, Bool.not_eq_true] at hto
          have hkj : k ≠ j := by rintro rfl; rw [hk] at hto; exact absurd hto.1 (by simp)
          have htk : fset t j true k = true := by unfold fset; rw [if_neg hkj]; exact hk
          split at h
          · simp only [Option.some.injEq, Prod.mk.injEq] at h
            obtain ⟨-, rfl, rfl⟩ := h
            exact ⟨by unfold fset; rw [if_neg hkj], htk⟩
          · split at h
            · simp at h
            · split at h
              · simp at h
              · rename_i o2 t2 h2
                simp only [Option.some.injEq, Prod.mk.injEq] at h
                obtain ⟨-, rfl, rfl⟩ := h
                have := plF_keep f _ 0 o _ true o2 _ h2 k htk
                exact ⟨by unfold fset; rw [if_neg hkj]; exact this.1, this.2⟩
              · rename_i o2 t2 h2
                have h3 := plF_keep f _ 0 o _ false o2 t2 h2 k htk
                have h4 := plF_keep f i (j + 1) o2 t2 b o' t' h k h3.2
                exact ⟨h4.1.trans h3.1, h4.2⟩
      · simp only [Option.some.injEq, Prod.mk.injEq] at h
        obtain ⟨-, rfl, rfl⟩ := h
        exact ⟨rfl, hk⟩
    · simp at h

end Go.Proofs.Ytchhadkmemckbab

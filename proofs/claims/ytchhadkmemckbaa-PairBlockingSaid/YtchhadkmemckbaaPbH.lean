/- Pairs: slices of two ints; the pairs of a table that a condition picks. -/
import Derived.Test.YtchhadkmemckbaaPaW
namespace Go.Proofs.Ytchhadkmemckbaa
open Go.RowKit
set_option linter.unusedSimpArgs false
set_option linter.unusedVariables false

/-- The cells of pairs, one after another. -/
def p2Vals (l : List (Nat × Nat)) : List Value := l.flatMap fun r => [.int .i64 (r.1 : Int), .int .i64 (r.2 : Int)]
theorem p2Vals_append (l m : List (Nat × Nat)) : p2Vals (l ++ m) = p2Vals l ++ p2Vals m := by simp [p2Vals]
theorem p2Vals_get : ∀ {l : List (Nat × Nat)} {k : Nat} (hk : k < l.length), (p2Vals l)[k * 2]? = some (.int .i64 (l[k].1 : Int)) ∧ (p2Vals l)[k * 2 + 1]? = some (.int .i64 (l[k].2 : Int))
  | [], k, hk => by simp at hk
  | a :: t, 0, _ => by simp [p2Vals]
  | a :: t, k + 1, hk => by
    have ih := p2Vals_get (l := t) (k := k) (by simpa using hk)
    have e : p2Vals (a :: t) = [.int .i64 (a.1 : Int), .int .i64 (a.2 : Int)] ++ p2Vals t := by simp [p2Vals]
    rw [e]
    refine ⟨?_, ?_⟩
    · rw [show (k + 1) * 2 = 2 + k * 2 by omega, List.getElem?_append_right (by simp)]; simpa using ih.1
    · rw [show (k + 1) * 2 + 1 = 2 + (k * 2 + 1) by omega, List.getElem?_append_right (by simp)]; simpa using ih.2

/-- The slice's value and memory read as these pairs. -/
def PtS (w : World) (a : Option Addr) (l : List (Nat × Nat)) : Prop :=
  l = [] ∨ ∃ b off, a = some ⟨b, off, none⟩ ∧ b < w.heap.size ∧ ∀ j (h : j < l.length), w.cell? ⟨b, off + j * 2, none⟩ = some (.int .i64 (l[j].1 : Int)) ∧ w.cell? ⟨b, off + j * 2 + 1, none⟩ = some (.int .i64 (l[j].2 : Int))
theorem PtS.below {w w' : World} {a : Option Addr} {l : List (Nat × Nat)} (h : PtS w a l) (hb : Below w.heap.size w w') : PtS w' a l := by
  rcases h with h | ⟨b, off, e, hl, hc⟩
  · exact .inl h
  · refine .inr ⟨b, off, e, Nat.lt_of_lt_of_le hl hb.size, fun j hj => ?_⟩
    obtain ⟨h1, h2⟩ := hc j hj
    exact ⟨(hb.cell (p := ⟨b, _, none⟩) hl).trans h1, (hb.cell (p := ⟨b, _, none⟩) hl).trans h2⟩
theorem PtS.at_ {w : World} {a : Option Addr} {l : List (Nat × Nat)} (h : PtS w a l) {k : Nat} (hk : k < l.length) :
    ∃ b off, a = some ⟨b, off, none⟩ ∧ b < w.heap.size ∧ w.cell? ⟨b, off + k * 2, none⟩ = some (.int .i64 (l[k].1 : Int)) ∧ w.cell? ⟨b, off + k * 2 + 1, none⟩ = some (.int .i64 (l[k].2 : Int)) := by
  rcases h with h | ⟨b, off, e, hl, hc⟩
  · subst h; simp at hk
  · exact ⟨b, off, e, hl, hc k hk⟩

/-- The world w0, with new blocks: v is a slice of its own, of the pairs l. -/
structure PTV (w0 : World) (v : Value) (l : List (Nat × Nat)) (wr : World) : Prop where
  b : Below w0.heap.size w0 wr
  own : wr.ownsRow w0.heap.size 65 2 v l.length (p2Vals l)
theorem PTV.start (w : World) : PTV w (.slice none 0 0) [] w := ⟨Below.refl _ _, ⟨by simp [p2Vals], .inl ⟨rfl, rfl⟩⟩⟩
theorem PTV.step {w0 : World} {v : Value} {l : List (Nat × Nat)} {wr w2 : World} (h : PTV w0 v l wr) (hb : Below wr.heap.size wr w2) : PTV w0 v l w2 :=
  ⟨h.b.trans (hb.mono h.b.size), h.own.kept (row := none) (grownBy_below none hb) (by
    cases hk : v.ownBlock with
    | none => exact .inl rfl
    | some k => exact .inr (by simp))⟩
theorem PTV.push {w0 : World} {v v' : Value} {l : List (Nat × Nat)} {r : Nat × Nat} {wr w2 : World} (h : PTV w0 v l wr) (hown : w2.ownsRow w0.heap.size 65 2 v' (l.length + 1) (p2Vals l ++ [.int .i64 (r.1 : Int), .int .i64 (r.2 : Int)])) (hg : wr.grownBy w2 v.ownBlock) : PTV w0 v' (l ++ [r]) w2 := by
  have hlt := h.own.lt
  refine ⟨⟨hg.os.trans h.b.os, hg.tape.trans h.b.tape, hg.output.trans h.b.output, Nat.le_trans h.b.size hg.size, fun i hi => ?_⟩, ?_⟩
  · exact (hg.block i (Nat.lt_of_lt_of_le hi h.b.size) (fun e => by have := (hlt i e.symm).1; omega)).trans (h.b.block i hi)
  · rw [p2Vals_append, List.length_append]
    simpa [p2Vals] using hown
theorem PTV.pts {w0 wr : World} {v : Value} {l : List (Nat × Nat)} (h : PTV w0 v l wr) : ∃ a cap, v = .slice a l.length cap ∧ PtS wr a l := by
  rcases h.own.2 with ⟨hv, h0⟩ | ⟨g, cap, cur, hv, hb, hh, -⟩
  · exact ⟨none, 0, by rw [hv, h0], .inl (List.length_eq_zero_iff.1 h0)⟩
  · refine ⟨some ⟨g, 0, none⟩, cap, hv, .inr ⟨g, 0, rfl, block_lt hh, fun k hk => ?_⟩⟩
    obtain ⟨h1, h2⟩ := p2Vals_get hk
    have e1 := h.own.cells (g := g) (by rw [hv]; rfl) _ _ h1
    have e2 := h.own.cells (g := g) (by rw [hv]; rfl) _ _ h2
    rw [add_off, Nat.zero_add] at e1 e2
    simp only [Nat.zero_add]
    exact ⟨e1, e2⟩
theorem p2cell_new (w : World) (u v : Value) (T : TypeId) : ∀ (j : Nat) (z : Value), [u, v][j]? = some z → (w.alloc (.cells #[u, v] T)).cell? ((⟨w.heap.size, 0, none⟩ : Addr).add j) = some z := by
  have h := heap_alloc_new w (.cells #[u, v] T)
  intro j z hz
  have e : (w.alloc (.cells #[u, v] T)).cell? ((⟨w.heap.size, 0, none⟩ : Addr).add j) = (#[u, v] : Array Value)[j]? := by
    rw [add_off]
    simp only [World.cell?]
    rw [h]
    simp
  rw [e]
  simpa using hz
theorem infoPt : (Try.prog.info? 65).map (fun i => (i.zero, i.size, i.bytes)) = some (some (.agg #[.int .i64 0, .int .i64 0]), 2, 16) := by kernel_rfl
theorem uPts : Try.prog.underlying 60 = some (.slice 65) := by kernel_rfl

/-- The pairs of a row that are picked, of the first k; of the rows before k. -/
def prw (g : Nat → Nat → Bool) (i : Nat) : Nat → List (Nat × Nat)
  | 0 => []
  | j + 1 => if g i j then prw g i j ++ [(i, j)] else prw g i j
def pal (g : Nat → Nat → Bool) (R : Nat) : Nat → List (Nat × Nat)
  | 0 => []
  | i + 1 => pal g R i ++ prw g i R
theorem prw_len (g : Nat → Nat → Bool) (i : Nat) : ∀ k, (prw g i k).length ≤ k
  | 0 => Nat.le_refl _
  | k + 1 => by
    unfold prw
    have := prw_len g i k
    split
    · rw [List.length_append, List.length_singleton]; omega
    · omega
theorem pal_len (g : Nat → Nat → Bool) (R : Nat) : ∀ k, (pal g R k).length ≤ k * R
  | 0 => by simp [pal]
  | k + 1 => by
    unfold pal
    have := pal_len g R k
    have := prw_len g k R
    rw [List.length_append, Nat.succ_mul]
    omega
theorem prw_mem {g : Nat → Nat → Bool} {i : Nat} {p : Nat × Nat} : ∀ {k}, p ∈ prw g i k → p.1 = i ∧ p.2 < k ∧ g p.1 p.2 = true
  | 0, h => by simp [prw] at h
  | k + 1, h => by
    unfold prw at h
    split at h
    · rcases List.mem_append.1 h with h | h
      · obtain ⟨h1, h2, h3⟩ := prw_mem h
        exact ⟨h1, by omega, h3⟩
      · have e : p = (i, k) := by simpa using h
        subst e
        exact ⟨rfl, Nat.lt_succ_self _, by assumption⟩
    · obtain ⟨h1, h2, h3⟩ := prw_mem h
      exact ⟨h1, by omega, h3⟩
theorem pal_mem {g : Nat → Nat → Bool} {R : Nat} {p : Nat × Nat} : ∀ {k}, p ∈ pal g R k → p.1 < k ∧ p.2 < R ∧ g p.1 p.2 = true
  | 0, h => by simp [pal] at h
  | k + 1, h => by
    unfold pal at h
    rcases List.mem_append.1 h with h | h
    · obtain ⟨h1, h2, h3⟩ := pal_mem h
      exact ⟨by omega, h2, h3⟩
    · obtain ⟨h1, h2, h3⟩ := prw_mem h
      exact ⟨by omega, h2, h3⟩
theorem prw_filter (g q : Nat → Nat → Bool) (i : Nat) : ∀ k, (prw g i k).filter (fun p => q p.1 p.2) = prw (fun a b => g a b && q a b) i k
  | 0 => rfl
  | k + 1 => by
    unfold prw
    have ih := prw_filter g q i k
    cases hg : g i k <;> cases hq : q i k <;> simp [ih, hq]
theorem pal_filter (g q : Nat → Nat → Bool) (R : Nat) : ∀ k, (pal g R k).filter (fun p => q p.1 p.2) = pal (fun a b => g a b && q a b) R k
  | 0 => rfl
  | k + 1 => by
    unfold pal
    rw [List.filter_append, pal_filter g q R k, prw_filter]
theorem prw_congr {g h : Nat → Nat → Bool} {i : Nat} : ∀ {k}, (∀ j, j < k → g i j = h i j) → prw g i k = prw h i k
  | 0, _ => rfl
  | k + 1, e => by
    unfold prw
    rw [e k (Nat.lt_succ_self _), prw_congr (k := k) fun j hj => e j (by omega)]
theorem pal_congr {g h : Nat → Nat → Bool} {R : Nat} : ∀ {k}, (∀ i j, i < k → j < R → g i j = h i j) → pal g R k = pal h R k
  | 0, _ => rfl
  | k + 1, e => by
    unfold pal
    rw [pal_congr (k := k) fun i j hi hj => e i j (by omega) hj, prw_congr fun j hj => e k j (Nat.lt_succ_self _) hj]

/-- A glove with the costs c to the others prefers j to k (-1: none). -/
def pfr (c : Nat → Int) (j : Nat) (k : Int) : Bool := k == -1 || (decide (c j < c k.toNat) || (c j == c k.toNat && decide ((j : Int) < k)))
/-- A pair of gloves blocks a pairing (m: the partners of the left gloves; o: those of the right ones). -/
def blkB (C : Nat → Nat → Int) (m : List Int) (o : Nat → Int) (i j : Nat) : Bool := C i j != -1 && (pfr (C i) j (m.getD i 0) && pfr (fun a => C a j) i (o j))

/-- What a pairing's owners are. -/
theorem wg_pair {C : Nat → Nat → Int} {R : Nat} : ∀ (t : List Int) (i : Nat) (o : Nat → Int) (s c : Int) (o' : Nat → Int) (s' c' : Int), wgF C R t i o s c = some (o', s', c') → (∀ j, o j = -1 ∨ (0 ≤ o j ∧ o j < i)) →
    (∀ j, o j ≠ -1 → o' j = o j) ∧ (∀ k (hk : k < t.length), t[k] = -1 ∨ (0 ≤ t[k] ∧ t[k] < R ∧ C (i + k) t[k].toNat ≠ -1 ∧ o' t[k].toNat = (i + k : Nat))) ∧ (∀ j, o j = -1 → o' j = -1 ∨ ∃ k, ∃ hk : k < t.length, o' j = (i + k : Nat) ∧ t[k] = j)
  | [], i, o, s, c, o', s', c', h, ho => by
    simp only [wgF, Option.some.injEq, Prod.mk.injEq] at h
    obtain ⟨rfl, -, -⟩ := h
    exact ⟨fun _ _ => rfl, fun k hk => by simp at hk, fun j hj => .inl hj⟩
  | x :: t, i, o, s, c, o', s', c', h, ho => by
    unfold wgF at h
    split at h
    · rename_i hx
      obtain ⟨h1, h2, h3⟩ := wg_pair t (i + 1) o _ _ _ _ _ h (fun j => by have := ho j; omega)
      refine ⟨h1, fun k hk => ?_, fun j hj => ?_⟩
      · cases k with
        | zero => exact .inl hx
        | succ k =>
          have := h2 k (by simpa using hk)
          rw [show i + 1 + k = i + (k + 1) by omega] at this
          simpa using this
      · rcases h3 j hj with h | ⟨k, hk, e1, e2⟩
        · exact .inl h
        · exact .inr ⟨k + 1, by simpa using hk, by rw [e1]; omega, by simpa using e2⟩
    · split at h
      · rename_i hx hj
        obtain ⟨j0, j1, j2, j3⟩ := hj
        have hos : ∀ j, fset o x.toNat (i : Int) j = -1 ∨ (0 ≤ fset o x.toNat (i : Int) j ∧ fset o x.toNat (i : Int) j < ((i + 1 : Nat) : Int)) := fun j => by
          unfold fset
          have := ho j
          split <;> omega
        obtain ⟨h1, h2, h3⟩ := wg_pair t (i + 1) _ _ _ _ _ _ h hos
        refine ⟨fun j hj => ?_, fun k hk => ?_, fun j hj => ?_⟩
        · have hne : j ≠ x.toNat := fun e => hj (by rw [e]; exact j3)
          have e : fset o x.toNat (i : Int) j = o j := by unfold fset; rw [if_neg hne]
          rw [h1 j (by rw [e]; exact hj), e]
        · cases k with
          | zero =>
            refine .inr ⟨j0, j1, j2, ?_⟩
            have e : fset o x.toNat (i : Int) x.toNat = i := by unfold fset; rw [if_pos rfl]
            have := h1 x.toNat (by rw [e]; omega)
            rw [e] at this
            simpa using this
          | succ k =>
            have := h2 k (by simpa using hk)
            rw [show i + 1 + k = i + (k + 1) by omega] at this
            simpa using this
        · by_cases hne : j = x.toNat
          · refine .inr ⟨0, by simp, ?_, by simp; omega⟩
            have e : fset o x.toNat (i : Int) j = i := by unfold fset; rw [if_pos hne]
            rw [h1 j (by rw [e]; omega), e]
            simp
          · have e : fset o x.toNat (i : Int) j = o j := by unfold fset; rw [if_neg hne]
            rcases h3 j (by rw [e]; exact hj) with h | ⟨k, hk, e1, e2⟩
            · exact .inl h
            · exact .inr ⟨k + 1, by simpa using hk, by rw [e1]; omega, by simpa using e2⟩
      · simp at h
/-- The same, of a whole pairing. -/
theorem wg_both {C : Nat → Nat → Int} {R : Nat} {m : List Int} {o : Nat → Int} {s c : Int} (h : wgF C R m 0 (fun _ => -1) 0 0 = some (o, s, c)) :
    (∀ k, k < m.length → m.getD k 0 = -1 ∨ (0 ≤ m.getD k 0 ∧ m.getD k 0 < R ∧ C k (m.getD k 0).toNat ≠ -1 ∧ o (m.getD k 0).toNat = (k : Int))) ∧ (∀ j, o j = -1 ∨ (0 ≤ o j ∧ o j < m.length ∧ m.getD (o j).toNat 0 = j)) := by
  obtain ⟨-, h2, h3⟩ := wg_pair m 0 _ 0 0 o s c h (fun j => .inl rfl)
  refine ⟨fun k hk => ?_, fun j => ?_⟩
  · have := h2 k hk
    rw [Nat.zero_add] at this
    rw [List.getD_eq_getElem?_getD, List.getElem?_eq_getElem hk]
    exact this
  · rcases h3 j rfl with h | ⟨k, hk, e1, e2⟩
    · exact .inl h
    · refine .inr ⟨by omega, by omega, ?_⟩
      rw [e1, Nat.zero_add, Int.toNat_natCast, List.getD_eq_getElem?_getD, List.getElem?_eq_getElem hk]
      exact e2
end Go.Proofs.Ytchhadkmemckbaa

/- Skins: slices of rectangles that came in. -/
import Derived.Test.YtndhnpljdldlpabSkU
import Derived.Deep.Slices
import Derived.Deep.Fields
import Derived.ChangeSame
namespace Go.Proofs.Ytndhnpljdldlpab
open Go.ChangeShapes Go.WideShapes Go.ChangeAt Go.RowKit Go.Deep

section
variable {H : Type} {enc : TypeId × Value → H} {P : Program} {w : World} {base : Nat} {spare : Nat → Bool} {held : Bool}
/-- A slice of structs of one-cell fields, cell by cell. -/
theorem open_sliceF {t e : TypeId} {fs : Array Field} {fuel : Nat} {cs : List Value} {x : DataW H × List MemPlace} (ht : P.underlying t = some (.slice e)) (he : P.underlying e = some (.struct fs))
    (hone : oneCellFields P fs = true) (hC : P.cellsOf e = fs.size) (h : DataW.trod enc P w base spare held fuel t cs = some x) :
    cs = [.slice none 0 0] ∨
    ∃ (a : Addr) (len cap m : Nat), cs = [.slice (some a) len cap] ∧ len ≤ cap ∧ cap ≤ maxLen ∧ m = (if spare a.block then cap else len) ∧
      ∀ i, i < m → ∀ (j : Nat) (f : Field), fs[j]? = some f → ∃ (v : Value) (y : DataW H × List MemPlace) (n : Nat), w.cell? (a.add (i * fs.size + j)) = some v ∧ DataW.trod enc P w base spare held n f.type [v] = some y := by
  obtain h0 | ⟨a, len, cap, m, n, D, Pl, hcs, -, hl, hm, hmm, -, hi⟩ := open_slice ht h
  · left; exact h0.1
  right
  refine ⟨a, len, cap, m, hcs, hl, hm, hmm, ?_⟩
  intro i him j f hj
  have hjs : j < fs.size := (Array.getElem?_eq_some_iff.1 hj).1
  obtain ⟨vs, hc, hs⟩ := hi i him
  obtain ⟨ys, k, -, -, hlen, hyl, hf⟩ := DataW.trod_struct he hs
  obtain ⟨-, hcl, hat⟩ := World.cells?_some hc
  rw [hC] at hcl hat
  have hvl : j < vs.length := by omega
  have hyl' : j < ys.length := by omega
  obtain ⟨ho, hk⟩ := hone_of hone j f hj
  have ht := hf j f hj
  rw [ho, hk, List.drop_eq_getElem_cons hvl, List.take_succ_cons, List.take_zero] at ht
  have hcell := hat j hjs
  exact ⟨vs[j], ys[j], k, by rw [← Go.Deep.add_add, hcell, List.getElem?_eq_getElem hvl], ht.trans (List.getElem?_eq_getElem hyl')⟩
end

abbrev Rc := Int × Int × Int × Int
/-- The slice's value and memory read as these rectangles. -/
def RecS (w : World) (a : Option Addr) (rs : List Rc) : Prop :=
  rs = [] ∨ ∃ b off, a = some ⟨b, off, none⟩ ∧ b < w.heap.size ∧ ∀ j (h : j < rs.length), w.cell? ⟨b, off + j * 4, none⟩ = some (.int .i64 rs[j].1) ∧ w.cell? ⟨b, off + j * 4 + 1, none⟩ = some (.int .i64 rs[j].2.1) ∧ w.cell? ⟨b, off + j * 4 + 2, none⟩ = some (.int .i64 rs[j].2.2.1) ∧ w.cell? ⟨b, off + j * 4 + 3, none⟩ = some (.int .i64 rs[j].2.2.2)
theorem RecS.below {w w' : World} {a : Option Addr} {rs : List Rc} (h : RecS w a rs) (hb : Below w.heap.size w w') : RecS w' a rs := by
  rcases h with h | ⟨b, off, e, hl, hc⟩
  · exact .inl h
  · refine .inr ⟨b, off, e, Nat.lt_of_lt_of_le hl hb.size, fun j hj => ?_⟩
    obtain ⟨h1, h2, h3, h4⟩ := hc j hj
    exact ⟨(hb.cell (p := ⟨b, _, none⟩) hl).trans h1, (hb.cell (p := ⟨b, _, none⟩) hl).trans h2, (hb.cell (p := ⟨b, _, none⟩) hl).trans h3, (hb.cell (p := ⟨b, _, none⟩) hl).trans h4⟩
theorem RecS.at_ {w : World} {a : Option Addr} {rs : List Rc} (h : RecS w a rs) {k : Nat} (hk : k < rs.length) :
    ∃ b off, a = some ⟨b, off, none⟩ ∧ b < w.heap.size ∧ w.cell? ⟨b, off + k * 4, none⟩ = some (.int .i64 rs[k].1) ∧ w.cell? ⟨b, off + k * 4 + 1, none⟩ = some (.int .i64 rs[k].2.1) ∧ w.cell? ⟨b, off + k * 4 + 2, none⟩ = some (.int .i64 rs[k].2.2.1) ∧ w.cell? ⟨b, off + k * 4 + 3, none⟩ = some (.int .i64 rs[k].2.2.2) := by
  rcases h with h | ⟨b, off, e, hl, hc⟩
  · subst h; simp at hk
  · exact ⟨b, off, e, hl, hc k hk⟩

theorem open_recs {H : Type} {enc : TypeId × Value → H} {W : World} {a : Option Addr} {len cap : Nat} {d : DataW H} {p : List MemPlace}
    (h : DataW.Trod enc Try.prog W 0 (fun _ => true) true 23 (.slice a len cap) d p) : ∃ rs : List Rc, rs.length = len ∧ RecS W a rs ∧ rs.length ≤ maxLen ∧ ∀ r ∈ rs, (Lit.int .i64 r.1).wf = true ∧ (Lit.int .i64 r.2.1).wf = true ∧ (Lit.int .i64 r.2.2.1).wf = true ∧ (Lit.int .i64 r.2.2.2).wf = true := by
  obtain ⟨fuel, hf⟩ := h
  rcases open_sliceF Try.underlying23 Try.underlying29 (by kernel_rfl) (by kernel_rfl) hf with hcs | ⟨x, l, c, m, hcs, hl, hm, hmm, hall⟩
  · simp [Value.cells] at hcs
    obtain ⟨rfl, rfl, rfl⟩ := hcs
    exact ⟨[], rfl, .inl rfl, by simp, by simp⟩
  · simp [Value.cells] at hcs
    obtain ⟨rfl, rfl, rfl⟩ := hcs
    have hlm : len ≤ m := by rw [hmm]; simpa using hl
    have hint : ∀ (i j : Nat) (hj : j < 4), i < m → ∃ u : Int, W.cell? (x.add (i * 4 + j)) = some (.int .i64 u) ∧ (Lit.int .i64 u).wf = true := fun i j hj hi => by
      have hall := hall i hi
      match j, hj with
      | 0, _ =>
        obtain ⟨v, y, n, hc, ht⟩ := hall 0 _ rfl
        obtain ⟨u, e0, _, w0⟩ := DataW.trod_int Try.underlying3 ht
        simp at e0
        exact ⟨u, by rw [← e0]; exact hc, w0⟩
      | 1, _ =>
        obtain ⟨v, y, n, hc, ht⟩ := hall 1 _ rfl
        obtain ⟨u, e0, _, w0⟩ := DataW.trod_int Try.underlying3 ht
        simp at e0
        exact ⟨u, by rw [← e0]; exact hc, w0⟩
      | 2, _ =>
        obtain ⟨v, y, n, hc, ht⟩ := hall 2 _ rfl
        obtain ⟨u, e0, _, w0⟩ := DataW.trod_int Try.underlying3 ht
        simp at e0
        exact ⟨u, by rw [← e0]; exact hc, w0⟩
      | 3, _ =>
        obtain ⟨v, y, n, hc, ht⟩ := hall 3 _ rfl
        obtain ⟨u, e0, _, w0⟩ := DataW.trod_int Try.underlying3 ht
        simp at e0
        exact ⟨u, by rw [← e0]; exact hc, w0⟩
    let num : Nat → Int := fun j => match W.cell? (x.add j) with | some (.int _ n) => n | _ => 0
    have hnum : ∀ (i j : Nat), j < 4 → i < m → W.cell? (x.add (i * 4 + j)) = some (.int .i64 (num (i * 4 + j))) ∧ (Lit.int .i64 (num (i * 4 + j))).wf = true := fun i j hj hi => by
      obtain ⟨u, h1, h2⟩ := hint i j hj hi
      simp only [num, h1]
      exact ⟨trivial, h2⟩
    refine ⟨(List.range len).map fun i => (num (i * 4 + 0), num (i * 4 + 1), num (i * 4 + 2), num (i * 4 + 3)), by simp, ?_, by simp; omega, ?_⟩
    · by_cases h0 : len = 0
      · exact .inl (by simp [h0])
      · right
        have hc0 := (hnum 0 0 (by omega) (by omega)).1
        have hsp := World.cell?_spot hc0
        obtain ⟨b, off, spot⟩ := x
        have hspot : spot = none := by simpa [Addr.add] using hsp
        subst hspot
        refine ⟨b, off, rfl, by simpa [Addr.add] using cell_block_lt hc0, fun j hj => ?_⟩
        have hj' : j < len := by simpa using hj
        have k0 := (hnum j 0 (by omega) (by omega)).1
        have k1 := (hnum j 1 (by omega) (by omega)).1
        have k2 := (hnum j 2 (by omega) (by omega)).1
        have k3 := (hnum j 3 (by omega) (by omega)).1
        rw [add_off] at k0 k1 k2 k3
        simp only [List.getElem_map, List.getElem_range]
        exact ⟨k0, by rw [Nat.add_assoc]; exact k1, by rw [Nat.add_assoc]; exact k2, by rw [Nat.add_assoc]; exact k3⟩
    · intro r hr
      obtain ⟨i, hi, rfl⟩ := List.mem_map.1 hr
      have hi' : i < m := by have := List.mem_range.1 hi; omega
      exact ⟨(hnum i 0 (by omega) hi').2, (hnum i 1 (by omega) hi').2, (hnum i 2 (by omega) hi').2, (hnum i 3 (by omega) hi').2⟩

end Go.Proofs.Ytndhnpljdldlpab

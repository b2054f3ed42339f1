/- Slices that came in, opened: of fractions, of ints. -/
import Derived.OpenShut
import Derived.Lib.SmallJoins
import Derived.Deep.SlicePairs
import Derived.ChangeSlices
import Derived.ChangeOld
import Derived.Test.YtpghhfobaionkaaMem
namespace Go.Proofs.Ytpghhfobaionkaa
open Go.ChangeShapes Go.WideShapes Go.ChangeAt Go.RowKit Go.Deep

theorem laidOut : laidOutB Try.prog = true := by kernel_rfl

theorem lt_of_cell {w : World} {a : Addr} {v : Value} (h : w.cell? a = some v) : a.block < w.heap.size := by
  rcases Nat.lt_or_ge a.block w.heap.size with hlt | hge
  · exact hlt
  · simp [World.cell?, Array.getElem?_eq_none hge] at h

theorem add_none (b off i : Nat) : (⟨b, off, none⟩ : Addr).add i = ⟨b, off + i, none⟩ := by
  unfold Addr.add; split <;> simp_all

theorem open_frs {H : Type} {enc : TypeId × Value → H} {W : World} {a : Option Addr} {len cap : Nat} {d : DataW H} {p : List MemPlace}
    (h : DataW.Trod enc Try.prog W 0 (fun _ => true) true 22 (.slice a len cap) d p) : ∃ fs : List (Int × Int), fs.length = len ∧ FrS W a fs ∧ ∀ f ∈ fs, (Lit.int .i64 f.1).wf = true ∧ (Lit.int .i64 f.2).wf = true := by
  obtain ⟨fuel, hf⟩ := h
  rcases open_slice_pairs Try.underlying22 Try.underlying24 (by kernel_rfl) rfl rfl (by kernel_rfl) (by kernel_rfl) hf with ⟨hcs, _⟩ | ⟨x, l, c, m, n, V0, V1, D0, D1, P0, P1, hcs, _, hl, hm, hmm, _, hall⟩
  · simp [Value.cells] at hcs
    obtain ⟨rfl, rfl, rfl⟩ := hcs
    exact ⟨[], rfl, .inl rfl, by simp⟩
  · simp [Value.cells] at hcs
    obtain ⟨rfl, rfl, rfl⟩ := hcs
    have hlm : len ≤ m := by rw [hmm]; simpa using hl
    have hint : ∀ i, i < m → ∃ u v : Int, V0 i = .int .i64 u ∧ V1 i = .int .i64 v ∧ (Lit.int .i64 u).wf = true ∧ (Lit.int .i64 v).wf = true := fun i hi => by
      obtain ⟨_, _, t0, t1⟩ := hall i hi
      obtain ⟨u, e0, _, w0⟩ := DataW.trod_int Try.underlying3 t0
      obtain ⟨v, e1, _, w1⟩ := DataW.trod_int Try.underlying3 t1
      simp at e0 e1
      exact ⟨u, v, e0, e1, w0, w1⟩
    let num : Value → Int := fun v => match v with | .int _ n => n | _ => 0
    refine ⟨(List.range len).map fun i => (num (V0 i), num (V1 i)), by simp, ?_, ?_⟩
    · by_cases h0 : len = 0
      · exact .inl (by simp [h0])
      · right
        have hc0 := (hall 0 (by omega)).1
        have hsp := World.cell?_spot hc0
        obtain ⟨b, off, spot⟩ := x
        have hspot : spot = none := by simpa [Addr.add] using hsp
        subst hspot
        refine ⟨b, off, rfl, by simpa [Addr.add] using lt_of_cell hc0, fun j hj => ?_⟩
        have hj' : j < len := by simpa using hj
        obtain ⟨k0, k1, _, _⟩ := hall j (by omega)
        obtain ⟨u, v, e0, e1, _, _⟩ := hint j (by omega)
        rw [add_none] at k0 k1
        simp only [List.getElem_map, List.getElem_range, e0, e1, num]
        exact ⟨by rw [k0, e0], by rw [Nat.add_assoc, k1, e1]⟩
    · intro f hf
      obtain ⟨i, hi, rfl⟩ := List.mem_map.1 hf
      obtain ⟨u, v, e0, e1, w0, w1⟩ := hint i (by have := List.mem_range.1 hi; omega)
      simp only [e0, e1, num]
      exact ⟨w0, w1⟩

/-- The slice's value and memory read as these ints. -/
def IntS (w : World) (a : Option Addr) (zs : List Int) : Prop :=
  zs = [] ∨ ∃ b off, a = some ⟨b, off, none⟩ ∧ b < w.heap.size ∧ ∀ j (h : j < zs.length), w.cell? ⟨b, off + j, none⟩ = some (.int .i64 zs[j])

theorem IntS.below {w w' : World} {a : Option Addr} {zs : List Int} (h : IntS w a zs) (hb : Below w.heap.size w w') : IntS w' a zs := by
  rcases h with h | ⟨b, off, e, hl, hc⟩
  · exact .inl h
  · exact .inr ⟨b, off, e, Nat.lt_of_lt_of_le hl hb.size, fun j hj => (hb.cell (p := ⟨b, off + j, none⟩) hl).trans (hc j hj)⟩
theorem IntS.at_ {w : World} {a : Option Addr} {zs : List Int} (h : IntS w a zs) {k : Nat} (hk : k < zs.length) :
    ∃ b off, a = some ⟨b, off, none⟩ ∧ b < w.heap.size ∧ w.cell? ⟨b, off + k, none⟩ = some (.int .i64 zs[k]) := by
  rcases h with h | ⟨b, off, e, hl, hc⟩
  · subst h; simp at hk
  · exact ⟨b, off, e, hl, hc k hk⟩
theorem IntS.mem {w0 w : World} {L : List (Nat × Array Value × TypeId)} {a : Option Addr} {zs : List Int} (h : IntS w0 a zs) (hm : Mem w0 L w) : IntS w a zs := h.below hm.b

theorem IntS.at2 {w0 w : World} {L : List (Nat × Array Value × TypeId)} {a : Option Addr} {zs : List Int} (h : IntS w0 a zs) (hm : Mem w0 L w) {k : Nat} (hk : k < zs.length) :
    ∃ b off, a = some ⟨b, off, none⟩ ∧ b < w0.heap.size ∧ b < w.heap.size ∧ w.cell? ⟨b, off + k, none⟩ = some (.int .i64 zs[k]) := by
  obtain ⟨b, off, e, hl, hc⟩ := h.at_ hk
  exact ⟨b, off, e, hl, Nat.lt_of_lt_of_le hl hm.b.size, (hm.b.cell (p := ⟨b, off + k, none⟩) hl).trans hc⟩

theorem open_intS {H : Type} {enc : TypeId × Value → H} {W : World} {a : Option Addr} {len cap : Nat} {d : DataW H} {p : List MemPlace}
    (h : DataW.Trod enc Try.prog W 0 (fun _ => true) true 30 (.slice a len cap) d p) : ∃ zs : List Int, zs.length = len ∧ IntS W a zs ∧ ∀ z ∈ zs, (Lit.int .i64 z).wf = true := by
  obtain ⟨fuel, hf⟩ := h
  rcases open_ints Try.underlying30 Try.underlying3 (by kernel_rfl) hf with ⟨hcs, _⟩ | ⟨x, l, c, zs, hcs, _, hl, hm, hz, _, hcell, hwz⟩
  · simp [Value.cells] at hcs
    obtain ⟨rfl, rfl, rfl⟩ := hcs
    exact ⟨[], rfl, .inl rfl, by simp⟩
  · simp [Value.cells] at hcs
    obtain ⟨rfl, rfl, rfl⟩ := hcs
    have hz' : zs.length = cap := by simpa using hz
    refine ⟨zs.take len, by rw [List.length_take]; omega, ?_, fun z hz => hwz z (List.mem_of_mem_take hz)⟩
    by_cases h0 : len = 0
    · exact .inl (by simp [h0])
    · right
      have hc0 := hcell 0 (by omega)
      have hsp := World.cell?_spot hc0
      obtain ⟨b, off, spot⟩ := x
      have hspot : spot = none := by simpa [Addr.add] using hsp
      subst hspot
      refine ⟨b, off, rfl, by simpa [Addr.add] using lt_of_cell hc0, fun j hj => ?_⟩
      have hj' : j < zs.length := by rw [List.length_take] at hj; omega
      have := hcell j hj'
      rw [add_none] at this
      rw [this, List.getElem_take]
      simp [List.getD_eq_getElem?_getD, List.getElem?_eq_getElem hj']

end Go.Proofs.Ytpghhfobaionkaa

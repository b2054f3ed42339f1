/- Pairs: slices.Sort of a slice of the call's own. -/
import Derived.Test.YtchhadkmemckbaaShelf
import Derived.Test.YtchhadkmemckbaaPcB
namespace Go.Proofs.Ytchhadkmemckbaa
open Go.RowKit Go.Sort
set_option linter.unusedSimpArgs false
set_option linter.unusedVariables false

theorem row_grown {w : World} {g n : Nat} {d : Array Int} {os : Array Obj} {fr0 : Nat} (hg : g < w.heap.size) : w.grownBy (grow (putRow (Value.int .i64) (Sort.ahead w n) g 0 d) os) (some g) := by
  refine ⟨rfl, rfl, rfl, by simp, fun i hi hne => ?_⟩
  rw [heap_grow_old _ _ (by simpa using hi)]
  unfold putRow mapBlock
  simp only [heap_ahead, Array.getElem?_modify]
  rw [if_neg (fun e => hne (by rw [e]))]

theorem sortI_any {w0 w : World} {v : Value} {zs : List Int} (h : OV w0 3 v (zs.map (Value.int .i64)) w) (hl : zs.length ≤ 1000) :
    Calls Try.prog 58 #[v] w fun e w' => e = .returned (.tuple #[]) ∧ w.grownBy w' v.ownBlock ∧ ∃ a cap, v = .slice a zs.length cap ∧ IntK w' a (srtI zs) := by
  have hlen : (zs.map (Value.int .i64)).length = zs.length := List.length_map ..
  rcases h.own.2 with ⟨hv, h0⟩ | ⟨g, cap, cur, hv, hbg, hg, hnc, hcm, hcs, htake⟩
  · have hz : zs = [] := List.eq_nil_of_length_eq_zero (by rw [← hlen]; exact h0)
    subst hz
    subst hv
    refine (Try.slices_Sort_int_none none 0 w).mono ?_
    rintro e w' ⟨rfl, rfl⟩
    exact ⟨rfl, ⟨rfl, rfl, rfl, Nat.le_refl _, fun _ _ _ => rfl⟩, none, 0, rfl, .inl (by simp [srtI])⟩
  · rw [hlen] at hv
    subst hv
    have hlt := block_lt hg
    have hcell : ∀ j (hj : j < zs.length), w.cell? ⟨g, j, none⟩ = some (.int .i64 zs[j]) := fun j hj => by
      have := h.own.cells (g := g) rfl j (.int .i64 zs[j]) (by rw [List.getElem?_map, List.getElem?_eq_getElem hj]; rfl)
      rwa [add_off, Nat.zero_add] at this
    have hH : Holds (Value.int .i64) w g 0 zs.toArray := fun j hj => by
      have hj2 : j < zs.length := by simpa using hj
      refine ⟨?_, ?_⟩
      · rw [Nat.zero_add, hcell j hj2]
        congr 2
        rw [getElem!_pos _ j (by simpa using hj)]
        simp
      · simp only [World.frozen?]
        rw [hg]
        simp
    have hsz : (srtI zs).toArray.size = zs.toArray.size := by simp [(srtI_perm zs).length_eq]
    refine (Try.slices_Sort_int g 0 cap zs w hH hlt (by omega)).mono ?_
    rintro e w' ⟨rfl, n, os, rfl⟩
    refine ⟨rfl, row_grown (fr0 := 0) hlt, some ⟨g, 0, none⟩, cap, rfl, ?_⟩
    refine .inr ⟨g, 0, rfl, by simp; omega, fun j hj => ?_⟩
    have hj2 : j < (srtI zs).toArray.size := by simpa using hj
    have h1 := (holds_grow (Value.int .i64) _ os g 0 _ (by simpa using hlt) (holds_putRow (Value.int .i64) (Sort.ahead w n) g 0 zs.toArray (srtI zs).toArray (holds_ahead _ _ n _ _ _ hH) hsz)) j hj2
    rw [h1.1]
    congr 2
    rw [getElem!_pos _ j hj2]
    simp

end Go.Proofs.Ytchhadkmemckbaa

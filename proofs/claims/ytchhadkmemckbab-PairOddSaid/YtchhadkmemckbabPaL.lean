/- Pairs: slices.Index of an int that is there, slices.Clone of bools, largest. -/
import Derived.Test.YtchhadkmemckbabPaK
namespace Go.Proofs.Ytchhadkmemckbab
open Go.RowKit
set_option linter.unusedSimpArgs false
set_option linter.unusedVariables false

set_option maxRecDepth 100000 in
set_option maxHeartbeats 1600000 in
theorem indexI_any (p n : Nat) (hn : n ≤ 100) (o : Nat → Int) (v : Int) (k : Nat) (hk : k < n) (hv : o k = v) (hno : ∀ j, j < k → o j ≠ v) (w : World) (h : w.heap[p]? = some (.cells (cA n o) 3 (0, 0))) :
    Calls Try.prog 37 #[.slice (some ⟨p, 0, none⟩) n n, .int .i64 v] w fun e w' => e = .returned (.int .i64 k) ∧ Below w.heap.size w w' := by
  have HC := Lib.hid (fun w' (hb : Below w.heap.size w w') i (hi : i < n) => (show w'.cell? ⟨p, i, none⟩ = some (.int .i64 (o i)) ∧ p < w'.heap.size from ⟨by rw [blkc (blk_keep h hb), cA_get hi], Nat.lt_of_lt_of_le (block_lt h) hb.size⟩))
  have HV := Lib.hid (And.intro hv hno)
  clear h hv hno
  go_enter Try.func37, Try.ntmps37
  go_wp2_with fail
  go_loopg [5, 8] (k + 1) (fun gk s i wr => ∃ j : Nat, j + gk = k + 1 ∧ j ≤ k ∧ i = .int .i64 j ∧ Hid (Below w.heap.size w wr))
  case atStart => exact ⟨0, by omega, by omega, rfl, Lib.hid (Below.refl _ _)⟩
  case round =>
    obtain ⟨j, hj, hjk, rfl, HB⟩ := hrel
    obtain ⟨gk', rfl⟩ : ∃ m, gk = m + 1 := ⟨gk - 1, by omega⟩
    have hlt' : (j : Int) < n := by omega
    have hj0 : (0 : Int) ≤ j := by omega
    obtain ⟨c0, l0⟩ := HC.out wr HB.out j (by omega)
    by_cases e : j = k
    · subst e
      have t0 : (v == o j) = true := by rw [HV.out.1]; simp
      obtain ⟨ov, hov⟩ : ∃ z, z = o j := ⟨_, rfl⟩
      rw [← hov] at c0 t0
      clear hov
      go_wp2
      go_ret
      exact ⟨rfl, HB.out⟩
    · have t0 : (v == o j) = false := by
        have := HV.out.2 j (by omega)
        simp
        exact fun h => this h.symm
      obtain ⟨ov, hov⟩ : ∃ z, z = o j := ⟨_, rfl⟩
      rw [← hov] at c0 t0
      clear hov
      go_wp2
      go_roundg gk'
      case measure => exact Nat.lt_succ_self _
      case rel => exact ⟨j + 1, by omega, by omega, by go_num, HB⟩

set_option maxRecDepth 100000 in
set_option maxHeartbeats 1600000 in
theorem cloneB_any (q n cap : Nat) (hp : 0 < n) (hn : n ≤ 100) (t : Nat → Bool) (w : World) (hq : q < w.heap.size) (hc : ∀ i, i < n → w.cell? ⟨q, i, none⟩ = some (.bool (t i))) :
    Calls Try.prog 38 #[.slice (some ⟨q, 0, none⟩) n cap] w fun e w' => ∃ g c', e = .returned (.slice (some ⟨g, 0, none⟩) n c') ∧ w.heap.size ≤ g ∧ g < w'.heap.size ∧ (∀ i, i < n → w'.cell? ⟨g, i, none⟩ = some (.bool (t i))) ∧ (∀ i, w'.frozen? ⟨g, i, none⟩ = false) ∧ Below w.heap.size w w' := by
  obtain ⟨i0, hi, hz0, hz1, hz2⟩ := info_parts pa_infoBool
  have HI0 := Lib.hid (And.intro hi (And.intro hz0 (And.intro hz1 hz2)))
  clear hi hz0 hz1 hz2
  have heq : ∀ w', (binOp .eql 70 (.slice (some ⟨q, 0, none⟩) n cap) (.slice none 0 0)).run Try.prog w' = .ok (.bool false) w' := fun _ => by kernel_rfl
  obtain ⟨xs, hxs⟩ : ∃ xs : List Value, xs = (List.range n).map fun i => .bool (t i) := ⟨_, rfl⟩
  have hxl : xs.length = n := by rw [hxs]; simp
  have hxg : ∀ i, i < n → xs[i]? = some (.bool (t i)) := fun i hi => by rw [hxs]; simp [hi]
  have HOV : Hid (∀ v' w6, w6.ownsRow w.heap.size 4 1 v' n xs → (w.alloc (.cells #[] 4)).grownBy w6 (Value.slice (some ⟨w.heap.size, 0, none⟩) 0 0).ownBlock → ∃ g c', v' = .slice (some ⟨g, 0, none⟩) n c' ∧ w.heap.size ≤ g ∧ g < w6.heap.size ∧ (∀ i, i < n → w6.cell? ⟨g, i, none⟩ = some (.bool (t i))) ∧ (∀ i, w6.frozen? ⟨g, i, none⟩ = false) ∧ Below w.heap.size w w6) := Lib.hid (fun v' w6 ho hg => by
    have hb : Below w.heap.size w w6 := ⟨hg.os, hg.tape, hg.output, Nat.le_trans (by simp) hg.size, fun i hi => (hg.block i (by simp; omega) (fun e => by simp [Value.ownBlock] at e; omega)).trans (((Below.refl w.heap.size w).alloc (Nat.le_refl _) (.cells #[] 4)).block i hi)⟩
    rcases ho.2 with ⟨-, h0⟩ | ⟨g, c', cur, hv, hbg, hh, -⟩
    · omega
    · refine ⟨g, c', hv, hbg, block_lt hh, fun i hi => ?_, fun i => by simp only [World.frozen?]; rw [hh]; simp, hb⟩
      have := ho.cells (g := g) (by rw [hv]; rfl) i _ (hxg i hi)
      rwa [add_off, Nat.zero_add] at this)
  have hown : (w.alloc (.cells #[] 4)).ownsRow w.heap.size 4 1 (.slice (some ⟨w.heap.size, 0, none⟩) 0 0) 0 [] := ⟨by simp, .inr ⟨w.heap.size, 0, _, rfl, Nat.le_refl _, heap_alloc_new _ _, Nat.le_refl _, by unfold maxLen; omega, by simp, by simp⟩⟩
  have hnews : ∀ (j : Nat) (u : Value), xs[j]? = some u → (w.alloc (.cells #[] 4)).cell? ((⟨q, 0, none⟩ : Addr).add j) = some u := fun j u hu => by
    rcases Nat.lt_or_ge j n with hj | hj
    · rw [hxg j hj] at hu
      simp only [Option.some.injEq] at hu
      rw [add_off, Nat.zero_add, ((Below.refl w.heap.size w).alloc (Nat.le_refl _) (.cells #[] 4)).cell (p := ⟨q, j, none⟩) hq, hc j hj, hu]
    · rw [List.getElem?_eq_none (by omega)] at hu
      simp at hu
  have hone : ∀ u ∈ xs, u.oneCell' = true := fun u hu => by
    rw [hxs] at hu
    obtain ⟨s, -, rfl⟩ := List.mem_map.1 hu
    rfl
  have HN := Lib.hid (And.intro hown (And.intro hnews (And.intro hone hxl)))
  clear hown hnews hone hxl hxg hxs hc
  go_enter Try.func38, Try.ntmps38
  go_wp2_with (at_builtin; refine wpList_append_own _ rfl _ _ 70 rfl w.heap.size 4 i0 (.bool false) 1 1 Try.underlying70 HI0.out.1 HI0.out.2.1 HI0.out.2.2.1 HI0.out.2.2.2 rfl (by decide) (.slice (some ⟨w.heap.size, 0, none⟩) 0 0) 0 [] rfl HN.out.1 ⟨q, 0, none⟩ n cap xs rfl (by rw [HN.out.2.2.2]; omega) HN.out.2.1 HN.out.2.2.1 (by unfold maxLen; omega) (by omega) (by simp) ?_)
  intro v' w6 hown6 hgrow6 hnil6
  have HE := Lib.hid (HOV.out v' w6 (by simpa using hown6) hgrow6)
  clear hown6 hgrow6 hnil6
  go_wp2
  go_ret
  obtain ⟨g, c', rfl, h1, h2, h3, h4, h5⟩ := HE.out
  exact ⟨g, c', rfl, h1, h2, h3, h4, h5⟩

end Go.Proofs.Ytchhadkmemckbab

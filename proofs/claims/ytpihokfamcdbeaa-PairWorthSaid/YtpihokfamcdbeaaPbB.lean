/- Pairs: slices.Concat of two slices of ints. -/
import Derived.Test.YtpihokfamcdbeaaPaX
import Derived.Lib.AppendZeros
import Derived.Laws.OwnMore
import Derived.Lib.SliceRun
namespace Go.Proofs.Ytpihokfamcdbeaa
open Go.RowKit
set_option linter.unusedSimpArgs false
set_option linter.unusedVariables false

theorem append_noneI (w : World) (ty : TypeId) (v : Value) (n c : Nat) (xs : List Value) (base : Nat) (hown : w.ownsRow base 3 1 v n xs) :
    (Builtin.append_ #[38, 38] ty #[v, .slice none 0 c]).run Try.prog w = .ok v w := by
  obtain ⟨i0, hi, hz0, hz1, hz2⟩ := info_parts pa_infoInt
  rcases hown.2 with ⟨rfl, rfl⟩ | ⟨g, cap, cur, rfl, _, _, hnc, _⟩
  · simp [Builtin.append_, run_underlying Try.underlying38, Go.sizeOf, typeInfo, hi, Builtin.lenOf, Builtin.firstCells]
  · simp [Builtin.append_, run_underlying Try.underlying38, Go.sizeOf, typeInfo, hi, Builtin.lenOf, Builtin.firstCells, hnc, storeCells]
/-- A slice of ints that came in, laid behind a row of the call's own. -/
theorem append_ints {w0 w : World} {v : Value} {xs : List Value} (h : OV w0 3 v xs w) (ty : TypeId) (a : Option Addr) (c : Nat) (zs : List Int) (hz : IntK w a zs) (hl : xs.length + zs.length ≤ 1000000) :
    ∃ v' w', (Builtin.append_ #[38, 38] ty #[v, .slice a zs.length c]).run Try.prog w = .ok v' w' ∧ OV w0 3 v' (xs ++ zs.map (Value.int .i64)) w' ∧ w.grownBy w' v.ownBlock := by
  obtain ⟨i0, hi, hz0, hz1, hz2⟩ := info_parts pa_infoInt
  have hmk : ∀ v' w', w'.ownsRow w0.heap.size 3 1 v' (xs.length + zs.length) (xs ++ zs.map (Value.int .i64)) → w.grownBy w' v.ownBlock → OV w0 3 v' (xs ++ zs.map (Value.int .i64)) w' := fun v' w' ho hg => by
    have hlt := h.own.lt
    refine ⟨⟨hg.os.trans h.b.os, hg.tape.trans h.b.tape, hg.output.trans h.b.output, Nat.le_trans h.b.size hg.size, fun i hi => ?_⟩, ?_⟩
    · exact (hg.block i (Nat.lt_of_lt_of_le hi h.b.size) (fun e => by have := (hlt i e.symm).1; omega)).trans (h.b.block i hi)
    · rw [List.length_append, List.length_map]; exact ho
  rcases hz with hz | ⟨b, off, rfl, hb, hc⟩
  · subst hz
    cases a with
    | none => exact ⟨v, w, append_noneI w ty v _ c xs _ h.own, by simpa using h, ⟨rfl, rfl, rfl, Nat.le_refl _, fun _ _ _ => rfl⟩⟩
    | some ad =>
      obtain ⟨v', w', hr, ho, hg, -⟩ := run_append_own w w0.heap.size 38 ty 3 i0 (.int .i64 0) 1 8 Try.underlying38 hi hz0 hz1 hz2 rfl (by decide) v xs.length xs h.own ad 0 c [] rfl (by simp) (by simp) (by unfold maxLen; omega) (by omega) h.b.size
      exact ⟨v', w', hr, hmk v' w' (by simpa using ho) hg, hg⟩
  · obtain ⟨v', w', hr, ho, hg, -⟩ := run_append_own w w0.heap.size 38 ty 3 i0 (.int .i64 0) 1 8 Try.underlying38 hi hz0 hz1 hz2 rfl (by decide) v xs.length xs h.own ⟨b, off, none⟩ zs.length c (zs.map (Value.int .i64)) (by simp) (fun j u hu => by
      rw [List.getElem?_map] at hu
      rcases Nat.lt_or_ge j zs.length with hj | hj
      · rw [List.getElem?_eq_getElem hj] at hu
        simp only [Option.map_some, Option.some.injEq] at hu
        rw [add_off, hc j hj, hu]
      · rw [List.getElem?_eq_none hj] at hu
        simp at hu) (fun u hu => by obtain ⟨s, -, rfl⟩ := List.mem_map.1 hu; rfl) (by unfold maxLen; omega) (by omega) h.b.size
    exact ⟨v', w', hr, hmk v' w' ho hg, hg⟩

set_option maxRecDepth 100000 in
set_option maxHeartbeats 1600000 in
theorem growI_nil (n : Nat) (hn : n ≤ 1000) (w : World) : Calls Try.prog 89 #[.slice none 0 0, .int .i64 n] w fun e w' => ∃ v, e = .returned v ∧ OV w 3 v [] w' := by
  have t0 : decide ((n : Int) < 0) = false := decide_eq_false (by omega)
  have v1 : IntKind.i64.wrap (n : Int) = (n : Int) := IntWalk.i64_in _ (by omega)
  by_cases h0 : n = 0
  · subst h0
    go_enter Try.func89, Try.ntmps89
    go_wp2
    go_ret
    exact ⟨_, rfl, OV.start w _⟩
  · have t1 : decide ((0 : Int) < n) = true := decide_eq_true (by omega)
    obtain ⟨i0, hi, hz0, hz1, hz2⟩ := info_parts pa_infoInt
    have hr := fun ty => Lib.run_append_nil_zeros w 38 3 ty 3 i0 (.int .i64 0) .i64 .i64 Try.underlying38 Try.underlying3 hi hz0 n (by omega) (by omega) (by omega) (by rw [hz2]; omega)
    obtain ⟨G, hG⟩ : ∃ G, G = grownCap w n 0 3 := ⟨_, rfl⟩
    have hGn : n ≤ G := by rw [hG]; exact grownCap_ge w _ _ _
    have hG63 : G ≤ 9223372036854775807 := by
      have := grownCap_le_maxLen w n 0 3 (by unfold maxLen; omega)
      rw [← hG] at this
      unfold maxLen at this
      omega
    rw [← hG] at hr
    obtain ⟨wg, hwg⟩ : ∃ z, z = w.drew.alloc (.cells (Builtin.zeroCells (Value.int .i64 0).cells n ++ Builtin.zeroCells (Value.int .i64 0).cells (G - n)) 3) := ⟨_, rfl⟩
    rw [← hwg] at hr
    have HE : Hid (OV w 3 (.slice (some ⟨w.heap.size, 0, none⟩) 0 G) [] wg) := Lib.hid (by
      rw [hwg]
      refine ⟨(Below.refl _ _).drew.alloc (Below.refl w.heap.size w).drew.size _, by simp, .inr ⟨w.heap.size, G, _, rfl, Nat.le_refl _, heap_alloc_new w.drew _, Nat.zero_le _, by unfold maxLen; omega, ?_, by simp⟩⟩
      simp only [Array.size_append, size_zeroCells, Value.cells, List.size_toArray, List.length_cons, List.length_nil]
      omega)
    clear hwg hG hi hz0 hz1 hz2
    go_enter Try.func89, Try.ntmps89
    go_wp2_with (at_builtin; refine Lib.wpList_append_run _ rfl _ _ _ _ rfl _ _ rfl rfl _ _ (hr _) ?_)
    go_ret
    exact ⟨_, rfl, HE.out⟩

end Go.Proofs.Ytpihokfamcdbeaa

/- The reference's Share: the errors; two arrays in memory. -/
import Derived.Test.YtpghhfobaionkaaSsN
namespace Go.Proofs.Ytpghhfobaionkaa
open Go.RowKit

set_option maxRecDepth 100000 in
set_option maxHeartbeats 3200000 in
theorem rshare_err (a : Option Addr) (cap : Nat) (zs : List Int) (n z : Int) (hz : shrE n zs = z) (h0 : z ≠ 0) (w : World) (h : IntS w a zs) :
    Calls Try.prog 10 #[.int .i64 n, .slice a zs.length cap] w fun e w' => e = .returned (.tuple #[.slice none 0 0, .int .i64 z]) ∧ w = w' := by
  by_cases h64 : 64 < zs.length
  · have hzz : z = 3 := by unfold shrE at hz; rw [if_pos h64] at hz; exact hz.symm
    subst hzz
    have hi : (64 : Int) < zs.length := by omega
    clear hz h64 h0 h
    go_enter Try.func10, Try.ntmps10
    go_wp2
    go_ret2
    exact ⟨rfl, rfl⟩
  · have hi : (zs.length : Int) ≤ 64 := by omega
    unfold shrE at hz
    rw [if_neg h64] at hz
    by_cases hn0 : n < 0
    · rw [if_pos (.inl hn0)] at hz
      subst hz
      clear h64 h0 h
      go_enter Try.func10, Try.ntmps10
      go_wp2
      go_ret2
      exact ⟨rfl, rfl⟩
    · by_cases hn1 : 1000000000 < n
      · rw [if_pos (.inr (.inl hn1))] at hz
        subst hz
        clear h64 h0 h
        go_enter Try.func10, Try.ntmps10
        go_wp2
        go_ret2
        exact ⟨rfl, rfl⟩
      · have HZ : Hid ((wB zs 1000000000 = false → z = 2) ∧ (wB zs 1000000000 = true → zs.sum = 0 → z = 4) ∧ (wB zs 1000000000 = true → zs.sum = 0)) := Lib.hid (by
          refine ⟨fun hw => ?_, fun hw hs => ?_, fun hw => ?_⟩
          · rw [if_pos (.inr (.inr hw))] at hz; exact hz.symm
          · rw [if_neg (fun hh => hh.elim (fun h1 => hn0 h1) fun hh => hh.elim (fun h1 => hn1 h1) fun h1 => by rw [hw] at h1; cases h1), if_pos hs] at hz; exact hz.symm
          · rw [if_neg (fun hh => hh.elim (fun h1 => hn0 h1) fun hh => hh.elim (fun h1 => hn1 h1) fun h1 => by rw [hw] at h1; cases h1)] at hz
            by_cases hs : zs.sum = 0
            · exact hs
            · rw [if_neg hs] at hz; exact absurd hz.symm h0)
        have HF := Lib.hid h
        clear hz h64 h0 h
        go_enter Try.func10, Try.ntmps10
        go_wp2
        go_loop [6, 28] (fun t i => ∃ (k : Nat) (s : Int), k ≤ zs.length ∧ t = .int .i64 s ∧ i = .int .i64 k ∧ 0 ≤ s ∧ s ≤ 1000000000 * k ∧ Hid ((zs.take k).sum = s ∧ wB (zs.take k) 1000000000 = true)) (fun _ i => zs.length - (intOf i).toNat)
        case atStart => exact ⟨0, 0, Nat.zero_le _, rfl, rfl, by omega, by omega, Lib.hid ⟨rfl, rfl⟩⟩
        case round =>
          obtain ⟨k, s, hk, rfl, rfl, hs1, hs2, HA⟩ := hrel
          by_cases hlt : k < zs.length
          · obtain ⟨g, off, rfl, hg, hc⟩ := HF.out.at_ hlt
            obtain ⟨x, hx⟩ : ∃ n, n = zs[k] := ⟨_, rfl⟩
            rw [← hx] at hc
            have HX := Lib.hid hx
            clear hx
            have hk0 : (0 : Int) ≤ (k : Int) := by omega
            by_cases hx0 : x < 0
            · obtain rfl : z = 2 := HZ.out.1 (wB_false hlt (.inl (by rw [← HX.out]; exact hx0)))
              go_wp2
              go_ret2
              exact ⟨rfl, rfl⟩
            · by_cases hx1 : 1000000000 < x
              · obtain rfl : z = 2 := HZ.out.1 (wB_false hlt (.inr (by rw [← HX.out]; exact hx1)))
                go_wp2
                go_ret2
                exact ⟨rfl, rfl⟩
              · have HA' : Hid ((zs.take (k + 1)).sum = s + x ∧ wB (zs.take (k + 1)) 1000000000 = true) := Lib.hid ⟨by rw [sum_take hlt, HA.out.1, ← HX.out], wB_take HA.out.2 hlt (by rw [← HX.out]; omega) (by rw [← HX.out]; omega)⟩
                go_wp2
                go_round
                case rel => exact ⟨k + 1, s + x, by omega, rfl, by go_num, by omega, by omega, HA'⟩
                case measure => simp [intOf]; omega
          · have hkl : k = zs.length := by omega
            have hA := HA.out
            rw [hkl, List.take_length] at hA
            have hs := HZ.out.2.2 hA.2
            obtain rfl : z = 4 := HZ.out.2.1 hA.2 hs
            obtain rfl : s = 0 := by rw [← hA.1, hs]
            clear hA hs hkl
            go_wp2
            go_ret2
            exact ⟨rfl, rfl⟩

/-- The cells of N bools. -/
def arrB (N : Nat) (f : Nat → Bool) : Array Value := Array.ofFn (n := N) fun i => Value.bool (f i)
theorem arrB_size (N : Nat) (f : Nat → Bool) : (arrB N f).size = N := by unfold arrB; exact Array.size_ofFn
theorem arrB_get {N : Nat} {f : Nat → Bool} {i : Nat} (h : i < N) : (arrB N f)[i]? = some (.bool (f i)) := by
  rw [Array.getElem?_eq_getElem (by rw [arrB_size]; exact h)]
  unfold arrB
  rw [Array.getElem_ofFn]
theorem arrB_congr {N : Nat} {f f' : Nat → Bool} (h : ∀ k, k < N → f k = f' k) : arrB N f = arrB N f' := by
  apply Array.ext
  · rw [arrB_size, arrB_size]
  · intro i h1 h2
    have hi : i < N := by rw [arrB_size] at h1; exact h1
    have e1 := arrB_get (f := f) hi
    have e2 := arrB_get (f := f') hi
    rw [Array.getElem?_eq_getElem h1] at e1
    rw [Array.getElem?_eq_getElem h2] at e2
    rw [Option.some.inj e1, Option.some.inj e2, h i hi]
theorem arrB_set {N : Nat} {f : Nat → Bool} {i : Nat} (x : Bool) : (arrB N f).setIfInBounds i (.bool x) = arrB N fun k => if k = i then x else f k := by
  apply Array.ext
  · rw [Array.size_setIfInBounds, arrB_size, arrB_size]
  · intro k h1 h2
    have hk : k < N := by rw [arrB_size] at h2; exact h2
    rw [Array.getElem_setIfInBounds]
    have e2 := arrB_get (f := fun k => if k = i then x else f k) hk
    rw [Array.getElem?_eq_getElem h2] at e2
    have e1 := arrB_get (f := f) hk
    rw [Array.getElem?_eq_getElem (by rw [arrB_size]; exact hk)] at e1
    rw [Option.some.inj e2]
    by_cases hki : k = i
    · subst hki; simp
    · rw [if_neg (fun e => hki e.symm), Option.some.inj e1, if_neg hki]
    rw [arrB_size]; exact hk

theorem made_bools (n : Nat) : madeCells (Value.bool false).cells n = arrB n fun _ => false := by
  apply Array.ext'
  apply List.ext_getElem
  · simp [madeCells, arrB]
  · intro i h1 h2
    simp [madeCells, arrB, Value.cells, Nat.mod_one]

theorem infoBool : (Try.prog.info? 4).map (fun i => (i.zero, i.size, i.bytes)) = some (some (.bool false), 1, 1) := by kernel_rfl

theorem run_make_bools (n : Nat) (hn : (n : Int) ≤ 1000000) (w : World) :
    (Instr.makeSlice 41 (.int .i64 n) (.int .i64 n)).run Try.prog w = .ok (.slice (some ⟨w.heap.size, 0, none⟩) n n) (w.alloc (.cells (arrB n fun _ => false) 4)) := by
  obtain ⟨i0, hi, hz0, hz1, hz2⟩ := info_parts infoBool
  have h := run_make (P := Try.prog) w 41 4 i0 (.bool false) Try.underlying41 hi hz0 .i64 .i64 n n (by omega) (by omega) (by rw [hz2]; omega) (by omega)
  rw [h]
  simp only [Int.toNat_natCast, hz1, Nat.mul_one, made_bools]

/-- The world w0 but for blocks g and g2, which hold N ints and N bools, and for the count of draws. -/
structure St2 (w0 : World) (g g2 N : Nat) (T T2 : TypeId) (f : Nat → Int) (v : Nat → Bool) (w : World) : Prop where
  os : w.os = w0.os
  tape : w.tape = w0.tape
  output : w.output = w0.output
  size : w.heap.size = w0.heap.size
  arr : w.heap[g]? = some (.cells (arrC N f) T (0, 0))
  arr2 : w.heap[g2]? = some (.cells (arrB N v) T2 (0, 0))
  ne : g ≠ g2
  oth : ∀ b, b ≠ g → b ≠ g2 → w.heap[b]? = w0.heap[b]?

section
variable {w0 w w' : World} {g g2 N : Nat} {T T2 : TypeId} {f f' : Nat → Int} {v v' : Nat → Bool}
theorem St2.drewN (h : St2 w0 g g2 N T T2 f v w) (n : Nat) : St2 w0 g g2 N T T2 f v (w.drewN n) := ⟨h.os, h.tape, h.output, h.size, h.arr, h.arr2, h.ne, h.oth⟩
theorem St2.cell (h : St2 w0 g g2 N T T2 f v w) {i : Nat} (hi : i < N) : w.cell? ⟨g, i, none⟩ = some (.int .i64 (f i)) := by simp only [World.cell?]; rw [h.arr]; exact arrC_get hi
theorem St2.cell2 (h : St2 w0 g g2 N T T2 f v w) {i : Nat} (hi : i < N) : w.cell? ⟨g2, i, none⟩ = some (.bool (v i)) := by simp only [World.cell?]; rw [h.arr2]; exact arrB_get hi
theorem St2.frozen (h : St2 w0 g g2 N T T2 f v w) (i : Nat) : w.frozen? ⟨g, i, none⟩ = false := by simp only [World.frozen?]; rw [h.arr]; simp
theorem St2.frozen2 (h : St2 w0 g g2 N T T2 f v w) (i : Nat) : w.frozen? ⟨g2, i, none⟩ = false := by simp only [World.frozen?]; rw [h.arr2]; simp
theorem St2.ocell (h : St2 w0 g g2 N T T2 f v w) {b o : Nat} (hb : b ≠ g) (hb2 : b ≠ g2) : w.cell? ⟨b, o, none⟩ = w0.cell? ⟨b, o, none⟩ := by simp only [World.cell?]; rw [h.oth b hb hb2]
theorem St2.congr (h : St2 w0 g g2 N T T2 f v w) (e : ∀ k, k < N → f k = f' k) (e2 : ∀ k, k < N → v k = v' k) : St2 w0 g g2 N T T2 f' v' w := ⟨h.os, h.tape, h.output, h.size, by rw [h.arr, arrC_congr e], by rw [h.arr2, arrB_congr e2], h.ne, h.oth⟩
theorem St2.set (h : St2 w0 g g2 N T T2 f v w) (i : Nat) (x : Int) : St2 w0 g g2 N T T2 (fun k => if k = i then x else f k) v (w.setCell ⟨g, i, none⟩ (.int .i64 x)) := by
  refine ⟨h.os, h.tape, h.output, ?_, ?_, ?_, h.ne, fun b hb hb2 => ?_⟩
  · simp only [World.setCell, Array.size_modify]; exact h.size
  · simp only [World.setCell, Array.getElem?_modify, h.arr]
    simp [arrC_set]
  · rw [Below.heap_setCell _ _ _ _ h.ne.symm]; exact h.arr2
  · rw [Below.heap_setCell _ _ _ _ hb]; exact h.oth b hb hb2
theorem St2.set2 (h : St2 w0 g g2 N T T2 f v w) (i : Nat) (x : Bool) : St2 w0 g g2 N T T2 f (fun k => if k = i then x else v k) (w.setCell ⟨g2, i, none⟩ (.bool x)) := by
  refine ⟨h.os, h.tape, h.output, ?_, ?_, ?_, h.ne, fun b hb hb2 => ?_⟩
  · simp only [World.setCell, Array.size_modify]; exact h.size
  · rw [Below.heap_setCell _ _ _ _ h.ne]; exact h.arr
  · simp only [World.setCell, Array.getElem?_modify, h.arr2]
    simp [arrB_set]
  · rw [Below.heap_setCell _ _ _ _ hb2]; exact h.oth b hb hb2
theorem St2.start (w : World) (N : Nat) (f : Nat → Int) (v : Nat → Bool) (T T2 : TypeId) : St2 ((w.alloc (.cells (arrC N f) T)).alloc (.cells (arrB N v) T2)) w.heap.size (w.heap.size + 1) N T T2 f v ((w.alloc (.cells (arrC N f) T)).alloc (.cells (arrB N v) T2)) :=
  ⟨rfl, rfl, rfl, rfl, heap_alloc1 _ _ _, heap_alloc2 _ _ _, by omega, fun _ _ _ => rfl⟩
theorem St2.below {wa : World} (hb : Below w.heap.size w wa) (hg : w.heap.size ≤ g) (hg2 : w.heap.size ≤ g2) (h : St2 wa g g2 N T T2 f v w') : Below w.heap.size w w' :=
  ⟨h.os.trans hb.os, h.tape.trans hb.tape, h.output.trans hb.output, by rw [h.size]; exact hb.size, fun k hk => (h.oth k (by omega) (by omega)).trans (hb.block k hk)⟩
end

end Go.Proofs.Ytpghhfobaionkaa

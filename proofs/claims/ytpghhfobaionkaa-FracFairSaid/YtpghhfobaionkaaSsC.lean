/- Sorting in place: the slice in memory; two ranges exchanged. -/
import Derived.Test.YtpghhfobaionkaaProg
import Derived.WalkKit
import Derived.WalkLawsBesides
import Derived.WalkSpells
import Derived.RegionTactic
import Derived.Deep.QuietTactic
import Derived.BigQuiet
import Derived.Lib.Hide
import Derived.OwnWalk
import Derived.IntWalk
import Derived.Deep.RegionHeld3
import Derived.Test.YtpghhfobaionkaaSsB
namespace Go.Proofs.Ytpghhfobaionkaa
open Go.RowKit

/-- The cells of N ints. -/
def arrC (N : Nat) (f : Nat → Int) : Array Value := Array.ofFn (n := N) fun i => Value.int .i64 (f i)
theorem arrC_size (N : Nat) (f : Nat → Int) : (arrC N f).size = N := by unfold arrC; exact Array.size_ofFn
theorem arrC_get {N : Nat} {f : Nat → Int} {i : Nat} (h : i < N) : (arrC N f)[i]? = some (.int .i64 (f i)) := by
  rw [Array.getElem?_eq_getElem (by rw [arrC_size]; exact h)]
  unfold arrC
  rw [Array.getElem_ofFn]
theorem arrC_congr {N : Nat} {f f' : Nat → Int} (h : ∀ k, k < N → f k = f' k) : arrC N f = arrC N f' := by
  apply Array.ext
  · rw [arrC_size, arrC_size]
  · intro i h1 h2
    have hi : i < N := by rw [arrC_size] at h1; exact h1
    have e1 := arrC_get (f := f) hi
    have e2 := arrC_get (f := f') hi
    rw [Array.getElem?_eq_getElem h1] at e1
    rw [Array.getElem?_eq_getElem h2] at e2
    rw [Option.some.inj e1, Option.some.inj e2, h i hi]
/-- One cell set. -/
theorem arrC_set {N : Nat} {f : Nat → Int} {i : Nat} (x : Int) : (arrC N f).setIfInBounds i (.int .i64 x) = arrC N fun k => if k = i then x else f k := by
  apply Array.ext
  · rw [Array.size_setIfInBounds, arrC_size, arrC_size]
  · intro k h1 h2
    have hk : k < N := by rw [arrC_size] at h2; exact h2
    rw [Array.getElem_setIfInBounds]
    have e2 := arrC_get (f := fun k => if k = i then x else f k) hk
    rw [Array.getElem?_eq_getElem h2] at e2
    have e1 := arrC_get (f := f) hk
    rw [Array.getElem?_eq_getElem (by rw [arrC_size]; exact hk)] at e1
    rw [Option.some.inj e2]
    by_cases hki : k = i
    · subst hki; simp
    · rw [if_neg (fun e => hki e.symm), Option.some.inj e1, if_neg hki]
    rw [arrC_size]; exact hk

/-- The world w0 but for block g, which holds N ints, and for the count of draws. -/
structure St (w0 : World) (g N : Nat) (T : TypeId) (f : Nat → Int) (w : World) : Prop where
  os : w.os = w0.os
  tape : w.tape = w0.tape
  output : w.output = w0.output
  size : w.heap.size = w0.heap.size
  arr : w.heap[g]? = some (.cells (arrC N f) T (0, 0))
  oth : ∀ b, b ≠ g → w.heap[b]? = w0.heap[b]?

section
variable {w0 w w' : World} {g N : Nat} {T : TypeId} {f f' : Nat → Int}
theorem St.drew (h : St w0 g N T f w) : St w0 g N T f w.drew := ⟨h.os, h.tape, h.output, h.size, h.arr, h.oth⟩
theorem St.drewN (h : St w0 g N T f w) (n : Nat) : St w0 g N T f (w.drewN n) := ⟨h.os, h.tape, h.output, h.size, h.arr, h.oth⟩
theorem St.trans (h : St w0 g N T f w) (h' : St w g N T f' w') : St w0 g N T f' w' :=
  ⟨h'.os.trans h.os, h'.tape.trans h.tape, h'.output.trans h.output, h'.size.trans h.size, h'.arr, fun b hb => (h'.oth b hb).trans (h.oth b hb)⟩
theorem St.self (h : St w0 g N T f w) : St w g N T f w := ⟨rfl, rfl, rfl, rfl, h.arr, fun _ _ => rfl⟩
theorem St.cell (h : St w0 g N T f w) {i : Nat} (hi : i < N) : w.cell? ⟨g, i, none⟩ = some (.int .i64 (f i)) := by
  simp only [World.cell?]; rw [h.arr]; exact arrC_get hi
theorem St.frozen (h : St w0 g N T f w) (i : Nat) : w.frozen? ⟨g, i, none⟩ = false := by
  simp only [World.frozen?]; rw [h.arr]; simp
theorem St.ocell (h : St w0 g N T f w) {b o : Nat} (hb : b ≠ g) : w.cell? ⟨b, o, none⟩ = w0.cell? ⟨b, o, none⟩ := by
  simp only [World.cell?]; rw [h.oth b hb]
theorem St.lt (h : St w0 g N T f w) : g < w.heap.size := (Array.getElem?_eq_some_iff.1 h.arr).1
theorem St.congr (h : St w0 g N T f w) (e : ∀ k, k < N → f k = f' k) : St w0 g N T f' w := ⟨h.os, h.tape, h.output, h.size, by rw [h.arr, arrC_congr e], h.oth⟩
theorem St.set (h : St w0 g N T f w) (i : Nat) (x : Int) : St w0 g N T (fun k => if k = i then x else f k) (w.setCell ⟨g, i, none⟩ (.int .i64 x)) := by
  refine ⟨h.os, h.tape, h.output, ?_, ?_, fun b hb => ?_⟩
  · simp only [World.setCell, Array.size_modify]; exact h.size
  · simp only [World.setCell, Array.getElem?_modify, h.arr]
    simp [arrC_set]
  · rw [Below.heap_setCell _ _ _ _ hb]; exact h.oth b hb
theorem St.swap (h : St w0 g N T f w) (i j : Nat) : St w0 g N T (swp f i j) ((w.setCell ⟨g, i, none⟩ (.int .i64 (f j))).setCell ⟨g, j, none⟩ (.int .i64 (f i))) := by
  refine ((h.set i (f j)).set j (f i)).congr fun k _ => ?_
  unfold swp
  by_cases h1 : k = j
  · by_cases h2 : k = i
    · rw [if_pos h1, if_pos h2, ← h2, ← h1]
    · rw [if_pos h1, if_neg h2, if_pos h1]
  · rw [if_neg h1]
    by_cases h2 : k = i
    · rw [if_pos h2, if_pos h2]
    · rw [if_neg h2, if_neg h2, if_neg h1]
end

set_option maxRecDepth 100000 in
set_option maxHeartbeats 1600000 in
theorem swapRange_any (g N C p q n : Nat) (T : TypeId) (fn : Value) (hd : p + n ≤ q) (hq : q + n ≤ N) (hN : N ≤ 1000000) (f : Nat → Int) (w : World) (h : St w g N T f w) :
    Calls Try.prog 53 #[.slice (some ⟨g, 0, none⟩) N C, .int .i64 p, .int .i64 q, .int .i64 n, fn] w fun e w' => e = .returned (.tuple #[]) ∧ ∃ f', Hid (SwR N p q n f f') ∧ St w g N T f' w' := by
  have H := Lib.hid h
  clear h
  go_enter Try.func53, Try.ntmps53
  go_wp2
  go_loopw [10] (fun i wr => ∃ (k : Nat) (f' : Nat → Int), k ≤ n ∧ i = .int .i64 k ∧ Hid (SwR N p q k f f') ∧ Hid (St w g N T f' wr)) (fun i _ => n - (intOf i).toNat)
  case atStart => exact ⟨0, f, Nat.zero_le _, rfl, Lib.hid (SwR.start _ _ _ _), H⟩
  case round =>
    obtain ⟨k, f', hk, rfl, HS, HW⟩ := hrel
    by_cases hlt : k < n
    · have c1 := HW.out.cell (i := p + k) (by omega)
      have c2 := HW.out.cell (i := q + k) (by omega)
      have z1 := HW.out.frozen (p + k)
      have z2 := HW.out.frozen (q + k)
      have n1 : (0 : Int) ≤ (p : Int) + k := by omega
      have n2 : (0 : Int) ≤ (q : Int) + k := by omega
      have n3 : (p : Int) + k < N := by omega
      have n4 : (q : Int) + k < N := by omega
      have n5 : (N : Int) ≤ 1000000 := by omega
      have t1 : ((p : Int) + k).toNat = p + k := by omega
      have t2 : ((q : Int) + k).toNat = q + k := by omega
      go_wp2_with fail
      have w1 : IntKind.i64.wrap ((p : Int) + k) = (p : Int) + k := IntWalk.i64_in _ (by omega)
      have w2 : IntKind.i64.wrap ((q : Int) + k) = (q : Int) + k := IntWalk.i64_in _ (by omega)
      go_region
      have HS' := Lib.hid (HS.out.step (by omega))
      have HW' := Lib.hid (HW.out.drew.swap (p + k) (q + k))
      clear c1 c2 z1 z2 n1 n2 n3 n4 n5 t1 t2 w1 w2
      go_wp2
      go_roundw
      case rel => exact ⟨k + 1, _, by omega, by go_num, HS', HW'⟩
      case measure => simp [intOf]; omega
    · obtain rfl : k = n := by omega
      go_wp2
      go_end0
      exact ⟨rfl, f', HS, HW.out⟩

end Go.Proofs.Ytpghhfobaionkaa

/- slices.Equal of two slices of ints that hold the same. -/
import Derived.Test.YtpghhfobaionkaaSsP
namespace Go.Proofs.Ytpghhfobaionkaa
open Go.RowKit

theorem equal_nil (w : World) : Calls Try.prog 11 #[.slice none 0 0, .slice none 0 0] w fun e w' => e = .returned (.bool true) ∧ Below w.heap.size w w' := by
  go_enter Try.func11, Try.ntmps11
  go_wp2
  go_loopw [13] (fun i wr => i = .int .i64 0 ∧ wr = w) (fun _ _ => 0)
  case atStart => exact ⟨rfl, rfl⟩
  case round =>
    obtain ⟨rfl, rfl⟩ := hrel
    go_wp2
    go_ret
    exact ⟨rfl, Below.refl _ _⟩

set_option maxRecDepth 100000 in
set_option maxHeartbeats 1600000 in
theorem equal_arr (g g2 N : Nat) (T T2 : TypeId) (f : Nat → Int) (hN : (N : Int) ≤ 1000000) (w : World) (h1 : w.heap[g]? = some (.cells (arrC N f) T (0, 0))) (h2 : w.heap[g2]? = some (.cells (arrC N f) T2 (0, 0))) :
    Calls Try.prog 11 #[.slice (some ⟨g, 0, none⟩) N N, .slice (some ⟨g2, 0, none⟩) N N] w fun e w' => e = .returned (.bool true) ∧ Below w.heap.size w w' := by
  have HA : Hid (∀ i, i < N → w.cell? ⟨g, i, none⟩ = some (.int .i64 (f i)) ∧ w.cell? ⟨g2, i, none⟩ = some (.int .i64 (f i))) := Lib.hid (fun i hi => by
    simp only [World.cell?]; rw [h1, h2]; exact ⟨arrC_get hi, arrC_get hi⟩)
  have hlt : g < w.heap.size := (Array.getElem?_eq_some_iff.1 h1).1
  have hlt2 : g2 < w.heap.size := (Array.getElem?_eq_some_iff.1 h2).1
  clear h1 h2
  go_enter Try.func11, Try.ntmps11
  go_wp2_with fail
  go_loopw [13] (fun i wr => ∃ k : Nat, k ≤ N ∧ i = .int .i64 k ∧ Hid (Below w.heap.size w wr)) (fun i _ => N - (intOf i).toNat)
  case atStart => exact ⟨0, Nat.zero_le _, rfl, Lib.hid (Below.refl _ _)⟩
  case round =>
    obtain ⟨k, hk, rfl, HB⟩ := hrel
    by_cases hkN : k < N
    · have hkN' : (k : Int) < N := by omega
      have c1 := (HB.out.cell (p := ⟨g, k, none⟩) hlt).trans (HA.out k hkN).1
      have c2 := (HB.out.cell (p := ⟨g2, k, none⟩) hlt2).trans (HA.out k hkN).2
      obtain ⟨v, hv⟩ : ∃ v, v = f k := ⟨_, rfl⟩
      rw [← hv] at c1 c2
      have hk0 : (0 : Int) ≤ (k : Int) := by omega
      have hvv : (v != v) = false := by simp
      have HD := Lib.hid HB.out.drew
      clear hv
      go_wp2_with fail
      go_region
      go_wp2
      go_roundw
      case rel => exact ⟨k + 1, by omega, by go_num, HD⟩
      case measure => simp [intOf]; omega
    · obtain rfl : k = N := by omega
      go_wp2
      go_ret
      exact ⟨rfl, HB.out⟩

end Go.Proofs.Ytpghhfobaionkaa

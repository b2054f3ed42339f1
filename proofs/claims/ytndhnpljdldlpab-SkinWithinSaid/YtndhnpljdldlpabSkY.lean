/- Skins: Grades and Worth, the program's and the reference's. -/
import Derived.Test.YtndhnpljdldlpabSkW
import Derived.Test.YtndhnpljdldlpabSkX
import Derived.Laws.MakeOwn
namespace Go.Proofs.Ytndhnpljdldlpab
open Go.RowKit

theorem sk_made (n : Nat) : madeCells (Value.int .i64 0).cells n = cA n fun _ => 0 := by
  apply Array.ext'
  apply List.ext_getElem
  · simp [madeCells, cA]
  · intro i h1 h2
    simp [madeCells, cA, Value.cells, Nat.mod_one]

theorem sk_infoInt : (Try.prog.info? 3).map (fun i => (i.zero, i.size, i.bytes)) = some (some (.int .i64 0), 1, 8) := by kernel_rfl

theorem sk_make (n : Nat) (hn : (n : Int) ≤ 1000000) (w : World) :
    (Instr.makeSlice 50 (.int .i64 n) (.int .i64 n)).run Try.prog w = .ok (.slice (some ⟨w.heap.size, 0, none⟩) n n) (w.alloc (.cells (cA n fun _ => 0) 3)) := by
  obtain ⟨i0, hi, hz0, hz1, hz2⟩ := info_parts sk_infoInt
  have h := run_make (P := Try.prog) w 50 3 i0 (.int .i64 0) Try.underlying50 hi hz0 .i64 .i64 n n (by omega) (by omega) (by rw [hz2]; omega) (by omega)
  rw [h]
  simp only [Int.toNat_natCast, hz1, Nat.mul_one, sk_made]

theorem sk_long {ss : List ByteArray} (hs : skB ss = true) : (ss.length : Int) ≤ 9223372036854775807 ∧ ∀ s ∈ ss, s.size ≤ 9223372036854775807 := by
  obtain ⟨⟨hl1, hl2⟩, ⟨hw1, hw2⟩, hr⟩ := skB_iff.1 hs
  refine ⟨by omega, fun s hsm => ?_⟩
  obtain ⟨k, hk, rfl⟩ := List.mem_iff_getElem.1 hsm
  have := (hr k hk).1
  omega

set_option maxRecDepth 100000 in
set_option maxHeartbeats 1600000 in
theorem grades_yes (a : Option Addr) (cap : Nat) (ss : List ByteArray) (hs : skB ss = true) (w : World) (h : StrS w a ss) :
    Calls Try.prog 28 #[.slice a ss.length cap] w fun e w' => ∃ n, e = .returned (.tuple #[.slice (some ⟨n, 0, none⟩) 10 10, .int .i64 0]) ∧ CT w n 10 112 (cntTo ss (wid ss) ss.length 0) w' := by
  have HV : Hid (Calls Try.prog 55 #[.slice a ss.length cap] w fun e w'' => e = .returned (.bool true) ∧ w = w'') := Lib.hid (by
    rw [← hs]; exact skValid_any a cap ss (sk_long hs).1 (sk_long hs).2 w h)
  have HC := Lib.hid (count_any a cap ss hs w h)
  obtain ⟨F, hF⟩ : ∃ F, F = cntTo ss (wid ss) ss.length 0 := ⟨_, rfl⟩
  rw [← hF] at HC ⊢
  have HE : Hid (∀ w1, Below w.heap.size w w1 → CT w w1.heap.size 10 112 F (w1.alloc (.cells (cA 10 F) 112))) := Lib.hid (fun w1 hb => ⟨hb.alloc hb.size _, hb.size, heap_alloc_new _ _⟩)
  rw [cA_ten] at HC HE
  clear hs h hF
  go_enter Try.func28, Try.ntmps28
  go_wp2_with fail
  refine HV.out.mono ?_
  rintro e w1 ⟨rfl, rfl⟩
  go_wp2_with fail
  refine HC.out.mono ?_
  rintro e w1 ⟨rfl, hb⟩
  have HE1 := Lib.hid (HE.out w1 hb)
  clear hb
  go_wp2
  go_ret2
  exact ⟨_, rfl, HE1.out⟩

set_option maxRecDepth 100000 in
theorem grades_no (a : Option Addr) (cap : Nat) (ss : List ByteArray) (hs : skB ss = false) (hl : (ss.length : Int) ≤ 9223372036854775807) (hz : ∀ s ∈ ss, s.size ≤ 9223372036854775807) (w : World) (h : StrS w a ss) :
    Calls Try.prog 28 #[.slice a ss.length cap] w fun e w' => e = .returned (.tuple #[.slice none 0 0, .int .i64 2]) ∧ w = w' := by
  have HV : Hid (Calls Try.prog 55 #[.slice a ss.length cap] w fun e w'' => e = .returned (.bool false) ∧ w = w'') := Lib.hid (by
    rw [← hs]; exact skValid_any a cap ss hl hz w h)
  clear hs h
  go_enter Try.func28, Try.ntmps28
  go_wp2_with fail
  refine HV.out.mono ?_
  rintro e w1 ⟨rfl, rfl⟩
  go_wp2
  go_ret2
  exact ⟨rfl, rfl⟩

end Go.Proofs.Ytndhnpljdldlpab

/- The program's allValid. -/
import Derived.Test.YtpghhfobaionkaaFr
namespace Go.Proofs.Ytpghhfobaionkaa
open Go.RowKit

/-- Block g holds, from its head on, the parts of these fractions. -/
def HasFr (w : World) (g : Nat) (fs : List (Int × Int)) : Prop := g < w.heap.size ∧ ∀ j (h : j < fs.length), w.cell? ⟨g, j * 2, none⟩ = some (.int .i64 (fs[j].1)) ∧ w.cell? ⟨g, j * 2 + 1, none⟩ = some (.int .i64 (fs[j].2))

theorem HasFr.below {w w' : World} {g : Nat} {fs : List (Int × Int)} (h : HasFr w g fs) (hb : Below w.heap.size w w') : HasFr w' g fs :=
  ⟨Nat.lt_of_lt_of_le h.1 hb.size, fun j hj => ⟨(hb.cell (p := ⟨g, j * 2, none⟩) h.1).trans (h.2 j hj).1, (hb.cell (p := ⟨g, j * 2 + 1, none⟩) h.1).trans (h.2 j hj).2⟩⟩

noncomputable def allB (fs : List (Int × Int)) : Bool := fs.all fun f => vfB f.1 f.2

theorem allB_succ {fs : List (Int × Int)} {k : Nat} (h : k < fs.length) (h1 : allB (fs.take k) = true) : allB (fs.take (k + 1)) = vfB fs[k].1 fs[k].2 := by
  unfold allB at h1 ⊢
  rw [List.take_succ_eq_append_getElem h, List.all_append, h1]
  simp

theorem allB_false {fs : List (Int × Int)} {k : Nat} (h : k < fs.length) (h1 : vfB fs[k].1 fs[k].2 = false) : allB fs = false := by
  cases hb : allB fs
  · rfl
  · unfold allB at hb
    rw [List.all_eq_true] at hb
    have := hb _ (List.getElem_mem h)
    rw [h1] at this; cases this

set_option maxRecDepth 100000 in
set_option maxHeartbeats 1600000 in
theorem allValid_some (g cap : Nat) (fs : List (Int × Int)) (hl : (fs.length : Int) ≤ 1000000) (w : World) (h : HasFr w g fs) :
    Calls Try.prog 12 #[.slice (some ⟨g, 0, none⟩) fs.length cap] w fun e w' => e = .returned (.bool (allB fs)) ∧ Below w.heap.size w w' := by
  have HF := Lib.hid h
  clear h
  obtain ⟨b, hb⟩ : ∃ b, b = allB fs := ⟨_, rfl⟩
  rw [← hb]
  have HBB := Lib.hid hb
  clear hb
  go_enter Try.func12, Try.ntmps12
  go_wp2
  go_loopw [7] (fun i wr => ∃ k : Nat, k ≤ fs.length ∧ i = .int .i64 k ∧ Hid (allB (fs.take k) = true) ∧ Hid (Below w.heap.size w wr)) (fun i _ => fs.length - (intOf i).toNat)
  case atStart => exact ⟨0, Nat.zero_le _, rfl, rfl, Below.refl _ _⟩
  case round =>
    obtain ⟨k, hk, rfl, HA, HB⟩ := hrel
    by_cases hlt : k < fs.length
    · obtain ⟨hc0, hc1⟩ := (HF.out.below HB.out).2 k hlt
      obtain ⟨n, hn⟩ : ∃ n, n = fs[k].1 := ⟨_, rfl⟩
      obtain ⟨d, hd⟩ : ∃ n, n = fs[k].2 := ⟨_, rfl⟩
      rw [← hn] at hc0
      rw [← hd] at hc1
      have HND := Lib.hid (And.intro hn hd)
      clear hn hd
      have hk0 : (0 : Int) ≤ (k : Int) := by omega
      go_wp2_with fail
      refine (valid_any n d _).mono ?_
      rintro e w1 ⟨rfl, hb1⟩
      have hb2 : Below w.heap.size w w1 := (HB.out.alloc HB.out.size _).trans (hb1.mono (by have := HB.out.size; simp; omega))
      have HB2 := Lib.hid hb2
      clear hb1 hb2
      cases hv : vfB n d
      · have HV := Lib.hid hv
        clear hv
        go_wp2
        go_ret
        exact ⟨by rw [HBB.out, allB_false hlt (by rw [← HND.out.1, ← HND.out.2]; exact HV.out)]; rfl, HB2.out⟩
      · have HV := Lib.hid hv
        clear hv
        go_wp2
        go_roundw
        case rel => exact ⟨k + 1, by omega, by go_num, Lib.hid (by rw [allB_succ hlt HA.out, ← HND.out.1, ← HND.out.2]; exact HV.out), HB2⟩
        case measure => simp [intOf]; omega
    · have hkl : k = fs.length := by omega
      have HKL := Lib.hid hkl
      clear hkl
      go_wp2
      go_ret
      have h := HA.out
      rw [HKL.out, List.take_length] at h
      exact ⟨by rw [HBB.out, h]; rfl, HB.out⟩

end Go.Proofs.Ytpghhfobaionkaa

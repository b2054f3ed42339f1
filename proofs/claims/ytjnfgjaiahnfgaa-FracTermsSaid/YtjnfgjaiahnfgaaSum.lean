/- Sum: the program's and the reference's, by one specification. -/
import Derived.Test.YtjnfgjaiahnfgaaMem
namespace Go.Proofs.Ytjnfgjaiahnfgaa
open Go.RowKit

/-- Sums from a / b on. -/
noncomputable def sumF : Int → Int → List (Int × Int) → Int × Int × Int
  | a, b, [] => (a, b, 0)
  | a, b, f :: l =>
    if (opS a b f.1 f.2 (qof a b + qof f.1 f.2)).2.2 = 0 then sumF (opS a b f.1 f.2 (qof a b + qof f.1 f.2)).1 (opS a b f.1 f.2 (qof a b + qof f.1 f.2)).2.1 l
    else (0, 0, (opS a b f.1 f.2 (qof a b + qof f.1 f.2)).2.2)

theorem sumF_ok {a b x y : Int} {fs : List (Int × Int)} {k : Nat} (hk : k < fs.length) (h : opS a b fs[k].1 fs[k].2 (qof a b + qof fs[k].1 fs[k].2) = (x, y, 0)) : sumF a b (fs.drop k) = sumF x y (fs.drop (k + 1)) := by
  rw [List.drop_eq_getElem_cons hk]
  conv => lhs; unfold sumF
  rw [h]; rfl
theorem sumF_no {a b x y z : Int} {fs : List (Int × Int)} {k : Nat} (hk : k < fs.length) (hz : z ≠ 0) (h : opS a b fs[k].1 fs[k].2 (qof a b + qof fs[k].1 fs[k].2) = (x, y, z)) : sumF a b (fs.drop k) = (0, 0, z) := by
  rw [List.drop_eq_getElem_cons hk]
  unfold sumF
  rw [h]
  exact if_neg hz

noncomputable def sumS (fs : List (Int × Int)) : Int × Int × Int :=
  if 64 < fs.length then (0, 0, 3) else if allB fs = false then (0, 0, 2) else sumF 0 1 fs

set_option maxRecDepth 100000 in
set_option maxHeartbeats 1600000 in
theorem allValid_sl (a : Option Addr) (cap : Nat) (fs : List (Int × Int)) (hl : (fs.length : Int) ≤ 1000000) (w : World) (h : FrS w a fs) :
    Calls Try.prog 62 #[.slice a fs.length cap] w fun e w' => e = .returned (.bool (allB fs)) ∧ Below w.heap.size w w' := by
  have HF := Lib.hid h
  clear h
  obtain ⟨b, hb⟩ : ∃ b, b = allB fs := ⟨_, rfl⟩
  rw [← hb]
  have HBB := Lib.hid hb
  clear hb
  go_enter Try.func62, Try.ntmps62
  go_wp2
  go_loopw [7] (fun i wr => ∃ k : Nat, k ≤ fs.length ∧ i = .int .i64 k ∧ Hid (allB (fs.take k) = true) ∧ Hid (Below w.heap.size w wr)) (fun i _ => fs.length - (intOf i).toNat)
  case atStart => exact ⟨0, Nat.zero_le _, rfl, rfl, Below.refl _ _⟩
  case round =>
    obtain ⟨k, hk, rfl, HA, HB⟩ := hrel
    by_cases hlt : k < fs.length
    · obtain ⟨g, off, rfl, hg, hc0, hc1⟩ := (HF.out.below HB.out).at_ hlt
      obtain ⟨n, hn⟩ : ∃ n, n = fs[k].1 := ⟨_, rfl⟩
      obtain ⟨d, hd⟩ : ∃ n, n = fs[k].2 := ⟨_, rfl⟩
      rw [← hn] at hc0
      rw [← hd] at hc1
      have HND := Lib.hid (And.intro hn hd)
      clear hn hd
      have hk0 : (0 : Int) ≤ (k : Int) := by omega
      go_wp2_with fail
      refine (valid_any n d _).mono ?_
      rintro e w1 ⟨rfl, hb1⟩
      have hb2 : Below w.heap.size w w1 := (HB.out.alloc HB.out.size _).trans (hb1.mono (by have := HB.out.size; simp; omega))
      have HB2 := Lib.hid hb2
      clear hb1 hb2
      cases hv : vfB n d
      · have HV := Lib.hid hv
        clear hv
        go_wp2
        go_ret
        exact ⟨by rw [HBB.out, allB_false hlt (by rw [← HND.out.1, ← HND.out.2]; exact HV.out)]; rfl, HB2.out⟩
      · have HV := Lib.hid hv
        clear hv
        go_wp2
        go_roundw
        case rel => exact ⟨k + 1, by omega, by go_num, Lib.hid (by rw [allB_succ hlt HA.out, ← HND.out.1, ← HND.out.2]; exact HV.out), HB2⟩
        case measure => simp [intOf]; omega
    · have hkl : k = fs.length := by omega
      have HKL := Lib.hid hkl
      clear hkl
      go_wp2
      go_ret
      have h := HA.out
      rw [HKL.out, List.take_length] at h
      exact ⟨by rw [HBB.out, h]; rfl, HB.out⟩

end Go.Proofs.Ytjnfgjaiahnfgaa

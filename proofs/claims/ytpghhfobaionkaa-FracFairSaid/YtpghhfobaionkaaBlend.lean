/- Blend: the program's, by its specification. -/
import Derived.Deep.RegionHeld3
import Derived.Deep.DeepCutAuto
import Derived.Test.YtpghhfobaionkaaArg
import Derived.Test.YtpghhfobaionkaaSum
namespace Go.Proofs.Ytpghhfobaionkaa
open Go.RowKit
set_option linter.unusedSimpArgs false

def wB (zs : List Int) (most : Int) : Bool := zs.all fun z => decide (0 ≤ z) && decide (z ≤ most)
theorem wB_iff {zs : List Int} {most : Int} : wB zs most = true ↔ ∀ z ∈ zs, 0 ≤ z ∧ z ≤ most := by
  unfold wB; simp
theorem wB_at {zs : List Int} {most : Int} {k : Nat} (h : wB zs most = true) (hk : k < zs.length) : 0 ≤ zs[k] ∧ zs[k] ≤ most := wB_iff.1 h _ (List.getElem_mem hk)
theorem wB_false {zs : List Int} {most : Int} {k : Nat} (hk : k < zs.length) (h : zs[k] < 0 ∨ most < zs[k]) : wB zs most = false := by
  cases hb : wB zs most
  · rfl
  · have := wB_at hb hk; omega
theorem wB_take {zs : List Int} {most : Int} {k : Nat} (h : wB (zs.take k) most = true) (hk : k < zs.length) (h0 : 0 ≤ zs[k]) (h1 : zs[k] ≤ most) : wB (zs.take (k + 1)) most = true := by
  rw [wB_iff] at h ⊢
  intro z hz
  rw [List.take_succ_eq_append_getElem hk] at hz
  rcases List.mem_append.1 hz with hz | hz
  · exact h z hz
  · rw [List.mem_singleton.1 hz]; exact ⟨h0, h1⟩
theorem sum_take {zs : List Int} {k : Nat} (hk : k < zs.length) : (zs.take (k + 1)).sum = (zs.take k).sum + zs[k] := by
  rw [List.take_succ_eq_append_getElem hk, List.sum_append]; simp
theorem sum_bd {zs : List Int} {most : Int} (h : wB zs most = true) : 0 ≤ zs.sum ∧ zs.sum ≤ zs.length * most := by
  induction zs with
  | nil => simp
  | cons z zs ih =>
    have h0 := wB_iff.1 h z (List.mem_cons_self ..)
    have h1 := ih (wB_iff.2 fun y hy => wB_iff.1 h y (List.mem_cons_of_mem _ hy))
    have e : ((z :: zs).length : Int) * most = zs.length * most + most := by
      rw [List.length_cons]; push_cast; rw [Int.add_mul, Int.one_mul]
    rw [List.sum_cons, e]
    omega

set_option maxRecDepth 100000 in
theorem areWeights_any (a : Option Addr) (cap : Nat) (zs : List Int) (most : Int) (hl : (zs.length : Int) ≤ 1000000) (w : World) (h : IntS w a zs) :
    Calls Try.prog 17 #[.slice a zs.length cap, .int .i64 most] w fun e w' => e = .returned (.bool (wB zs most)) ∧ w = w' := by
  have HF := Lib.hid h
  clear h
  obtain ⟨b, hb⟩ : ∃ b, b = wB zs most := ⟨_, rfl⟩
  rw [← hb]
  have HBB := Lib.hid hb
  clear hb
  go_enter Try.func17, Try.ntmps17
  go_wp2
  go_loop [9] (fun i => ∃ k : Nat, k ≤ zs.length ∧ i = .int .i64 k ∧ Hid (wB (zs.take k) most = true)) (fun i => zs.length - (intOf i).toNat)
  case atStart => exact ⟨0, Nat.zero_le _, rfl, Lib.hid rfl⟩
  case round =>
    obtain ⟨k, hk, rfl, HA⟩ := hrel
    by_cases hlt : k < zs.length
    · obtain ⟨g, off, rfl, hg, hc⟩ := HF.out.at_ hlt
      obtain ⟨z, hz⟩ : ∃ n, n = zs[k] := ⟨_, rfl⟩
      rw [← hz] at hc
      have HZ := Lib.hid hz
      clear hz
      have hk0 : (0 : Int) ≤ (k : Int) := by omega
      by_cases h0 : z < 0
      · go_wp2
        go_ret
        exact ⟨by rw [HBB.out, wB_false hlt (.inl (by rw [← HZ.out]; exact h0))]; rfl, rfl⟩
      · by_cases h1 : most < z
        · go_wp2
          go_ret
          exact ⟨by rw [HBB.out, wB_false hlt (.inr (by rw [← HZ.out]; exact h1))]; rfl, rfl⟩
        · go_wp2
          go_round
          case rel => exact ⟨k + 1, by omega, by go_num, Lib.hid (wB_take HA.out hlt (by rw [← HZ.out]; omega) (by rw [← HZ.out]; omega))⟩
          case measure => simp [intOf]; omega
    · have hkl : k = zs.length := by omega
      have HKL := Lib.hid hkl
      clear hkl
      go_wp2
      go_ret
      have h := HA.out
      rw [HKL.out, List.take_length] at h
      exact ⟨by rw [HBB.out, h]; rfl, rfl⟩

set_option maxRecDepth 100000 in
theorem total_any (a : Option Addr) (cap : Nat) (zs : List Int) (most : Int) (hl : (zs.length : Int) ≤ 1000000) (hm : 0 ≤ most) (hb : zs.length * most ≤ 1000000000000000000) (hw : wB zs most = true) (w : World) (h : IntS w a zs) :
    Calls Try.prog 18 #[.slice a zs.length cap] w fun e w' => e = .returned (.int .i64 zs.sum) ∧ w = w' := by
  have HF := Lib.hid h
  have HW := Lib.hid hw
  have HB : Hid (∀ k, k ≤ zs.length → 0 ≤ (zs.take k).sum ∧ (zs.take k).sum ≤ 1000000000000000000) := Lib.hid (fun k hk => by
    have h1 := sum_bd (zs := zs.take k) (most := most) (wB_iff.2 fun y hy => wB_iff.1 hw y (List.mem_of_mem_take hy))
    rw [List.length_take] at h1
    have h2 := Int.mul_le_mul_of_nonneg_right (show ((min k zs.length : Nat) : Int) ≤ zs.length by omega) hm
    omega)
  clear h hw hb
  obtain ⟨b, hb⟩ : ∃ b, b = zs.sum := ⟨_, rfl⟩
  rw [← hb]
  have HBB := Lib.hid hb
  clear hb
  go_enter Try.func18, Try.ntmps18
  go_wp2
  go_loop [3, 8] (fun t i => ∃ (k : Nat) (s : Int), k ≤ zs.length ∧ t = .int .i64 s ∧ i = .int .i64 k ∧ Hid ((zs.take k).sum = s)) (fun _ i => zs.length - (intOf i).toNat)
  case atStart => exact ⟨0, 0, Nat.zero_le _, rfl, rfl, Lib.hid rfl⟩
  case round =>
    obtain ⟨k, s, hk, rfl, rfl, HA⟩ := hrel
    have hs1 : 0 ≤ s ∧ s ≤ 1000000000000000000 := by rw [← HA.out]; exact HB.out k hk
    obtain ⟨hs1, hs2⟩ := hs1
    by_cases hlt : k < zs.length
    · obtain ⟨g, off, rfl, hg, hc⟩ := HF.out.at_ hlt
      obtain ⟨z, hz⟩ : ∃ n, n = zs[k] := ⟨_, rfl⟩
      have hzz : s + z = (zs.take (k + 1)).sum := by rw [hz, sum_take hlt, HA.out]
      have hz2 := HB.out (k + 1) (by omega)
      rw [← hzz] at hz2
      obtain ⟨t1, t2⟩ := hz2
      have HZZ := Lib.hid hzz.symm
      rw [← hz] at hc
      clear hz hzz
      have hk0 : (0 : Int) ≤ (k : Int) := by omega
      go_wp2
      go_round
      case rel => exact ⟨k + 1, s + z, by omega, rfl, by go_num, HZZ⟩
      case measure => simp [intOf]; omega
    · have hkl : k = zs.length := by omega
      have HKL := Lib.hid hkl
      clear hkl
      go_wp2
      go_ret
      have h := HA.out
      rw [HKL.out, List.take_length] at h
      exact ⟨by rw [HBB.out, h]; rfl, rfl⟩

noncomputable def blF : Int → Int → List (Int × Int) → List Int → Int × Int × Int
  | a, b, f :: l, z :: m =>
    if (opS f.1 f.2 z 1 (qof f.1 f.2 * qof z 1)).2.2 = 0 then
      if (opS a b (opS f.1 f.2 z 1 (qof f.1 f.2 * qof z 1)).1 (opS f.1 f.2 z 1 (qof f.1 f.2 * qof z 1)).2.1 (qof a b + qof (opS f.1 f.2 z 1 (qof f.1 f.2 * qof z 1)).1 (opS f.1 f.2 z 1 (qof f.1 f.2 * qof z 1)).2.1)).2.2 = 0 then
        blF (opS a b (opS f.1 f.2 z 1 (qof f.1 f.2 * qof z 1)).1 (opS f.1 f.2 z 1 (qof f.1 f.2 * qof z 1)).2.1 (qof a b + qof (opS f.1 f.2 z 1 (qof f.1 f.2 * qof z 1)).1 (opS f.1 f.2 z 1 (qof f.1 f.2 * qof z 1)).2.1)).1
          (opS a b (opS f.1 f.2 z 1 (qof f.1 f.2 * qof z 1)).1 (opS f.1 f.2 z 1 (qof f.1 f.2 * qof z 1)).2.1 (qof a b + qof (opS f.1 f.2 z 1 (qof f.1 f.2 * qof z 1)).1 (opS f.1 f.2 z 1 (qof f.1 f.2 * qof z 1)).2.1)).2.1 l m
      else (0, 0, (opS a b (opS f.1 f.2 z 1 (qof f.1 f.2 * qof z 1)).1 (opS f.1 f.2 z 1 (qof f.1 f.2 * qof z 1)).2.1 (qof a b + qof (opS f.1 f.2 z 1 (qof f.1 f.2 * qof z 1)).1 (opS f.1 f.2 z 1 (qof f.1 f.2 * qof z 1)).2.1)).2.2)
    else (0, 0, (opS f.1 f.2 z 1 (qof f.1 f.2 * qof z 1)).2.2)
  | a, b, _, _ => (a, b, 0)

section
variable {a b p q r x y z : Int} {fs : List (Int × Int)} {ws : List Int} {k : Nat}
theorem blF_ok (hk : k < fs.length) (hj : k < ws.length) (h1 : opS fs[k].1 fs[k].2 ws[k] 1 (qof fs[k].1 fs[k].2 * qof ws[k] 1) = (p, q, 0)) (h2 : opS a b p q (qof a b + qof p q) = (x, y, 0)) :
    blF a b (fs.drop k) (ws.drop k) = blF x y (fs.drop (k + 1)) (ws.drop (k + 1)) := by
  rw [List.drop_eq_getElem_cons hk, List.drop_eq_getElem_cons hj]
  conv => lhs; unfold blF
  rw [h1, h2]; rfl
theorem blF_mul (hk : k < fs.length) (hj : k < ws.length) (hr : r ≠ 0) (h1 : opS fs[k].1 fs[k].2 ws[k] 1 (qof fs[k].1 fs[k].2 * qof ws[k] 1) = (p, q, r)) : blF a b (fs.drop k) (ws.drop k) = (0, 0, r) := by
  rw [List.drop_eq_getElem_cons hk, List.drop_eq_getElem_cons hj]
  conv => lhs; unfold blF
  rw [h1]; exact if_neg hr
theorem blF_add (hk : k < fs.length) (hj : k < ws.length) (hz : z ≠ 0) (h1 : opS fs[k].1 fs[k].2 ws[k] 1 (qof fs[k].1 fs[k].2 * qof ws[k] 1) = (p, q, 0)) (h2 : opS a b p q (qof a b + qof p q) = (x, y, z)) : blF a b (fs.drop k) (ws.drop k) = (0, 0, z) := by
  rw [List.drop_eq_getElem_cons hk, List.drop_eq_getElem_cons hj]
  conv => lhs; unfold blF
  rw [h1]
  simp only [if_true]
  rw [h2]; exact if_neg hz
theorem blF_end (hk : fs.length ≤ k) : blF a b (fs.drop k) (ws.drop k) = (a, b, 0) := by
  rw [List.drop_eq_nil_of_le hk]; unfold blF; rfl
end

noncomputable def blE (t : Int × Int × Int) (s : Int) : Int × Int × Int := if t.2.2 = 0 then divS t.1 t.2.1 s 1 else (0, 0, t.2.2)
noncomputable def blendS (fs : List (Int × Int)) (ws : List Int) : Int × Int × Int :=
  if 64 < fs.length ∨ 64 < ws.length then (0, 0, 3) else if fs.length ≠ ws.length ∨ allB fs = false ∨ wB ws 1000000 = false then (0, 0, 2) else if ws.sum = 0 then (0, 0, 4) else blE (blF 0 1 fs ws) ws.sum

end Go.Proofs.Ytpghhfobaionkaa

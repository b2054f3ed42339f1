/- Blend: the program's, by its specification. -/
import Derived.Deep.RegionHeld3
import Derived.Deep.DeepCutAuto
import Derived.Test.YtjnfgjaiahnfgabArg
import Derived.Test.YtjnfgjaiahnfgabSum
namespace Go.Proofs.Ytjnfgjaiahnfgab
open Go.RowKit
set_option linter.unusedSimpArgs false

def wB (zs : List Int) (most : Int) : Bool := zs.all fun z => decide (0 ≤ z) && decide (z ≤ most)
theorem wB_iff {zs : List Int} {most : Int} : wB zs most = true ↔ ∀ z ∈ zs, 0 ≤ z ∧ z ≤ most := by
  unfold wB; simp
theorem wB_at {zs : List Int} {most : Int} {k : Nat} (h : wB zs most = true) (hk : k < zs.length) : 0 ≤ zs[k] ∧ zs[k] ≤ most := wB_iff.1 h _ (List.getElem_mem hk)
theorem wB_false {zs : List Int} {most : Int} {k : Nat} (hk : k < zs.length) (h : zs[k] < 0 ∨ most < zs[k]) : wB zs most = false := by
  cases hb : wB zs most
  · rfl
  · have := wB_at hb hk; omega
theorem wB_take {zs : List Int} {most : Int} {k : Nat} (h : wB (zs.take k) most = true) (hk : k < zs.length) (h0 : 0 ≤ zs[k]) (h1 : zs[k] ≤ most) : wB (zs.take (k + 1)) most = true := by
  rw [wB_iff] at h ⊢
  intro z hz
  rw [List.take_succ_eq_append_getElem hk] at hz
  rcases List.mem_append.1 hz with hz | hz
  · exact h z hz
  · rw [List.mem_singleton.1 hz]; exact ⟨h0, h1⟩
theorem sum_take {zs : List Int} {k : Nat} (hk : k < zs.length) : (zs.take (k + 1)).sum = (zs.take k).sum + zs[k] := by
  rw [List.take_succ_eq_append_getElem hk, List.sum_append]; simp
theorem sum_bd {zs : List Int} {most : Int} (h : wB zs most = true) : 0 ≤ zs.sum ∧ zs.sum ≤ zs.length * most := by
  induction zs with
  | nil => simp
  | cons z zs ih =>
    have h0 := wB_iff.1 h z (List.mem_cons_self ..)
    have h1 := ih (wB_iff.2 fun y hy => wB_iff.1 h y (List.mem_cons_of_mem _ hy))
    have e : ((z :: zs).length : Int) * most = zs.length * most + most := by
      rw [List.length_cons]; push_cast; rw [Int.add_mul, Int.one_mul]
    rw [List.sum_cons, e]
    omega

set_option maxRecDepth 100000 in
theorem areWeights_any (a : Option Addr) (cap : Nat) (zs : List Int) (most : Int) (hl : (zs.length : Int) ≤ 1000000) (w : World) (h : IntS w a zs) :
    Calls Try.prog 43 #[.slice a zs.length cap, .int .i64 most] w fun e w' => e = .returned (.bool (wB zs most)) ∧ w = w' := by
  have HF := Lib.hid h
  clear h
  obtain ⟨b, hb⟩ : ∃ b, b = wB zs most := ⟨_, rfl⟩
  rw [← hb]
  have HBB := Lib.hid hb
  clear hb
  go_enter Try.func43, Try.ntmps43
  go_wp2
  go_loop [9] (fun i => ∃ k : Nat, k ≤ zs.length ∧ i = .int .i64 k ∧ Hid (wB (zs.take k) most = true)) (fun i => zs.length - (intOf i).toNat)
  case atStart => exact ⟨0, Nat.zero_le _, rfl, Lib.hid rfl⟩
  case round =>
    obtain ⟨k, hk, rfl, HA⟩ := hrel
    by_cases hlt : k < zs.length
    · obtain ⟨g, off, rfl, hg, hc⟩ := HF.out.at_ hlt
      obtain ⟨z, hz⟩ : ∃ n, n = zs[k] := ⟨_, rfl⟩
      rw [← hz] at hc
      have HZ := Lib.hid hz
      clear hz
      have hk0 : (0 : Int) ≤ (k : Int) := by omega
      by_cases h0 : z < 0
      · go_wp2
        go_ret
        exact ⟨by rw [HBB.out, wB_false hlt (.inl (by rw [← HZ.out]; exact h0))]; rfl, rfl⟩
      · by_cases h1 : most < z
        · go_wp2
          go_ret
          exact ⟨by rw [HBB.out, wB_false hlt (.inr (by rw [← HZ.out]; exact h1))]; rfl, rfl⟩
        · go_wp2
          go_round
          case rel => exact ⟨k + 1, by omega, by go_num, Lib.hid (wB_take HA.out hlt (by rw [← HZ.out]; omega) (by rw [← HZ.out]; omega))⟩
          case measure => simp [intOf]; omega
    · have hkl : k = zs.length := by omega
      have HKL := Lib.hid hkl
      clear hkl
      go_wp2
      go_ret
      have h := HA.out
      rw [HKL.out, List.take_length] at h
      exact ⟨by rw [HBB.out, h]; rfl, rfl⟩

set_option maxRecDepth 100000 in
theorem total_any (a : Option Addr) (cap : Nat) (zs : List Int) (most : Int) (hl : (zs.length : Int) ≤ 1000000) (hm : 0 ≤ most) (hb : zs.length * most ≤ 1000000000000000000) (hw : wB zs most = true) (w : World) (h : IntS w a zs) :
    Calls Try.prog 44 #[.slice a zs.length cap] w fun e w' => e = .returned (.int .i64 zs.sum) ∧ w = w' := by
  have HF := Lib.hid h
  have HW := Lib.hid hw
  have HB : Hid (∀ k, k ≤ zs.length → 0 ≤ (zs.take k).sum ∧ (zs.take k).sum ≤ 1000000000000000000) := Lib.hid (fun k hk => by
    have h1 := sum_bd (zs := zs.take k) (most := most) (wB_iff.2 fun y hy => wB_iff.1 hw y (List.mem_of_mem_take hy))
    rw [List.length_take] at h1
    have h2 := Int.mul_le_mul_of_nonneg_right (show ((min k zs.length : Nat) : Int) ≤ zs.length by omega) hm
    omega)
  clear h hw hb
  obtain ⟨b, hb⟩ : ∃ b, b = zs.sum := ⟨_, rfl⟩
  rw [← hb]
  have HBB := Lib.hid hb
  clear hb
  go_enter Try.func44, Try.ntmps44
  go_wp2
  go_loop [3, 8] (fun t i => ∃ (k : Nat) (s : Int), k ≤ zs.length ∧ t = .int .i64 s ∧ i = .int .i64 k ∧ Hid ((zs.take k).sum = s)) (fun _ i => zs.length - (intOf i).toNat)
  case atStart => exact ⟨0, 0, Nat.zero_le _, rfl, rfl, Lib.hid rfl⟩
  case round =>
    obtain ⟨k, s, hk, rfl, rfl, HA⟩ := hrel
    have hs1 : 0 ≤ s ∧ s ≤ 1000000000000000000 := by rw [← HA.out]; exact HB.out k hk
    obtain ⟨hs1, hs2⟩ := hs1
    by_cases hlt : k < zs.length
    · obtain ⟨g, off, rfl, hg, hc⟩ := HF.out.at_ hlt
      obtain ⟨z, hz⟩ : ∃ n, n = zs[k] := ⟨_, rfl⟩
      have hzz : s + z = (zs.take (k + 1)).sum := by rw [hz, sum_take hlt, HA.out]
      have hz2 := HB.out (k + 1) (by omega)
      rw [← hzz] at hz2
      obtain ⟨t1, t2⟩ := hz2
      have HZZ := Lib.hid hzz.symm
      rw [← hz] at hc
      clear hz hzz
      have hk0 : (0 : Int) ≤ (k : Int) := by omega
      go_wp2
      go_round
      case rel => exact ⟨k + 1, s + z, by omega, rfl, by go_num, HZZ⟩
      case measure => simp [intOf]; omega
    · have hkl : k = zs.length := by omega
      have HKL := Lib.hid hkl
      clear hkl
      go_wp2
      go_ret
      have h := HA.out
      rw [HKL.out, List.take_length] at h
      exact ⟨by rw [HBB.out, h]; rfl, rfl⟩

noncomputable def blF : Int → Int → List (Int × Int) → List Int → Int × Int × Int
  | a, b, f :: l, z :: m =>
    if (opS f.1 f.2 z 1 (qof f.1 f.2 * qof z 1)).2.2 = 0 then
      if (opS a b (opS f.1 f.2 z 1 (qof f.1 f.2 * qof z 1)).1 (opS f.1 f.2 z 1 (qof f.1 f.2 * qof z 1)).2.1 (qof a b + qof (opS f.1 f.2 z 1 (qof f.1 f.2 * qof z 1)).1 (opS f.1 f.2 z 1 (qof f.1 f.2 * qof z 1)).2.1)).2.2 = 0 then
        blF (opS a b (opS f.1 f.2 z 1 (qof f.1 f.2 * qof z 1)).1 (opS f.1 f.2 z 1 (qof f.1 f.2 * qof z 1)).2.1 (qof a b + qof (opS f.1 f.2 z 1 (qof f.1 f.2 * qof z 1)).1 (opS f.1 f.2 z 1 (qof f.1 f.2 * qof z 1)).2.1)).1
          (opS a b (opS f.1 f.2 z 1 (qof f.1 f.2 * qof z 1)).1 (opS f.1 f.2 z 1 (qof f.1 f.2 * qof z 1)).2.1 (qof a b + qof (opS f.1 f.2 z 1 (qof f.1 f.2 * qof z 1)).1 (opS f.1 f.2 z 1 (qof f.1 f.2 * qof z 1)).2.1)).2.1 l m
      else (0, 0, (opS a b (opS f.1 f.2 z 1 (qof f.1 f.2 * qof z 1)).1 (opS f.1 f.2 z 1 (qof f.1 f.2 * qof z 1)).2.1 (qof a b + qof (opS f.1 f.2 z 1 (qof f.1 f.2 * qof z 1)).1 (opS f.1 f.2 z 1 (qof f.1 f.2 * qof z 1)).2.1)).2.2)
    else (0, 0, (opS f.1 f.2 z 1 (qof f.1 f.2 * qof z 1)).2.2)
  | a, b, _, _ => (a, b, 0)

section
variable {a b p q r x y z : Int} {fs : List (Int × Int)} {ws : List Int} {k : Nat}
theorem blF_ok (hk : k < fs.length) (hj : k < ws.length) (h1 : opS fs[k].1 fs[k].2 ws[k] 1 (qof fs[k].1 fs[k].2 * qof ws[k] 1) = (p, q, 0)) (h2 : opS a b p q (qof a b + qof p q) = (x, y, 0)) :
    blF a b (fs.drop k) (ws.drop k) = blF x y (fs.drop (k + 1)) (ws.drop (k + 1)) := by
  rw [List.drop_eq_getElem_cons hk, List.drop_eq_getElem_cons hj]
  conv => lhs; unfold blF
  rw [h1, h2]; rfl
theorem blF_mul (hk : k < fs.length) (hj : k < ws.length) (hr : r ≠ 0) (h1 : opS fs[k].1 fs[k].2 ws[k] 1 (qof fs[k].1 fs[k].2 * qof ws[k] 1) = (p, q, r)) : blF a b (fs.drop k) (ws.drop k) = (0, 0, r) := by
  rw [List.drop_eq_getElem_cons hk, List.drop_eq_getElem_cons hj]
  conv => lhs; unfold blF
  rw [h1]; exact if_neg hr
theorem blF_add (hk : k < fs.length) (hj : k < ws.length) (hz : z ≠ 0) (h1 : opS fs[k].1 fs[k].2 ws[k] 1 (qof fs[k].1 fs[k].2 * qof ws[k] 1) = (p, q, 0)) (h2 : opS a b p q (qof a b + qof p q) = (x, y, z)) : blF a b (fs.drop k) (ws.drop k) = (0, 0, z) := by
  rw [List.drop_eq_getElem_cons hk, List.drop_eq_getElem_cons hj]
  conv => lhs; unfold blF
  rw [h1]
  simp only [if_true]
  rw [h2]; exact if_neg hz
theorem blF_end (hk : fs.length ≤ k) : blF a b (fs.drop k) (ws.drop k) = (a, b, 0) := by
  rw [List.drop_eq_nil_of_le hk]; unfold blF; rfl
end

noncomputable def blE (t : Int × Int × Int) (s : Int) : Int × Int × Int := if t.2.2 = 0 then divS t.1 t.2.1 s 1 else (0, 0, t.2.2)
noncomputable def blendS (fs : List (Int × Int)) (ws : List Int) : Int × Int × Int :=
  if 64 < fs.length ∨ 64 < ws.length then (0, 0, 3) else if fs.length ≠ ws.length ∨ allB fs = false ∨ wB ws 1000000 = false then (0, 0, 2) else if ws.sum = 0 then (0, 0, 4) else blE (blF 0 1 fs ws) ws.sum

set_option maxRecDepth 100000 in
set_option maxHeartbeats 3200000 in
theorem pblend_any (a a2 : Option Addr) (cap cap2 : Nat) (fs : List (Int × Int)) (ws : List Int) (w : World) (h : FrS w a fs) (g : IntS w a2 ws) :
    Calls Try.prog 19 #[.slice a fs.length cap, .slice a2 ws.length cap2] w fun e w' => ∃ x y z, e = .returned (.tuple #[.agg #[.int .i64 x, .int .i64 y], .int .i64 z]) ∧ Hid (blendS fs ws = (x, y, z)) ∧ Below w.heap.size w w' := by
  have HF := Lib.hid h
  have HG := Lib.hid g
  have HM0 := Lib.hid ((Mem.nil w).alloc #[.int .i64 0, .int .i64 0] 23)
  clear h g
  by_cases h64 : 64 < fs.length ∨ 64 < ws.length
  · have HS : Hid (blendS fs ws = (0, 0, 3)) := Lib.hid (by unfold blendS; rw [if_pos h64])
    by_cases hf : 64 < fs.length
    · have hi : (64 : Int) < (fs.length : Int) := by omega
      clear h64 hf
      go_enter Try.func19, Try.ntmps19
      go_wp2
      refine bodyPost_ret (v := .tuple #[.agg #[.int .i64 0, .int .i64 0], .int .i64 3]) (by simp [results, Try.results19, go_sem]) rfl ⟨_, _, _, rfl, HS, ?_⟩
      exact HM0.out.b
    · have hi : (fs.length : Int) ≤ 64 := by omega
      have hj : (64 : Int) < (ws.length : Int) := by omega
      clear h64 hf
      go_enter Try.func19, Try.ntmps19
      go_wp2
      refine bodyPost_ret (v := .tuple #[.agg #[.int .i64 0, .int .i64 0], .int .i64 3]) (by simp [results, Try.results19, go_sem]) rfl ⟨_, _, _, rfl, HS, ?_⟩
      exact HM0.out.b
  · have hi : (fs.length : Int) ≤ 64 := by omega
    have hj : (ws.length : Int) ≤ 64 := by omega
    have HA : Hid (∀ w', FrS w' a fs → Calls Try.prog 24 #[.slice a fs.length cap] w' fun e w'' => e = .returned (.bool (allB fs)) ∧ Below w'.heap.size w' w'') := Lib.hid (fun w' h' => allValid_sl a cap fs (by omega) w' h')
    have HW : Hid (∀ w', IntS w' a2 ws → Calls Try.prog 43 #[.slice a2 ws.length cap2, .int .i64 1000000] w' fun e w'' => e = .returned (.bool (wB ws 1000000)) ∧ w' = w'') := Lib.hid (fun w' h' => areWeights_any a2 cap2 ws 1000000 (by omega) w' h')
    by_cases hl : fs.length = ws.length
    · have hl1 : ((fs.length : Int) != (ws.length : Int)) = false := by simp [hl]
      have hl2 : (fs.length != ws.length) = false := by simp [hl]
      have HL := Lib.hid hl
      clear hl
      cases ha : allB fs
      · have HS : Hid (blendS fs ws = (0, 0, 2)) := Lib.hid (by unfold blendS; rw [if_neg h64, if_pos (.inr (.inl ha))])
        have HAB := Lib.hid ha
        clear ha h64
        go_enter Try.func19, Try.ntmps19
        go_wp2_with fail
        refine (HA.out _ (HF.out.mem HM0.out)).mono ?_
        rintro e w1 ⟨rfl, hb⟩
        rw [HAB.out]
        have hM := HM0.out.step hb
        have HM1 := Lib.hid hM
        clear hb
        obtain ⟨a0, a1, a2', a3, a4⟩ := hM.c2
        clear hM
        go_wp2
        refine bodyPost_ret (v := .tuple #[.agg #[.int .i64 0, .int .i64 0], .int .i64 2]) (by simp [results, Try.results19, go_sem, a0, a1]) rfl ⟨_, _, _, rfl, HS, ?_⟩
        exact (HM1.out.put2 _ _).b
      · have HAB := Lib.hid ha
        clear ha
        cases hw : wB ws 1000000
        · have HS : Hid (blendS fs ws = (0, 0, 2)) := Lib.hid (by unfold blendS; rw [if_neg h64, if_pos (.inr (.inr hw))])
          have HWB := Lib.hid hw
          clear hw h64
          go_enter Try.func19, Try.ntmps19
          go_wp2_with fail
          refine (HA.out _ (HF.out.mem HM0.out)).mono ?_
          rintro e w1 ⟨rfl, hb⟩
          rw [HAB.out]
          have hM := HM0.out.step hb
          have HM1 := Lib.hid hM
          clear hb
          go_wp2_with fail
          refine (HW.out _ (HG.out.mem HM1.out)).mono ?_
          rintro e w' ⟨rfl, rfl⟩
          rw [HWB.out]
          obtain ⟨a0, a1, a2', a3, a4⟩ := hM.c2
          clear hM
          go_wp2
          refine bodyPost_ret (v := .tuple #[.agg #[.int .i64 0, .int .i64 0], .int .i64 2]) (by simp [results, Try.results19, go_sem, a0, a1]) rfl ⟨_, _, _, rfl, HS, ?_⟩
          exact (HM1.out.put2 _ _).b
        · have HWB := Lib.hid hw
          have HT : Hid (∀ w', IntS w' a2 ws → Calls Try.prog 44 #[.slice a2 ws.length cap2] w' fun e w'' => e = .returned (.int .i64 ws.sum) ∧ w' = w'') := Lib.hid (fun w' h' => total_any a2 cap2 ws 1000000 (by omega) (by decide) (by omega) hw w' h')
          have hsb := sum_bd hw
          have hb0 : blendS fs ws = if ws.sum = 0 then (0, 0, 4) else blE (blF 0 1 fs ws) ws.sum := by unfold blendS; rw [if_neg h64, if_neg (by rw [HAB.out, hw]; simp [HL.out])]
          have HB0 := Lib.hid hb0
          clear hw h64 hb0
          generalize hs : ws.sum = s at *
          have HSS := Lib.hid hs
          clear hs
          have hs2 : s ≤ 1000000000 := by omega
          have hs1 := hsb.1
          clear hsb
          by_cases hz : s = 0
          · subst hz
            have HS : Hid (blendS fs ws = (0, 0, 4)) := Lib.hid (by rw [HB0.out, if_pos rfl])
            go_enter Try.func19, Try.ntmps19
            go_wp2_with fail
            refine (HA.out _ (HF.out.mem HM0.out)).mono ?_
            rintro e w1 ⟨rfl, hb⟩
            rw [HAB.out]
            have hM := HM0.out.step hb
            have HM1 := Lib.hid hM
            clear hb
            go_wp2_with fail
            refine (HW.out _ (HG.out.mem HM1.out)).mono ?_
            rintro e w' ⟨rfl, rfl⟩
            rw [HWB.out]
            go_wp2_with fail
            refine (HT.out _ (HG.out.mem HM1.out)).mono ?_
            rintro e w' ⟨rfl, rfl⟩
            obtain ⟨a0, a1, a2', a3, a4⟩ := hM.c2
            clear hM
            go_wp2
            refine bodyPost_ret (v := .tuple #[.agg #[.int .i64 0, .int .i64 0], .int .i64 4]) (by simp [results, Try.results19, go_sem, a0, a1]) rfl ⟨_, _, _, rfl, HS, ?_⟩
            exact (HM1.out.put2 _ _).b
          · have hz1 : (s == 0) = false := by simpa using hz
            have HS : Hid (blendS fs ws = blE (blF 0 1 fs ws) s) := Lib.hid (by rw [HB0.out, if_neg hz])
            obtain ⟨⟨x, y, z⟩, hE⟩ : ∃ t, blF 0 1 fs ws = t := ⟨_, rfl⟩
            have HE := Lib.hid hE
            clear hz hE
            go_enter Try.func19, Try.ntmps19
            go_wp2_with fail
            refine (HA.out _ (HF.out.mem HM0.out)).mono ?_
            rintro e w1 ⟨rfl, hb⟩
            rw [HAB.out]
            have HM1 := Lib.hid (HM0.out.step hb)
            clear hb
            go_wp2_with fail
            refine (HW.out _ (HG.out.mem HM1.out)).mono ?_
            rintro e w' ⟨rfl, rfl⟩
            rw [HWB.out]
            go_wp2_with fail
            refine (HT.out _ (HG.out.mem HM1.out)).mono ?_
            rintro e w' ⟨rfl, rfl⟩
            go_wp2_with fail
            refine (wholeFrac_p 0 _).mono ?_
            rintro e w2 ⟨rfl, hb⟩
            have HM2 := Lib.hid ((HM1.out.step hb).alloc #[.int .i64 0, .int .i64 1] 23)
            clear hb
            go_wp2
            go_loopw [45] (fun i wr => ∃ (k : Nat) (p q : Int), k ≤ fs.length ∧ i = .int .i64 k ∧ Hid (blF p q (fs.drop k) (ws.drop k) = (x, y, z)) ∧ Hid (Mem w [(w2.heap.size, #[.int .i64 p, .int .i64 q], 23), (w.heap.size, #[.int .i64 0, .int .i64 0], 23)] wr)) (fun i _ => fs.length - (intOf i).toNat)
            case atStart => exact ⟨0, 0, 1, Nat.zero_le _, rfl, HE, HM2⟩
            case round =>
              obtain ⟨k, p, q, hk, rfl, HX, HR⟩ := hrel
              by_cases hlt : k < fs.length
              · have hlt2 : k < ws.length := by have := HL.out; omega
                obtain ⟨g, off, rfl, hg, hc0, hc1⟩ := (HF.out.mem HR.out).at_ hlt
                obtain ⟨g2, off2, rfl, hgw2, hg2, hd0⟩ := HG.out.at2 HR.out hlt2
                obtain ⟨n, hn⟩ : ∃ n, n = fs[k].1 := ⟨_, rfl⟩
                obtain ⟨d, hd⟩ : ∃ n, n = fs[k].2 := ⟨_, rfl⟩
                obtain ⟨v, hv⟩ : ∃ n, n = ws[k] := ⟨_, rfl⟩
                rw [← hn] at hc0
                rw [← hd] at hc1
                rw [← hv] at hd0
                have HND := Lib.hid (And.intro hn (And.intro hd hv))
                clear hn hd hv
                have hk0 : (0 : Int) ≤ (k : Int) := by omega
                have hki : (k : Int) < (ws.length : Int) := by omega
                have hM := HR.out.alloc #[.int .i64 n, .int .i64 d] 23
                have HG2 := Lib.hid (HG.out.mem hM)
                have HRA := Lib.hid hM
                clear hM
                have HC : Hid (∀ w', Mem w [(wr.heap.size, #[.int .i64 n, .int .i64 d], 23), (w2.heap.size, #[.int .i64 p, .int .i64 q], 23), (w.heap.size, #[.int .i64 0, .int .i64 0], 23)] w' → Mem w [(wr.heap.size, #[.int .i64 n, .int .i64 d], 23), (w2.heap.size, #[.int .i64 p, .int .i64 q], 23), (w.heap.size, #[.int .i64 0, .int .i64 0], 23)] w' ∧ w'.cell? ⟨wr.heap.size, 0, none⟩ = some (.int .i64 n) ∧ w'.cell? ⟨wr.heap.size, 1, none⟩ = some (.int .i64 d) ∧ w'.cell? ⟨g2, off2 + k, none⟩ = some (.int .i64 v)) := Lib.hid (fun w' h => ⟨h, h.cell 0, h.cell 1, by
                  have e1 := HR.out.b.cell (p := ⟨g2, off2 + k, none⟩) hgw2
                  exact (h.b.cell (p := ⟨g2, off2 + k, none⟩) hgw2).trans (e1.symm.trans hd0)⟩)
                go_upto_region 13 with fail
                go_cut [10, 11] (fun s10 s11 wx => ∃ (H : Nat) (r0 r1 r2 : Int), s10 = .pointer (some ⟨H, 0, none⟩) ∧ s11 = .int .i64 r2 ∧ Hid (opS n d v 1 (qof n d * qof v 1) = (r0, r1, r2)) ∧ Hid (Mem w [(H, #[.int .i64 r0, .int .i64 r1], 23), (w2.heap.size, #[.int .i64 p, .int .i64 q], 23), (w.heap.size, #[.int .i64 0, .int .i64 0], 23)] wx))
                case first =>
                  go_wp2_with fail
                  have hM := HRA.out
                  go_region_held3 (fun w' => Mem w [(wr.heap.size, #[.int .i64 n, .int .i64 d], 23), (w2.heap.size, #[.int .i64 p, .int .i64 q], 23), (w.heap.size, #[.int .i64 0, .int .i64 0], 23)] w' ∧ w'.cell? ⟨wr.heap.size, 0, none⟩ = some (.int .i64 n) ∧ w'.cell? ⟨wr.heap.size, 1, none⟩ = some (.int .i64 d) ∧ w'.cell? ⟨g2, off2 + k, none⟩ = some (.int .i64 v))
                    (first | exact HC.out _ hM | exact HC.out _ hM.drew | (go_split_ands; first | exact HC.out _ (Mem.step (by assumption) (by assumption)) | exact HC.out _ (Mem.skip (by assumption) _) | exact HC.out _ (Mem.set_new2 (by assumption) (by first | exact Nat.lt_succ_self _ | exact Mem.head_lt (by assumption) | omega) _ _) | exact HC.out _ (Mem.realloc (by assumption) (by omega) _)))
                    (first
                      | (go_at_call 30; go_split_ands; with_reducible (refine (wholeFrac_p v _).mono ?_); rintro e w3 ⟨rfl, hb3⟩; obtain ⟨oc3, of3, os3⟩ := old_cells hb3; try (simp only [World.size_alloc, World.size_drew] at oc3 of3 os3); try (have hz3 : wr.heap.size + 1 < w3.heap.size := by omega); try (have hz3' : wr.heap.size < w3.heap.size := by omega))
                      | (go_at_call 45; go_split_ands; with_reducible (refine (pmul_any n d v 1 _).mono ?_); rintro e w4 ⟨r0, r1, r2, rfl, HO, hb4⟩; obtain ⟨oc4, of4, os4⟩ := old_cells hb4; try (simp only [World.size_alloc, World.size_drew] at oc4 of4 os4); try (have hz4 : wr.heap.size + 1 < w4.heap.size := by omega)))
                  all_goals go_wp2_with fail
                  all_goals
                    go_meet
                    refine ⟨_, r0, r1, r2, rfl, rfl, HO, Lib.hid ?_⟩
                    first
                      | exact (((HRA.out.step hb3).step hb4).tail.alloc _ _)
                      | exact (((HRA.out.drew.step hb3).step hb4).tail.alloc _ _)
                      | exact (((HRA.out.step hb3).tail.alloc _ _).step hb4).put2 _ _
                      | exact (((HRA.out.drew.step hb3).tail.alloc _ _).step hb4).put2 _ _
                      | exact (((HRA.out.tail.alloc_at (World.size_alloc _ _) _ _).step hb3).step hb4).put2 _ _
                      | exact (((HRA.out.tail.alloc_at (World.size_alloc _ _) _ _).drew.step hb3).step hb4).put2 _ _
                case rest =>
                obtain ⟨H, r0, r1, r2, rfl, rfl, HO, HR4⟩ := hcut
                obtain ⟨c0, c1, c2, c3, c4⟩ := HR4.out.c2
                obtain ⟨d0, d1, d2, d3, d4⟩ := HR4.out.tail.c2
                clear hc0 hc1 hd0 hg hg2 HC
                by_cases hr : r2 = 0
                · subst hr
                  go_wp2_with fail
                  refine (padd_any p q r0 r1 _).mono ?_
                  rintro e w5 ⟨x0, x1, x2, rfl, HA2, hb⟩
                  have hM := (HR4.out.step hb).tail
                  have HM5 := Lib.hid hM
                  clear hb c0 c1 c2 c3 c4 d0 d1 d2 d3 d4
                  obtain ⟨d0, d1, d2, d3, d4⟩ := hM.c2
                  clear hM
                  by_cases hx : x2 = 0
                  · subst hx
                    have HN : Hid (blF x0 x1 (fs.drop (k + 1)) (ws.drop (k + 1)) = (x, y, z)) := Lib.hid (by rw [← blF_ok hlt hlt2 (by rw [← HND.out.1, ← HND.out.2.1, ← HND.out.2.2]; exact HO.out) HA2.out]; exact HX.out)
                    go_wp2
                    go_roundw
                    case rel => exact ⟨k + 1, x0, x1, by omega, by go_num, HN, Lib.hid (HM5.out.put2 _ _)⟩
                    case measure => simp [intOf]; omega
                  · have hx' : (x2 != 0) = true := by simpa using hx
                    have HN : Hid ((0, 0, x2) = (x, y, z)) := Lib.hid (by rw [← HX.out, blF_add hlt hlt2 hx (by rw [← HND.out.1, ← HND.out.2.1, ← HND.out.2.2]; exact HO.out) HA2.out])
                    have HNE := Lib.hid hx
                    clear hx
                    have HE2 := Lib.hid (HM5.out.put2 (.int .i64 x0) (.int .i64 x1))
                    obtain ⟨f0, f1, f2, f3, f4⟩ := HE2.out.tail.c2
                    go_wp2
                    refine bodyPost_ret (v := .tuple #[.agg #[.int .i64 0, .int .i64 0], .int .i64 x2]) (by simp [results, Try.results19, go_sem, f0, f1]) rfl ⟨_, _, _, rfl, Lib.hid ?_, ?_⟩
                    · rw [HS.out, HE.out, ← HN.out]; unfold blE; exact if_neg HNE.out
                    · exact (HE2.out.tail.put2 _ _).b
                · have hr' : (r2 != 0) = true := by simpa using hr
                  have hr'' : (r2 == 0) = false := by simpa using hr
                  have HN : Hid ((0, 0, r2) = (x, y, z)) := Lib.hid (by rw [← HX.out, blF_mul hlt hlt2 hr (by rw [← HND.out.1, ← HND.out.2.1, ← HND.out.2.2]; exact HO.out)])
                  have HNE := Lib.hid hr
                  clear hr
                  obtain ⟨f0, f1, f2, f3, f4⟩ := HR4.out.tail.tail.c2
                  go_wp2
                  refine bodyPost_ret (v := .tuple #[.agg #[.int .i64 0, .int .i64 0], .int .i64 r2]) (by simp [results, Try.results19, go_sem, f0, f1]) rfl ⟨_, _, _, rfl, Lib.hid ?_, ?_⟩
                  · rw [HS.out, HE.out, ← HN.out]; unfold blE; exact if_neg HNE.out
                  · exact (HR4.out.tail.tail.put2 _ _).b
              · have hke := Lib.hid (show fs.length ≤ k by omega)
                have HN : Hid ((p, q, 0) = (x, y, z)) := Lib.hid (by rw [← HX.out, blF_end hke.out])
                obtain ⟨d0, d1, d2, d3, d4⟩ := HR.out.c2
                obtain ⟨f0, f1, f2, f3, f4⟩ := HR.out.tail.c2
                have hgt : w.heap.size < w2.heap.size := HR.out.gt
                have hMt : Mem w [(w2.heap.size, #[.int .i64 p, .int .i64 q], 23)] wr := HR.out.drop2
                have HC : Hid (∀ w', Mem w [(w2.heap.size, #[.int .i64 p, .int .i64 q], 23)] w' → Mem w [(w2.heap.size, #[.int .i64 p, .int .i64 q], 23)] w' ∧ w'.cell? ⟨w2.heap.size, 0, none⟩ = some (.int .i64 p) ∧ w'.cell? ⟨w2.heap.size, 1, none⟩ = some (.int .i64 q)) := Lib.hid (fun w' h => ⟨h, h.cell 0, h.cell 1⟩)
                go_wp2_with fail
                go_region_held3 (fun w' => Mem w [(w2.heap.size, #[.int .i64 p, .int .i64 q], 23)] w' ∧ w'.cell? ⟨w2.heap.size, 0, none⟩ = some (.int .i64 p) ∧ w'.cell? ⟨w2.heap.size, 1, none⟩ = some (.int .i64 q))
                  (first | exact HC.out _ hMt | exact HC.out _ hMt.drew | (go_split_ands; first | exact HC.out _ (Mem.step (by assumption) (by assumption)) | exact HC.out _ (Mem.set_old2 (by assumption) (Nat.le_refl _) hgt _ _)))
                  (first
                    | (go_at_call 30; go_split_ands; with_reducible (refine (wholeFrac_p s _).mono ?_); rintro e w3 ⟨rfl, hb3⟩; obtain ⟨oc3, of3, os3⟩ := old_cells hb3; try (simp only [World.size_alloc, World.size_drew] at oc3 of3 os3); try (have hz3 : w.heap.size < w3.heap.size := by omega))
                    | (go_at_call 46; go_split_ands; with_reducible (refine (pdiv_any p q s 1 _).mono ?_); rintro e w4 ⟨r0, r1, r2, rfl, HO, hb4⟩; obtain ⟨oc4, of4, os4⟩ := old_cells hb4; try (simp only [World.size_alloc, World.size_drew] at oc4 of4 os4); try (have hz4 : w.heap.size < w4.heap.size := by omega)))
                have hM4 := (HR.out.drew.step hb3).step hb4
                have HM4 := Lib.hid hM4
                obtain ⟨e0, e1, e2, e3, e4⟩ := hM4.tail.c2
                clear hM4
                go_wp2_with fail
                refine bodyPost_ret (v := .tuple #[.agg #[.int .i64 r0, .int .i64 r1], .int .i64 r2]) (by simp [results, Try.results19, go_sem, e0, e1]) rfl ⟨_, _, _, rfl, Lib.hid ?_, ?_⟩
                · rw [HS.out, HE.out, ← HN.out]; unfold blE; rw [if_pos rfl]; exact HO.out
                · exact (HM4.out.tail.put2 _ _).b
    · have HS : Hid (blendS fs ws = (0, 0, 2)) := Lib.hid (by unfold blendS; rw [if_neg h64, if_pos (.inl hl)])
      have hl1 : ((fs.length : Int) != (ws.length : Int)) = true := by simp; omega
      have hl2 : (fs.length != ws.length) = true := by simp; omega
      clear h64 hl HA HW
      go_enter Try.func19, Try.ntmps19
      go_wp2
      refine bodyPost_ret (v := .tuple #[.agg #[.int .i64 0, .int .i64 0], .int .i64 2]) (by simp [results, Try.results19, go_sem]) rfl ⟨_, _, _, rfl, HS, ?_⟩
      exact HM0.out.b

end Go.Proofs.Ytjnfgjaiahnfgab

/- Skins: the reference's Grade and Valid. -/
import Derived.Test.YtndhnpljdldlpabSkC
namespace Go.Proofs.Ytndhnpljdldlpab
open Go.RowKit

set_option maxRecDepth 100000 in
set_option maxHeartbeats 1600000 in
theorem rGrade_any (a : Option Addr) (cap : Nat) (ss : List ByteArray) (hs : skB ss = true) (x y : Int) (w : World) (h : StrS w a ss) :
    Calls Try.prog 22 #[.slice a ss.length cap, .int .i64 x, .int .i64 y] w fun e w' => e = .returned (.int .i64 (grd ss x y)) ∧ w = w' := by
  obtain ⟨⟨hl1, hl2⟩, ⟨hw1, hw2⟩, hr⟩ := skB_iff.1 hs
  obtain ⟨W, hW⟩ : ∃ W, W = wid ss := ⟨_, rfl⟩
  obtain ⟨v, hv⟩ : ∃ v, v = grd ss x y := ⟨_, rfl⟩
  rw [← hv]
  have hL1 : (0 : Int) < ss.length := by omega
  have hL2 : (ss.length : Int) ≤ 48 := by omega
  rw [← hW] at hw1 hw2
  have hW1 : (0 : Int) < W := by omega
  have hW2 : (W : Int) ≤ 48 := by omega
  obtain ⟨b, off, rfl, hb, hc0⟩ := h.at_ (k := 0) (by omega)
  obtain ⟨s0, hs0⟩ : ∃ s, s = ss[0] := ⟨_, rfl⟩
  have hz0 : s0.size = W := by rw [hs0, hW]; exact (hr 0 (by omega)).1
  rw [← hs0, Nat.add_zero] at hc0
  by_cases hin : 0 ≤ x ∧ x < W ∧ 0 ≤ y ∧ y < ss.length
  · obtain ⟨i1, i2, i3, i4⟩ := hin
    obtain ⟨xn, rfl⟩ := Int.eq_ofNat_of_zero_le i1
    obtain ⟨yn, rfl⟩ := Int.eq_ofNat_of_zero_le i3
    have hyn : yn < ss.length := by omega
    obtain ⟨b', off', he, hb', hc⟩ := h.at_ hyn
    simp only [Option.some.injEq, Addr.mk.injEq, and_true] at he
    obtain ⟨rfl, rfl⟩ := he
    obtain ⟨r, hrr⟩ : ∃ r, r = ss[yn] := ⟨_, rfl⟩
    obtain ⟨hz, hg⟩ := hr yn hyn
    have hxn : xn < r.size := by rw [hrr, hz, ← hW]; omega
    have hgx := grB_iff.1 hg xn (by rw [← hrr]; exact hxn)
    have hval : v = (r[xn].toNat : Int) - 48 := by
      rw [hv, grd_in rfl rfl (by rw [← hW]; omega) hyn (by rw [← hrr]; exact hxn)]
      subst hrr; rfl
    have hgy : 48 ≤ r[xn].toNat ∧ r[xn].toNat ≤ 57 := by subst hrr; exact hgx
    rw [← hrr] at hc
    have hz0' : (s0.size : Int) = W := by rw [hz0]
    clear hgx hv hW hr h hrr hz hg hs hs0 hz0
    subst hval
    go_enter Try.func22, Try.ntmps22
    go_wp2
    all_goals first | (exfalso; omega) | skip
    go_ret
    exact ⟨rfl, rfl⟩
  · have hv0 : v = 0 := by rw [hv]; exact grd_out (by omega)
    have hz0' : (s0.size : Int) = W := by rw [hz0]
    clear hv hW hr h hs0 hz0
    subst hv0
    go_enter Try.func22, Try.ntmps22
    go_wp2
    all_goals first | (exfalso; omega) | skip
    all_goals
      go_ret
      exact ⟨rfl, rfl⟩

set_option maxRecDepth 100000 in
set_option maxHeartbeats 3200000 in
theorem rValid_any (a : Option Addr) (cap : Nat) (ss : List ByteArray) (hl : (ss.length : Int) ≤ 9223372036854775807) (hz : ∀ s ∈ ss, s.size ≤ 9223372036854775807) (w : World) (h : StrS w a ss) :
    Calls Try.prog 25 #[.slice a ss.length cap] w fun e w' => e = .returned (.bool (skB ss)) ∧ w = w' := by
  cases h1 : sideB ss.length
  · have hs : Hid (skB ss = false) := Lib.hid (by unfold skB; rw [h1]; rfl)
    have hn : ss.length < 1 ∨ 48 < ss.length := by
      have := mt sideB_iff.2 (by rw [h1]; simp : ¬ sideB ss.length = true)
      omega
    rw [hs.out]
    clear h h1
    rcases hn with hn | hn
    · have hn' : (ss.length : Int) < 1 := by omega
      clear hn
      go_enter Try.func25, Try.ntmps25
      go_wp2
      go_ret
      exact ⟨rfl, rfl⟩
    · have hn' : (48 : Int) < ss.length := by omega
      have hn2 : ¬ (ss.length : Int) < 1 := by omega
      clear hn
      go_enter Try.func25, Try.ntmps25
      go_wp2
      go_ret
      exact ⟨rfl, rfl⟩
  · have hpos : 0 < ss.length := by have := (sideB_iff.1 h1).1; omega
    have hl1 : ¬ (ss.length : Int) < 1 := by omega
    have hl48 : ¬ (48 : Int) < ss.length := by have := (sideB_iff.1 h1).2; omega
    obtain ⟨b, off, rfl, hb, hc⟩ := h.at_ hpos
    obtain ⟨s0, hs0⟩ : ∃ s, s = ss[0] := ⟨_, rfl⟩
    rw [← hs0, Nat.add_zero] at hc
    have hw : wid ss = s0.size := by rw [hs0]; exact wid_eq hpos
    have HF := Lib.hid h
    have hp0 : (0 : Int) < ss.length := by omega
    cases h2 : sideB s0.size
    · have hs : Hid (skB ss = false) := Lib.hid (by unfold skB; rw [hw, h2]; cases sideB ss.length <;> rfl)
      have hn : s0.size < 1 ∨ 48 < s0.size := by
        have := mt sideB_iff.2 (by rw [h2]; simp : ¬ sideB s0.size = true)
        omega
      have hzs : s0.size ≤ 9223372036854775807 := hz s0 (by rw [hs0]; exact List.getElem_mem _)
      rw [hs.out]
      clear h h1 h2 hw hs0
      rcases hn with hn | hn
      · have hn' : (s0.size : Int) < 1 := by omega
        clear hn
        go_enter Try.func25, Try.ntmps25
        go_wp2
        go_ret
        exact ⟨rfl, rfl⟩
      · have hn' : (48 : Int) < s0.size := by omega
        have hn2 : ¬ (s0.size : Int) < 1 := by omega
        clear hn
        go_enter Try.func25, Try.ntmps25
        go_wp2
        go_ret
        exact ⟨rfl, rfl⟩
    · obtain ⟨v, hv⟩ : ∃ v, v = skB ss := ⟨_, rfl⟩
      rw [← hv]
      have HV := Lib.hid hv
      have HW := Lib.hid hw
      have H12 := Lib.hid (And.intro h1 h2)
      have hs1 : ¬ (s0.size : Int) < 1 := by have := (sideB_iff.1 h2).1; omega
      have hs48 : ¬ (48 : Int) < s0.size := by have := (sideB_iff.1 h2).2; omega
      clear h h1 h2 hw hs0 hv
      go_enter Try.func25, Try.ntmps25
      go_wp2
      go_loop [30] (fun i => ∃ k : Nat, k ≤ ss.length ∧ i = .int .i64 k ∧ Hid (∀ j (h : j < ss.length), j < k → ss[j].size = wid ss ∧ grB ss[j] = true)) (fun i => ss.length - (intOf i).toNat)
      case atStart => exact ⟨0, Nat.zero_le _, rfl, Lib.hid (fun j _ h => by omega)⟩
      case round =>
        obtain ⟨k, hk, rfl, HA⟩ := hrel
        by_cases hlt : k < ss.length
        · obtain ⟨b', off', he, -, hck⟩ := HF.out.at_ hlt
          simp only [Option.some.injEq, Addr.mk.injEq, and_true] at he
          obtain ⟨rfl, rfl⟩ := he
          obtain ⟨r, hr⟩ : ∃ r, r = ss[k] := ⟨_, rfl⟩
          have hrz : r.size ≤ 9223372036854775807 := hz r (by rw [hr]; exact List.getElem_mem _)
          rw [← hr] at hck
          have HR := Lib.hid hr
          have hk0 : (0 : Int) ≤ (k : Int) := by omega
          have hlt' : (k : Int) < ss.length := by omega
          clear hr
          by_cases hsz : r.size = s0.size
          · have hne : ((r.size : Int) != (s0.size : Int)) = false := by rw [hsz]; simp
            have HSZ := Lib.hid hsz
            clear hsz
            go_wp2
            go_loop [43] (fun i => ∃ m : Nat, m ≤ r.size ∧ i = .int .i64 m ∧ Hid (∀ j (h : j < r.size), j < m → 48 ≤ r[j].toNat ∧ r[j].toNat ≤ 57)) (fun i => r.size - (intOf i).toNat)
            case atStart => exact ⟨0, Nat.zero_le _, rfl, Lib.hid (fun j _ h => by omega)⟩
            case round =>
              obtain ⟨m, hm, rfl, HG⟩ := hrel
              by_cases hmr : m < r.size
              · have hm0 : (0 : Int) ≤ (m : Int) := by omega
                have hm' : (m : Int) < r.size := by omega
                by_cases hgr : 48 ≤ r[m].toNat ∧ r[m].toNat ≤ 57
                · have HG' : Hid (∀ j (h : j < r.size), j < m + 1 → 48 ≤ r[j].toNat ∧ r[j].toNat ≤ 57) := Lib.hid (fun j h hj => by
                    by_cases e : j = m
                    · subst e; exact hgr
                    · exact HG.out j h (by omega))
                  obtain ⟨g1, g2⟩ := hgr
                  go_wp2
                  all_goals first | (exfalso; omega) | skip
                  go_round
                  case rel => exact ⟨m + 1, by omega, by go_num, HG'⟩
                  case measure => simp [intOf]; omega
                · have HVF : Hid (v = false) := Lib.hid (by
                    rw [HV.out]
                    refine skB_row hlt (.inr ?_)
                    have := grB_false (s := r) hmr (by omega)
                    rw [← HR.out]; exact this)
                  go_wp2
                  all_goals first | (exfalso; omega) | skip
                  all_goals
                    go_ret
                    exact ⟨by rw [HVF.out]; rfl, rfl⟩
              · obtain rfl : m = r.size := by omega
                have HA' : Hid (∀ j (h : j < ss.length), j < k + 1 → ss[j].size = wid ss ∧ grB ss[j] = true) := Lib.hid (fun j h hj => by
                  by_cases e : j = k
                  · subst e; rw [← HR.out]; exact ⟨by rw [HW.out]; exact HSZ.out, grB_iff.2 (fun i hi => HG.out i hi hi)⟩
                  · exact HA.out j h (by omega))
                go_wp2
                go_round
                case rel => exact ⟨k + 1, by omega, by go_num, HA'⟩
                case measure => simp [intOf]; omega
          · have hne : ((r.size : Int) != (s0.size : Int)) = true := by rw [bne_iff_ne]; omega
            have HVF : Hid (v = false) := Lib.hid (by rw [HV.out]; exact skB_row hlt (.inl (by rw [← HR.out, HW.out]; exact hsz)))
            clear hsz
            go_wp2
            go_ret
            exact ⟨by rw [HVF.out]; rfl, rfl⟩
        · obtain rfl : k = ss.length := by omega
          have HVT : Hid (v = true) := Lib.hid (by
            rw [HV.out]
            exact skB_iff.2 ⟨sideB_iff.1 H12.out.1, by rw [HW.out]; exact sideB_iff.1 H12.out.2, fun j hj => HA.out j hj hj⟩)
          go_wp2
          go_ret
          exact ⟨by rw [HVT.out]; rfl, rfl⟩

end Go.Proofs.Ytndhnpljdldlpab

/- Skins: Valid, size, gradeAt. -/
import Derived.Test.YtndhnpljdldlpabSkA
namespace Go.Proofs.Ytndhnpljdldlpab
open Go.RowKit

set_option maxRecDepth 100000 in
set_option maxHeartbeats 1600000 in
theorem skValid_any (a : Option Addr) (cap : Nat) (ss : List ByteArray) (hl : (ss.length : Int) ≤ 9223372036854775807) (_hz : ∀ s ∈ ss, s.size ≤ 9223372036854775807) (w : World) (h : StrS w a ss) :
    Calls Try.prog 55 #[.slice a ss.length cap] w fun e w' => e = .returned (.bool (skB ss)) ∧ w = w' := by
  cases h1 : sideB ss.length
  · have hs : Hid (skB ss = false) := Lib.hid (by unfold skB; rw [h1]; rfl)
    have HI : Hid (Calls Try.prog 88 #[.int .i64 ss.length] w fun e w' => e = .returned (.bool false) ∧ w = w') := Lib.hid (by rw [← h1]; exact isSide_any _ w)
    rw [hs.out]
    clear h h1
    go_enter Try.func55, Try.ntmps55
    go_wp2_with fail
    refine HI.out.mono ?_
    rintro e w1 ⟨rfl, rfl⟩
    go_wp2
    go_ret
    exact ⟨rfl, rfl⟩
  · have hpos : 0 < ss.length := by have := (sideB_iff.1 h1).1; omega
    have hl48 : (ss.length : Int) ≤ 48 := by have := (sideB_iff.1 h1).2; omega
    have HI : Hid (Calls Try.prog 88 #[.int .i64 ss.length] w fun e w' => e = .returned (.bool true) ∧ w = w') := Lib.hid (by rw [← h1]; exact isSide_any _ w)
    obtain ⟨b, off, rfl, hb, hc⟩ := h.at_ hpos
    obtain ⟨s0, hs0⟩ : ∃ s, s = ss[0] := ⟨_, rfl⟩
    rw [← hs0, Nat.add_zero] at hc
    have hw : wid ss = s0.size := by rw [hs0]; exact wid_eq hpos
    have HF := Lib.hid h
    have hp0 : (0 : Int) < ss.length := by omega
    cases h2 : sideB s0.size
    · have hs : Hid (skB ss = false) := Lib.hid (by unfold skB; rw [hw, h2]; cases sideB ss.length <;> rfl)
      have HI2 : Hid (Calls Try.prog 88 #[.int .i64 s0.size] w fun e w' => e = .returned (.bool false) ∧ w = w') := Lib.hid (by rw [← h2]; exact isSide_any _ w)
      rw [hs.out]
      clear h h1 h2 hw hs0
      go_enter Try.func55, Try.ntmps55
      go_wp2_with fail
      refine HI.out.mono ?_
      rintro e w1 ⟨rfl, rfl⟩
      go_wp2_with fail
      refine HI2.out.mono ?_
      rintro e w1 ⟨rfl, rfl⟩
      go_wp2
      go_ret
      exact ⟨rfl, rfl⟩
    · have HI2 : Hid (Calls Try.prog 88 #[.int .i64 s0.size] w fun e w' => e = .returned (.bool true) ∧ w = w') := Lib.hid (by rw [← h2]; exact isSide_any _ w)
      obtain ⟨v, hv⟩ : ∃ v, v = skB ss := ⟨_, rfl⟩
      rw [← hv]
      have HV := Lib.hid hv
      have HW := Lib.hid hw
      have H12 := Lib.hid (And.intro h1 h2)
      have hs48 : (s0.size : Int) ≤ 48 := by have := (sideB_iff.1 h2).2; omega
      clear h h1 h2 hw hs0 hv
      go_enter Try.func55, Try.ntmps55
      go_wp2_with fail
      refine HI.out.mono ?_
      rintro e w1 ⟨rfl, rfl⟩
      go_wp2_with fail
      refine HI2.out.mono ?_
      rintro e w1 ⟨rfl, rfl⟩
      go_wp2_with fail
      go_loop [19] (fun i => ∃ k : Nat, k ≤ ss.length ∧ i = .int .i64 k ∧ Hid (∀ j (h : j < ss.length), j < k → ss[j].size = wid ss ∧ grB ss[j] = true)) (fun i => ss.length - (intOf i).toNat)
      case atStart => exact ⟨0, Nat.zero_le _, rfl, Lib.hid (fun j _ h => by omega)⟩
      case round =>
        obtain ⟨k, hk, rfl, HA⟩ := hrel
        by_cases hlt : k < ss.length
        · obtain ⟨b', off', he, -, hck⟩ := HF.out.at_ hlt
          simp only [Option.some.injEq, Addr.mk.injEq, and_true] at he
          obtain ⟨rfl, rfl⟩ := he
          obtain ⟨r, hr⟩ : ∃ r, r = ss[k] := ⟨_, rfl⟩
          rw [← hr] at hck
          have HR := Lib.hid hr
          have hk0 : (0 : Int) ≤ (k : Int) := by omega
          have hlt' : (k : Int) < ss.length := by omega
          clear hr
          by_cases hsz : r.size = s0.size
          · have hne : ((r.size : Int) != (s0.size : Int)) = false := by rw [hsz]; simp
            cases hg : grB r
            · have HG : Hid (Calls Try.prog 89 #[.string r] w fun e w' => e = .returned (.bool false) ∧ w = w') := Lib.hid (by rw [← hg]; exact areGrades_any r (by omega) w)
              have HVF : Hid (v = false) := Lib.hid (by rw [HV.out]; exact skB_row hlt (.inr (by rw [← HR.out]; exact hg)))
              clear hg hsz
              go_wp2_with fail
              refine HG.out.mono ?_
              rintro e w1 ⟨rfl, rfl⟩
              go_wp2
              go_ret
              exact ⟨by rw [HVF.out]; rfl, rfl⟩
            · have HG : Hid (Calls Try.prog 89 #[.string r] w fun e w' => e = .returned (.bool true) ∧ w = w') := Lib.hid (by rw [← hg]; exact areGrades_any r (by omega) w)
              have HA' : Hid (∀ j (h : j < ss.length), j < k + 1 → ss[j].size = wid ss ∧ grB ss[j] = true) := Lib.hid (fun j h hj => by
                by_cases e : j = k
                · subst e; rw [← HR.out]; exact ⟨by rw [HW.out]; exact hsz, hg⟩
                · exact HA.out j h (by omega))
              clear hg hsz
              go_wp2_with fail
              refine HG.out.mono ?_
              rintro e w1 ⟨rfl, rfl⟩
              go_wp2
              go_round
              case rel => exact ⟨k + 1, by omega, by go_num, HA'⟩
              case measure => simp [intOf]; omega
          · have hne : ((r.size : Int) != (s0.size : Int)) = true := by rw [bne_iff_ne]; omega
            have HVF : Hid (v = false) := Lib.hid (by rw [HV.out]; exact skB_row hlt (.inl (by rw [← HR.out, HW.out]; exact hsz)))
            clear hsz
            go_wp2
            go_ret
            exact ⟨by rw [HVF.out]; rfl, rfl⟩
        · obtain rfl : k = ss.length := by omega
          have HVT : Hid (v = true) := Lib.hid (by
            rw [HV.out]
            exact skB_iff.2 ⟨sideB_iff.1 H12.out.1, by rw [HW.out]; exact sideB_iff.1 H12.out.2, fun j hj => HA.out j hj hj⟩)
          go_wp2
          go_ret
          exact ⟨by rw [HVT.out]; rfl, rfl⟩

/-- The grade at a place; 0 beyond the edge. -/
def grd (ss : List ByteArray) (x y : Int) : Int :=
  if 0 ≤ x ∧ x < wid ss ∧ 0 ≤ y ∧ y < ss.length then (((ss.getD y.toNat ByteArray.empty).data.toList.getD x.toNat 48).toNat : Int) - 48 else 0

set_option maxRecDepth 100000 in
theorem skSize_any (a : Option Addr) (cap : Nat) (ss : List ByteArray) (hl : 0 < ss.length) (hl2 : (ss.length : Int) ≤ 48) (w : World) (h : StrS w a ss) :
    Calls Try.prog 58 #[.slice a ss.length cap] w fun e w' => e = .returned (.tuple #[.int .i64 (wid ss), .int .i64 ss.length]) ∧ w = w' := by
  obtain ⟨b, off, rfl, hb, hc⟩ := h.at_ hl
  obtain ⟨s0, hs0⟩ : ∃ s, s = ss[0] := ⟨_, rfl⟩
  rw [← hs0, Nat.add_zero] at hc
  have HW : Hid (wid ss = s0.size) := Lib.hid (by rw [hs0]; exact wid_eq hl)
  have hp0 : (0 : Int) < ss.length := by omega
  rw [HW.out]
  clear h hs0
  go_enter Try.func58, Try.ntmps58
  go_wp2
  go_ret2
  exact ⟨rfl, rfl⟩

end Go.Proofs.Ytndhnpljdldlpab

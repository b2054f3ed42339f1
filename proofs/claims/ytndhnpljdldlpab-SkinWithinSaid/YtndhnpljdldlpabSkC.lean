/- Skins: gradeAt, leather. -/
import Derived.Test.YtndhnpljdldlpabSkB
namespace Go.Proofs.Ytndhnpljdldlpab
open Go.RowKit

theorem grd_in {ss : List ByteArray} {x y : Int} {xn yn : Nat} (hx : x = xn) (hy : y = yn) (h1 : xn < wid ss) (h2 : yn < ss.length) (h3 : xn < ss[yn].size) :
    grd ss x y = (ss[yn][xn].toNat : Int) - 48 := by
  subst hx hy
  unfold grd
  rw [if_pos ⟨by omega, by omega, by omega, by omega⟩]
  have e1 : ss.getD (yn : Int).toNat ByteArray.empty = ss[yn] := by simp [h2]
  rw [e1]
  have hl : xn < ss[yn].data.toList.length := by rw [Array.length_toList]; exact h3
  have e2 : ss[yn].data.toList.getD (xn : Int).toNat 48 = ss[yn][xn] := by
    simp only [Int.toNat_natCast]
    rw [List.getD_eq_getElem?_getD, List.getElem?_eq_getElem hl]
    rfl
  rw [e2]
theorem grd_out {ss : List ByteArray} {x y : Int} (h : x < 0 ∨ wid ss ≤ x ∨ y < 0 ∨ ss.length ≤ y) : grd ss x y = 0 := by
  unfold grd
  rw [if_neg]
  omega

set_option maxRecDepth 100000 in
set_option maxHeartbeats 1600000 in
theorem gradeAt_any (a : Option Addr) (cap : Nat) (ss : List ByteArray) (hs : skB ss = true) (x y : Int) (w : World) (h : StrS w a ss) :
    Calls Try.prog 61 #[.slice a ss.length cap, .agg #[.int .i64 x, .int .i64 y]] w fun e w' => e = .returned (.int .i64 (grd ss x y)) ∧ Below w.heap.size w w' := by
  obtain ⟨⟨hl1, hl2⟩, ⟨hw1, hw2⟩, hr⟩ := skB_iff.1 hs
  obtain ⟨W, hW⟩ : ∃ W, W = wid ss := ⟨_, rfl⟩
  have HSZ : Hid (∀ w', Below w.heap.size w w' → Calls Try.prog 58 #[.slice a ss.length cap] w' fun e w'' => e = .returned (.tuple #[.int .i64 W, .int .i64 ss.length]) ∧ w' = w'') := Lib.hid (fun w' hb => by rw [hW]; exact skSize_any a cap ss (by omega) (by omega) w' (h.below hb))
  obtain ⟨v, hv⟩ : ∃ v, v = grd ss x y := ⟨_, rfl⟩
  rw [← hv]
  have hL1 : (0 : Int) < ss.length := by omega
  have hL2 : (ss.length : Int) ≤ 48 := by omega
  rw [← hW] at hw1 hw2
  have hW1 : (0 : Int) < W := by omega
  have hW2 : (W : Int) ≤ 48 := by omega
  by_cases hin : 0 ≤ x ∧ x < W ∧ 0 ≤ y ∧ y < ss.length
  · obtain ⟨i1, i2, i3, i4⟩ := hin
    obtain ⟨xn, rfl⟩ := Int.eq_ofNat_of_zero_le i1
    obtain ⟨yn, rfl⟩ := Int.eq_ofNat_of_zero_le i3
    have hyn : yn < ss.length := by omega
    obtain ⟨b, off, rfl, hb, hc⟩ := h.at_ hyn
    obtain ⟨r, hrr⟩ : ∃ r, r = ss[yn] := ⟨_, rfl⟩
    obtain ⟨hz, hg⟩ := hr yn hyn
    have hxn : xn < r.size := by rw [hrr, hz, ← hW]; omega
    have hgx := grB_iff.1 hg xn (by rw [← hrr]; exact hxn)
    have hval : v = (r[xn].toNat : Int) - 48 := by
      rw [hv, grd_in rfl rfl (by rw [← hW]; omega) hyn (by rw [← hrr]; exact hxn)]
      subst hrr; rfl
    have hgy : 48 ≤ r[xn].toNat ∧ r[xn].toNat ≤ 57 := by subst hrr; exact hgx
    rw [← hrr] at hc
    clear hgx hv hW hr h hrr hz hg hs
    subst hval
    go_enter Try.func61, Try.ntmps61
    go_wp2_with fail
    refine (HSZ.out _ ?_).mono ?_
    · exact (Below.refl _ _).alloc (Nat.le_refl _) _
    rintro e w1 ⟨rfl, rfl⟩
    go_wp2
    go_quiet (fail)
    go_wp2
    go_ret
    exact ⟨rfl, below_drewN ((Below.refl _ _).alloc (Nat.le_refl _) _) _⟩
  · have hv0 : v = 0 := by rw [hv]; exact grd_out (by omega)
    clear hv hW hr h
    subst hv0
    go_enter Try.func61, Try.ntmps61
    go_wp2_with fail
    refine (HSZ.out _ ?_).mono ?_
    · exact (Below.refl _ _).alloc (Nat.le_refl _) _
    rintro e w1 ⟨rfl, rfl⟩
    go_wp2
    all_goals first | (exfalso; omega) | skip
    all_goals
      go_ret
      exact ⟨rfl, (Below.refl _ _).alloc (Nat.le_refl _) _⟩

end Go.Proofs.Ytndhnpljdldlpab

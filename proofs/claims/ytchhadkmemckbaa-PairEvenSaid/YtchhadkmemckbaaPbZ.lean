/- Pairs: the reference's Even. -/
import Derived.Test.YtchhadkmemckbaaPbY
import Derived.Test.YtchhadkmemckbaaPaV
namespace Go.Proofs.Ytchhadkmemckbaa
open Go.RowKit
set_option linter.unusedSimpArgs false
set_option linter.unusedVariables false

set_option maxRecDepth 100000 in
set_option maxHeartbeats 3200000 in
theorem rEven_any (a a2 : Option Addr) (cap cap2 : Nat) (ls rs : List Gl) (x0 x1 x2 x3 y0 y1 y2 y3 : Int) (hl1 : (ls.length : Int) ≤ 9223372036854775807) (hl2 : (rs.length : Int) ≤ 9223372036854775807) (w : World) (hl : RecS w a ls) (hr : RecS w a2 rs) :
    Calls Try.prog 36 #[.slice a ls.length cap, .slice a2 rs.length cap2, .agg #[.int .i64 x0, .int .i64 x1, .int .i64 x2, .int .i64 x3, .int .i64 y0, .int .i64 y1, .int .i64 y2, .int .i64 y3]] w fun e w' => (∃ v ee : Int, e = .returned (.tuple #[.int .i64 v, .int .i64 ee]) ∧ EvA ls rs ((x0, x1, x2, x3), (y0, y1, y2, y3)) v ee) ∧ Below w.heap.size w w' := by
  have HM := Lib.hid ((Mem.nil w).alloc_at (H := w.heap.size) rfl #[.int .i64 x0, .int .i64 x1, .int .i64 x2, .int .i64 x3, .int .i64 y0, .int .i64 y1, .int .i64 y2, .int .i64 y3] 25)
  have k0 := HM.out.cell 0
  have k1 := HM.out.cell 1
  have k2 := HM.out.cell 2
  have k3 := HM.out.cell 3
  have k4 := HM.out.cell 4
  have k5 := HM.out.cell 5
  have k6 := HM.out.cell 6
  have k7 := HM.out.cell 7
  simp at k0 k1 k2 k3 k4 k5 k6 k7
  have HG := Lib.hid (fun w' hb => qGood_any a a2 cap cap2 ls rs x0 x1 x2 x3 y0 y1 y2 y3 hl1 hl2 w' (hl.below (w' := w') hb) (hr.below hb))
  obtain ⟨g0, hg0⟩ : ∃ g0, g0 = (sidB ls && sidB rs && ruB ((x0, x1, x2, x3), (y0, y1, y2, y3))) := ⟨_, rfl⟩
  rw [← hg0] at HG
  cases g0 with
  | false =>
    have e : EvA ls rs ((x0, x1, x2, x3), (y0, y1, y2, y3)) 0 2 := by unfold EvA; rw [← hg0, if_neg (by simp)]; exact ⟨rfl, rfl⟩
    have HE0 := Lib.hid e
    clear e hg0 hl hr
    go_enter Try.func36, Try.ntmps36
    go_wp2_with fail
    refine (HG.out _ HM.out.b).mono ?_
    rintro e w1 ⟨rfl, hb1⟩
    have HB1 := Lib.hid (HM.out.b.trans (hb1.mono HM.out.b.size))
    clear hb1 HM k0 k1 k2 k3 k4 k5 k6 k7
    go_wp2
    go_ret2
    exact ⟨⟨_, _, rfl, HE0.out⟩, HB1.out⟩
  | true =>
  have hg1 : (sidB ls = true ∧ sidB rs = true) ∧ ruB ((x0, x1, x2, x3), (y0, y1, y2, y3)) = true := by simpa using hg0.symm
  obtain ⟨⟨h1, h2⟩, h3⟩ := hg1
  have n1 : ls.length ≤ 32 := by unfold sidB at h1; simp at h1; omega
  have n2 : rs.length ≤ 32 := by unfold sidB at h2; simp at h2; omega
  have hC : ∀ i j, i < ls.length → j < rs.length → -1 ≤ cosT ls rs ((x0, x1, x2, x3), (y0, y1, y2, y3)) i j ∧ cosT ls rs ((x0, x1, x2, x3), (y0, y1, y2, y3)) i j ≤ 4000000 := fun i j hi hj => by
    have e : cosT ls rs ((x0, x1, x2, x3), (y0, y1, y2, y3)) i j = costB ls[i] rs[j] ((x0, x1, x2, x3), (y0, y1, y2, y3)) := by unfold cosT; simp [List.getD_eq_getElem?_getD, hi, hj]
    rw [e]
    have o1 : allB ls = true := by unfold sidB at h1; simp at h1; exact h1.2
    have o2 : allB rs = true := by unfold sidB at h2; simp at h2; exact h2.2
    exact costB_range (allB_iff.1 o1 i hi) (allB_iff.1 o2 j hj) h3
  have HTA := Lib.hid (fun w' hb => rTable_yes a a2 cap cap2 ls rs x0 x1 x2 x3 y0 y1 y2 y3 h1 h2 h3 w' (hl.below (w' := w') hb) (hr.below hb))
  have HEV : Hid (∀ v, IsEv (cosT ls rs ((x0, x1, x2, x3), (y0, y1, y2, y3))) ls.length rs.length v → EvA ls rs ((x0, x1, x2, x3), (y0, y1, y2, y3)) v 0) := Lib.hid (fun v h => by unfold EvA; rw [← hg0, if_pos rfl]; exact ⟨rfl, h⟩)
  obtain ⟨CF, hCF⟩ : ∃ z, z = cosT ls rs ((x0, x1, x2, x3), (y0, y1, y2, y3)) := ⟨_, rfl⟩
  rw [← hCF] at HTA HEV hC
  have HCB := Lib.hid hC
  clear hCF hg0 h1 h2 h3 hl hr hC
  go_enter Try.func36, Try.ntmps36
  go_wp2_with fail
  refine (HG.out _ HM.out.b).mono ?_
  rintro e w1 ⟨rfl, hb1⟩
  have HM1 := Lib.hid (HM.out.step hb1)
  clear hb1 HM k0 k1 k2 k3 k4 k5 k6 k7
  have k0 := HM1.out.cell 0
  have k1 := HM1.out.cell 1
  have k2 := HM1.out.cell 2
  have k3 := HM1.out.cell 3
  have k4 := HM1.out.cell 4
  have k5 := HM1.out.cell 5
  have k6 := HM1.out.cell 6
  have k7 := HM1.out.cell 7
  simp at k0 k1 k2 k3 k4 k5 k6 k7
  go_wp2_with fail
  refine (HTA.out _ HM1.out.b).mono ?_
  rintro e w2 ⟨x, cx, rfl, ht, hb2⟩
  have HB2 := Lib.hid (HM1.out.b.trans (hb2.mono HM1.out.b.size))
  have HT := Lib.hid ht
  have HMT : Hid (∀ w', Below w2.heap.size w2 w' → ∀ c : Int, Calls Try.prog 53 #[.slice x ls.length cx, .int .i64 rs.length, .int .i64 c] w' fun e w'' => e = .returned (.int .i64 (mtf CF ls.length rs.length c)) ∧ Below w'.heap.size w' w'') := Lib.hid (fun w' hb c => matched_any x cx ls.length rs.length (by omega) (by omega) CF c w' (ht.below hb))
  have HMO := Lib.hid (HMT.out w2 (Below.refl _ _) 1000000000)
  rw [mtf_top (fun i j hi hj => (HCB.out i j hi hj).2) (by omega)] at HMO
  obtain ⟨mo, hmo⟩ : ∃ z, z = mtf CF ls.length rs.length 4000000 := ⟨_, rfl⟩
  rw [← hmo] at HMO
  have HMOV := Lib.hid hmo
  have hm0 : 0 ≤ mo := by rw [hmo]; exact mtf_nonneg _ _ _ _
  clear ht hb2 HM1 k0 k1 k2 k3 k4 k5 k6 k7 hmo HTA HG
  go_wp2_with fail
  refine HMO.out.mono ?_
  rintro e w3 ⟨rfl, hb3⟩
  have HB3 := Lib.hid hb3
  clear hb3 HMO
  go_wp2_with fail
  go_loopg [10, 30] ls.length (fun gk b x wr => ∃ (i : Nat) (bv : Int), x = .int .i64 i ∧ i + gk = ls.length ∧ b = .int .i64 bv ∧ Hid (Sofar CF ls.length rs.length i 0 bv) ∧ Hid (Below w2.heap.size w2 wr))
  case atStart => exact ⟨0, -1, rfl, by omega, rfl, Lib.hid (Sofar.start _ _ _), HB3⟩
  case round =>
    obtain ⟨i, bv, rfl, hik, rfl, HSF, HB⟩ := hrel
    by_cases hi : i < ls.length
    · obtain ⟨gk', rfl⟩ : ∃ m, gk = m + 1 := ⟨gk - 1, by omega⟩
      have hi' : (i : Int) < ls.length := by omega
      have hi0 : (0 : Int) ≤ i := by omega
      have HTW := Lib.hid (HT.out.below HB.out)
      obtain ⟨B, mi, rfl, l1, d1, l2, -⟩ := HTW.out i hi
      have HROW : Hid (∀ w', Below w2.heap.size w2 w' → ∀ j, j < rs.length → w'.cell? ⟨mi, j, none⟩ = some (.int .i64 (CF i j)) ∧ mi < w'.heap.size) := Lib.hid (fun w' hb j hj => by
        obtain ⟨B0, m0, e0, k1, k2, k3, k4⟩ := HT.out i hi
        simp only [Option.some.injEq, Addr.mk.injEq, and_true] at e0
        subst e0
        have := (HB.out.cell (p := ⟨B, i, none⟩) k1).trans k2
        rw [this] at d1
        simp only [Option.some.injEq, Value.slice.injEq, Addr.mk.injEq, and_true] at d1
        subst d1
        exact ⟨(hb.cell (p := ⟨m0, j, none⟩) k3).trans (k4 j hj), Nat.lt_of_lt_of_le k3 hb.size⟩)
      clear HTW
      go_wp2_with fail
      clear l1 d1 l2
      go_loopg [10, 36] rs.length (fun gk b x wr => ∃ (j : Nat) (bv : Int), x = .int .i64 j ∧ j + gk = rs.length ∧ b = .int .i64 bv ∧ Hid (Sofar CF ls.length rs.length i j bv) ∧ Hid (Below w2.heap.size w2 wr))
      case atStart => exact ⟨0, bv, rfl, by omega, rfl, HSF, HB⟩
      case round =>
        obtain ⟨j, bv, rfl, hjk, rfl, HSJ, HBJ⟩ := hrel
        by_cases hj : j < rs.length
        · obtain ⟨gl', rfl⟩ : ∃ m, gk = m + 1 := ⟨gk - 1, by omega⟩
          have hj' : (j : Int) < rs.length := by omega
          have hj0 : (0 : Int) ≤ j := by omega
          obtain ⟨d2, l2⟩ := HROW.out wr HBJ.out j hj
          obtain ⟨c, hc⟩ : ∃ c, c = CF i j := ⟨_, rfl⟩
          rw [← hc] at d2
          have HSK : Hid ((c < 0 ∨ (0 ≤ bv ∧ bv ≤ c) ∨ mtf CF ls.length rs.length c ≠ mo) → Sofar CF ls.length rs.length i (j + 1) bv) := Lib.hid (fun h => HSJ.out.skip (by rw [← hc, ← HMOV.out]; exact h))
          have HTK : Hid (0 ≤ c → (bv < 0 ∨ c < bv) → mtf CF ls.length rs.length c = mo → Sofar CF ls.length rs.length i (j + 1) c) := Lib.hid (fun h0 hb hm => by
            have := HSJ.out.take hi hj (by rw [← hc]; exact h0) (by rw [← hc]; exact hb) (by rw [← hc, ← HMOV.out]; exact hm)
            rw [← hc] at this
            exact this)
          clear hc HSJ
          by_cases hc0 : c < 0
          · have a0 : decide (0 ≤ c) = false := decide_eq_false (by omega)
            have HN := Lib.hid (HSK.out (.inl hc0))
            clear HSK HTK hc0
            go_wp2
            go_roundg gl'
            case measure => exact Nat.lt_succ_self _
            case rel => exact ⟨j + 1, bv, by go_num, by omega, rfl, HN, HBJ⟩
          · have a0 : decide (0 ≤ c) = true := decide_eq_true (by omega)
            by_cases hbc : 0 ≤ bv ∧ bv ≤ c
            · have a1 : decide (bv < 0) = false := decide_eq_false (by omega)
              have a2 : decide (c < bv) = false := decide_eq_false (by omega)
              have HN := Lib.hid (HSK.out (.inr (.inl hbc)))
              clear HSK HTK hc0 hbc
              go_wp2
              go_roundg gl'
              case measure => exact Nat.lt_succ_self _
              case rel => exact ⟨j + 1, bv, by go_num, by omega, rfl, HN, HBJ⟩
            · have hbb : bv < 0 ∨ c < bv := by omega
              have HCA := Lib.hid (HMT.out wr HBJ.out c)
              obtain ⟨mc, hmc⟩ : ∃ z, z = mtf CF ls.length rs.length c := ⟨_, rfl⟩
              rw [← hmc] at HCA HSK HTK
              clear hmc
              have HBB := Lib.hid hbb
              have HC0 := Lib.hid hc0
              have hcond : (decide (bv < 0) || decide (c < bv)) = true := by simpa using hbb
              clear hbb hc0 hbc
              by_cases hb0 : bv < 0
              · have a1 : decide (bv < 0) = true := decide_eq_true hb0
                clear hcond hb0
                go_wp2_with fail
                refine HCA.out.mono ?_
                rintro e w5 ⟨rfl, hb5⟩
                have HB5 := Lib.hid (HBJ.out.trans (hb5.mono HBJ.out.size))
                clear hb5 HCA HBJ d2 l2
                by_cases hq : mc = mo
                · have a3 : (mc == mo) = true := by simpa using hq
                  have HN := Lib.hid (HTK.out (by have := HC0.out; omega) HBB.out hq)
                  clear HSK HTK hq
                  go_wp2
                  go_roundg gl'
                  case measure => exact Nat.lt_succ_self _
                  case rel => exact ⟨j + 1, c, by go_num, by omega, rfl, HN, HB5⟩
                · have a3 : (mc == mo) = false := by simpa using hq
                  have HN := Lib.hid (HSK.out (.inr (.inr hq)))
                  clear HSK HTK hq
                  go_wp2
                  go_roundg gl'
                  case measure => exact Nat.lt_succ_self _
                  case rel => exact ⟨j + 1, bv, by go_num, by omega, rfl, HN, HB5⟩
              · have a1 : decide (bv < 0) = false := decide_eq_false hb0
                have a2 : decide (c < bv) = true := by rw [a1, Bool.false_or] at hcond; exact hcond
                clear hcond hb0
                go_wp2_with fail
                refine HCA.out.mono ?_
                rintro e w5 ⟨rfl, hb5⟩
                have HB5 := Lib.hid (HBJ.out.trans (hb5.mono HBJ.out.size))
                clear hb5 HCA HBJ d2 l2
                by_cases hq : mc = mo
                · have a3 : (mc == mo) = true := by simpa using hq
                  have HN := Lib.hid (HTK.out (by have := HC0.out; omega) HBB.out hq)
                  clear HSK HTK hq
                  go_wp2
                  go_roundg gl'
                  case measure => exact Nat.lt_succ_self _
                  case rel => exact ⟨j + 1, c, by go_num, by omega, rfl, HN, HB5⟩
                · have a3 : (mc == mo) = false := by simpa using hq
                  have HN := Lib.hid (HSK.out (.inr (.inr hq)))
                  clear HSK HTK hq
                  go_wp2
                  go_roundg gl'
                  case measure => exact Nat.lt_succ_self _
                  case rel => exact ⟨j + 1, bv, by go_num, by omega, rfl, HN, HB5⟩
        · obtain ⟨rfl, rfl⟩ : gk = 0 ∧ j = rs.length := by omega
          have HN := Lib.hid HSJ.out.row
          clear HSJ HROW HSF HB
          go_wp2
          go_roundg gk'
          case measure => exact Nat.lt_succ_self _
          case rel => exact ⟨i + 1, bv, by go_num, by omega, rfl, HN, HBJ⟩
    · obtain ⟨rfl, rfl⟩ : gk = 0 ∧ i = ls.length := by omega
      have HBE := Lib.hid (HB2.out.trans (HB.out.mono HB2.out.size))
      by_cases hz : mo = 0
      · have a0 : (mo == 0) = true := by simpa using hz
        have HE := Lib.hid (HEV.out 0 (IsEv.zero (by rw [← HMOV.out]; exact hz)))
        clear HEV HSF hz
        go_wp2
        go_ret2
        exact ⟨⟨_, _, rfl, HE.out⟩, HBE.out⟩
      · have a0 : (mo == 0) = false := by simpa using hz
        have HE := Lib.hid (HEV.out bv (HSF.out.even (fun i j hi hj => (HCB.out i j hi hj).2) (by rw [← HMOV.out]; omega)))
        clear HEV HSF hz
        go_wp2
        go_ret2
        exact ⟨⟨_, _, rfl, HE.out⟩, HBE.out⟩

end Go.Proofs.Ytchhadkmemckbaa

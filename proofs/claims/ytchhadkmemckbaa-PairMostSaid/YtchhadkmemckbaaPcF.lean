/- Pairs: the reference's Most. -/
import Derived.Test.YtchhadkmemckbaaPbX
import Derived.Test.YtchhadkmemckbaaPbW
import Derived.Test.YtchhadkmemckbaaPaV
namespace Go.Proofs.Ytchhadkmemckbaa
open Go.RowKit
set_option linter.unusedSimpArgs false
set_option linter.unusedVariables false

theorem mstE_good {ls rs : List Gl} {u : Ru} (h1 : sidB ls = true) (h2 : sidB rs = true) (h3 : ruB u = true) : mstE ls rs u = (cntO (lgO (okM (cosT ls rs u) 4000000) ls.length rs.length) rs.length, 0) := by
  unfold mstE
  rw [if_pos (by simp [h1, h2, h3])]

set_option maxRecDepth 100000 in
set_option maxHeartbeats 1600000 in
theorem rMost_any (a a2 : Option Addr) (cap cap2 : Nat) (ls rs : List Gl) (x0 x1 x2 x3 y0 y1 y2 y3 : Int) (hl1 : (ls.length : Int) ≤ 9223372036854775807) (hl2 : (rs.length : Int) ≤ 9223372036854775807) (w : World) (hl : RecS w a ls) (hr : RecS w a2 rs) :
    Calls Try.prog 24 #[.slice a ls.length cap, .slice a2 rs.length cap2, .agg #[.int .i64 x0, .int .i64 x1, .int .i64 x2, .int .i64 x3, .int .i64 y0, .int .i64 y1, .int .i64 y2, .int .i64 y3]] w fun e w' => e = .returned (.tuple #[.int .i64 (mstE ls rs ((x0, x1, x2, x3), (y0, y1, y2, y3))).1, .int .i64 (mstE ls rs ((x0, x1, x2, x3), (y0, y1, y2, y3))).2]) ∧ Below w.heap.size w w' := by
  have HM := Lib.hid ((Mem.nil w).alloc_at (H := w.heap.size) rfl #[.int .i64 x0, .int .i64 x1, .int .i64 x2, .int .i64 x3, .int .i64 y0, .int .i64 y1, .int .i64 y2, .int .i64 y3] 25)
  have k0 := HM.out.cell 0
  have k1 := HM.out.cell 1
  have k2 := HM.out.cell 2
  have k3 := HM.out.cell 3
  have k4 := HM.out.cell 4
  have k5 := HM.out.cell 5
  have k6 := HM.out.cell 6
  have k7 := HM.out.cell 7
  simp at k0 k1 k2 k3 k4 k5 k6 k7
  have HG := Lib.hid (fun w' hb => qGood_any a a2 cap cap2 ls rs x0 x1 x2 x3 y0 y1 y2 y3 hl1 hl2 w' (hl.below (w' := w') hb) (hr.below hb))
  obtain ⟨g0, hg0⟩ : ∃ g0, g0 = (sidB ls && sidB rs && ruB ((x0, x1, x2, x3), (y0, y1, y2, y3))) := ⟨_, rfl⟩
  rw [← hg0] at HG
  cases g0 with
  | false =>
    rw [mstE_bad hg0.symm]
    clear hg0 hl hr
    go_enter Try.func24, Try.ntmps24
    go_wp2_with fail
    refine (HG.out _ HM.out.b).mono ?_
    rintro e w1 ⟨rfl, hb1⟩
    have HB1 := Lib.hid (HM.out.b.trans (hb1.mono HM.out.b.size))
    clear hb1 HM k0 k1 k2 k3 k4 k5 k6 k7
    go_wp2
    go_ret2
    exact ⟨rfl, HB1.out⟩
  | true =>
  have hg1 : (sidB ls = true ∧ sidB rs = true) ∧ ruB ((x0, x1, x2, x3), (y0, y1, y2, y3)) = true := by simpa using hg0.symm
  obtain ⟨⟨h1, h2⟩, h3⟩ := hg1
  have n1 : ls.length ≤ 32 := by unfold sidB at h1; simp at h1; omega
  have n2 : rs.length ≤ 32 := by unfold sidB at h2; simp at h2; omega
  have hC : ∀ i j, i < ls.length → j < rs.length → -1 ≤ cosT ls rs ((x0, x1, x2, x3), (y0, y1, y2, y3)) i j ∧ cosT ls rs ((x0, x1, x2, x3), (y0, y1, y2, y3)) i j ≤ 4000000 := fun i j hi hj => by
    have e : cosT ls rs ((x0, x1, x2, x3), (y0, y1, y2, y3)) i j = costB ls[i] rs[j] ((x0, x1, x2, x3), (y0, y1, y2, y3)) := by unfold cosT; simp [List.getD_eq_getElem?_getD, hi, hj]
    rw [e]
    have o1 : allB ls = true := by unfold sidB at h1; simp at h1; exact h1.2
    have o2 : allB rs = true := by unfold sidB at h2; simp at h2; exact h2.2
    exact costB_range (allB_iff.1 o1 i hi) (allB_iff.1 o2 j hj) h3
  have HTA := Lib.hid (fun w' hb => rTable_yes a a2 cap cap2 ls rs x0 x1 x2 x3 y0 y1 y2 y3 h1 h2 h3 w' (hl.below (w' := w') hb) (hr.below hb))
  rw [mstE_good h1 h2 h3, mtf_okM (fun i j hi hj => (hC i j hi hj).1)]
  obtain ⟨CF, hCF⟩ : ∃ z, z = cosT ls rs ((x0, x1, x2, x3), (y0, y1, y2, y3)) := ⟨_, rfl⟩
  rw [← hCF] at HTA hC ⊢
  have HCB := Lib.hid hC
  obtain ⟨n, hn⟩ : ∃ n, n = mtf CF ls.length rs.length 4000000 := ⟨_, rfl⟩
  rw [← hn]
  have HN := Lib.hid hn
  clear hCF hg0 h1 h2 h3 hl hr hC hn
  go_enter Try.func24, Try.ntmps24
  go_wp2_with fail
  refine (HG.out _ HM.out.b).mono ?_
  rintro e w1 ⟨rfl, hb1⟩
  have HM1 := Lib.hid (HM.out.step hb1)
  clear hb1 HM k0 k1 k2 k3 k4 k5 k6 k7
  have k0 := HM1.out.cell 0
  have k1 := HM1.out.cell 1
  have k2 := HM1.out.cell 2
  have k3 := HM1.out.cell 3
  have k4 := HM1.out.cell 4
  have k5 := HM1.out.cell 5
  have k6 := HM1.out.cell 6
  have k7 := HM1.out.cell 7
  simp at k0 k1 k2 k3 k4 k5 k6 k7
  go_wp2_with fail
  refine (HTA.out _ HM1.out.b).mono ?_
  rintro e w2 ⟨x, cx, rfl, ht, hb2⟩
  have HB2 := Lib.hid (HM1.out.b.trans (hb2.mono HM1.out.b.size))
  have HMO : Hid (Calls Try.prog 53 #[.slice x ls.length cx, .int .i64 rs.length, .int .i64 1000000000] w2 fun e w'' => e = .returned (.int .i64 n) ∧ Below w2.heap.size w2 w'') := Lib.hid (by
    have h := matched_any x cx ls.length rs.length (by omega) (by omega) CF 1000000000 w2 ht
    have e : cntO (lgO (okG CF 1000000000) ls.length rs.length) rs.length = n := by
      rw [HN.out]
      exact mtf_top (fun i j hi hj => (HCB.out i j hi hj).2) (by omega)
    rw [e] at h
    exact h)
  clear ht hb2 HM1 k0 k1 k2 k3 k4 k5 k6 k7 HTA HG
  go_wp2_with fail
  refine HMO.out.mono ?_
  rintro e w3 ⟨rfl, hb3⟩
  have HB3 := Lib.hid (HB2.out.trans (hb3.mono HB2.out.size))
  clear hb3 HMO
  go_wp2
  go_ret2
  exact ⟨rfl, HB3.out⟩

end Go.Proofs.Ytchhadkmemckbaa

/- Pairs: Most. -/
import Derived.Test.YtchhadkmemckbaaPbS
namespace Go.Proofs.Ytchhadkmemckbaa
open Go.RowKit
set_option linter.unusedSimpArgs false
set_option linter.unusedVariables false

/-- What Most answers. -/
def mstE (ls rs : List Gl) (u : Ru) : Int × Int :=
  if sidB ls && sidB rs && ruB u then (cntO (lgO (okM (cosT ls rs u) 4000000) ls.length rs.length) rs.length, 0) else (0, 2)
theorem mstE_take (ls rs : List Gl) (u : Ru) : mstE (ls.take 34) (rs.take 34) u = mstE ls rs u := by
  by_cases h1 : sidB ls = true
  · by_cases h2 : sidB rs = true
    · rw [take34 h1, take34 h2]
    · unfold mstE
      rw [sid34, sid34, show sidB rs = false by simpa using h2, if_neg (by simp), if_neg (by simp)]
  · unfold mstE
    rw [sid34, sid34, show sidB ls = false by simpa using h1, if_neg (by simp), if_neg (by simp)]

set_option maxRecDepth 100000 in
set_option maxHeartbeats 1600000 in
theorem pMost_any (a a2 : Option Addr) (cap cap2 : Nat) (ls rs : List Gl) (x0 x1 x2 x3 y0 y1 y2 y3 : Int) (hl1 : (ls.length : Int) ≤ 9223372036854775807) (hl2 : (rs.length : Int) ≤ 9223372036854775807) (w : World) (hl : RecS w a ls) (hr : RecS w a2 rs) :
    Calls Try.prog 23 #[.slice a ls.length cap, .slice a2 rs.length cap2, .agg #[.int .i64 x0, .int .i64 x1, .int .i64 x2, .int .i64 x3, .int .i64 y0, .int .i64 y1, .int .i64 y2, .int .i64 y3]] w fun e w' => e = .returned (.tuple #[.int .i64 (mstE ls rs ((x0, x1, x2, x3), (y0, y1, y2, y3))).1, .int .i64 (mstE ls rs ((x0, x1, x2, x3), (y0, y1, y2, y3))).2]) ∧ Below w.heap.size w w' := by
  have HM := Lib.hid ((Mem.nil w).alloc_at (H := w.heap.size) rfl #[.int .i64 x0, .int .i64 x1, .int .i64 x2, .int .i64 x3, .int .i64 y0, .int .i64 y1, .int .i64 y2, .int .i64 y3] 32)
  have k0 := HM.out.cell 0
  have k1 := HM.out.cell 1
  have k2 := HM.out.cell 2
  have k3 := HM.out.cell 3
  have k4 := HM.out.cell 4
  have k5 := HM.out.cell 5
  have k6 := HM.out.cell 6
  have k7 := HM.out.cell 7
  simp at k0 k1 k2 k3 k4 k5 k6 k7
  obtain ⟨g0, hg0⟩ : ∃ g0, g0 = (sidB ls && sidB rs && ruB ((x0, x1, x2, x3), (y0, y1, y2, y3))) := ⟨_, rfl⟩
  cases g0 with
  | false =>
    have e : mstE ls rs ((x0, x1, x2, x3), (y0, y1, y2, y3)) = (0, 2) := by unfold mstE; rw [← hg0, if_neg (by simp)]
    rw [e]
    have HL := Lib.hid (fun w' hb => lay_no a a2 cap cap2 ls rs x0 x1 x2 x3 y0 y1 y2 y3 hg0.symm hl1 hl2 w' (hl.below (w' := w') hb) (hr.below hb))
    clear e hg0 hl hr
    go_enter Try.func23, Try.ntmps23
    go_wp2_with fail
    refine (HL.out _ HM.out.b).mono ?_
    rintro e w1 ⟨rfl, hb1⟩
    have HB1 := Lib.hid (HM.out.b.trans (hb1.mono HM.out.b.size))
    clear hb1 HM k0 k1 k2 k3 k4 k5 k6 k7
    go_wp2
    go_ret2
    exact ⟨rfl, HB1.out⟩
  | true =>
  have hg1 : (sidB ls = true ∧ sidB rs = true) ∧ ruB ((x0, x1, x2, x3), (y0, y1, y2, y3)) = true := by simpa using hg0.symm
  obtain ⟨⟨h1, h2⟩, h3⟩ := hg1
  have n1 : ls.length ≤ 32 := by unfold sidB at h1; simp at h1; omega
  have n2 : rs.length ≤ 32 := by unfold sidB at h2; simp at h2; omega
  have HL := Lib.hid (fun w' hb => lay_yes a a2 cap cap2 ls rs x0 x1 x2 x3 y0 y1 y2 y3 h1 h2 h3 w' (hl.below (w' := w') hb) (hr.below hb))
  have e : mstE ls rs ((x0, x1, x2, x3), (y0, y1, y2, y3)) = (cntO (lgO (okM (cosT ls rs ((x0, x1, x2, x3), (y0, y1, y2, y3))) 4000000) ls.length rs.length) rs.length, 0) := by unfold mstE; rw [← hg0, if_pos rfl]
  rw [e]
  obtain ⟨CF, hCF⟩ : ∃ z, z = cosT ls rs ((x0, x1, x2, x3), (y0, y1, y2, y3)) := ⟨_, rfl⟩
  rw [← hCF] at HL ⊢
  obtain ⟨n, hn⟩ : ∃ n, n = cntO (lgO (okM CF 4000000) ls.length rs.length) rs.length := ⟨_, rfl⟩
  rw [← hn]
  have HN := Lib.hid hn
  clear hCF e hg0 h1 h2 h3 hl hr hn
  go_enter Try.func23, Try.ntmps23
  go_wp2_with fail
  refine (HL.out _ HM.out.b).mono ?_
  rintro e w1 ⟨pt, rfl, -, htab, hb1⟩
  have HT := Lib.hid htab
  have HB1 := Lib.hid (HM.out.b.trans (hb1.mono HM.out.b.size))
  have HMO := Lib.hid (most_any pt ls.length rs.length (by omega) (by omega) CF 4000000 w1 htab)
  rw [← HN.out] at HMO
  clear htab hb1 HM HL k0 k1 k2 k3 k4 k5 k6 k7
  go_wp2_with fail
  refine HMO.out.mono ?_
  rintro e w2 ⟨rfl, hb2⟩
  have HB2 := Lib.hid (HB1.out.trans (hb2.mono HB1.out.size))
  clear hb2 HMO HB1
  go_wp2
  go_ret2
  exact ⟨rfl, HB2.out⟩

end Go.Proofs.Ytchhadkmemckbaa

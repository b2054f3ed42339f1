/- Pairs: the reference's Weigh. -/
import Derived.Test.YtchhadkmemckbaaPaV
namespace Go.Proofs.Ytchhadkmemckbaa
open Go.RowKit
set_option linter.unusedSimpArgs false
set_option linter.unusedVariables false

theorem wghE_take (ls rs : List Gl) (u : Ru) (m : List Int) : wghE (ls.take 34) (rs.take 34) u m = wghE ls rs u m := by
  by_cases h1 : sidB ls = true
  · by_cases h2 : sidB rs = true
    · rw [take34 h1, take34 h2]
    · unfold wghE
      rw [sid34, sid34, show sidB rs = false by simpa using h2, Bool.and_false, Bool.false_and]
      rfl
  · unfold wghE
    rw [sid34, sid34, show sidB ls = false by simpa using h1, Bool.false_and, Bool.false_and]
    rfl

set_option maxRecDepth 100000 in
set_option maxHeartbeats 3200000 in
theorem rWeigh_any (a a2 a3 : Option Addr) (cap cap2 cap3 : Nat) (ls rs : List Gl) (x0 x1 x2 x3 y0 y1 y2 y3 : Int) (m : List Int) (hl1 : (ls.length : Int) ≤ 9223372036854775807) (hl2 : (rs.length : Int) ≤ 9223372036854775807) (w : World) (hl : RecS w a ls) (hr : RecS w a2 rs) (hk : IntK w a3 m) :
    Calls Try.prog 22 #[.slice a ls.length cap, .slice a2 rs.length cap2, .agg #[.int .i64 x0, .int .i64 x1, .int .i64 x2, .int .i64 x3, .int .i64 y0, .int .i64 y1, .int .i64 y2, .int .i64 y3], .slice a3 m.length cap3] w fun e w' => e = .returned (.tuple #[.int .i64 (wghE ls rs ((x0, x1, x2, x3), (y0, y1, y2, y3)) m).1, .int .i64 (wghE ls rs ((x0, x1, x2, x3), (y0, y1, y2, y3)) m).2.1, .int .i64 (wghE ls rs ((x0, x1, x2, x3), (y0, y1, y2, y3)) m).2.2]) ∧ Below w.heap.size w w' := by
  have HM := Lib.hid ((Mem.nil w).alloc_at (H := w.heap.size) rfl #[.int .i64 x0, .int .i64 x1, .int .i64 x2, .int .i64 x3, .int .i64 y0, .int .i64 y1, .int .i64 y2, .int .i64 y3] 25)
  have k0 := HM.out.cell 0
  have k1 := HM.out.cell 1
  have k2 := HM.out.cell 2
  have k3 := HM.out.cell 3
  have k4 := HM.out.cell 4
  have k5 := HM.out.cell 5
  have k6 := HM.out.cell 6
  have k7 := HM.out.cell 7
  simp at k0 k1 k2 k3 k4 k5 k6 k7
  have HG := Lib.hid (fun w' hb => qGood_any a a2 cap cap2 ls rs x0 x1 x2 x3 y0 y1 y2 y3 hl1 hl2 w' (hl.below (w' := w') hb) (hr.below hb))
  obtain ⟨g0, hg0⟩ : ∃ g0, g0 = (sidB ls && sidB rs && ruB ((x0, x1, x2, x3), (y0, y1, y2, y3))) := ⟨_, rfl⟩
  rw [← hg0] at HG
  cases g0 with
  | false =>
    have e : wghE ls rs ((x0, x1, x2, x3), (y0, y1, y2, y3)) m = (0, 0, 2) := by unfold wghE; rw [← hg0]; rfl
    rw [e]
    clear e hg0 hl hr hk
    go_enter Try.func22, Try.ntmps22
    go_wp2_with fail
    refine (HG.out _ HM.out.b).mono ?_
    rintro e w1 ⟨rfl, hb1⟩
    have HB1 := Lib.hid (HM.out.b.trans (hb1.mono HM.out.b.size))
    clear hb1 HM k0 k1 k2 k3 k4 k5 k6 k7
    go_wp2
    go_ret3
    exact ⟨rfl, HB1.out⟩
  | true =>
  have hg1 : (sidB ls = true ∧ sidB rs = true) ∧ ruB ((x0, x1, x2, x3), (y0, y1, y2, y3)) = true := by simpa using hg0.symm
  obtain ⟨⟨h1, h2⟩, h3⟩ := hg1
  have n1 : ls.length ≤ 32 := by unfold sidB at h1; simp at h1; omega
  have n2 : rs.length ≤ 32 := by unfold sidB at h2; simp at h2; omega
  have hC : ∀ i j, i < ls.length → j < rs.length → -1 ≤ cosT ls rs ((x0, x1, x2, x3), (y0, y1, y2, y3)) i j ∧ cosT ls rs ((x0, x1, x2, x3), (y0, y1, y2, y3)) i j ≤ 4000000 := fun i j hi hj => by
    have e : cosT ls rs ((x0, x1, x2, x3), (y0, y1, y2, y3)) i j = costB ls[i] rs[j] ((x0, x1, x2, x3), (y0, y1, y2, y3)) := by unfold cosT; simp [List.getD_eq_getElem?_getD, hi, hj]
    rw [e]
    have o1 : allB ls = true := by unfold sidB at h1; simp at h1; exact h1.2
    have o2 : allB rs = true := by unfold sidB at h2; simp at h2; exact h2.2
    exact costB_range (allB_iff.1 o1 i hi) (allB_iff.1 o2 j hj) h3
  have HTA := Lib.hid (fun w' hb => rTable_yes a a2 cap cap2 ls rs x0 x1 x2 x3 y0 y1 y2 y3 h1 h2 h3 w' (hl.below (w' := w') hb) (hr.below hb))
  have HKK := Lib.hid (fun w' hb => hk.below (w' := w') hb)
  have hE : wghE ls rs ((x0, x1, x2, x3), (y0, y1, y2, y3)) m = if m.length = ls.length then (match wgF (cosT ls rs ((x0, x1, x2, x3), (y0, y1, y2, y3))) rs.length m 0 (fun _ => -1) 0 0 with | some (_, s, c) => (s, c, (0 : Int)) | none => ((0 : Int), (0 : Int), (6 : Int))) else ((0 : Int), (0 : Int), (3 : Int)) := by unfold wghE; rw [← hg0]; rfl
  rw [hE]
  obtain ⟨CF, hCF⟩ : ∃ z, z = cosT ls rs ((x0, x1, x2, x3), (y0, y1, y2, y3)) := ⟨_, rfl⟩
  rw [← hCF] at HTA hC ⊢
  have HCB := Lib.hid hC
  clear hCF hE hg0 h1 h2 h3 hl hr hk hC
  obtain ⟨RES, hRES⟩ : ∃ z, z = (if m.length = ls.length then (match wgF CF rs.length m 0 (fun _ => -1) 0 0 with | some (_, s, c) => (s, c, (0 : Int)) | none => ((0 : Int), (0 : Int), (6 : Int))) else ((0 : Int), (0 : Int), (3 : Int)) : Int × Int × Int) := ⟨_, rfl⟩
  rw [← hRES]
  have HRES := Lib.hid hRES
  clear hRES
  by_cases hlen : m.length = ls.length
  · have hres := HRES.out
    rw [if_pos hlen] at hres
    have t0 : ((m.length : Int) != (ls.length : Int)) = false := by simp; omega
    have HLE := Lib.hid hlen
    clear hlen HRES
    go_enter Try.func22, Try.ntmps22
    go_wp2_with fail
    refine (HG.out _ HM.out.b).mono ?_
    rintro e w1 ⟨rfl, hb1⟩
    have HM1 := Lib.hid (HM.out.step hb1)
    clear hb1 HM k0 k1 k2 k3 k4 k5 k6 k7
    have k0 := HM1.out.cell 0
    have k1 := HM1.out.cell 1
    have k2 := HM1.out.cell 2
    have k3 := HM1.out.cell 3
    have k4 := HM1.out.cell 4
    have k5 := HM1.out.cell 5
    have k6 := HM1.out.cell 6
    have k7 := HM1.out.cell 7
    simp at k0 k1 k2 k3 k4 k5 k6 k7
    go_wp2_with fail
    refine (HTA.out _ HM1.out.b).mono ?_
    rintro e w2 ⟨x, cx, rfl, ht, hb2⟩
    have HB2 := Lib.hid (HM1.out.b.trans (hb2.mono HM1.out.b.size))
    have HWD := Lib.hid (weighed_any ls.length rs.length n1 n2 CF HCB.out x a3 cx cap3 m HLE.out w2 ht (HKK.out _ HB2.out))
    clear ht hb2 HM1 k0 k1 k2 k3 k4 k5 k6 k7
    obtain ⟨r, hr⟩ : ∃ r, r = wgF CF rs.length m 0 (fun _ => -1) 0 0 := ⟨_, rfl⟩
    rw [← hr] at HWD hres
    clear hr
    cases r with
    | none =>
      simp only at hres
      subst hres
      rw [wgdR_none] at HWD
      go_wp2_with fail
      refine HWD.out.mono ?_
      rintro e w3 ⟨rfl, hb3⟩
      have HB3 := Lib.hid (HB2.out.trans (hb3.mono HB2.out.size))
      clear hb3 HWD t0
      go_wp2
      go_ret3
      exact ⟨rfl, HB3.out⟩
    | some y =>
      obtain ⟨o, s, c⟩ := y
      simp only at hres
      subst hres
      rw [wgdR_some] at HWD
      go_wp2_with fail
      refine HWD.out.mono ?_
      rintro e w3 ⟨rfl, hb3⟩
      have HB3 := Lib.hid (HB2.out.trans (hb3.mono HB2.out.size))
      clear hb3 HWD t0
      go_wp2
      go_ret3
      exact ⟨rfl, HB3.out⟩
  · have hres := HRES.out
    rw [if_neg hlen] at hres
    have t0 : ((m.length : Int) != (ls.length : Int)) = true := by simp; omega
    subst hres
    clear hlen HRES
    go_enter Try.func22, Try.ntmps22
    go_wp2_with fail
    refine (HG.out _ HM.out.b).mono ?_
    rintro e w1 ⟨rfl, hb1⟩
    have HM1 := Lib.hid (HM.out.step hb1)
    clear hb1 HM k0 k1 k2 k3 k4 k5 k6 k7
    go_wp2
    go_ret3
    exact ⟨rfl, HM1.out.b⟩

end Go.Proofs.Ytchhadkmemckbaa

/- Pairs: Weigh. -/
import Derived.Test.YtchhadkmemckbabPaT
namespace Go.Proofs.Ytchhadkmemckbab
open Go.RowKit
set_option linter.unusedSimpArgs false
set_option linter.unusedVariables false

set_option maxRecDepth 100000 in
set_option maxHeartbeats 1600000 in
theorem weigh_any (a a2 a3 : Option Addr) (cap cap2 cap3 : Nat) (ls rs : List Gl) (x0 x1 x2 x3 y0 y1 y2 y3 : Int) (m : List Int) (hl1 : (ls.length : Int) ≤ 9223372036854775807) (hl2 : (rs.length : Int) ≤ 9223372036854775807) (w : World) (hl : RecS w a ls) (hr : RecS w a2 rs) (hk : IntK w a3 m) :
    Calls Try.prog 15 #[.slice a ls.length cap, .slice a2 rs.length cap2, .agg #[.int .i64 x0, .int .i64 x1, .int .i64 x2, .int .i64 x3, .int .i64 y0, .int .i64 y1, .int .i64 y2, .int .i64 y3], .slice a3 m.length cap3] w fun e w' => e = .returned (.tuple #[.int .i64 (wghE ls rs ((x0, x1, x2, x3), (y0, y1, y2, y3)) m).1, .int .i64 (wghE ls rs ((x0, x1, x2, x3), (y0, y1, y2, y3)) m).2.1, .int .i64 (wghE ls rs ((x0, x1, x2, x3), (y0, y1, y2, y3)) m).2.2]) ∧ Below w.heap.size w w' := by
  have HM := Lib.hid ((Mem.nil w).alloc_at (H := w.heap.size) rfl #[.int .i64 x0, .int .i64 x1, .int .i64 x2, .int .i64 x3, .int .i64 y0, .int .i64 y1, .int .i64 y2, .int .i64 y3] 34)
  have k0 := HM.out.cell 0
  have k1 := HM.out.cell 1
  have k2 := HM.out.cell 2
  have k3 := HM.out.cell 3
  have k4 := HM.out.cell 4
  have k5 := HM.out.cell 5
  have k6 := HM.out.cell 6
  have k7 := HM.out.cell 7
  simp at k0 k1 k2 k3 k4 k5 k6 k7
  obtain ⟨g0, hg0⟩ : ∃ g0, g0 = (sidB ls && sidB rs && ruB ((x0, x1, x2, x3), (y0, y1, y2, y3))) := ⟨_, rfl⟩
  cases g0 with
  | false =>
    have e : wghE ls rs ((x0, x1, x2, x3), (y0, y1, y2, y3)) m = (0, 0, 2) := by unfold wghE; rw [← hg0]; rfl
    rw [e]
    have HL := Lib.hid (fun w' hb => lay_no a a2 cap cap2 ls rs x0 x1 x2 x3 y0 y1 y2 y3 hg0.symm hl1 hl2 w' (hl.below (w' := w') hb) (hr.below hb))
    clear e hg0 hl hr hk
    go_enter Try.func15, Try.ntmps15
    go_wp2_with fail
    refine (HL.out _ HM.out.b).mono ?_
    rintro e w1 ⟨rfl, hb1⟩
    have HB1 := Lib.hid (HM.out.b.trans (hb1.mono HM.out.b.size))
    clear hb1 HM k0 k1 k2 k3 k4 k5 k6 k7
    go_wp2
    go_ret3
    exact ⟨rfl, HB1.out⟩
  | true =>
  have hg1 : (sidB ls = true ∧ sidB rs = true) ∧ ruB ((x0, x1, x2, x3), (y0, y1, y2, y3)) = true := by simpa using hg0.symm
  obtain ⟨⟨h1, h2⟩, h3⟩ := hg1
  have n1 : ls.length ≤ 32 := by unfold sidB at h1; simp at h1; omega
  have n2 : rs.length ≤ 32 := by unfold sidB at h2; simp at h2; omega
  have hC : ∀ i j, i < ls.length → j < rs.length → -1 ≤ cosT ls rs ((x0, x1, x2, x3), (y0, y1, y2, y3)) i j ∧ cosT ls rs ((x0, x1, x2, x3), (y0, y1, y2, y3)) i j ≤ 4000000 := fun i j hi hj => by
    have e : cosT ls rs ((x0, x1, x2, x3), (y0, y1, y2, y3)) i j = costB ls[i] rs[j] ((x0, x1, x2, x3), (y0, y1, y2, y3)) := by unfold cosT; simp [List.getD_eq_getElem?_getD, hi, hj]
    rw [e]
    have o1 : allB ls = true := by unfold sidB at h1; simp at h1; exact h1.2
    have o2 : allB rs = true := by unfold sidB at h2; simp at h2; exact h2.2
    exact costB_range (allB_iff.1 o1 i hi) (allB_iff.1 o2 j hj) h3
  have HL := Lib.hid (fun w' hb => lay_yes a a2 cap cap2 ls rs x0 x1 x2 x3 y0 y1 y2 y3 h1 h2 h3 w' (hl.below (w' := w') hb) (hr.below hb))
  have HKK := Lib.hid (fun w' hb => hk.below (w' := w') hb)
  have hE : wghE ls rs ((x0, x1, x2, x3), (y0, y1, y2, y3)) m = if m.length = ls.length then (match wgF (cosT ls rs ((x0, x1, x2, x3), (y0, y1, y2, y3))) rs.length m 0 (fun _ => -1) 0 0 with | some (_, s, c) => (s, c, (0 : Int)) | none => ((0 : Int), (0 : Int), (6 : Int))) else ((0 : Int), (0 : Int), (3 : Int)) := by unfold wghE; rw [← hg0]; rfl
  rw [hE]
  obtain ⟨CF, hCF⟩ : ∃ z, z = cosT ls rs ((x0, x1, x2, x3), (y0, y1, y2, y3)) := ⟨_, rfl⟩
  rw [← hCF] at HL hC ⊢
  have HCB := Lib.hid hC
  clear hCF hE hg0 h1 h2 h3 hl hr hk hC
  obtain ⟨RES, hRES⟩ : ∃ z, z = (if m.length = ls.length then (match wgF CF rs.length m 0 (fun _ => -1) 0 0 with | some (_, s, c) => (s, c, (0 : Int)) | none => ((0 : Int), (0 : Int), (6 : Int))) else ((0 : Int), (0 : Int), (3 : Int)) : Int × Int × Int) := ⟨_, rfl⟩
  rw [← hRES]
  have HRES := Lib.hid hRES
  clear hRES
  go_enter Try.func15, Try.ntmps15
  go_wp2_with fail
  refine (HL.out _ HM.out.b).mono ?_
  rintro e w1 ⟨pt, rfl, -, htab, hb1⟩
  have HT := Lib.hid htab
  have HB1 := Lib.hid (HM.out.b.trans (hb1.mono HM.out.b.size))
  clear htab hb1 HM HL k0 k1 k2 k3 k4 k5 k6 k7
  by_cases hlen : m.length = ls.length
  · have HOW := Lib.hid (owners_any pt ls.length rs.length (by omega) (by omega) CF a3 cap3 m hlen w1 HT.out (HKK.out _ HB1.out))
    have hres := HRES.out
    rw [if_pos hlen] at hres
    obtain ⟨r, hr⟩ : ∃ r, r = wgF CF rs.length m 0 (fun _ => -1) 0 0 := ⟨_, rfl⟩
    rw [← hr] at HOW hres
    have HWG := Lib.hid hr
    have HLE := Lib.hid hlen
    clear hr hlen
    cases r with
    | none =>
      simp only at hres
      subst hres
      clear HRES
      rw [ownR_none] at HOW
      go_wp2_with fail
      refine HOW.out.mono ?_
      rintro e w2 ⟨rfl, -, hb2⟩
      have HB2 := Lib.hid (HB1.out.trans (hb2.mono HB1.out.size))
      clear hb2 HOW
      go_wp2
      go_ret3
      exact ⟨rfl, HB2.out⟩
    | some x =>
      obtain ⟨o, s, c⟩ := x
      simp only at hres
      subst hres
      clear HRES
      rw [ownR_some] at HOW
      have HOO := Lib.hid (wg_own m 0 _ 0 0 o s c HWG.out.symm (fun j => .inl rfl))
      have HSC := Lib.hid (wg_inv m 0 _ 0 0 o s c HWG.out.symm (by
        have : ∀ n, (0 : Int) = cntO (fun _ => -1) n := fun n => by induction n with | zero => rfl | succ n ih => simp [cntO, ← ih]
        exact this _) (by
        have : ∀ n, (0 : Int) = cstO CF (fun _ => -1) n := fun n => by induction n with | zero => rfl | succ n ih => simp [cstO, ← ih]
        exact this _))
      have HBD := Lib.hid (cst_bound HCB.out (o := o) (fun j => by have := HOO.out j; rw [Nat.zero_add, HLE.out] at this; exact this))
      go_wp2_with fail
      refine HOW.out.mono ?_
      rintro e w2 ⟨rfl, hh, hb2⟩
      have HO2 := Lib.hid (hh o s c rfl)
      have HT2 := Lib.hid (HT.out.below hb2)
      have HB2 := Lib.hid (HB1.out.trans (hb2.mono HB1.out.size))
      obtain ⟨p, hp⟩ : ∃ z, z = w1.heap.size + 1 := ⟨_, rfl⟩
      rw [← hp] at HO2 ⊢
      clear hh hb2 HOW HT HB1 hp HCB HKK
      go_wp2_with fail
      go_loopg [14, 15, 39] rs.length (fun gk a b x wr => ∃ (k : Nat), x = .int .i64 k ∧ k + gk = rs.length ∧ (∃ S : Int, a = .int .i64 S ∧ Hid (S = cntO o k)) ∧ (∃ V : Int, b = .int .i64 V ∧ Hid (V = cstO CF o k)) ∧ wr = w2)
      case atStart => exact ⟨0, rfl, by omega, ⟨0, rfl, Lib.hid rfl⟩, ⟨0, rfl, Lib.hid rfl⟩, rfl⟩
      case round =>
        obtain ⟨k, rfl, hk, ⟨S, rfl, HS⟩, ⟨V, rfl, HV⟩, rfl⟩ := hrel
        by_cases hlt : k < rs.length
        · obtain ⟨gk', rfl⟩ : ∃ m, gk = m + 1 := ⟨gk - 1, by omega⟩
          have hlt' : (k : Int) < rs.length := by omega
          have hk0 : (0 : Int) ≤ k := by omega
          have c0 := (blkc HO2.out k).trans (cA_get hlt)
          have l0 := block_lt HO2.out
          have hoo := HOO.out k
          rw [Nat.zero_add, HLE.out] at hoo
          have hbd := HBD.out k (by omega)
          have hbd2 := HBD.out (k + 1) (by omega)
          have hsn : cntO o (k + 1) = S + (if o k = -1 then 0 else 1) := by rw [HS.out]; rfl
          have hvn : cstO CF o (k + 1) = V + (if o k = -1 then 0 else CF (o k).toNat k) := by rw [HV.out]; rfl
          rw [← HS.out, ← HV.out] at hbd
          rw [hsn, hvn] at hbd2
          obtain ⟨ov, hov⟩ : ∃ z, z = o k := ⟨_, rfl⟩
          rw [← hov] at c0 hoo hsn hvn hbd2
          clear hov HS HV
          by_cases ho : ov = -1
          · subst ho
            rw [if_pos rfl, Int.add_zero] at hsn hvn
            have HS := Lib.hid hsn.symm
            have HV := Lib.hid hvn.symm
            clear hsn hvn hbd hbd2 hoo
            go_wp2
            go_roundg gk'
            case measure => exact Nat.lt_succ_self _
            case rel => exact ⟨k + 1, by go_num, by omega, ⟨S, rfl, HS⟩, ⟨V, rfl, HV⟩, rfl⟩
          · rw [if_neg ho] at hsn hvn hbd2
            rw [if_neg ho] at hbd2
            obtain ⟨i, rfl⟩ := Int.eq_ofNat_of_zero_le (show 0 ≤ ov by omega)
            rw [Int.toNat_natCast] at hvn hbd2
            have hiL : i < ls.length := by omega
            have hi2 : (i : Int) < ls.length := by omega
            have hi0 : (0 : Int) ≤ i := by omega
            obtain ⟨x, cp, e2, hrw⟩ := HT2.out.c2
            obtain ⟨B, mi, rfl, m1, d1, m2, hd⟩ := hrw i hiL
            have d2 := hd k hlt
            have tl := HT2.out.lt
            obtain ⟨q, hq⟩ : ∃ z, z = CF i k := ⟨_, rfl⟩
            rw [← hq] at d2 hvn hbd2
            have HS := Lib.hid hsn.symm
            have HV := Lib.hid hvn.symm
            have v1 : IntKind.i64.wrap (S + 1) = S + 1 := IntWalk.i64_in _ (by omega)
            have v2 : IntKind.i64.wrap (V + q) = V + q := IntWalk.i64_in _ (by omega)
            have t1 : ((i : Int) != -1) = true := by simp; try omega
            clear hsn hvn hbd hbd2 hoo hq hd hrw ho
            go_wp2
            go_roundg gk'
            case measure => exact Nat.lt_succ_self _
            case rel => exact ⟨k + 1, by go_num, by omega, ⟨S + 1, rfl, HS⟩, ⟨V + q, rfl, HV⟩, rfl⟩
        · obtain ⟨rfl, rfl⟩ : gk = 0 ∧ k = rs.length := by omega
          obtain rfl : S = s := HS.out.trans HSC.out.1.symm
          obtain rfl : V = c := HV.out.trans HSC.out.2.symm
          go_wp2
          go_ret3
          exact ⟨rfl, HB2.out⟩
  · have HOW := Lib.hid (owners_size pt ls.length rs.length CF a3 cap3 m hlen w1 HT.out)
    have hres := HRES.out
    rw [if_neg hlen] at hres
    subst hres
    clear HRES
    go_wp2_with fail
    refine HOW.out.mono ?_
    rintro e w2 ⟨rfl, hb2⟩
    have HB2 := Lib.hid (HB1.out.trans (hb2.mono HB1.out.size))
    clear hb2 HOW
    go_wp2
    go_ret3
    exact ⟨rfl, HB2.out⟩

end Go.Proofs.Ytchhadkmemckbab

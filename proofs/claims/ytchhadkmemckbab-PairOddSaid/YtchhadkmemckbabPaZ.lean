/- Pairs: Pairs. -/
import Derived.Test.YtchhadkmemckbabPaY
import Derived.Test.YtchhadkmemckbabPaT
namespace Go.Proofs.Ytchhadkmemckbab
open Go.RowKit
set_option linter.unusedSimpArgs false
set_option linter.unusedVariables false

/-- A matching read glove by glove: how many have partners. none: it is none. -/
def pgF (C : Nat → Nat → Int) (L : Nat) (mm : List Int) : List Int → Nat → Int → Option Int
  | [], _, n => some n
  | j :: t, i, n =>
    if j = -1 then pgF C L mm t (i + 1) n
    else if 0 ≤ j ∧ j < L ∧ C i j.toNat ≠ -1 ∧ mm.getD j.toNat 0 = i then pgF C L mm t (i + 1) (n + 1)
    else none
theorem pg_bound {C : Nat → Nat → Int} {L : Nat} {mm : List Int} : ∀ (t : List Int) (i : Nat) (n n' : Int), pgF C L mm t i n = some n' → 0 ≤ n → n ≤ i → 0 ≤ n' ∧ n' ≤ (i + t.length : Nat)
  | [], i, n, n', h, h0, h1 => by
    simp only [pgF, Option.some.injEq] at h
    simp only [List.length_nil]
    omega
  | j :: t, i, n, n', h, h0, h1 => by
    unfold pgF at h
    simp only [List.length_cons]
    split at h
    · have := pg_bound t (i + 1) n n' h h0 (by omega)
      omega
    · split at h
      · have := pg_bound t (i + 1) (n + 1) n' h (by omega) (by omega)
        omega
      · simp at h
/-- What Pairs answers. -/
def pairE (hs : List Gl) (u : Ru) (m : List Int) : Int × Int :=
  if sidB hs && ruB u then
    if m.length = hs.length then
      match pgF (dgF (cosT hs hs u)) hs.length m m 0 0 with
      | some n => (n.tdiv 2, 0)
      | none => (0, 6)
    else (0, 3)
  else (0, 2)

set_option maxRecDepth 100000 in
set_option maxHeartbeats 1600000 in
theorem pile_no (a : Option Addr) (cap : Nat) (hs : List Gl) (x0 x1 x2 x3 y0 y1 y2 y3 : Int) (h0 : (sidB hs && ruB ((x0, x1, x2, x3), (y0, y1, y2, y3))) = false) (hl1 : (hs.length : Int) ≤ 9223372036854775807) (w : World) (hl : RecS w a hs) :
    Calls Try.prog 42 #[.slice a hs.length cap, .agg #[.int .i64 x0, .int .i64 x1, .int .i64 x2, .int .i64 x3, .int .i64 y0, .int .i64 y1, .int .i64 y2, .int .i64 y3]] w fun e w' => e = .returned (.tuple #[.pointer none, .int .i64 2]) ∧ Below w.heap.size w w' := by
  have HLAY := Lib.hid (fun w' hb => lay_no a a cap cap hs hs x0 x1 x2 x3 y0 y1 y2 y3 (by cases h : sidB hs <;> simp_all) hl1 hl1 w' (hl.below (w' := w') hb) (hl.below hb))
  clear h0 hl
  have HM := Lib.hid ((Mem.nil w).alloc_at (H := w.heap.size) rfl #[.int .i64 x0, .int .i64 x1, .int .i64 x2, .int .i64 x3, .int .i64 y0, .int .i64 y1, .int .i64 y2, .int .i64 y3] 34)
  have k0 := HM.out.cell 0
  have k1 := HM.out.cell 1
  have k2 := HM.out.cell 2
  have k3 := HM.out.cell 3
  have k4 := HM.out.cell 4
  have k5 := HM.out.cell 5
  have k6 := HM.out.cell 6
  have k7 := HM.out.cell 7
  simp at k0 k1 k2 k3 k4 k5 k6 k7
  go_enter Try.func42, Try.ntmps42
  go_wp2_with fail
  refine (HLAY.out _ HM.out.b).mono ?_
  rintro e w1 ⟨rfl, hb1⟩
  have HB1 := Lib.hid (HM.out.b.trans (hb1.mono HM.out.b.size))
  clear hb1 HM k0 k1 k2 k3 k4 k5 k6 k7 HLAY
  go_wp2
  go_ret2
  exact ⟨rfl, HB1.out⟩

set_option maxRecDepth 100000 in
set_option maxHeartbeats 3200000 in
theorem pairs_any (a a3 : Option Addr) (cap cap3 : Nat) (hs : List Gl) (x0 x1 x2 x3 y0 y1 y2 y3 : Int) (m : List Int) (hl1 : (hs.length : Int) ≤ 9223372036854775807) (w : World) (hl : RecS w a hs) (hk : IntK w a3 m) :
    Calls Try.prog 21 #[.slice a hs.length cap, .agg #[.int .i64 x0, .int .i64 x1, .int .i64 x2, .int .i64 x3, .int .i64 y0, .int .i64 y1, .int .i64 y2, .int .i64 y3], .slice a3 m.length cap3] w fun e w' => e = .returned (.tuple #[.int .i64 (pairE hs ((x0, x1, x2, x3), (y0, y1, y2, y3)) m).1, .int .i64 (pairE hs ((x0, x1, x2, x3), (y0, y1, y2, y3)) m).2]) ∧ Below w.heap.size w w' := by
  have HM := Lib.hid ((Mem.nil w).alloc_at (H := w.heap.size) rfl #[.int .i64 x0, .int .i64 x1, .int .i64 x2, .int .i64 x3, .int .i64 y0, .int .i64 y1, .int .i64 y2, .int .i64 y3] 34)
  have k0 := HM.out.cell 0
  have k1 := HM.out.cell 1
  have k2 := HM.out.cell 2
  have k3 := HM.out.cell 3
  have k4 := HM.out.cell 4
  have k5 := HM.out.cell 5
  have k6 := HM.out.cell 6
  have k7 := HM.out.cell 7
  simp at k0 k1 k2 k3 k4 k5 k6 k7
  obtain ⟨g0, hg0⟩ : ∃ g0, g0 = (sidB hs && ruB ((x0, x1, x2, x3), (y0, y1, y2, y3))) := ⟨_, rfl⟩
  cases g0 with
  | false =>
    have e : pairE hs ((x0, x1, x2, x3), (y0, y1, y2, y3)) m = (0, 2) := by unfold pairE; rw [← hg0]; rfl
    rw [e]
    have HL := Lib.hid (fun w' hb => pile_no a cap hs x0 x1 x2 x3 y0 y1 y2 y3 hg0.symm hl1 w' (hl.below (w' := w') hb))
    clear e hg0 hl hk
    go_enter Try.func21, Try.ntmps21
    go_wp2_with fail
    refine (HL.out _ HM.out.b).mono ?_
    rintro e w1 ⟨rfl, hb1⟩
    have HB1 := Lib.hid (HM.out.b.trans (hb1.mono HM.out.b.size))
    clear hb1 HM k0 k1 k2 k3 k4 k5 k6 k7
    go_wp2
    go_ret2
    exact ⟨rfl, HB1.out⟩
  | true =>
  have hg1 : sidB hs = true ∧ ruB ((x0, x1, x2, x3), (y0, y1, y2, y3)) = true := by simpa using hg0.symm
  obtain ⟨h1, h3⟩ := hg1
  have n1 : hs.length ≤ 32 := by unfold sidB at h1; simp at h1; omega
  have HL := Lib.hid (fun w' hb => pile_yes a cap hs x0 x1 x2 x3 y0 y1 y2 y3 h1 h3 w' (hl.below (w' := w') hb))
  have HK := Lib.hid hk
  have hE : pairE hs ((x0, x1, x2, x3), (y0, y1, y2, y3)) m = if m.length = hs.length then (match pgF (dgF (cosT hs hs ((x0, x1, x2, x3), (y0, y1, y2, y3)))) hs.length m m 0 0 with | some n => (n.tdiv 2, (0 : Int)) | none => ((0 : Int), (6 : Int))) else ((0 : Int), (3 : Int)) := by unfold pairE; rw [← hg0]; rfl
  rw [hE]
  obtain ⟨CF, hCF⟩ : ∃ z, z = dgF (cosT hs hs ((x0, x1, x2, x3), (y0, y1, y2, y3))) := ⟨_, rfl⟩
  rw [← hCF] at HL ⊢
  clear hCF hE hg0 h1 h3 hl hk
  obtain ⟨RES, hRES⟩ : ∃ z, z = (if m.length = hs.length then (match pgF CF hs.length m m 0 0 with | some n => (n.tdiv 2, (0 : Int)) | none => ((0 : Int), (6 : Int))) else ((0 : Int), (3 : Int)) : Int × Int) := ⟨_, rfl⟩
  rw [← hRES]
  have HRES := Lib.hid hRES
  clear hRES
  go_enter Try.func21, Try.ntmps21
  go_wp2_with fail
  refine (HL.out _ HM.out.b).mono ?_
  rintro e w1 ⟨pt, rfl, htab, hb1⟩
  have HT := Lib.hid htab
  have HB1 := Lib.hid (HM.out.b.trans (hb1.mono HM.out.b.size))
  clear htab hb1 HM HL k0 k1 k2 k3 k4 k5 k6 k7
  by_cases hlen : m.length = hs.length
  · have hres := HRES.out
    rw [if_pos hlen] at hres
    have t0 : ((m.length : Int) != (hs.length : Int)) = false := by simp; omega
    obtain ⟨r, hr⟩ : ∃ r, r = pgF CF hs.length m m 0 0 := ⟨_, rfl⟩
    rw [← hr] at hres
    have HR0 : Hid (pgF CF hs.length m (m.drop 0) 0 0 = r) := Lib.hid hr.symm
    have HRS := Lib.hid hres
    have HLE := Lib.hid hlen
    clear hr hres HRES hlen
    go_wp2_with fail
    clear t0
    go_loopg [10, 29] hs.length (fun gk sa x wr => ∃ (k : Nat) (n : Int), x = .int .i64 k ∧ k + gk = hs.length ∧ sa = .int .i64 n ∧ (0 ≤ n ∧ n ≤ k) ∧ Hid (pgF CF hs.length m (m.drop k) k n = r) ∧ Hid (Below w1.heap.size w1 wr))
    case atStart => exact ⟨0, 0, rfl, by omega, rfl, by omega, HR0, Lib.hid (Below.refl _ _)⟩
    case round =>
      obtain ⟨k, n, rfl, hk, rfl, hn, HP, HI⟩ := hrel
      have hml := HLE.out
      by_cases hlt : k < hs.length
      · obtain ⟨gk', rfl⟩ : ∃ m, gk = m + 1 := ⟨gk - 1, by omega⟩
        have hlt' : (k : Int) < m.length := by omega
        have hlm : k < m.length := by omega
        have hk0 : (0 : Int) ≤ k := by omega
        have HKW := Lib.hid (HK.out.below HB1.out)
        obtain ⟨b, off, hab, hb, d0⟩ := HKW.out.at_ hlm
        have e0 := (HI.out.cell (p := ⟨b, off + k, none⟩) hb).trans d0
        have l1 := Nat.lt_of_lt_of_le hb HI.out.size
        have HOT : Hid (∀ j (hj : j < m.length), wr.cell? ⟨b, off + j, none⟩ = some (.int .i64 (m.getD j 0))) := Lib.hid (fun j hj => by
          obtain ⟨b', off', hab', hb', d'⟩ := HKW.out.at_ hj
          rw [hab] at hab'
          simp only [Option.some.injEq, Addr.mk.injEq, and_true] at hab'
          obtain ⟨rfl, rfl⟩ := hab'
          rw [(HI.out.cell (p := ⟨b, off + j, none⟩) hb').trans d', List.getD_eq_getElem?_getD, List.getElem?_eq_getElem hj]
          rfl)
        have hp := HP.out
        rw [List.drop_eq_getElem_cons hlm] at hp
        obtain ⟨v, hv⟩ : ∃ v, v = m[k] := ⟨_, rfl⟩
        rw [← hv] at e0 hp
        subst hab
        clear hv d0 hml HKW
        unfold pgF at hp
        by_cases hv1 : v = -1
        · rw [if_pos hv1] at hp
          have HN := Lib.hid hp
          subst hv1
          clear hp HP
          go_wp2
          go_roundg gk'
          case measure => exact Nat.lt_succ_self _
          case rel => exact ⟨k + 1, n, by go_num, by omega, rfl, by omega, HN, HI⟩
        · rw [if_neg hv1] at hp
          have t1 : (v == -1) = false := by simpa using hv1
          have HEX := Lib.hid (HB1.out.trans (HI.out.mono HB1.out.size))
          by_cases hv0 : v < 0
          · have t2 : decide (v < 0) = true := decide_eq_true hv0
            rw [if_neg (by omega)] at hp
            subst hp
            have hres := HRS.out
            simp only at hres
            subst hres
            clear HR0 HP HRS
            go_wp2
            go_ret2
            exact ⟨rfl, HEX.out⟩
          · have t2 : decide (v < 0) = false := decide_eq_false hv0
            obtain ⟨j, rfl⟩ := Int.eq_ofNat_of_zero_le (show 0 ≤ v by omega)
            rw [Int.toNat_natCast] at hp
            by_cases hjR : hs.length ≤ j
            · have t3 : decide ((hs.length : Int) ≤ j) = true := decide_eq_true (by omega)
              rw [if_neg (by omega)] at hp
              subst hp
              have hres := HRS.out
              simp only at hres
              subst hres
              clear HR0 HP HRS
              go_wp2
              go_ret2
              exact ⟨rfl, HEX.out⟩
            · have t3 : decide ((hs.length : Int) ≤ j) = false := decide_eq_false (by omega)
              have hjR2 : j < hs.length := by omega
              have hjm : j < m.length := by have := HLE.out; omega
              have hjR' : (j : Int) < m.length := by omega
              have hj0 : (0 : Int) ≤ j := by omega
              have e1 := HOT.out j hjm
              have HA := Lib.hid (allows_any pt hs.length hs.length (by omega) (by omega) CF k j hlt hjR2 wr (HT.out.below HI.out))
              obtain ⟨x, hx⟩ : ∃ x, x = (CF k j != -1) := ⟨_, rfl⟩
              rw [← hx] at HA
              have HX := Lib.hid hx
              have HPP := Lib.hid hp
              obtain ⟨mv, hmv⟩ : ∃ z, z = m.getD j 0 := ⟨_, rfl⟩
              rw [← hmv] at e1
              have HMV := Lib.hid hmv
              clear hx hp HP hmv
              go_wp2_with fail
              refine HA.out.mono ?_
              rintro e w5 ⟨rfl, hb5⟩
              have HI5 := Lib.hid (HI.out.trans (hb5.mono HI.out.size))
              have f1 := (hb5.cell (p := ⟨b, off + j, none⟩) l1).trans e1
              have l5 := Nat.lt_of_lt_of_le l1 hb5.size
              have HEX5 := Lib.hid (HB1.out.trans (HI5.out.mono HB1.out.size))
              clear hb5 e0 e1 l1 HI HA HEX
              cases x with
              | false =>
                have hp := HPP.out
                have hc : CF k j = -1 := by have := HX.out; simpa using this.symm
                rw [if_neg (fun h => h.2.2.1 hc)] at hp
                subst hp
                have hres := HRS.out
                simp only at hres
                subst hres
                clear HR0 HPP HX hc HRS
                go_wp2
                go_ret2
                exact ⟨rfl, HEX5.out⟩
              | true =>
                have hc : CF k j ≠ -1 := by have := HX.out; simpa using this.symm
                have hp := HPP.out
                rw [← HMV.out] at hp
                have HO := Lib.hid hc
                clear hc HX HPP
                by_cases ho : mv = k
                · rw [if_pos ⟨by omega, by omega, HO.out, ho⟩] at hp
                  have HN := Lib.hid hp
                  have t4 : (mv != (k : Int)) = false := by simpa using ho
                  have v1 : IntKind.i64.wrap (n + 1) = n + 1 := IntWalk.i64_in _ (by omega)
                  clear hp ho HO
                  go_wp2
                  go_roundg gk'
                  case measure => exact Nat.lt_succ_self _
                  case rel => exact ⟨k + 1, n + 1, by go_num, by omega, rfl, by omega, HN, HI5⟩
                · rw [if_neg (fun h => ho h.2.2.2)] at hp
                  subst hp
                  have t4 : (mv != (k : Int)) = true := by simpa using ho
                  have hres := HRS.out
                  simp only at hres
                  subst hres
                  clear HR0 ho HO HRS
                  go_wp2
                  go_ret2
                  exact ⟨rfl, HEX5.out⟩
      · obtain ⟨rfl, hkk⟩ : gk = 0 ∧ k = hs.length := by omega
        have hp := HP.out
        rw [List.drop_of_length_le (by omega)] at hp
        simp only [pgF] at hp
        subst hp
        have hres := HRS.out
        simp only at hres
        subst hres
        have HEX := Lib.hid (HB1.out.trans (HI.out.mono HB1.out.size))
        have t5 : ¬ ((k : Int) < m.length) := by omega
        have v2 : IntKind.i64.wrap (n.tdiv 2) = n.tdiv 2 := IntWalk.i64_in _ (by rw [Int.tdiv_eq_ediv_of_nonneg (by omega)]; omega)
        clear HR0 HP HRS hkk hml
        go_wp2
        go_ret2
        exact ⟨rfl, HEX.out⟩
  · have hres := HRES.out
    rw [if_neg hlen] at hres
    have t0 : ((m.length : Int) != (hs.length : Int)) = true := by simp; omega
    subst hres
    clear HRES hlen
    go_wp2
    go_ret2
    exact ⟨rfl, HB1.out⟩

end Go.Proofs.Ytchhadkmemckbab

/- Pairs: owners, Weigh. -/
import Derived.Test.YtchhadkmemckbabPaS
namespace Go.Proofs.Ytchhadkmemckbab
open Go.RowKit
set_option linter.unusedSimpArgs false
set_option linter.unusedVariables false

set_option maxRecDepth 100000 in
theorem owners_size (p L R : Nat) (C : Nat → Nat → Int) (a : Option Addr) (cap : Nat) (m : List Int) (hm : m.length ≠ L) (w : World) (h : TabC w p L R C) :
    Calls Try.prog 40 #[.pointer (some ⟨p, 0, none⟩), .slice a m.length cap] w fun e w' => e = .returned (.tuple #[.slice none 0 0, .int .i64 3]) ∧ Below w.heap.size w w' := by
  have c0 := h.c0
  have l0 := h.lt
  have t0 : ((m.length : Int) != (L : Int)) = true := by simp; omega
  clear h
  go_enter Try.func40, Try.ntmps40
  go_wp2
  go_ret2
  exact ⟨rfl, Below.refl _ _⟩

def ownR (R g : Nat) (r : Option ((Nat → Int) × Int × Int)) : Value := match r with
  | none => .tuple #[.slice none 0 0, .int .i64 6]
  | some _ => .tuple #[.slice (some ⟨g, 0, none⟩) R R, .int .i64 0]
theorem ownR_none (R g : Nat) : ownR R g none = .tuple #[.slice none 0 0, .int .i64 6] := rfl
theorem ownR_some (R g : Nat) (x : (Nat → Int) × Int × Int) : ownR R g (some x) = .tuple #[.slice (some ⟨g, 0, none⟩) R R, .int .i64 0] := rfl

set_option maxRecDepth 100000 in
set_option maxHeartbeats 3200000 in
theorem owners_any (p L R : Nat) (hL : L ≤ 100) (hR : R ≤ 100) (C : Nat → Nat → Int) (a : Option Addr) (cap : Nat) (m : List Int) (hm : m.length = L) (w : World) (h : TabC w p L R C) (hk : IntK w a m) :
    Calls Try.prog 40 #[.pointer (some ⟨p, 0, none⟩), .slice a m.length cap] w fun e w' => e = .returned (ownR R (w.heap.size + 1) (wgF C R m 0 (fun _ => -1) 0 0)) ∧ (∀ o s c, wgF C R m 0 (fun _ => -1) 0 0 = some (o, s, c) → w'.heap[w.heap.size + 1]? = some (.cells (cA R o) 3 (0, 0))) ∧ Below w.heap.size w w' := by
  have c0 := h.c0
  have c1 := h.c1
  have l0 := h.lt
  have t0 : ((m.length : Int) != (L : Int)) = false := by simp; omega
  have HT := Lib.hid h
  have HK := Lib.hid hk
  obtain ⟨r, hr⟩ : ∃ r, r = wgF C R m 0 (fun _ => -1) 0 0 := ⟨_, rfl⟩
  rw [← hr]
  have HR0 : Hid (wgF C R (m.drop 0) 0 (fun _ => -1) 0 0 = r) := Lib.hid hr.symm
  clear h hk hr
  go_enter Try.func40, Try.ntmps40
  go_wp2_with fail
  refine (loners_any R hR _).mono ?_
  rintro e w1 ⟨rfl, hc1⟩
  have HC1 := Lib.hid hc1
  clear hc1 c0 c1 l0 t0
  go_wp2_with fail
  go_loopg [23] L (fun gk x wr => ∃ (k : Nat) (o : Nat → Int) (s c : Int), x = .int .i64 k ∧ k + gk = L ∧ Hid (wgF C R (m.drop k) k o s c = r) ∧ Hid (CT w (w.heap.size + 1) R 3 o wr))
  case atStart => exact ⟨0, _, _, _, rfl, by omega, HR0, HC1⟩
  case round =>
    obtain ⟨k, o, s, c, rfl, hk, HP, HI⟩ := hrel
    by_cases hlt : k < L
    · obtain ⟨gk', rfl⟩ : ∃ m, gk = m + 1 := ⟨gk - 1, by omega⟩
      have hlt' : (k : Int) < m.length := by omega
      have hlm : k < m.length := by omega
      have hk0 : (0 : Int) ≤ k := by omega
      obtain ⟨b, off, rfl, hb, d0⟩ := HK.out.at_ hlm
      have e0 := (HI.out.b.cell (p := ⟨b, off + k, none⟩) hb).trans d0
      have l1 := Nat.lt_of_lt_of_le hb HI.out.b.size
      have hp := HP.out
      rw [List.drop_eq_getElem_cons hlm] at hp
      obtain ⟨v, hv⟩ : ∃ v, v = m[k] := ⟨_, rfl⟩
      rw [← hv] at e0 hp
      clear hv d0
      unfold wgF at hp
      by_cases hv1 : v = -1
      · rw [if_pos hv1] at hp
        have HN := Lib.hid hp
        subst hv1
        clear hp HP
        go_wp2
        go_roundg gk'
        case measure => exact Nat.lt_succ_self _
        case rel => exact ⟨k + 1, o, s, c, by go_num, by omega, HN, HI⟩
      · rw [if_neg hv1] at hp
        have t1 : (v == -1) = false := by simpa using hv1
        by_cases hv0 : v < 0
        · have t2 : decide (v < 0) = true := decide_eq_true hv0
          rw [if_neg (by omega)] at hp
          subst hp
          clear HR0 HP
          go_wp2
          go_ret2
          first | exact ⟨rfl, fun o s c h => by simp at h, HI.out.b⟩ | exact ⟨rfl, HI.out.b⟩
        · have t2 : decide (v < 0) = false := decide_eq_false hv0
          obtain ⟨j, rfl⟩ := Int.eq_ofNat_of_zero_le (show 0 ≤ v by omega)
          rw [Int.toNat_natCast] at hp
          obtain f1 := (HT.out.below HI.out.b).c1
          have f2 := Nat.lt_of_lt_of_le HT.out.lt HI.out.b.size
          by_cases hjR : R ≤ j
          · have t3 : decide ((R : Int) ≤ j) = true := decide_eq_true (by omega)
            rw [if_neg (by omega)] at hp
            subst hp
            clear HR0 HP
            go_wp2
            go_ret2
            first | exact ⟨rfl, fun o s c h => by simp at h, HI.out.b⟩ | exact ⟨rfl, HI.out.b⟩
          · have t3 : decide ((R : Int) ≤ j) = false := decide_eq_false (by omega)
            have hjR2 : j < R := by omega
            have hjR' : (j : Int) < R := by omega
            have hj0 : (0 : Int) ≤ j := by omega
            have HA := Lib.hid (allows_any p L R hL hR C k j hlt hjR2 wr (HT.out.below HI.out.b))
            obtain ⟨x, hx⟩ : ∃ x, x = (C k j != -1) := ⟨_, rfl⟩
            rw [← hx] at HA
            have HX := Lib.hid hx
            have HPP := Lib.hid hp
            clear hx hp HP
            go_wp2_with fail
            refine HA.out.mono ?_
            rintro e w5 ⟨rfl, hb5⟩
            have HI5 := Lib.hid (HI.out.step hb5)
            clear hb5 e0 l1 f1 f2 HI HA
            cases x with
            | false =>
              have hp := HPP.out
              have hc : C k j = -1 := by have := HX.out; simpa using this.symm
              rw [if_neg (fun h => h.2.2.1 hc)] at hp
              subst hp
              clear HR0 HPP HX hc
              go_wp2
              go_ret2
              first | exact ⟨rfl, fun o s c h => by simp at h, HI5.out.b⟩ | exact ⟨rfl, HI5.out.b⟩
            | true =>
              have hc : C k j ≠ -1 := by have := HX.out; simpa using this.symm
              have g0 := HI5.out.cell hjR2
              have g1 := HI5.out.frozen j
              have g2 := HI5.out.lt
              have hp := HPP.out
              have HO := Lib.hid hc
              clear hc HX HPP
              by_cases ho : o j = -1
              · rw [if_pos ⟨by omega, by omega, HO.out, ho⟩] at hp
                have HN := Lib.hid hp
                have HS := Lib.hid (HI5.out.set j k)
                rw [ho] at g0
                clear hp ho HO
                go_wp2
                go_roundg gk'
                case measure => exact Nat.lt_succ_self _
                case rel => exact ⟨k + 1, _, _, _, by go_num, by omega, HN, HS⟩
              · rw [if_neg (fun h => ho h.2.2.2)] at hp
                subst hp
                have t4 : (o j != -1) = true := by simpa using ho
                obtain ⟨ov, hov⟩ : ∃ z, z = o j := ⟨_, rfl⟩
                rw [← hov] at g0 t4
                clear HR0 hov ho HO
                go_wp2
                go_ret2
                first | exact ⟨rfl, fun o s c h => by simp at h, HI5.out.b⟩ | exact ⟨rfl, HI5.out.b⟩
    · obtain ⟨rfl, rfl⟩ : gk = 0 ∧ k = L := by omega
      have hp := HP.out
      rw [List.drop_of_length_le (by omega)] at hp
      simp only [wgF] at hp
      subst hp
      have HA := Lib.hid HI.out.arr
      have hlt2 : ¬ ((m.length : Int) < (m.length : Int)) := by omega
      clear HR0 HP
      rw [← hm]
      go_wp2
      go_ret2
      first
        | exact ⟨rfl, HA.out, HI.out.b⟩
        | exact ⟨rfl, fun o' s' c' h => by
            simp only [Option.some.injEq, Prod.mk.injEq] at h
            rw [← h.1]
            exact HA.out, HI.out.b⟩

set_option maxRecDepth 100000 in
set_option maxHeartbeats 3200000 in
theorem lay_no (a a2 : Option Addr) (cap cap2 : Nat) (ls rs : List Gl) (x0 x1 x2 x3 y0 y1 y2 y3 : Int) (h0 : (sidB ls && sidB rs && ruB ((x0, x1, x2, x3), (y0, y1, y2, y3))) = false) (hl1 : (ls.length : Int) ≤ 9223372036854775807) (hl2 : (rs.length : Int) ≤ 9223372036854775807) (w : World) (hl : RecS w a ls) (hr : RecS w a2 rs) :
    Calls Try.prog 27 #[.slice a ls.length cap, .slice a2 rs.length cap2, .agg #[.int .i64 x0, .int .i64 x1, .int .i64 x2, .int .i64 x3, .int .i64 y0, .int .i64 y1, .int .i64 y2, .int .i64 y3]] w fun e w' => e = .returned (.tuple #[.pointer none, .int .i64 2]) ∧ Below w.heap.size w w' := by
  have HX := Lib.hid (fun w' hb => pSide_any a cap ls hl1 w' (hl.below (w' := w') hb))
  have HY := Lib.hid (fun w' hb => pSide_any a2 cap2 rs hl2 w' (hr.below (w' := w') hb))
  have HZ := Lib.hid (fun w' => isRule_any x0 x1 x2 x3 y0 y1 y2 y3 w')
  obtain ⟨x, hx⟩ : ∃ x, x = sidB ls := ⟨_, rfl⟩
  obtain ⟨y, hy⟩ : ∃ y, y = sidB rs := ⟨_, rfl⟩
  obtain ⟨z, hz⟩ : ∃ z, z = ruB ((x0, x1, x2, x3), (y0, y1, y2, y3)) := ⟨_, rfl⟩
  rw [← hx] at HX h0
  rw [← hy] at HY h0
  rw [← hz] at HZ h0
  have H0 := Lib.hid h0
  clear h0 hx hy hz hl hr
  have HM := Lib.hid ((Mem.nil w).alloc_at (H := w.heap.size) rfl #[.int .i64 x0, .int .i64 x1, .int .i64 x2, .int .i64 x3, .int .i64 y0, .int .i64 y1, .int .i64 y2, .int .i64 y3] 34)
  go_enter Try.func27, Try.ntmps27
  go_wp2_with fail
  refine (HX.out _ HM.out.b).mono ?_
  rintro e w1 ⟨rfl, hb1⟩
  have HM1 := Lib.hid (HM.out.step hb1)
  clear hb1 HM HX
  cases x with
  | false =>
    go_wp2
    go_ret2
    exact ⟨rfl, HM1.out.b⟩
  | true =>
  go_wp2_with fail
  refine (HY.out _ HM1.out.b).mono ?_
  rintro e w2 ⟨rfl, hb2⟩
  have HM2 := Lib.hid (HM1.out.step hb2)
  clear hb2 HM1 HY
  cases y with
  | false =>
    go_wp2
    go_ret2
    exact ⟨rfl, HM2.out.b⟩
  | true =>
  have k0 := HM2.out.cell 0
  have k1 := HM2.out.cell 1
  have k2 := HM2.out.cell 2
  have k3 := HM2.out.cell 3
  have k4 := HM2.out.cell 4
  have k5 := HM2.out.cell 5
  have k6 := HM2.out.cell 6
  have k7 := HM2.out.cell 7
  simp at k0 k1 k2 k3 k4 k5 k6 k7
  go_wp2_with fail
  refine (HZ.out _).mono ?_
  rintro e w3 ⟨rfl, hb3⟩
  have HM3 := Lib.hid (HM2.out.step hb3)
  clear hb3 HM2 HZ k0 k1 k2 k3 k4 k5 k6 k7
  cases z with
  | false =>
    go_wp2
    go_ret2
    exact ⟨rfl, HM3.out.b⟩
  | true => exact absurd H0.out (by simp)

end Go.Proofs.Ytchhadkmemckbab

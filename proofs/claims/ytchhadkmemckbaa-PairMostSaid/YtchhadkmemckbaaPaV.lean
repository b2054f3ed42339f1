/- Pairs: the reference's Good, weighed, Weigh. -/
import Derived.Test.YtchhadkmemckbaaPaU
namespace Go.Proofs.Ytchhadkmemckbaa
open Go.RowKit
set_option linter.unusedSimpArgs false
set_option linter.unusedVariables false

set_option maxRecDepth 100000 in
set_option maxHeartbeats 1600000 in
theorem qGood_any (a a2 : Option Addr) (cap cap2 : Nat) (ls rs : List Gl) (x0 x1 x2 x3 y0 y1 y2 y3 : Int) (hl1 : (ls.length : Int) ≤ 9223372036854775807) (hl2 : (rs.length : Int) ≤ 9223372036854775807) (w : World) (hl : RecS w a ls) (hr : RecS w a2 rs) :
    Calls Try.prog 30 #[.slice a ls.length cap, .slice a2 rs.length cap2, .agg #[.int .i64 x0, .int .i64 x1, .int .i64 x2, .int .i64 x3, .int .i64 y0, .int .i64 y1, .int .i64 y2, .int .i64 y3]] w fun e w' => e = .returned (.bool (sidB ls && sidB rs && ruB ((x0, x1, x2, x3), (y0, y1, y2, y3)))) ∧ Below w.heap.size w w' := by
  have HX := Lib.hid (fun w' hb => qSide_any a cap ls hl1 w' (hl.below (w' := w') hb))
  have HY := Lib.hid (fun w' hb => qSide_any a2 cap2 rs hl2 w' (hr.below (w' := w') hb))
  have HZ := Lib.hid (fun w' => qLaw_any x0 x1 x2 x3 y0 y1 y2 y3 w')
  obtain ⟨x, hx⟩ : ∃ x, x = sidB ls := ⟨_, rfl⟩
  obtain ⟨y, hy⟩ : ∃ y, y = sidB rs := ⟨_, rfl⟩
  obtain ⟨z, hz⟩ : ∃ z, z = ruB ((x0, x1, x2, x3), (y0, y1, y2, y3)) := ⟨_, rfl⟩
  rw [← hx] at HX ⊢
  rw [← hy] at HY ⊢
  rw [← hz] at HZ ⊢
  clear hx hy hz hl hr
  have HM := Lib.hid ((Mem.nil w).alloc_at (H := w.heap.size) rfl #[.int .i64 x0, .int .i64 x1, .int .i64 x2, .int .i64 x3, .int .i64 y0, .int .i64 y1, .int .i64 y2, .int .i64 y3] 25)
  go_enter Try.func30, Try.ntmps30
  go_wp2_with fail
  refine (HX.out _ HM.out.b).mono ?_
  rintro e w1 ⟨rfl, hb1⟩
  have HM1 := Lib.hid (HM.out.step hb1)
  clear hb1 HM HX
  cases x with
  | false =>
    go_wp2
    go_ret
    exact ⟨rfl, HM1.out.b⟩
  | true =>
  go_wp2_with fail
  refine (HY.out _ HM1.out.b).mono ?_
  rintro e w2 ⟨rfl, hb2⟩
  have HM2 := Lib.hid (HM1.out.step hb2)
  clear hb2 HM1 HY
  cases y with
  | false =>
    go_wp2
    go_ret
    exact ⟨rfl, HM2.out.b⟩
  | true =>
  have k0 := HM2.out.cell 0
  have k1 := HM2.out.cell 1
  have k2 := HM2.out.cell 2
  have k3 := HM2.out.cell 3
  have k4 := HM2.out.cell 4
  have k5 := HM2.out.cell 5
  have k6 := HM2.out.cell 6
  have k7 := HM2.out.cell 7
  simp at k0 k1 k2 k3 k4 k5 k6 k7
  go_wp2_with fail
  refine (HZ.out _).mono ?_
  rintro e w3 ⟨rfl, hb3⟩
  have HM3 := Lib.hid (HM2.out.step hb3)
  clear hb3 HM2 HZ k0 k1 k2 k3 k4 k5 k6 k7
  go_wp2
  go_ret
  exact ⟨by simp, HM3.out.b⟩

def wgdR (r : Option ((Nat → Int) × Int × Int)) : Value := match r with
  | none => .tuple #[.int .i64 0, .int .i64 0, .bool false]
  | some (_, s, c) => .tuple #[.int .i64 s, .int .i64 c, .bool true]
theorem wgdR_none : wgdR none = .tuple #[.int .i64 0, .int .i64 0, .bool false] := rfl
theorem wgdR_some (o : Nat → Int) (s c : Int) : wgdR (some (o, s, c)) = .tuple #[.int .i64 s, .int .i64 c, .bool true] := rfl

set_option maxRecDepth 100000 in
set_option maxHeartbeats 3200000 in
theorem weighed_any (L R : Nat) (hL : L ≤ 32) (hR : R ≤ 32) (C : Nat → Nat → Int) (hC : ∀ i j, i < L → j < R → -1 ≤ C i j ∧ C i j ≤ 4000000) (x a : Option Addr) (cx cap : Nat) (m : List Int) (hm : m.length = L) (w : World) (h : TabR w x L R C) (hk : IntK w a m) :
    Calls Try.prog 50 #[.slice x L cx, .int .i64 R, .slice a m.length cap] w fun e w' => e = .returned (wgdR (wgF C R m 0 (fun _ => -1) 0 0)) ∧ Below w.heap.size w w' := by
  have HT := Lib.hid h
  have HK := Lib.hid hk
  have HC := Lib.hid hC
  obtain ⟨r, hr⟩ : ∃ r, r = wgF C R m 0 (fun _ => -1) 0 0 := ⟨_, rfl⟩
  rw [← hr]
  have HR0 : Hid (wgF C R (m.drop 0) 0 (fun _ => -1) 0 0 = r) := Lib.hid hr.symm
  have hmk := pa_makeBool R (by omega) w
  have HV0 : Hid (VT w w.heap.size R 4 (fun j => .bool ((fun _ => (-1 : Int)) j != -1)) (w.alloc (.cells (cV R fun _ => .bool false) 4))) := Lib.hid ((VT.new w R _ _).congr (fun k _ => by simp))
  have HM := Lib.hid hm
  clear h hk hr hC hm
  go_enter Try.func50, Try.ntmps50
  go_wp2_with fail
  clear hmk
  go_loopg [10, 11, 18] L (fun gk sa sb x wr => ∃ (k : Nat) (o : Nat → Int) (s c : Int), x = .int .i64 k ∧ k + gk = L ∧ sa = .int .i64 s ∧ sb = .int .i64 c ∧ (0 ≤ s ∧ s ≤ k) ∧ (0 ≤ c ∧ c ≤ 4000000 * k) ∧ Hid (wgF C R (m.drop k) k o s c = r) ∧ Hid (VT w w.heap.size R 4 (fun j => .bool (o j != -1)) wr))
  case atStart => exact ⟨0, _, 0, 0, rfl, by omega, rfl, rfl, by omega, by omega, HR0, HV0⟩
  case round =>
    obtain ⟨k, o, s, c, rfl, hk, rfl, rfl, ⟨s1, s2⟩, ⟨c1, c2⟩, HP, HI⟩ := hrel
    have hml := HM.out
    by_cases hlt : k < L
    · obtain ⟨gk', rfl⟩ : ∃ m, gk = m + 1 := ⟨gk - 1, by omega⟩
      have hlt' : (k : Int) < m.length := by omega
      have hltL : (k : Int) < L := by omega
      have hlm : k < m.length := by omega
      have hk0 : (0 : Int) ≤ k := by omega
      obtain ⟨b, off, rfl, hb, d0⟩ := HK.out.at_ hlm
      have e0 := (HI.out.b.cell (p := ⟨b, off + k, none⟩) hb).trans d0
      have l1 := Nat.lt_of_lt_of_le hb HI.out.b.size
      have hp := HP.out
      rw [List.drop_eq_getElem_cons hlm] at hp
      obtain ⟨v, hv⟩ : ∃ v, v = m[k] := ⟨_, rfl⟩
      rw [← hv] at e0 hp
      clear hv d0 hml
      unfold wgF at hp
      by_cases hv1 : v = -1
      · rw [if_pos hv1] at hp
        have HN := Lib.hid hp
        subst hv1
        clear hp HP
        go_wp2
        go_roundg gk'
        case measure => exact Nat.lt_succ_self _
        case rel => exact ⟨k + 1, o, s, c, by go_num, by omega, rfl, rfl, by omega, by omega, HN, HI⟩
      · rw [if_neg hv1] at hp
        have t1 : (v == -1) = false := by simpa using hv1
        by_cases hv0 : v < 0
        · have t2 : decide (v < 0) = true := decide_eq_true hv0
          rw [if_neg (by omega)] at hp
          subst hp
          clear HR0 HP
          go_wp2
          go_ret3
          exact ⟨rfl, HI.out.b⟩
        · have t2 : decide (v < 0) = false := decide_eq_false hv0
          obtain ⟨j, rfl⟩ := Int.eq_ofNat_of_zero_le (show 0 ≤ v by omega)
          rw [Int.toNat_natCast] at hp
          by_cases hjR : R ≤ j
          · have t3 : decide ((R : Int) ≤ j) = true := decide_eq_true (by omega)
            rw [if_neg (by omega)] at hp
            subst hp
            clear HR0 HP
            go_wp2
            go_ret3
            exact ⟨rfl, HI.out.b⟩
          · have t3 : decide ((R : Int) ≤ j) = false := decide_eq_false (by omega)
            have hjR2 : j < R := by omega
            have hjR' : (j : Int) < R := by omega
            have hj0 : (0 : Int) ≤ j := by omega
            have g0 := HI.out.cell hjR2
            have g1 := HI.out.frozen j
            have g2 := HI.out.lt
            by_cases ho : o j = -1
            · rw [show (o j != -1) = false by rw [ho]; rfl] at g0
              obtain ⟨B, mi, rfl, m1, f1, m2, hd⟩ := (HT.out.below HI.out.b) k hlt
              have f2 := hd j hjR2
              have hcb := HC.out k j hlt hjR2
              obtain ⟨q, hq⟩ : ∃ z, z = C k j := ⟨_, rfl⟩
              rw [← hq] at f2 hcb hp
              by_cases hq0 : q < 0
              · have t4 : decide (q < 0) = true := decide_eq_true hq0
                rw [if_neg (fun h => h.2.2.1 (by omega))] at hp
                subst hp
                clear HR0 HP hd hq ho
                go_wp2
                go_ret3
                exact ⟨rfl, HI.out.b⟩
              · have t4 : decide (q < 0) = false := decide_eq_false hq0
                rw [if_pos ⟨by omega, by omega, by omega, ho⟩] at hp
                have HN := Lib.hid hp
                have HS : Hid (VT w w.heap.size R 4 (fun i => .bool (fset o j k i != -1)) (wr.setCell ⟨w.heap.size, j, none⟩ (.bool true))) := Lib.hid ((HI.out.set j (.bool true)).congr (fun i _ => by
                  unfold fset
                  by_cases e : i = j
                  · rw [if_pos e, if_pos e, show ((k : Int) != -1) = true by simp; try omega]
                  · rw [if_neg e, if_neg e]))
                have v1 : IntKind.i64.wrap (s + 1) = s + 1 := IntWalk.i64_in _ (by omega)
                have v2 : IntKind.i64.wrap (c + q) = c + q := IntWalk.i64_in _ (by omega)
                have hBl : B ≠ w.heap.size := by
                  obtain ⟨B', mi', hB', m1', -⟩ := HT.out k hlt
                  simp only [Option.some.injEq, Addr.mk.injEq, and_true] at hB'
                  have e1 := hB'
                  omega
                have hml' : mi ≠ w.heap.size := by
                  obtain ⟨B', mi', hB', m1', f1', m2', -⟩ := HT.out k hlt
                  simp only [Option.some.injEq, Addr.mk.injEq, and_true] at hB'
                  subst hB'
                  have e2 := (HI.out.b.cell (p := ⟨B, k, none⟩) m1').trans f1'
                  rw [f1] at e2
                  simp at e2
                  omega
                have f1' : (wr.setCell ⟨w.heap.size, j, none⟩ (.bool true)).cell? ⟨B, k, none⟩ = some (.slice (some ⟨mi, 0, none⟩) R R) := by rw [World.cell?_setCell_far _ _ _ _ (by simpa using hBl.symm)]; exact f1
                have f2' : (wr.setCell ⟨w.heap.size, j, none⟩ (.bool true)).cell? ⟨mi, j, none⟩ = some (.int .i64 q) := by rw [World.cell?_setCell_far _ _ _ _ (by simpa using hml'.symm)]; exact f2
                have HQB := Lib.hid hcb
                clear hp hd hq ho hcb hBl hml' HP
                go_wp2
                go_roundg gk'
                case measure => exact Nat.lt_succ_self _
                case rel => exact ⟨k + 1, _, s + 1, c + q, by go_num, by omega, rfl, rfl, by omega, ⟨by omega, by have := HQB.out; omega⟩, HN, HS⟩
            · rw [show (o j != -1) = true by simpa using ho] at g0
              rw [if_neg (fun h => ho h.2.2.2)] at hp
              subst hp
              clear HR0 HP ho
              go_wp2
              go_ret3
              exact ⟨rfl, HI.out.b⟩
    · obtain ⟨rfl, rfl⟩ : gk = 0 ∧ k = L := by omega
      have hp := HP.out
      rw [List.drop_of_length_le (by omega)] at hp
      simp only [wgF] at hp
      subst hp
      clear HR0 HP
      rw [← hml]
      go_wp2
      go_ret3
      exact ⟨rfl, HI.out.b⟩

end Go.Proofs.Ytchhadkmemckbaa

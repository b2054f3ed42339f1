/- Skins: the reference's Maximal. -/
import Derived.Test.YtfnkomecbbmfmabSmR
import Derived.Test.YtfnkomecbbmfmabSmO
namespace Go.Proofs.Ytfnkomecbbmfmab
open Go.RowKit

/-- full, wherever the rectangle may lie. -/
theorem rFullG (nb W H : Nat) (hW : W ≤ 48) (hH : H ≤ 48) (U : Int → Int → Bool) (X Y : Int) (n m : Nat) (b1 : -50 ≤ X ∧ X ≤ 50) (b2 : -50 ≤ Y ∧ Y ≤ 50) (hn : 1 ≤ n ∧ n ≤ 50) (hm : 1 ≤ m ∧ m ≤ 50) (w : World) (h : SumM w nb W H U) :
    Calls Try.prog 37 #[.slice (some ⟨nb, 0, none⟩) ((W + 1) * (H + 1)) ((W + 1) * (H + 1)), .int .i64 W, .int .i64 H, .agg #[.int .i64 X, .int .i64 Y, .int .i64 n, .int .i64 m]] w fun e w' => e = .returned (.bool (fullG U W H X Y n m)) ∧ Below w.heap.size w w' := by
  by_cases ho : X < 0 ∨ Y < 0 ∨ W < X + n ∨ H < Y + m
  · rw [fullG_out ho]
    exact rFull_out nb W H hW hH X Y n m b1 b2 (by omega) (by omega) ho _ w
  · obtain ⟨x, rfl⟩ := Int.eq_ofNat_of_zero_le (show 0 ≤ X by omega)
    obtain ⟨y, rfl⟩ := Int.eq_ofNat_of_zero_le (show 0 ≤ Y by omega)
    rw [fullG_in (by omega) (by omega)]
    exact rFull_in nb W H hW hH U x y n m hn.1 hm.1 (by omega) (by omega) w h

set_option maxRecDepth 100000 in
set_option maxHeartbeats 6400000 in
theorem rMaximal_yes (a : Option Addr) (cap : Nat) (ss : List ByteArray) (hs : skB ss = true) (g : Int) (h1 : 1 ≤ g) (h9 : g ≤ 9) (w : World) (h : StrS w a ss) :
    Calls Try.prog 9 #[.slice a ss.length cap, .int .i64 g] w fun e w' => ∃ a' c', e = .returned (.tuple #[.slice a' (mxTo (usB ss g) (wid ss) ss.length ss.length 0 0 0).length c', .int .i64 0]) ∧ RecS w' a' (mxTo (usB ss g) (wid ss) ss.length ss.length 0 0 0) ∧ Below w.heap.size w w' := by
  obtain ⟨i0, hi, hz0, hz1, hz2⟩ := info_parts infoRect
  have HI0 := Lib.hid (And.intro hi (And.intro hz0 (And.intro hz1 hz2)))
  clear hi hz0 hz1 hz2
  obtain ⟨⟨hl1, hl2⟩, ⟨hw1, hw2⟩, hrw⟩ := skB_iff.1 hs
  have hl := sk_long hs
  have HG : Hid (Calls Try.prog 13 #[.slice a ss.length cap, .int .i64 g] w fun e w'' => e = .returned (.bool true) ∧ w = w'') := Lib.hid (by
    have := rGood_any a cap ss hl.1 hl.2 g w h
    rw [show (skB ss && (decide (1 ≤ g) && decide (g ≤ 9))) = true by rw [hs]; simp [h1, h9]] at this
    exact this)
  have hS := rSums_any a cap ss hs g w h
  obtain ⟨b, off, rfl, hb0, hc0⟩ := h.at_ (k := 0) (by omega)
  obtain ⟨s0, hs0⟩ : ∃ s, s = ss[0] := ⟨_, rfl⟩
  have hz0 : s0.size = wid ss := by rw [hs0]; exact (hrw 0 (by omega)).1
  rw [← hs0, Nat.add_zero] at hc0
  obtain ⟨W, hW⟩ : ∃ W, W = wid ss := ⟨_, rfl⟩
  obtain ⟨H, hH⟩ : ∃ H, H = ss.length := ⟨_, rfl⟩
  obtain ⟨U, hU⟩ : ∃ U, U = usB ss g := ⟨_, rfl⟩
  obtain ⟨N, hN⟩ : ∃ N, N = (W + 1) * (H + 1) := ⟨_, rfl⟩
  have hzI : (s0.size : Int) = W := by rw [hz0, hW]
  rw [← hU, ← hW, ← hH] at hS
  have HSM : Hid (∀ w' : World, CT w w.heap.size ((W + 1) * (H + 1)) 3 (fun k => tab U (k % (W + 1)) (k / (W + 1))) w' → SumM w' w.heap.size W H U ∧ Below w.heap.size w w') := Lib.hid (fun w' hc => ⟨SumM.of hc, hc.b⟩)
  rw [← hN] at hS HSM
  have HS := Lib.hid hS
  have HFI : Hid (∀ w' (X Y : Int) (n m : Nat), (-50 ≤ X ∧ X ≤ 50) → (-50 ≤ Y ∧ Y ≤ 50) → (1 ≤ n ∧ n ≤ 50) → (1 ≤ m ∧ m ≤ 50) → SumM w' w.heap.size W H U → Calls Try.prog 37 #[.slice (some ⟨w.heap.size, 0, none⟩) N N, .int .i64 W, .int .i64 H, .agg #[.int .i64 X, .int .i64 Y, .int .i64 n, .int .i64 m]] w' fun e w'' => e = .returned (.bool (fullG U W H X Y n m)) ∧ Below w'.heap.size w' w'') := Lib.hid (fun w' X Y n m i1 i2 i3 i4 hm => by
    rw [hN]
    exact rFullG w.heap.size W H (by omega) (by omega) U X Y n m i1 i2 i3 i4 w' hm)
  rw [← hU, ← hW, ← hH]
  rw [← hH] at HG
  have hW48 : W ≤ 48 := by omega
  have hH48 : H ≤ 48 := by omega
  have hH0 : (0 : Int) < H := by omega
  have hHn : 0 < H := by omega
  have hW48' : (W : Int) ≤ 48 := by omega
  have hH48' : (H : Int) ≤ 48 := by omega
  clear hs h hl hrw hs0 hz0 hW hH hU hN hS hl1 hl2 hw1 hw2 h1 h9
  go_enter Try.func9, Try.ntmps9
  go_wp2_with fail
  refine HG.out.mono ?_
  rintro e w1 ⟨rfl, rfl⟩
  go_wp2_with fail
  refine HS.out.mono ?_
  rintro e w2 ⟨rfl, hct⟩
  have HS2 := Lib.hid (HSM.out w2 hct).1
  have HB2 := Lib.hid (HSM.out w2 hct).2
  have HR0 := Lib.hid (RV.start w2)
  clear hct
  obtain ⟨nb, hnb⟩ : ∃ nb, nb = w.heap.size := ⟨_, rfl⟩
  go_wp2
  rw [← hnb] at HS2 HFI
  rw [← hnb]
  have HNB := Lib.hid hnb
  clear hnb
  go_loopg [9, 29] H (fun gk v i wr => ∃ y : Nat, y + gk = H ∧ i = .int .i64 y ∧ Hid (RV w2 v (mxTo U W H y 0 0 0) wr))
  case atStart => exact ⟨0, by omega, rfl, HR0⟩
  case round =>
    obtain ⟨y, hy, rfl, HI⟩ := hrel
    by_cases hlt : y < H
    · obtain ⟨gk', rfl⟩ : ∃ m, gk = m + 1 := ⟨gk - 1, by omega⟩
      have hlt' : (y : Int) < H := by omega
      have hy0 : (0 : Int) ≤ y := by omega
      go_wp2
      go_loopg [9, 33] W (fun gj v i wr => ∃ x : Nat, x + gj = W ∧ i = .int .i64 x ∧ Hid (RV w2 v (mxTo U W H y x 0 0) wr))
      case atStart => exact ⟨0, by omega, rfl, HI⟩
      case round =>
        obtain ⟨x, hx, rfl, HI2⟩ := hrel
        by_cases hlx : x < W
        · obtain ⟨gj', rfl⟩ : ∃ m, gk = m + 1 := ⟨gk - 1, by omega⟩
          have hlx' : (x : Int) < W := by omega
          have hx0 : (0 : Int) ≤ x := by omega
          go_wp2
          go_loopg [9, 12] (W - x) (fun gn v i wr => ∃ n : Nat, x + n + gn = W + 1 ∧ 1 ≤ n ∧ i = .int .i64 n ∧ Hid (RV w2 v (mxTo U W H y x (n - 1) 0) wr))
          case atStart => exact ⟨1, by omega, Nat.le_refl _, rfl, HI2⟩
          case round =>
            obtain ⟨n, hn, hn1, rfl, HI3⟩ := hrel
            by_cases hln : x + n ≤ W
            · obtain ⟨gn', rfl⟩ : ∃ m, gk = m + 1 := ⟨gk - 1, by omega⟩
              have hln' : (x : Int) + n ≤ W := by omega
              go_wp2
              go_loopg [9, 13] (H - y) (fun gm v i wr => ∃ m : Nat, y + m + gm = H + 1 ∧ 1 ≤ m ∧ i = .int .i64 m ∧ Hid (RV w2 v (mxTo U W H y x (n - 1) (m - 1)) wr))
              case atStart => exact ⟨1, by omega, Nat.le_refl _, rfl, HI3⟩
              case round =>
                obtain ⟨m, hm, hm1, rfl, HI4⟩ := hrel
                by_cases hlm : y + m ≤ H
                · obtain ⟨gm', rfl⟩ : ∃ m, gk = m + 1 := ⟨gk - 1, by omega⟩
                  have hlm' : (y : Int) + m ≤ H := by omega
                  have hlen := mxTo_len U W H y x (n - 1) (m - 1) hW48 hH48 (by omega) (by omega) (by omega) (by omega)
                  have HNX := Lib.hid (mxTo_next U W H y x (n - 1) (m - 1))
                  obtain ⟨L, hL⟩ : ∃ L, L = mxTo U W H y x (n - 1) (m - 1) := ⟨_, rfl⟩
                  have hN := HNX.out
                  rw [← hL, show n - 1 + 1 = n by omega, show m - 1 + 1 = m by omega] at hN
                  rw [← hL] at HI4 hlen
                  obtain ⟨n1, hn1'⟩ : ∃ n1, n1 = n + 1 := ⟨_, rfl⟩
                  obtain ⟨m1, hm1'⟩ : ∃ m1, m1 = m + 1 := ⟨_, rfl⟩
                  have HM1 := Lib.hid hm1'
                  have v1 : IntKind.i64.wrap ((x : Int) - 1) = (x : Int) - 1 := IntWalk.i64_in _ (by omega)
                  have v2 : IntKind.i64.wrap ((y : Int) - 1) = (y : Int) - 1 := IntWalk.i64_in _ (by omega)
                  have v3 : IntKind.i64.wrap ((n : Int) + 1) = (n1 : Int) := by rw [IntWalk.i64_in _ (by omega)]; omega
                  have v4 : IntKind.i64.wrap ((m : Int) + 1) = (m1 : Int) := by rw [IntWalk.i64_in _ (by omega)]; omega
                  obtain ⟨f1, hf1⟩ : ∃ f, f = fullG U W H x y n m := ⟨_, rfl⟩
                  obtain ⟨f2, hf2⟩ : ∃ f, f = fullG U W H ((x : Int) - 1) y n1 m := ⟨_, rfl⟩
                  obtain ⟨f3, hf3⟩ : ∃ f, f = fullG U W H x ((y : Int) - 1) n m1 := ⟨_, rfl⟩
                  obtain ⟨f4, hf4⟩ : ∃ f, f = fullG U W H x y n1 m := ⟨_, rfl⟩
                  obtain ⟨f5, hf5⟩ : ∃ f, f = fullG U W H x y n m1 := ⟨_, rfl⟩
                  have HC1 := Lib.hid (fun w' hm => HFI.out w' x y n m (by omega) (by omega) (by omega) (by omega) hm)
                  have HC2 := Lib.hid (fun w' hm => HFI.out w' ((x : Int) - 1) y n1 m (by omega) (by omega) (by omega) (by omega) hm)
                  have HC3 := Lib.hid (fun w' hm => HFI.out w' x ((y : Int) - 1) n m1 (by omega) (by omega) (by omega) (by omega) hm)
                  have HC4 := Lib.hid (fun w' hm => HFI.out w' x y n1 m (by omega) (by omega) (by omega) (by omega) hm)
                  have HC5 := Lib.hid (fun w' hm => HFI.out w' x y n m1 (by omega) (by omega) (by omega) (by omega) hm)
                  rw [← hf1] at HC1
                  rw [← hf2] at HC2
                  rw [← hf3] at HC3
                  rw [← hf4] at HC4
                  rw [← hf5] at HC5
                  have HMB : Hid (mxTo U W H y x (n - 1) (m + 1 - 1) = L ++ (if (f1 && !f2 && !f3 && !f4 && !f5) = true then [((x : Int), (y : Int), (n : Int), (m : Int))] else [])) := Lib.hid (by
                    rw [show m + 1 - 1 = m by omega, hN]
                    unfold maxB
                    rw [← hn1', ← hm1', ← hf1, ← hf2, ← hf3, ← hf4, ← hf5])
                  have hA : Below wr.heap.size wr (wr.alloc (.cells #[.int .i64 x, .int .i64 y, .int .i64 n, .int .i64 m] 29)) := (Below.refl _ _).alloc (Nat.le_refl _) _
                  have HV1 := Lib.hid (HI4.out.step hA)
                  have HQ1 := Lib.hid ((Mem.nil wr).alloc #[.int .i64 x, .int .i64 y, .int .i64 n, .int .i64 m] 29)
                  have HSS := Lib.hid (fun v w' (hv : RV w2 v L w') => HS2.out.below hv.b)
                  have hnm : n ≤ 48 ∧ m ≤ 48 := by omega
                  obtain ⟨hn48, hm48⟩ := hnm
                  clear hL hN hn1' hm1' hf1 hf2 hf3 hf4 hf5 hA HNX
                  cases f1 with
                  | false =>
                    go_wp2_with fail
                    refine (HC1.out _ (HSS.out _ _ HV1.out)).mono ?_
                    rintro e wa1 ⟨rfl, hb⟩
                    have HV2 := Lib.hid (HV1.out.step hb)
                    have HQ2 := Lib.hid (HQ1.out.step hb)
                    clear hb
                    have HR : Hid (RV w2 u9 (mxTo U W H y x (n - 1) (m + 1 - 1)) wa1) := Lib.hid (by rw [HMB.out]; simpa using HV2.out)
                    go_wp2
                    go_roundg gm'
                    case measure => exact Nat.lt_succ_self _
                    case rel => exact ⟨m + 1, by omega, by omega, by rw [HM1.out], HR⟩
                  | true =>
                    go_wp2_with fail
                    refine (HC1.out _ (HSS.out _ _ HV1.out)).mono ?_
                    rintro e wa1 ⟨rfl, hb⟩
                    have HV2 := Lib.hid (HV1.out.step hb)
                    have HQ2 := Lib.hid (HQ1.out.step hb)
                    clear hb
                    cases f2 with
                    | true =>
                      go_wp2_with fail
                      refine (HC2.out _ (HSS.out _ _ HV2.out)).mono ?_
                      rintro e wa2 ⟨rfl, hb⟩
                      have HV3 := Lib.hid (HV2.out.step hb)
                      have HQ3 := Lib.hid (HQ2.out.step hb)
                      clear hb
                      have HR : Hid (RV w2 u9 (mxTo U W H y x (n - 1) (m + 1 - 1)) wa2) := Lib.hid (by rw [HMB.out]; simpa using HV3.out)
                      go_wp2
                      go_roundg gm'
                      case measure => exact Nat.lt_succ_self _
                      case rel => exact ⟨m + 1, by omega, by omega, by rw [HM1.out], HR⟩
                    | false =>
                      go_wp2_with fail
                      refine (HC2.out _ (HSS.out _ _ HV2.out)).mono ?_
                      rintro e wa2 ⟨rfl, hb⟩
                      have HV3 := Lib.hid (HV2.out.step hb)
                      have HQ3 := Lib.hid (HQ2.out.step hb)
                      clear hb
                      cases f3 with
                      | true =>
                        go_wp2_with fail
                        refine (HC3.out _ (HSS.out _ _ HV3.out)).mono ?_
                        rintro e wa3 ⟨rfl, hb⟩
                        have HV4 := Lib.hid (HV3.out.step hb)
                        have HQ4 := Lib.hid (HQ3.out.step hb)
                        clear hb
                        have HR : Hid (RV w2 u9 (mxTo U W H y x (n - 1) (m + 1 - 1)) wa3) := Lib.hid (by rw [HMB.out]; simpa using HV4.out)
                        go_wp2
                        go_roundg gm'
                        case measure => exact Nat.lt_succ_self _
                        case rel => exact ⟨m + 1, by omega, by omega, by rw [HM1.out], HR⟩
                      | false =>
                        go_wp2_with fail
                        refine (HC3.out _ (HSS.out _ _ HV3.out)).mono ?_
                        rintro e wa3 ⟨rfl, hb⟩
                        have HV4 := Lib.hid (HV3.out.step hb)
                        have HQ4 := Lib.hid (HQ3.out.step hb)
                        clear hb
                        cases f4 with
                        | true =>
                          go_wp2_with fail
                          refine (HC4.out _ (HSS.out _ _ HV4.out)).mono ?_
                          rintro e wa4 ⟨rfl, hb⟩
                          have HV5 := Lib.hid (HV4.out.step hb)
                          have HQ5 := Lib.hid (HQ4.out.step hb)
                          clear hb
                          have HR : Hid (RV w2 u9 (mxTo U W H y x (n - 1) (m + 1 - 1)) wa4) := Lib.hid (by rw [HMB.out]; simpa using HV5.out)
                          go_wp2
                          go_roundg gm'
                          case measure => exact Nat.lt_succ_self _
                          case rel => exact ⟨m + 1, by omega, by omega, by rw [HM1.out], HR⟩
                        | false =>
                          go_wp2_with fail
                          refine (HC4.out _ (HSS.out _ _ HV4.out)).mono ?_
                          rintro e wa4 ⟨rfl, hb⟩
                          have HV5 := Lib.hid (HV4.out.step hb)
                          have HQ5 := Lib.hid (HQ4.out.step hb)
                          clear hb
                          cases f5 with
                          | true =>
                            go_wp2_with fail
                            refine (HC5.out _ (HSS.out _ _ HV5.out)).mono ?_
                            rintro e wa5 ⟨rfl, hb⟩
                            have HV6 := Lib.hid (HV5.out.step hb)
                            have HQ6 := Lib.hid (HQ5.out.step hb)
                            clear hb
                            have HR : Hid (RV w2 u9 (mxTo U W H y x (n - 1) (m + 1 - 1)) wa5) := Lib.hid (by rw [HMB.out]; simpa using HV6.out)
                            go_wp2
                            go_roundg gm'
                            case measure => exact Nat.lt_succ_self _
                            case rel => exact ⟨m + 1, by omega, by omega, by rw [HM1.out], HR⟩
                          | false =>
                            go_wp2_with fail
                            refine (HC5.out _ (HSS.out _ _ HV5.out)).mono ?_
                            rintro e wa5 ⟨rfl, hb⟩
                            have HV6 := Lib.hid (HV5.out.step hb)
                            have HQ6 := Lib.hid (HQ5.out.step hb)
                            clear hb
                            have d0 := HQ6.out.cell 0
                            have d1 := HQ6.out.cell 1
                            have d2 := HQ6.out.cell 2
                            have d3 := HQ6.out.cell 3
                            have dl := HQ6.out.head_lt
                            simp at d0 d1 d2 d3
                            obtain ⟨Q, hQ⟩ : ∃ Q, Q = L.length := ⟨_, rfl⟩
                            have hown := HV6.out.own
                            rw [← hQ] at hown hlen
                            have hbs := HV6.out.b.size
                            have HOL : Hid (∀ v' w6, w6.ownsRow w2.heap.size 29 4 v' (Q + 1) (rcVals L ++ [.int .i64 x, .int .i64 y, .int .i64 n, .int .i64 m]) → (wa5.alloc (.cells #[.int .i64 x, .int .i64 y, .int .i64 n, .int .i64 m] 29)).grownBy w6 u9.ownBlock → RV w2 v' (mxTo U W H y x (n - 1) (m + 1 - 1)) w6) := Lib.hid (fun v' w6 ho hg => by
                              rw [HMB.out]
                              have h3 := (HV6.out.step ((Below.refl _ _).alloc (Nat.le_refl _) (.cells #[.int .i64 x, .int .i64 y, .int .i64 n, .int .i64 m] 29))).push (r := ((x : Int), (y : Int), (n : Int), (m : Int))) (by rw [← hQ]; exact ho) hg
                              simpa using h3)
                            clear hQ
                            go_wp2_with (at_builtin; refine wpList_append_own _ rfl _ _ 23 rfl w2.heap.size 29 i0 (.agg #[.int .i64 0, .int .i64 0, .int .i64 0, .int .i64 0]) 4 32 uRects HI0.out.1 HI0.out.2.1 HI0.out.2.2.1 HI0.out.2.2.2 rfl (by decide) u9 Q _ rfl (hown.alloc _) ⟨wa5.heap.size, 0, none⟩ 1 1 [.int .i64 x, .int .i64 y, .int .i64 n, .int .i64 m] rfl rfl (cell_four_new _ _ _ _ _ _) (by intro u hu; simp at hu; rcases hu with rfl | rfl | rfl | rfl <;> rfl) (by unfold maxLen; omega) (by omega) (by simp; omega) ?_)
                            intro v' w6 hown6 hgrow6 hnil6
                            have HR := Lib.hid (HOL.out v' w6 hown6 hgrow6)
                            clear hown6 hgrow6 hnil6 hown d0 d1 d2 d3 dl
                            go_wp2
                            go_roundg gm'
                            case measure => exact Nat.lt_succ_self _
                            case rel => exact ⟨m + 1, by omega, by omega, by rw [HM1.out], HR⟩
                · have HR : Hid (RV w2 u9 (mxTo U W H y x (n + 1 - 1) 0) wr) := Lib.hid (by
                    have hh := HI4.out
                    rw [show m - 1 = H - y by omega, mxTo_wide, show n - 1 + 1 = n + 1 - 1 by omega] at hh
                    exact hh)
                  have hlm' : ¬ (y : Int) + m ≤ H := by omega
                  go_wp2
                  go_roundg gn'
                  case measure => exact Nat.lt_succ_self _
                  case rel => exact ⟨n + 1, by omega, by omega, by go_num, HR⟩
            · have HR : Hid (RV w2 u9 (mxTo U W H y (x + 1) 0 0) wr) := Lib.hid (by
                have hh := HI3.out
                rw [show n - 1 = W - x by omega, mxTo_col] at hh
                exact hh)
              have hln' : ¬ (x : Int) + n ≤ W := by omega
              go_wp2
              go_roundg gj'
              case measure => exact Nat.lt_succ_self _
              case rel => exact ⟨x + 1, by omega, by go_num, HR⟩
        · obtain rfl : x = W := by omega
          have HR : Hid (RV w2 u9 (mxTo U x H (y + 1) 0 0 0) wr) := Lib.hid (by rw [← mxTo_row]; exact HI2.out)
          have hlx' : ¬ (x : Int) < x := by omega
          go_wp2
          go_roundg gk'
          case measure => exact Nat.lt_succ_self _
          case rel => exact ⟨y + 1, by omega, by go_num, HR⟩
    · obtain rfl : y = H := by omega
      have hlt' : ¬ (y : Int) < y := by omega
      obtain ⟨a', c', hv, hr⟩ := ownsRow_recs HI.out.own
      have HX := Lib.hid (And.intro hr (HB2.out.trans (HI.out.b.mono HB2.out.size)))
      have hv2 := hv
      subst hv2
      clear hr hv
      go_wp2
      go_ret2
      exact ⟨a', ⟨c', rfl⟩, HX.out⟩

set_option maxRecDepth 100000 in
theorem rMaximal_no (a : Option Addr) (cap : Nat) (ss : List ByteArray) (hl : (ss.length : Int) ≤ 9223372036854775807) (hz : ∀ s ∈ ss, s.size ≤ 9223372036854775807) (g : Int) (hn : ¬ (skB ss = true ∧ 1 ≤ g ∧ g ≤ 9)) (w : World) (h : StrS w a ss) :
    Calls Try.prog 9 #[.slice a ss.length cap, .int .i64 g] w fun e w' => e = .returned (.tuple #[.slice none 0 0, .int .i64 2]) ∧ Below w.heap.size w w' := by
  have HG : Hid (Calls Try.prog 13 #[.slice a ss.length cap, .int .i64 g] w fun e w'' => e = .returned (.bool false) ∧ w = w'') := Lib.hid (by
    have := rGood_any a cap ss hl hz g w h
    rw [show (skB ss && (decide (1 ≤ g) && decide (g ≤ 9))) = false by
      rw [Bool.eq_false_iff]; intro e; simp at e; exact hn e] at this
    exact this)
  clear h hl hz hn
  go_enter Try.func9, Try.ntmps9
  go_wp2_with fail
  refine HG.out.mono ?_
  rintro e w1 ⟨rfl, rfl⟩
  go_wp2
  go_ret2
  exact ⟨rfl, Below.refl _ _⟩

end Go.Proofs.Ytfnkomecbbmfmab


/- Skins: the reference's morphed. -/
import Derived.Test.YtfnkomecbbmfmaaSlT
import Derived.Deep.DeepCutAuto
namespace Go.Proofs.Ytfnkomecbbmfmaa
open Go.RowKit

/-- The reference's square, cut off at the edge. -/
theorem square_cut (least : Bool) (ss : List ByteArray) (W H x y k : Nat) (hx : x < W) (hy : y < H) (hout : ∀ u v : Int, (u < 0 ∨ (W : Int) ≤ u ∨ v < 0 ∨ (H : Int) ≤ v → grd ss u v = 0) ∧ 0 ≤ grd ss u v) (lv : Bool) (hlv : lv = (least && decide (x < k ∨ y < k ∨ W ≤ x + k ∨ H ≤ y + k))) (m : Int) :
    (rl least m (if lv = true then 0 else grd ss x y) ∧ ∀ u' v' : Nat, y - k ≤ v' → v' < min (H - 1) (y + k) + 1 → x - k ≤ u' → u' ≤ min (W - 1) (x + k) → rl least m (grd ss u' v')) ↔ ∀ u v : Int, (x : Int) - k ≤ u → u ≤ (x : Int) + k → (y : Int) - k ≤ v → v ≤ (y : Int) + k → rl least m (grd ss u v) := by
  constructor
  · rintro ⟨h1, h2⟩ u v a b c d
    by_cases hin : (0 ≤ u ∧ u < W) ∧ (0 ≤ v ∧ v < H)
    · obtain ⟨⟨i1, i2⟩, i3, i4⟩ := hin
      obtain ⟨u', rfl⟩ := Int.eq_ofNat_of_zero_le i1
      obtain ⟨v', rfl⟩ := Int.eq_ofNat_of_zero_le i3
      exact h2 u' v' (by omega) (by omega) (by omega) (by omega)
    · rw [(hout u v).1 (by omega)]
      cases least with
      | false =>
        have e : lv = false := by rw [hlv]; rfl
        rw [e] at h1
        have h3 := (hout x y).2
        simp only [rl, Bool.false_eq_true, if_false] at h1 ⊢
        omega
      | true =>
        have e : lv = true := by rw [hlv, Bool.true_and]; exact decide_eq_true (by omega)
        rw [e] at h1
        simpa using h1
  · intro h
    refine ⟨?_, fun u' v' h1 h2 h3 h4 => h u' v' (by omega) (by omega) (by omega) (by omega)⟩
    by_cases e : lv = true
    · rw [if_pos e]
      rw [hlv, Bool.and_eq_true, decide_eq_true_eq] at e
      rcases e.2 with h1 | h1 | h1 | h1
      · have := h ((x : Int) - k) y (by omega) (by omega) (by omega) (by omega)
        rwa [(hout _ _).1 (by omega)] at this
      · have := h x ((y : Int) - k) (by omega) (by omega) (by omega) (by omega)
        rwa [(hout _ _).1 (by omega)] at this
      · have := h ((x : Int) + k) y (by omega) (by omega) (by omega) (by omega)
        rwa [(hout _ _).1 (by omega)] at this
      · have := h x ((y : Int) + k) (by omega) (by omega) (by omega) (by omega)
        rwa [(hout _ _).1 (by omega)] at this
    · rw [if_neg e]
      exact h x y (by omega) (by omega) (by omega) (by omega)

theorem bool_val {b c : Bool} (h : b = c) : Value.bool b = Value.bool c := by rw [h]

set_option maxRecDepth 100000 in
set_option maxHeartbeats 6400000 in
theorem morphedE (a : Option Addr) (cap : Nat) (ss : List ByteArray) (hs : skB ss = true) (k : Nat) (hk : k ≤ 48) (w : World) (h : StrS w a ss) :
    Calls Try.prog 79 #[.slice a ss.length cap, .int .i64 k, .bool true] w fun e w' => ∃ a' c', e = .returned (.slice a' (spB true ss k).length c') ∧ StrS w' a' (spB true ss k) ∧ Below w.heap.size w w' := by
  obtain ⟨i0, hi, hz0, hz1, hz2⟩ := info_parts sk_infoInt
  have HI0 := Lib.hid (And.intro hi (And.intro hz0 (And.intro hz1 hz2)))
  clear hi hz0 hz1 hz2
  obtain ⟨⟨hl1, hl2⟩, ⟨hw1, hW2⟩, hr⟩ := skB_iff.1 hs
  obtain ⟨G, hG⟩ : ∃ G, G = swN true (swB true ss 1 0 k) 0 1 k := ⟨_, rfl⟩
  have HG9 : Hid (∀ x y, G x y ≤ 9) := Lib.hid (fun x y => by rw [hG]; exact (swN_eq true (swB_sk true hs _ _ _) _ _ _ _ _).2)
  have HGR : Hid (∀ w' (x y : Nat), Below w.heap.size w w' → Calls Try.prog 51 #[.slice a ss.length cap, .int .i64 x, .int .i64 y] w' fun e w'' => e = .returned (.int .i64 (grd ss x y)) ∧ w' = w'') := Lib.hid (fun w' x y hb => rGrade_any a cap ss hs x y w' (h.below hb))
  have HMOR : Hid (∀ x y : Nat, x < wid ss → y < ss.length → ∀ m, rl true m (G x y) ↔ ∀ u v : Int, (x : Int) - k ≤ u → u ≤ (x : Int) + k → (y : Int) - k ≤ v → v ≤ (y : Int) + k → rl true m (grd ss u v)) := Lib.hid (fun x y hx hy m => by
    rw [hG, ← (swN_eq true (swB_sk true hs _ _ _) _ _ _ _ _).1]
    exact rl_square true hs k m x y ⟨by omega, by omega⟩)
  have HOUT : Hid (∀ u v : Int, (u < 0 ∨ (wid ss : Int) ≤ u ∨ v < 0 ∨ (ss.length : Int) ≤ v → grd ss u v = 0) ∧ 0 ≤ grd ss u v) := Lib.hid (fun u v => ⟨fun h => grd_out h, by obtain ⟨g, hg, -⟩ := grd_nat hs u v; omega⟩)
  have hmb : spB true ss k = drawB (wid ss) ss.length G := by
    rw [hG]
    unfold spB
    rw [show swB true (swB true ss 1 0 k) 0 1 k = drawB (wid (swB true ss 1 0 k)) (swB true ss 1 0 k).length (swN true (swB true ss 1 0 k) 0 1 k) from rfl, swB_wid true hs, swB_len]
  rw [hmb, drawB_len]
  obtain ⟨b, off, rfl, hb, hc⟩ := h.at_ (k := 0) (by omega)
  obtain ⟨s0, hs0⟩ : ∃ s, s = ss[0] := ⟨_, rfl⟩
  obtain ⟨W, hW⟩ : ∃ W, W = wid ss := ⟨_, rfl⟩
  have hz0 : (s0.size : Int) = W := by rw [hs0, hW, (hr 0 (by omega)).1]
  rw [← hs0, Nat.add_zero] at hc
  rw [← hW] at hw1 hW2 HMOR HOUT ⊢
  obtain ⟨H, hH⟩ : ∃ H, H = ss.length := ⟨_, rfl⟩
  rw [← hH] at hl1 hl2 HGR HMOR HOUT ⊢
  have hH0 : (0 : Int) < H := by omega
  have hW48 : (W : Int) ≤ 48 := by omega
  have hH48 : (H : Int) ≤ 48 := by omega
  have hk48 : (k : Int) ≤ 48 := by omega
  have HO0 : Hid (OV w 3 (.slice none 0 0) ((gridL W G (0 * W + 0)).map (Value.int .i64)) w) := Lib.hid (by rw [Nat.zero_mul]; exact OV.start w _)
  clear hs h hr hs0 hW hG hmb hH
  go_enter Try.func79, Try.ntmps79
  go_wp2
  clear hb hc
  go_loopg [9, 23] H (fun gk v i wr => ∃ y : Nat, y + gk = H ∧ i = .int .i64 y ∧ Hid (OV w 3 v ((gridL W G (y * W + 0)).map (Value.int .i64)) wr))
  case atStart => exact ⟨0, by omega, rfl, HO0⟩
  case round =>
    obtain ⟨y, hy, rfl, HI⟩ := hrel
    by_cases hlt : y < H
    · obtain ⟨gk', rfl⟩ : ∃ m, gk = m + 1 := ⟨gk - 1, by omega⟩
      have hlt' : (y : Int) < H := by omega
      have hy0 : (0 : Int) ≤ y := by omega
      have hmul : y * W ≤ 47 * 48 := Nat.mul_le_mul (by omega) hW2
      go_wp2
      go_loopg [9, 27] W (fun gj v i wr => ∃ x : Nat, x + gj = W ∧ i = .int .i64 x ∧ Hid (OV w 3 v ((gridL W G (y * W + x)).map (Value.int .i64)) wr))
      case atStart => exact ⟨0, by omega, rfl, HI⟩
      case round =>
        obtain ⟨x, hx, rfl, HI2⟩ := hrel
        by_cases hlx : x < W
        · obtain ⟨gj', rfl⟩ : ∃ m, gk = m + 1 := ⟨gk - 1, by omega⟩
          have hlx' : (x : Int) < W := by omega
          have hx0 : (0 : Int) ≤ x := by omega

          have HMS := Lib.hid (HMOR.out x y hlx hlt)
          obtain ⟨b0, hb0⟩ : ∃ z, z = grd ss x y := ⟨_, rfl⟩
          have HCL := Lib.hid (HGR.out wr x y HI2.out.b)
          rw [← hb0] at HCL
          have HB00 := Lib.hid hb0
          obtain ⟨lv, hlv⟩ : ∃ z, z = decide (x < k ∨ y < k ∨ W ≤ x + k ∨ H ≤ y + k) := ⟨_, rfl⟩
          have HLEAVE := Lib.hid hlv
          obtain ⟨B0, hB0⟩ : ∃ z, z = (if lv = true then 0 else b0) := ⟨_, rfl⟩
          have HB0 := Lib.hid hB0
          have hxk : (x : Int) < 48 := by omega
          have hyk : (y : Int) < 48 := by omega
          have e1 : IntKind.i64.wrap ((x : Int) + k) = (x : Int) + k := IntWalk.i64_in _ (by omega)
          have e2 : IntKind.i64.wrap ((y : Int) + k) = (y : Int) + k := IntWalk.i64_in _ (by omega)
          have e3 : IntKind.i64.wrap ((y : Int) - k) = (y : Int) - k := IntWalk.i64_in _ (by omega)
          have e4 : IntKind.i64.wrap ((x : Int) - k) = (x : Int) - k := IntWalk.i64_in _ (by omega)
          have e5 : IntKind.i64.wrap ((H : Int) - 1) = (H : Int) - 1 := IntWalk.i64_in _ (by omega)
          have e6 : IntKind.i64.wrap ((W : Int) - 1) = (W : Int) - 1 := IntWalk.i64_in _ (by omega)
          clear hb0 hB0 hlv
          obtain ⟨n, hn⟩ : ∃ n, n = y * W + x := ⟨_, rfl⟩
          have HGN : Hid (gridL W G (y * W + (x + 1)) = gridL W G n ++ [((G x y : Nat) : Int)]) := Lib.hid (by rw [hn]; exact gridL_next hlx)
          rw [← hn] at HI2
          have hnl : (gridL W G n).length = n := gridL_len _ _ _
          obtain ⟨LL, hLL⟩ : ∃ LL, LL = gridL W G n := ⟨_, rfl⟩
          rw [← hLL] at HGN HI2 hnl
          obtain ⟨LV, hLV⟩ : ∃ LV, LV = LL.map (Value.int .i64) := ⟨_, rfl⟩
          have HLV := Lib.hid hLV
          rw [← hLV] at HI2
          have hvl : LV.length = n := by rw [hLV, List.length_map]; exact hnl
          have hn2 : n ≤ 2304 := by omega
          have HNL := Lib.hid hvl
          clear hn hLL hnl hLV hvl
          go_wp2_with fail
          refine HCL.out.mono ?_
          rintro e w3 ⟨rfl, hw3⟩
          subst hw3
          go_upto_region 10 with fail
          go_cut [58] (fun s58 wx => s58 = .bool lv ∧ wr = wx)
          case first =>
            go_wp2
            all_goals
              go_meet
              refine ⟨bool_val ?_, rfl⟩
              first
                | exact HLEAVE.out.symm
                | (rw [HLEAVE.out, Bool.eq_iff_iff]; simp only [Bool.or_eq_true, decide_eq_true_eq]; omega)
                | (rw [HLEAVE.out]; exact (decide_eq_false (by omega)).symm)
                | (rw [HLEAVE.out]; exact (decide_eq_true (by omega)).symm)
          case rest =>
          obtain ⟨rfl, rfl⟩ := hcut
          go_upto_if 58 with fail
          go_cut [12] (fun s12 wx => s12 = .int .i64 B0 ∧ wr = wx)
          case first =>
            rcases (show lv = true ∨ lv = false by cases lv <;> simp) with rfl | rfl
            · go_wp2
              go_meet
              exact ⟨congrArg (Value.int .i64) (by rw [HB0.out]; rfl), rfl⟩
            · go_wp2
              go_meet
              exact ⟨congrArg (Value.int .i64) (by rw [HB0.out]; rfl), rfl⟩
          case rest =>
          obtain ⟨rfl, rfl⟩ := hcut
          obtain ⟨VL, hVL⟩ : ∃ z, z = y - k := ⟨_, rfl⟩
          obtain ⟨V1, hV1⟩ : ∃ z, z = min (H - 1) (y + k) := ⟨_, rfl⟩
          obtain ⟨UL, hUL⟩ : ∃ z, z = x - k := ⟨_, rfl⟩
          obtain ⟨U1, hU1⟩ : ∃ z, z = min (W - 1) (x + k) := ⟨_, rfl⟩
          have HVU : Hid ((VL = y - k ∧ V1 = min (H - 1) (y + k)) ∧ UL = x - k ∧ U1 = min (W - 1) (x + k)) := Lib.hid ⟨⟨hVL, hV1⟩, hUL, hU1⟩
          have hVb : VL ≤ V1 + 1 ∧ V1 < 48 := by omega
          have hUb : UL ≤ U1 + 1 ∧ U1 < 48 := by omega
          obtain ⟨hVb1, hVb2⟩ := hVb
          obtain ⟨hUb1, hUb2⟩ := hUb
          clear hVL hV1 hUL hU1
          go_upto_region 12 with fail
          go_cut [13] (fun s13 wx => s13 = .int .i64 VL ∧ wr = wx)
          case first =>
            go_wp2
            all_goals
              go_meet
              exact ⟨congrArg (Value.int .i64) (by have := HVU.out; omega), rfl⟩
          case rest =>
          obtain ⟨rfl, rfl⟩ := hcut
          go_wp2
          go_loopg [12, 13] (V1 + 1 - VL) (fun gv s12 s13 wx => ∃ (v : Nat) (B : Int), (v + gv = V1 + 1 ∧ VL ≤ v) ∧ s13 = .int .i64 v ∧ s12 = .int .i64 B ∧ wx = wr ∧ Hid (∀ m, rl true m B ↔ rl true m B0 ∧ ∀ u' v' : Nat, VL ≤ v' → v' < v → UL ≤ u' → u' ≤ U1 → rl true m (grd ss u' v')))
          case atStart => exact ⟨VL, B0, by omega, rfl, rfl, rfl, Lib.hid (fun m => ⟨fun h => ⟨h, fun u' v' h1 h2 => by omega⟩, fun h => h.1⟩)⟩
          case round =>
            obtain ⟨v, B, ⟨hv1, hv2⟩, rfl, rfl, rfl, HBV⟩ := hrel
            by_cases hvl : v ≤ V1
            · obtain ⟨gv', rfl⟩ : ∃ m, gk = m + 1 := ⟨gk - 1, by omega⟩
              have hv48 : (v : Int) < 48 := by omega
              go_upto_region 13 with fail
              go_cut [70] (fun s70 wx => s70 = .bool true ∧ wr = wx)
              case first =>
                go_wp2
                all_goals
                  go_meet
                  refine ⟨bool_val ?_, rfl⟩
                  have := HVU.out
                  exact decide_eq_true (by omega)
              case rest =>
              obtain ⟨rfl, rfl⟩ := hcut
              go_upto_region 15 with fail
              go_cut [14] (fun s14 wx => s14 = .int .i64 UL ∧ wr = wx)
              case first =>
                go_wp2
                all_goals
                  go_meet
                  exact ⟨congrArg (Value.int .i64) (by have := HVU.out; omega), rfl⟩
              case rest =>
              obtain ⟨rfl, rfl⟩ := hcut
              go_wp2
              go_loopg [12, 14] (U1 + 1 - UL) (fun gu s12 s14 wx => ∃ (u : Nat) (B2 : Int), (u + gu = U1 + 1 ∧ UL ≤ u) ∧ s14 = .int .i64 u ∧ s12 = .int .i64 B2 ∧ wx = wr ∧ Hid (∀ m, rl true m B2 ↔ rl true m B ∧ ∀ u' : Nat, UL ≤ u' → u' < u → rl true m (grd ss u' v)))
              case atStart => exact ⟨UL, B, by omega, rfl, rfl, rfl, Lib.hid (fun m => ⟨fun h => ⟨h, fun u' h1 h2 => by omega⟩, fun h => h.1⟩)⟩
              case round =>
                obtain ⟨u, B2, ⟨hu1, hu2⟩, rfl, rfl, rfl, HBU⟩ := hrel
                by_cases hul : u ≤ U1
                · obtain ⟨gu', rfl⟩ : ∃ m, gk = m + 1 := ⟨gk - 1, by omega⟩
                  have hu48 : (u : Int) < 48 := by omega
                  go_upto_region 16 with fail
                  go_cut [84] (fun s84 wx => s84 = .bool true ∧ wr = wx)
                  case first =>
                    go_wp2
                    all_goals
                      go_meet
                      refine ⟨bool_val ?_, rfl⟩
                      have := HVU.out
                      exact decide_eq_true (by omega)
                  case rest =>
                  obtain ⟨rfl, rfl⟩ := hcut
                  obtain ⟨g, hgg⟩ : ∃ z, z = grd ss u v := ⟨_, rfl⟩
                  have HCG := Lib.hid (HGR.out wr u v HI2.out.b)
                  rw [← hgg] at HCG
                  have HBN : Hid (∀ m, rl true m (pk true B2 g) ↔ rl true m B ∧ ∀ u' : Nat, UL ≤ u' → u' < u + 1 → rl true m (grd ss u' v)) := Lib.hid (fun m => by
                    rw [rl_pk, HBU.out m]
                    constructor
                    · rintro ⟨⟨h1, h2⟩, h3⟩
                      refine ⟨h1, fun u' h4 h5 => ?_⟩
                      rcases Nat.lt_or_ge u' u with h6 | h6
                      · exact h2 u' h4 h6
                      · obtain rfl : u' = u := by omega
                        rw [← hgg]; exact h3
                    · rintro ⟨h1, h2⟩
                      exact ⟨⟨h1, fun u' h4 h5 => h2 u' h4 (by omega)⟩, by rw [hgg]; exact h2 u hu2 (by omega)⟩)
                  clear hgg
                  rcases (show g < B2 ∨ g = B2 ∨ B2 < g by omega) with hgb | hgb | hgb
                  · have HPK : Hid (pk true B2 g = g) := Lib.hid (by unfold pk; simp; omega)
                    have hne : ¬ (g = B2) := by omega
                    have hlb : decide (g < B2) = true := decide_eq_true hgb
                    have hn2 : (g != B2) = true := by rw [bne_iff_ne]; exact hne
                    go_wp2_with fail
                    refine HCG.out.mono ?_
                    rintro e w4 ⟨rfl, hw4⟩
                    subst hw4
                    go_wp2
                    all_goals first | (exfalso; omega) | skip
                    all_goals
                      go_roundg gu'
                      case measure => exact Nat.lt_succ_self _
                      case rel => exact ⟨u + 1, g, by omega, by go_num, rfl, rfl, by rw [← HPK.out]; exact HBN⟩
                  · have HPK : Hid (pk true B2 g = B2) := Lib.hid (by unfold pk; simp; omega)
                    have hlb : decide (g < B2) = false := decide_eq_false (by omega)
                    have hn2 : (g != B2) = false := by rw [hgb]; simp
                    have hge : ¬ g < B2 := by omega
                    clear hgb
                    go_wp2_with fail
                    refine HCG.out.mono ?_
                    rintro e w4 ⟨rfl, hw4⟩
                    subst hw4
                    go_wp2
                    all_goals first | (exfalso; omega) | skip
                    all_goals
                      go_roundg gu'
                      case measure => exact Nat.lt_succ_self _
                      case rel => exact ⟨u + 1, B2, by omega, by go_num, rfl, rfl, by rw [← HPK.out]; exact HBN⟩
                  · have HPK : Hid (pk true B2 g = B2) := Lib.hid (by unfold pk; simp; omega)
                    have hne : ¬ (g = B2) := by omega
                    have hlb : decide (g < B2) = false := decide_eq_false (by omega)
                    have hn2 : (g != B2) = true := by rw [bne_iff_ne]; exact hne
                    have hge : ¬ g < B2 := by omega
                    go_wp2_with fail
                    refine HCG.out.mono ?_
                    rintro e w4 ⟨rfl, hw4⟩
                    subst hw4
                    go_wp2
                    all_goals first | (exfalso; omega) | skip
                    all_goals
                      go_roundg gu'
                      case measure => exact Nat.lt_succ_self _
                      case rel => exact ⟨u + 1, B2, by omega, by go_num, rfl, rfl, by rw [← HPK.out]; exact HBN⟩
                · obtain rfl : u = U1 + 1 := by omega
                  have HBV2 : Hid (∀ m, rl true m B2 ↔ rl true m B0 ∧ ∀ u' v' : Nat, VL ≤ v' → v' < v + 1 → UL ≤ u' → u' ≤ U1 → rl true m (grd ss u' v')) := Lib.hid (fun m => by
                    rw [HBU.out m, HBV.out m]
                    constructor
                    · rintro ⟨⟨h1, h2⟩, h3⟩
                      refine ⟨h1, fun u' v' h4 h5 h6 h7 => ?_⟩
                      rcases Nat.lt_or_ge v' v with h8 | h8
                      · exact h2 u' v' h4 h8 h6 h7
                      · obtain rfl : v' = v := by omega
                        exact h3 u' h6 (by omega)
                    · rintro ⟨h1, h2⟩
                      exact ⟨⟨h1, fun u' v' h4 h5 h6 h7 => h2 u' v' h4 (by omega) h6 h7⟩, fun u' h6 h7 => h2 u' v hv2 (by omega) h6 (by omega)⟩)
                  go_upto_region 16 with fail
                  go_cut [84] (fun s84 wx => s84 = .bool false ∧ wr = wx)
                  case first =>
                    go_wp2
                    all_goals
                      go_meet
                      refine ⟨bool_val ?_, rfl⟩
                      have := HVU.out
                      exact decide_eq_false (by omega)
                  case rest =>
                  obtain ⟨rfl, rfl⟩ := hcut
                  go_wp2
                  go_roundg gv'
                  case measure => exact Nat.lt_succ_self _
                  case rel => exact ⟨v + 1, B2, by omega, by go_num, rfl, rfl, HBV2⟩
            · obtain rfl : v = V1 + 1 := by omega
              have HFIN : Hid (B = ((G x y : Nat) : Int)) := Lib.hid (rl_ext (least := true) fun m => by
                rw [HBV.out m, HMS.out m, HB0.out, HB00.out, HVU.out.1.1, HVU.out.1.2, HVU.out.2.1, HVU.out.2.2]
                exact square_cut true ss W H x y k hlx hlt HOUT.out lv (by rw [HLEAVE.out]; rfl) m)
              go_upto_region 13 with fail
              go_cut [70] (fun s70 wx => s70 = .bool false ∧ wr = wx)
              case first =>
                go_wp2
                all_goals
                  go_meet
                  refine ⟨bool_val ?_, rfl⟩
                  have := HVU.out
                  exact decide_eq_false (by omega)
              case rest =>
              obtain ⟨rfl, rfl⟩ := hcut
              have hown := HI2.out.own
              rw [HNL.out] at hown
              have hbs := HI2.out.b.size
              have HOL : Hid (∀ v' w6, w6.ownsRow w.heap.size 3 1 v' (n + 1) (LV ++ [.int .i64 B]) → (wr.alloc (.cells #[.int .i64 B] 3)).grownBy w6 u9.ownBlock → OV w 3 v' ((gridL W G (y * W + (x + 1))).map (Value.int .i64)) w6) := Lib.hid (fun v' w6 ho hg => by
                have h := (HI2.out.step ((Below.refl _ _).alloc (Nat.le_refl _) (.cells #[.int .i64 B] 3))).push (v' := v') (x := .int .i64 B) (w2 := w6) (by rw [HNL.out]; exact ho) hg
                rw [HGN.out, List.map_append, ← HLV.out, ← HFIN.out]
                exact h)
              go_wp2_with (at_builtin; refine wpList_append_own _ rfl _ _ 23 rfl w.heap.size 3 i0 (.int .i64 0) 1 8 Try.underlying23 HI0.out.1 HI0.out.2.1 HI0.out.2.2.1 HI0.out.2.2.2 rfl (by decide) u9 n LV rfl (hown.alloc _) ⟨wr.heap.size, 0, none⟩ 1 1 [.int .i64 B] rfl rfl (cell_one_new _ _ _) (by intro u hu; simp at hu; rw [hu]; rfl) (by unfold maxLen; omega) (by omega) (by simp; omega) ?_)
              intro v' w6 hown6 hgrow6 hnil6
              have HN := Lib.hid (HOL.out v' w6 hown6 hgrow6)
              clear hown6 hgrow6 hown hnil6
              go_wp2
              go_roundg gj'
              case measure => exact Nat.lt_succ_self _
              case rel => exact ⟨x + 1, by omega, by go_num, HN⟩
        · obtain rfl : x = W := by omega
          have HR : Hid (OV w 3 u9 ((gridL x G ((y + 1) * x + 0)).map (Value.int .i64)) wr) := Lib.hid (by rw [gridL_row]; exact HI2.out)
          have hlx' : ¬ (x : Int) < x := by omega
          go_wp2
          go_roundg gk'
          case measure => exact Nat.lt_succ_self _
          case rel => exact ⟨y + 1, by omega, by go_num, HR⟩
    · obtain rfl : y = H := by omega
      obtain ⟨ac, cc, hv, hz⟩ := HI.out.ints
      rw [gridL_len] at hv
      subst hv
      have HZ := Lib.hid hz
      clear hz
      have HDR := Lib.hid (drawn_any W y hW2 hl2 ac cc (gridL W G (y * W + 0)) (by rw [gridL_len, Nat.mul_comm, Nat.add_zero]) G (fun x y' hx hy => ⟨gridL_get hx hy, HG9.out x y'⟩) wr HZ.out)
      rw [gridL_len] at HDR
      go_wp2_with fail
      refine HDR.out.mono ?_
      rintro e w4 ⟨a', c', rfl, hst, hb4⟩
      have HE := Lib.hid (And.intro hst (HI.out.b.trans (hb4.mono HI.out.b.size)))
      clear hst hb4
      go_wp2
      go_ret
      exact ⟨a', c', rfl, HE.out.1, HE.out.2⟩

set_option maxRecDepth 100000 in
set_option maxHeartbeats 6400000 in
theorem morphedD (a : Option Addr) (cap : Nat) (ss : List ByteArray) (hs : skB ss = true) (k : Nat) (hk : k ≤ 48) (w : World) (h : StrS w a ss) :
    Calls Try.prog 79 #[.slice a ss.length cap, .int .i64 k, .bool false] w fun e w' => ∃ a' c', e = .returned (.slice a' (spB false ss k).length c') ∧ StrS w' a' (spB false ss k) ∧ Below w.heap.size w w' := by
  obtain ⟨i0, hi, hz0, hz1, hz2⟩ := info_parts sk_infoInt
  have HI0 := Lib.hid (And.intro hi (And.intro hz0 (And.intro hz1 hz2)))
  clear hi hz0 hz1 hz2
  obtain ⟨⟨hl1, hl2⟩, ⟨hw1, hW2⟩, hr⟩ := skB_iff.1 hs
  obtain ⟨G, hG⟩ : ∃ G, G = swN false (swB false ss 1 0 k) 0 1 k := ⟨_, rfl⟩
  have HG9 : Hid (∀ x y, G x y ≤ 9) := Lib.hid (fun x y => by rw [hG]; exact (swN_eq false (swB_sk false hs _ _ _) _ _ _ _ _).2)
  have HGR : Hid (∀ w' (x y : Nat), Below w.heap.size w w' → Calls Try.prog 51 #[.slice a ss.length cap, .int .i64 x, .int .i64 y] w' fun e w'' => e = .returned (.int .i64 (grd ss x y)) ∧ w' = w'') := Lib.hid (fun w' x y hb => rGrade_any a cap ss hs x y w' (h.below hb))
  have HMOR : Hid (∀ x y : Nat, x < wid ss → y < ss.length → ∀ m, rl false m (G x y) ↔ ∀ u v : Int, (x : Int) - k ≤ u → u ≤ (x : Int) + k → (y : Int) - k ≤ v → v ≤ (y : Int) + k → rl false m (grd ss u v)) := Lib.hid (fun x y hx hy m => by
    rw [hG, ← (swN_eq false (swB_sk false hs _ _ _) _ _ _ _ _).1]
    exact rl_square false hs k m x y ⟨by omega, by omega⟩)
  have HOUT : Hid (∀ u v : Int, (u < 0 ∨ (wid ss : Int) ≤ u ∨ v < 0 ∨ (ss.length : Int) ≤ v → grd ss u v = 0) ∧ 0 ≤ grd ss u v) := Lib.hid (fun u v => ⟨fun h => grd_out h, by obtain ⟨g, hg, -⟩ := grd_nat hs u v; omega⟩)
  have hmb : spB false ss k = drawB (wid ss) ss.length G := by
    rw [hG]
    unfold spB
    rw [show swB false (swB false ss 1 0 k) 0 1 k = drawB (wid (swB false ss 1 0 k)) (swB false ss 1 0 k).length (swN false (swB false ss 1 0 k) 0 1 k) from rfl, swB_wid false hs, swB_len]
  rw [hmb, drawB_len]
  obtain ⟨b, off, rfl, hb, hc⟩ := h.at_ (k := 0) (by omega)
  obtain ⟨s0, hs0⟩ : ∃ s, s = ss[0] := ⟨_, rfl⟩
  obtain ⟨W, hW⟩ : ∃ W, W = wid ss := ⟨_, rfl⟩
  have hz0 : (s0.size : Int) = W := by rw [hs0, hW, (hr 0 (by omega)).1]
  rw [← hs0, Nat.add_zero] at hc
  rw [← hW] at hw1 hW2 HMOR HOUT ⊢
  obtain ⟨H, hH⟩ : ∃ H, H = ss.length := ⟨_, rfl⟩
  rw [← hH] at hl1 hl2 HGR HMOR HOUT ⊢
  have hH0 : (0 : Int) < H := by omega
  have hW48 : (W : Int) ≤ 48 := by omega
  have hH48 : (H : Int) ≤ 48 := by omega
  have hk48 : (k : Int) ≤ 48 := by omega
  have HO0 : Hid (OV w 3 (.slice none 0 0) ((gridL W G (0 * W + 0)).map (Value.int .i64)) w) := Lib.hid (by rw [Nat.zero_mul]; exact OV.start w _)
  clear hs h hr hs0 hW hG hmb hH
  go_enter Try.func79, Try.ntmps79
  go_wp2
  clear hb hc
  go_loopg [9, 23] H (fun gk v i wr => ∃ y : Nat, y + gk = H ∧ i = .int .i64 y ∧ Hid (OV w 3 v ((gridL W G (y * W + 0)).map (Value.int .i64)) wr))
  case atStart => exact ⟨0, by omega, rfl, HO0⟩
  case round =>
    obtain ⟨y, hy, rfl, HI⟩ := hrel
    by_cases hlt : y < H
    · obtain ⟨gk', rfl⟩ : ∃ m, gk = m + 1 := ⟨gk - 1, by omega⟩
      have hlt' : (y : Int) < H := by omega
      have hy0 : (0 : Int) ≤ y := by omega
      have hmul : y * W ≤ 47 * 48 := Nat.mul_le_mul (by omega) hW2
      go_wp2
      go_loopg [9, 27] W (fun gj v i wr => ∃ x : Nat, x + gj = W ∧ i = .int .i64 x ∧ Hid (OV w 3 v ((gridL W G (y * W + x)).map (Value.int .i64)) wr))
      case atStart => exact ⟨0, by omega, rfl, HI⟩
      case round =>
        obtain ⟨x, hx, rfl, HI2⟩ := hrel
        by_cases hlx : x < W
        · obtain ⟨gj', rfl⟩ : ∃ m, gk = m + 1 := ⟨gk - 1, by omega⟩
          have hlx' : (x : Int) < W := by omega
          have hx0 : (0 : Int) ≤ x := by omega

          have HMS := Lib.hid (HMOR.out x y hlx hlt)
          obtain ⟨b0, hb0⟩ : ∃ z, z = grd ss x y := ⟨_, rfl⟩
          have HCL := Lib.hid (HGR.out wr x y HI2.out.b)
          rw [← hb0] at HCL
          have HB00 := Lib.hid hb0
          obtain ⟨lv, hlv⟩ : ∃ z, z = false := ⟨_, rfl⟩
          have HLEAVE := Lib.hid hlv
          obtain ⟨B0, hB0⟩ : ∃ z, z = (if lv = true then 0 else b0) := ⟨_, rfl⟩
          have HB0 := Lib.hid hB0
          have hxk : (x : Int) < 48 := by omega
          have hyk : (y : Int) < 48 := by omega
          have e1 : IntKind.i64.wrap ((x : Int) + k) = (x : Int) + k := IntWalk.i64_in _ (by omega)
          have e2 : IntKind.i64.wrap ((y : Int) + k) = (y : Int) + k := IntWalk.i64_in _ (by omega)
          have e3 : IntKind.i64.wrap ((y : Int) - k) = (y : Int) - k := IntWalk.i64_in _ (by omega)
          have e4 : IntKind.i64.wrap ((x : Int) - k) = (x : Int) - k := IntWalk.i64_in _ (by omega)
          have e5 : IntKind.i64.wrap ((H : Int) - 1) = (H : Int) - 1 := IntWalk.i64_in _ (by omega)
          have e6 : IntKind.i64.wrap ((W : Int) - 1) = (W : Int) - 1 := IntWalk.i64_in _ (by omega)
          clear hb0 hB0 hlv
          obtain ⟨n, hn⟩ : ∃ n, n = y * W + x := ⟨_, rfl⟩
          have HGN : Hid (gridL W G (y * W + (x + 1)) = gridL W G n ++ [((G x y : Nat) : Int)]) := Lib.hid (by rw [hn]; exact gridL_next hlx)
          rw [← hn] at HI2
          have hnl : (gridL W G n).length = n := gridL_len _ _ _
          obtain ⟨LL, hLL⟩ : ∃ LL, LL = gridL W G n := ⟨_, rfl⟩
          rw [← hLL] at HGN HI2 hnl
          obtain ⟨LV, hLV⟩ : ∃ LV, LV = LL.map (Value.int .i64) := ⟨_, rfl⟩
          have HLV := Lib.hid hLV
          rw [← hLV] at HI2
          have hvl : LV.length = n := by rw [hLV, List.length_map]; exact hnl
          have hn2 : n ≤ 2304 := by omega
          have HNL := Lib.hid hvl
          clear hn hLL hnl hLV hvl
          go_wp2_with fail
          refine HCL.out.mono ?_
          rintro e w3 ⟨rfl, hw3⟩
          subst hw3
          go_upto_region 10 with fail
          go_cut [58] (fun s58 wx => s58 = .bool lv ∧ wr = wx)
          case first =>
            go_wp2
            all_goals
              go_meet
              refine ⟨bool_val ?_, rfl⟩
              first
                | exact HLEAVE.out.symm
                | (rw [HLEAVE.out, Bool.eq_iff_iff]; simp only [Bool.or_eq_true, decide_eq_true_eq]; omega)
                | (rw [HLEAVE.out]; exact (decide_eq_false (by omega)).symm)
                | (rw [HLEAVE.out]; exact (decide_eq_true (by omega)).symm)
          case rest =>
          obtain ⟨rfl, rfl⟩ := hcut
          go_upto_if 58 with fail
          go_cut [12] (fun s12 wx => s12 = .int .i64 B0 ∧ wr = wx)
          case first =>
            rcases (show lv = true ∨ lv = false by cases lv <;> simp) with rfl | rfl
            · go_wp2
              go_meet
              exact ⟨congrArg (Value.int .i64) (by rw [HB0.out]; rfl), rfl⟩
            · go_wp2
              go_meet
              exact ⟨congrArg (Value.int .i64) (by rw [HB0.out]; rfl), rfl⟩
          case rest =>
          obtain ⟨rfl, rfl⟩ := hcut
          obtain ⟨VL, hVL⟩ : ∃ z, z = y - k := ⟨_, rfl⟩
          obtain ⟨V1, hV1⟩ : ∃ z, z = min (H - 1) (y + k) := ⟨_, rfl⟩
          obtain ⟨UL, hUL⟩ : ∃ z, z = x - k := ⟨_, rfl⟩
          obtain ⟨U1, hU1⟩ : ∃ z, z = min (W - 1) (x + k) := ⟨_, rfl⟩
          have HVU : Hid ((VL = y - k ∧ V1 = min (H - 1) (y + k)) ∧ UL = x - k ∧ U1 = min (W - 1) (x + k)) := Lib.hid ⟨⟨hVL, hV1⟩, hUL, hU1⟩
          have hVb : VL ≤ V1 + 1 ∧ V1 < 48 := by omega
          have hUb : UL ≤ U1 + 1 ∧ U1 < 48 := by omega
          obtain ⟨hVb1, hVb2⟩ := hVb
          obtain ⟨hUb1, hUb2⟩ := hUb
          clear hVL hV1 hUL hU1
          go_upto_region 12 with fail
          go_cut [13] (fun s13 wx => s13 = .int .i64 VL ∧ wr = wx)
          case first =>
            go_wp2
            all_goals
              go_meet
              exact ⟨congrArg (Value.int .i64) (by have := HVU.out; omega), rfl⟩
          case rest =>
          obtain ⟨rfl, rfl⟩ := hcut
          go_wp2
          go_loopg [12, 13] (V1 + 1 - VL) (fun gv s12 s13 wx => ∃ (v : Nat) (B : Int), (v + gv = V1 + 1 ∧ VL ≤ v) ∧ s13 = .int .i64 v ∧ s12 = .int .i64 B ∧ wx = wr ∧ Hid (∀ m, rl false m B ↔ rl false m B0 ∧ ∀ u' v' : Nat, VL ≤ v' → v' < v → UL ≤ u' → u' ≤ U1 → rl false m (grd ss u' v')))
          case atStart => exact ⟨VL, B0, by omega, rfl, rfl, rfl, Lib.hid (fun m => ⟨fun h => ⟨h, fun u' v' h1 h2 => by omega⟩, fun h => h.1⟩)⟩
          case round =>
            obtain ⟨v, B, ⟨hv1, hv2⟩, rfl, rfl, rfl, HBV⟩ := hrel
            by_cases hvl : v ≤ V1
            · obtain ⟨gv', rfl⟩ : ∃ m, gk = m + 1 := ⟨gk - 1, by omega⟩
              have hv48 : (v : Int) < 48 := by omega
              go_upto_region 13 with fail
              go_cut [70] (fun s70 wx => s70 = .bool true ∧ wr = wx)
              case first =>
                go_wp2
                all_goals
                  go_meet
                  refine ⟨bool_val ?_, rfl⟩
                  have := HVU.out
                  exact decide_eq_true (by omega)
              case rest =>
              obtain ⟨rfl, rfl⟩ := hcut
              go_upto_region 15 with fail
              go_cut [14] (fun s14 wx => s14 = .int .i64 UL ∧ wr = wx)
              case first =>
                go_wp2
                all_goals
                  go_meet
                  exact ⟨congrArg (Value.int .i64) (by have := HVU.out; omega), rfl⟩
              case rest =>
              obtain ⟨rfl, rfl⟩ := hcut
              go_wp2
              go_loopg [12, 14] (U1 + 1 - UL) (fun gu s12 s14 wx => ∃ (u : Nat) (B2 : Int), (u + gu = U1 + 1 ∧ UL ≤ u) ∧ s14 = .int .i64 u ∧ s12 = .int .i64 B2 ∧ wx = wr ∧ Hid (∀ m, rl false m B2 ↔ rl false m B ∧ ∀ u' : Nat, UL ≤ u' → u' < u → rl false m (grd ss u' v)))
              case atStart => exact ⟨UL, B, by omega, rfl, rfl, rfl, Lib.hid (fun m => ⟨fun h => ⟨h, fun u' h1 h2 => by omega⟩, fun h => h.1⟩)⟩
              case round =>
                obtain ⟨u, B2, ⟨hu1, hu2⟩, rfl, rfl, rfl, HBU⟩ := hrel
                by_cases hul : u ≤ U1
                · obtain ⟨gu', rfl⟩ : ∃ m, gk = m + 1 := ⟨gk - 1, by omega⟩
                  have hu48 : (u : Int) < 48 := by omega
                  go_upto_region 16 with fail
                  go_cut [84] (fun s84 wx => s84 = .bool true ∧ wr = wx)
                  case first =>
                    go_wp2
                    all_goals
                      go_meet
                      refine ⟨bool_val ?_, rfl⟩
                      have := HVU.out
                      exact decide_eq_true (by omega)
                  case rest =>
                  obtain ⟨rfl, rfl⟩ := hcut
                  obtain ⟨g, hgg⟩ : ∃ z, z = grd ss u v := ⟨_, rfl⟩
                  have HCG := Lib.hid (HGR.out wr u v HI2.out.b)
                  rw [← hgg] at HCG
                  have HBN : Hid (∀ m, rl false m (pk false B2 g) ↔ rl false m B ∧ ∀ u' : Nat, UL ≤ u' → u' < u + 1 → rl false m (grd ss u' v)) := Lib.hid (fun m => by
                    rw [rl_pk, HBU.out m]
                    constructor
                    · rintro ⟨⟨h1, h2⟩, h3⟩
                      refine ⟨h1, fun u' h4 h5 => ?_⟩
                      rcases Nat.lt_or_ge u' u with h6 | h6
                      · exact h2 u' h4 h6
                      · obtain rfl : u' = u := by omega
                        rw [← hgg]; exact h3
                    · rintro ⟨h1, h2⟩
                      exact ⟨⟨h1, fun u' h4 h5 => h2 u' h4 (by omega)⟩, by rw [hgg]; exact h2 u hu2 (by omega)⟩)
                  clear hgg
                  rcases (show g < B2 ∨ g = B2 ∨ B2 < g by omega) with hgb | hgb | hgb
                  · have HPK : Hid (pk false B2 g = B2) := Lib.hid (by unfold pk; simp; omega)
                    have hne : ¬ (g = B2) := by omega
                    have hlb : decide (g < B2) = true := decide_eq_true hgb
                    have hn2 : (g != B2) = true := by rw [bne_iff_ne]; exact hne
                    go_wp2_with fail
                    refine HCG.out.mono ?_
                    rintro e w4 ⟨rfl, hw4⟩
                    subst hw4
                    go_wp2
                    all_goals first | (exfalso; omega) | skip
                    all_goals
                      go_roundg gu'
                      case measure => exact Nat.lt_succ_self _
                      case rel => exact ⟨u + 1, B2, by omega, by go_num, rfl, rfl, by rw [← HPK.out]; exact HBN⟩
                  · have HPK : Hid (pk false B2 g = B2) := Lib.hid (by unfold pk; simp; omega)
                    have hlb : decide (g < B2) = false := decide_eq_false (by omega)
                    have hn2 : (g != B2) = false := by rw [hgb]; simp
                    have hge : ¬ g < B2 := by omega
                    clear hgb
                    go_wp2_with fail
                    refine HCG.out.mono ?_
                    rintro e w4 ⟨rfl, hw4⟩
                    subst hw4
                    go_wp2
                    all_goals first | (exfalso; omega) | skip
                    all_goals
                      go_roundg gu'
                      case measure => exact Nat.lt_succ_self _
                      case rel => exact ⟨u + 1, B2, by omega, by go_num, rfl, rfl, by rw [← HPK.out]; exact HBN⟩
                  · have HPK : Hid (pk false B2 g = g) := Lib.hid (by unfold pk; simp; omega)
                    have hne : ¬ (g = B2) := by omega
                    have hlb : decide (g < B2) = false := decide_eq_false (by omega)
                    have hn2 : (g != B2) = true := by rw [bne_iff_ne]; exact hne
                    have hge : ¬ g < B2 := by omega
                    go_wp2_with fail
                    refine HCG.out.mono ?_
                    rintro e w4 ⟨rfl, hw4⟩
                    subst hw4
                    go_wp2
                    all_goals first | (exfalso; omega) | skip
                    all_goals
                      go_roundg gu'
                      case measure => exact Nat.lt_succ_self _
                      case rel => exact ⟨u + 1, g, by omega, by go_num, rfl, rfl, by rw [← HPK.out]; exact HBN⟩
                · obtain rfl : u = U1 + 1 := by omega
                  have HBV2 : Hid (∀ m, rl false m B2 ↔ rl false m B0 ∧ ∀ u' v' : Nat, VL ≤ v' → v' < v + 1 → UL ≤ u' → u' ≤ U1 → rl false m (grd ss u' v')) := Lib.hid (fun m => by
                    rw [HBU.out m, HBV.out m]
                    constructor
                    · rintro ⟨⟨h1, h2⟩, h3⟩
                      refine ⟨h1, fun u' v' h4 h5 h6 h7 => ?_⟩
                      rcases Nat.lt_or_ge v' v with h8 | h8
                      · exact h2 u' v' h4 h8 h6 h7
                      · obtain rfl : v' = v := by omega
                        exact h3 u' h6 (by omega)
                    · rintro ⟨h1, h2⟩
                      exact ⟨⟨h1, fun u' v' h4 h5 h6 h7 => h2 u' v' h4 (by omega) h6 h7⟩, fun u' h6 h7 => h2 u' v hv2 (by omega) h6 (by omega)⟩)
                  go_upto_region 16 with fail
                  go_cut [84] (fun s84 wx => s84 = .bool false ∧ wr = wx)
                  case first =>
                    go_wp2
                    all_goals
                      go_meet
                      refine ⟨bool_val ?_, rfl⟩
                      have := HVU.out
                      exact decide_eq_false (by omega)
                  case rest =>
                  obtain ⟨rfl, rfl⟩ := hcut
                  go_wp2
                  go_roundg gv'
                  case measure => exact Nat.lt_succ_self _
                  case rel => exact ⟨v + 1, B2, by omega, by go_num, rfl, rfl, HBV2⟩
            · obtain rfl : v = V1 + 1 := by omega
              have HFIN : Hid (B = ((G x y : Nat) : Int)) := Lib.hid (rl_ext (least := false) fun m => by
                rw [HBV.out m, HMS.out m, HB0.out, HB00.out, HVU.out.1.1, HVU.out.1.2, HVU.out.2.1, HVU.out.2.2]
                exact square_cut false ss W H x y k hlx hlt HOUT.out lv (by rw [HLEAVE.out]; rfl) m)
              go_upto_region 13 with fail
              go_cut [70] (fun s70 wx => s70 = .bool false ∧ wr = wx)
              case first =>
                go_wp2
                all_goals
                  go_meet
                  refine ⟨bool_val ?_, rfl⟩
                  have := HVU.out
                  exact decide_eq_false (by omega)
              case rest =>
              obtain ⟨rfl, rfl⟩ := hcut
              have hown := HI2.out.own
              rw [HNL.out] at hown
              have hbs := HI2.out.b.size
              have HOL : Hid (∀ v' w6, w6.ownsRow w.heap.size 3 1 v' (n + 1) (LV ++ [.int .i64 B]) → (wr.alloc (.cells #[.int .i64 B] 3)).grownBy w6 u9.ownBlock → OV w 3 v' ((gridL W G (y * W + (x + 1))).map (Value.int .i64)) w6) := Lib.hid (fun v' w6 ho hg => by
                have h := (HI2.out.step ((Below.refl _ _).alloc (Nat.le_refl _) (.cells #[.int .i64 B] 3))).push (v' := v') (x := .int .i64 B) (w2 := w6) (by rw [HNL.out]; exact ho) hg
                rw [HGN.out, List.map_append, ← HLV.out, ← HFIN.out]
                exact h)
              go_wp2_with (at_builtin; refine wpList_append_own _ rfl _ _ 23 rfl w.heap.size 3 i0 (.int .i64 0) 1 8 Try.underlying23 HI0.out.1 HI0.out.2.1 HI0.out.2.2.1 HI0.out.2.2.2 rfl (by decide) u9 n LV rfl (hown.alloc _) ⟨wr.heap.size, 0, none⟩ 1 1 [.int .i64 B] rfl rfl (cell_one_new _ _ _) (by intro u hu; simp at hu; rw [hu]; rfl) (by unfold maxLen; omega) (by omega) (by simp; omega) ?_)
              intro v' w6 hown6 hgrow6 hnil6
              have HN := Lib.hid (HOL.out v' w6 hown6 hgrow6)
              clear hown6 hgrow6 hown hnil6
              go_wp2
              go_roundg gj'
              case measure => exact Nat.lt_succ_self _
              case rel => exact ⟨x + 1, by omega, by go_num, HN⟩
        · obtain rfl : x = W := by omega
          have HR : Hid (OV w 3 u9 ((gridL x G ((y + 1) * x + 0)).map (Value.int .i64)) wr) := Lib.hid (by rw [gridL_row]; exact HI2.out)
          have hlx' : ¬ (x : Int) < x := by omega
          go_wp2
          go_roundg gk'
          case measure => exact Nat.lt_succ_self _
          case rel => exact ⟨y + 1, by omega, by go_num, HR⟩
    · obtain rfl : y = H := by omega
      obtain ⟨ac, cc, hv, hz⟩ := HI.out.ints
      rw [gridL_len] at hv
      subst hv
      have HZ := Lib.hid hz
      clear hz
      have HDR := Lib.hid (drawn_any W y hW2 hl2 ac cc (gridL W G (y * W + 0)) (by rw [gridL_len, Nat.mul_comm, Nat.add_zero]) G (fun x y' hx hy => ⟨gridL_get hx hy, HG9.out x y'⟩) wr HZ.out)
      rw [gridL_len] at HDR
      go_wp2_with fail
      refine HDR.out.mono ?_
      rintro e w4 ⟨a', c', rfl, hst, hb4⟩
      have HE := Lib.hid (And.intro hst (HI.out.b.trans (hb4.mono HI.out.b.size)))
      clear hst hb4
      go_wp2
      go_ret
      exact ⟨a', c', rfl, HE.out.1, HE.out.2⟩

end Go.Proofs.Ytfnkomecbbmfmaa

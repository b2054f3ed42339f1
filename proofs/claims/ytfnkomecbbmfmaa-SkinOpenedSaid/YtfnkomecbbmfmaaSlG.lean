/- Skins: Turn of the reference. -/
import Derived.Test.YtfnkomecbbmfmaaSlF
namespace Go.Proofs.Ytfnkomecbbmfmaa
open Go.RowKit

set_option maxRecDepth 100000 in
theorem rTurn_no (a : Option Addr) (cap : Nat) (ss : List ByteArray) (hs : skB ss = false) (hl : (ss.length : Int) ≤ 9223372036854775807) (hz : ∀ s ∈ ss, s.size ≤ 9223372036854775807) (k : Value) (w : World) (h : StrS w a ss) :
    Calls Try.prog 28 #[.slice a ss.length cap, k] w fun e w' => e = .returned (.tuple #[.slice none 0 0, .int .i64 2]) ∧ w = w' := by
  have HV : Hid (Calls Try.prog 18 #[.slice a ss.length cap] w fun e w'' => e = .returned (.bool false) ∧ w = w'') := Lib.hid (by
    rw [← hs]; exact rValid_any a cap ss hl hz w h)
  clear hs h
  go_enter Try.func28, Try.ntmps28
  go_wp2_with fail
  refine HV.out.mono ?_
  rintro e w1 ⟨rfl, rfl⟩
  go_wp2
  go_ret2
  exact ⟨rfl, rfl⟩

set_option maxRecDepth 100000 in
theorem rMirror_no (a : Option Addr) (cap : Nat) (ss : List ByteArray) (hs : skB ss = false) (hl : (ss.length : Int) ≤ 9223372036854775807) (hz : ∀ s ∈ ss, s.size ≤ 9223372036854775807) (w : World) (h : StrS w a ss) :
    Calls Try.prog 30 #[.slice a ss.length cap] w fun e w' => e = .returned (.tuple #[.slice none 0 0, .int .i64 2]) ∧ w = w' := by
  have HV : Hid (Calls Try.prog 18 #[.slice a ss.length cap] w fun e w'' => e = .returned (.bool false) ∧ w = w'') := Lib.hid (by
    rw [← hs]; exact rValid_any a cap ss hl hz w h)
  clear hs h
  go_enter Try.func30, Try.ntmps30
  go_wp2_with fail
  refine HV.out.mono ?_
  rintro e w1 ⟨rfl, rfl⟩
  go_wp2
  go_ret2
  exact ⟨rfl, rfl⟩

set_option maxRecDepth 100000 in
set_option maxHeartbeats 6400000 in
theorem rTurn_yes (a : Option Addr) (cap : Nat) (ss : List ByteArray) (hs : skB ss = true) (k : Int) (w : World) (h : StrS w a ss) :
    Calls Try.prog 28 #[.slice a ss.length cap, .int .i64 k] w fun e w' => ∃ a' c', e = .returned (.tuple #[.slice a' (rotN ss ((k.tmod 4 + 4).tmod 4).toNat).length c', .int .i64 0]) ∧ StrS w' a' (rotN ss ((k.tmod 4 + 4).tmod 4).toNat) ∧ Below w.heap.size w w' := by
  obtain ⟨i0, hi, hz0, hz1, hz2⟩ := info_parts sk_infoInt
  have HI0 := Lib.hid (And.intro hi (And.intro hz0 (And.intro hz1 hz2)))
  clear hi hz0 hz1 hz2
  have HV : Hid (Calls Try.prog 18 #[.slice a ss.length cap] w fun e w'' => e = .returned (.bool true) ∧ w = w'') := Lib.hid (by
    rw [← hs]; exact rValid_any a cap ss (sk_long hs).1 (sk_long hs).2 w h)
  have HSK : Hid (∀ r, skB (rotN ss r) = true) := Lib.hid (rotN_sk hs)
  obtain ⟨m, K, hm, hK, hm7, hK3⟩ := turns_num k
  rw [hm, hK, Int.toNat_natCast]
  have hw0 : IntKind.i64.wrap (k.tmod 4 + 4) = (m : Int) := by rw [hm]; exact IntWalk.i64_in _ (by omega)
  have HS0 : Hid (StrS w a (rotN ss 0) ∧ Below w.heap.size w w) := Lib.hid ⟨h, Below.refl _ _⟩
  clear hs h hm hm7
  go_enter Try.func28, Try.ntmps28
  go_wp2_with fail
  refine HV.out.mono ?_
  rintro e w1 ⟨rfl, rfl⟩
  go_wp2
  go_loopg [0, 18] K (fun gk v i wr => ∃ r : Nat, r + gk = K ∧ i = .int .i64 r ∧ ∃ a' c', v = .slice a' (rotN ss r).length c' ∧ Hid (StrS wr a' (rotN ss r) ∧ Below w.heap.size w wr))
  case atStart => exact ⟨0, by omega, rfl, a, cap, rfl, HS0⟩
  case round =>
    obtain ⟨r, hr, rfl, a2, c2, rfl, HS⟩ := hrel
    by_cases hltr : r < K
    · obtain ⟨gk0, rfl⟩ : ∃ m, gk = m + 1 := ⟨gk - 1, by omega⟩
      have hltr' : (r : Int) < K := by omega
      obtain ⟨wy, rfl⟩ : ∃ wy, wy = wr := ⟨wr, rfl⟩
      obtain ⟨SS, hSS⟩ : ∃ SS, SS = rotN ss r := ⟨_, rfl⟩
      have hsk := HSK.out r
      rw [← hSS] at HS hsk ⊢
      have HNX : Hid (rotN ss (r + 1) = turB SS) := Lib.hid (by rw [hSS]; rfl)
      obtain ⟨⟨hl1, hW2⟩, ⟨hd1, hd2⟩, hrw⟩ := skB_iff.1 hsk
      obtain ⟨G, hG⟩ : ∃ G, G = turG SS := ⟨_, rfl⟩
      have HG9 : Hid (∀ x y, G x y ≤ 9) := Lib.hid (fun x y => by rw [hG]; exact (grd_toNat hsk _ _).1)
      obtain ⟨D, hD⟩ : ∃ D, D = wid SS := ⟨_, rfl⟩
      have HGR : Hid (∀ w' (x y : Nat), x < SS.length → y < D → Below wy.heap.size wy w' → Calls Try.prog 51 #[.slice a2 SS.length c2, .int .i64 y, .int .i64 ((SS.length : Int) - 1 - x)] w' fun e w'' => e = .returned (.int .i64 ((G x y : Nat) : Int)) ∧ Below w'.heap.size w' w'') := Lib.hid (fun w' x y _ _ hb => by
        have h := rGrade_any a2 c2 SS hsk y ((SS.length : Int) - 1 - x) w' (HS.out.1.below hb)
        rw [(grd_toNat hsk _ _).2] at h
        rw [hG]
        exact h.mono (fun e w'' ⟨h1, h2⟩ => ⟨h1, h2 ▸ Below.refl _ _⟩))
      have HLEN : Hid (turB SS = drawB SS.length D G ∧ (drawB SS.length D G).length = D) := Lib.hid ⟨by rw [hG, hD]; rfl, drawB_len _ _ _⟩
      obtain ⟨b, off, rfl, hb, hc⟩ := HS.out.1.at_ (k := 0) (by omega)
      obtain ⟨s0, hs0⟩ : ∃ s, s = SS[0] := ⟨_, rfl⟩
      have hz0 : (s0.size : Int) = D := by rw [hs0, hD, (hrw 0 (by omega)).1]
      rw [← hs0, Nat.add_zero] at hc
      rw [← hD] at hd1 hd2
      obtain ⟨L, hL⟩ : ∃ L, L = SS.length := ⟨_, rfl⟩
      rw [← hL] at hl1 hW2 HGR HLEN ⊢
      have hL0 : (0 : Int) < L := by omega
      have hL48 : (L : Int) ≤ 48 := by omega
      have hD48 : (D : Int) ≤ 48 := by omega
      have HO0 : Hid (OV wy 3 (.slice none 0 0) ((gridL L G (0 * L + 0)).map (Value.int .i64)) wy) := Lib.hid (by rw [Nat.zero_mul]; exact OV.start wy _)
      have hw0 : IntKind.i64.wrap ((L : Int) - 1) = (L : Int) - 1 := IntWalk.i64_in _ (by omega)
      have HBW := Lib.hid HS.out.2
      clear hsk hrw hs0 hD hG hL hSS HS HS0
      go_wp2
      go_quiet (fail)
      go_wp2
      go_loopg [8, 27] D (fun gk v i wr => ∃ y : Nat, y + gk = D ∧ i = .int .i64 y ∧ Hid (OV wy 3 v ((gridL L G (y * L + 0)).map (Value.int .i64)) wr))
      case atStart => exact ⟨0, by omega, rfl, Lib.hid (HO0.out.step (below_drewN (Below.refl _ _) _))⟩
      case round =>
        obtain ⟨y, hy, rfl, HI⟩ := hrel
        by_cases hlt : y < D
        · obtain ⟨gk', rfl⟩ : ∃ m, gk = m + 1 := ⟨gk - 1, by omega⟩
          have hlt' : (y : Int) < D := by omega
          have hy0 : (0 : Int) ≤ y := by omega
          have hmul : y * L ≤ 47 * 48 := Nat.mul_le_mul (by omega) hW2
          go_wp2
          go_loopg [8, 31] L (fun gj v i wr => ∃ x : Nat, x + gj = L ∧ i = .int .i64 x ∧ Hid (OV wy 3 v ((gridL L G (y * L + x)).map (Value.int .i64)) wr))
          case atStart => exact ⟨0, by omega, rfl, HI⟩
          case round =>
            obtain ⟨x, hx, rfl, HI2⟩ := hrel
            by_cases hlx : x < L
            · obtain ⟨gj', rfl⟩ : ∃ m, gk = m + 1 := ⟨gk - 1, by omega⟩
              have hlx' : (x : Int) < L := by omega
              have hx0 : (0 : Int) ≤ x := by omega
              obtain ⟨g, hg⟩ : ∃ g, g = G x y := ⟨_, rfl⟩
              have HCL := Lib.hid (HGR.out wr x y hlx hlt HI2.out.b)
              rw [← hg] at HCL
              have hw1 : IntKind.i64.wrap ((L : Int) - 1 - (x : Int)) = (L : Int) - 1 - (x : Int) := IntWalk.i64_in _ (by omega)
              obtain ⟨n, hn⟩ : ∃ n, n = y * L + x := ⟨_, rfl⟩
              have HGN : Hid (gridL L G (y * L + (x + 1)) = gridL L G n ++ [(g : Int)]) := Lib.hid (by rw [hg, hn]; exact gridL_next hlx)
              rw [← hn] at HI2
              have hnl : (gridL L G n).length = n := gridL_len _ _ _
              obtain ⟨LL, hLL⟩ : ∃ LL, LL = gridL L G n := ⟨_, rfl⟩
              rw [← hLL] at HGN HI2 hnl
              obtain ⟨LV, hLV⟩ : ∃ LV, LV = LL.map (Value.int .i64) := ⟨_, rfl⟩
              have HLV := Lib.hid hLV
              rw [← hLV] at HI2
              have hvl : LV.length = n := by rw [hLV, List.length_map]; exact hnl
              have hn2 : n ≤ 2304 := by omega
              have HNL := Lib.hid hvl
              clear hg hn hLL hnl hLV hvl
              go_wp2_with fail
              refine HCL.out.mono ?_
              rintro e w3 ⟨rfl, hb3⟩
              have HI3 := Lib.hid (HI2.out.step hb3)
              clear hb3
              have hown := HI3.out.own
              rw [HNL.out] at hown
              have hbs := HI3.out.b.size
              obtain ⟨gi, hgi⟩ : ∃ gi : Int, gi = g := ⟨_, rfl⟩
              rw [← hgi] at HGN
              try rw [← hgi]
              have HOL : Hid (∀ v' w6, w6.ownsRow wy.heap.size 3 1 v' (n + 1) (LV ++ [.int .i64 gi]) → (w3.alloc (.cells #[.int .i64 gi] 3)).grownBy w6 u8.ownBlock → OV wy 3 v' ((gridL L G (y * L + (x + 1))).map (Value.int .i64)) w6) := Lib.hid (fun v' w6 ho hg => by
                have h := (HI3.out.step ((Below.refl _ _).alloc (Nat.le_refl _) (.cells #[.int .i64 gi] 3))).push (v' := v') (x := .int .i64 gi) (w2 := w6) (by rw [HNL.out]; exact ho) hg
                rw [HGN.out, List.map_append, ← HLV.out]
                exact h)
              clear hgi
              go_wp2_with (at_builtin; refine wpList_append_own _ rfl _ _ 23 rfl wy.heap.size 3 i0 (.int .i64 0) 1 8 Try.underlying23 HI0.out.1 HI0.out.2.1 HI0.out.2.2.1 HI0.out.2.2.2 rfl (by decide) u8 n LV rfl (hown.alloc _) ⟨w3.heap.size, 0, none⟩ 1 1 [.int .i64 gi] rfl rfl (cell_one_new _ _ _) (by intro u hu; simp at hu; rw [hu]; rfl) (by unfold maxLen; omega) (by omega) (by simp; omega) ?_)
              intro v' w6 hown6 hgrow6 hnil6
              have HN := Lib.hid (HOL.out v' w6 hown6 hgrow6)
              clear hown6 hgrow6 hown hnil6
              go_wp2
              go_roundg gj'
              case measure => exact Nat.lt_succ_self _
              case rel => exact ⟨x + 1, by omega, by go_num, HN⟩
            · obtain rfl : x = L := by omega
              have HR : Hid (OV wy 3 u8 ((gridL x G ((y + 1) * x + 0)).map (Value.int .i64)) wr) := Lib.hid (by rw [gridL_row]; exact HI2.out)
              have hlx' : ¬ (x : Int) < x := by omega
              go_wp2
              go_roundg gk'
              case measure => exact Nat.lt_succ_self _
              case rel => exact ⟨y + 1, by omega, by go_num, HR⟩
        · obtain rfl : y = D := by omega
          obtain ⟨ac, cc, hv, hz⟩ := HI.out.ints
          rw [gridL_len] at hv
          subst hv
          have HZ := Lib.hid hz
          clear hz
          have HDR := Lib.hid (drawn_any L y hW2 hd2 ac cc (gridL L G (y * L + 0)) (by rw [gridL_len, Nat.mul_comm, Nat.add_zero]) G (fun x y' hx hy => ⟨gridL_get hx hy, HG9.out x y'⟩) wr HZ.out)
          rw [gridL_len] at HDR
          go_wp2_with fail
          refine HDR.out.mono ?_
          rintro e w4 ⟨a', c', rfl, hst, hb4⟩
          have HN : Hid (StrS w4 a' (rotN ss (r + 1)) ∧ Below w.heap.size w w4) := Lib.hid ⟨by rw [HNX.out, HLEN.out.1]; exact hst, HBW.out.trans ((HI.out.b.trans (hb4.mono HI.out.b.size)).mono HBW.out.size)⟩
          have HNL : Hid ((rotN ss (r + 1)).length = y) := Lib.hid (by rw [HNX.out, HLEN.out.1, HLEN.out.2])
          clear hst hb4
          go_wp2
          go_roundg gk0
          case measure => exact Nat.lt_succ_self _
          case rel => exact ⟨r + 1, by omega, by go_num, a', c', by rw [HNL.out], HN⟩
    · obtain rfl : r = K := by omega
      go_wp2
      go_ret2
      exact ⟨a2, c2, rfl, HS.out.1, HS.out.2⟩

end Go.Proofs.Ytfnkomecbbmfmaa

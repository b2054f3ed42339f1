/- Skins: the reference's Punch. -/
import Derived.Test.YtdhnifhehhbjeaaSlK
namespace Go.Proofs.Ytdhnifhehhbjeaa
open Go.RowKit


set_option maxRecDepth 100000 in
set_option maxHeartbeats 6400000 in
theorem rPunch_yes (a : Option Addr) (cap : Nat) (ss : List ByteArray) (hs : skB ss = true) (X Y U V : Nat) (hE : rectE ss X Y U V = 0) (hU : X + U ≤ wid ss) (hV : Y + V ≤ ss.length) (w : World) (h : StrS w a ss) :
    Calls Try.prog 35 #[.slice a ss.length cap, .agg #[.int .i64 X, .int .i64 Y, .int .i64 U, .int .i64 V]] w fun e w' => ∃ a' c', e = .returned (.tuple #[.slice a' (punB ss X Y U V).length c', .int .i64 0]) ∧ StrS w' a' (punB ss X Y U V) ∧ Below w.heap.size w w' := by
  obtain ⟨i0, hi, hz0, hz1, hz2⟩ := info_parts sk_infoInt
  have HI0 := Lib.hid (And.intro hi (And.intro hz0 (And.intro hz1 hz2)))
  clear hi hz0 hz1 hz2
  obtain ⟨⟨hl1, hl2⟩, ⟨hw1, hW2⟩, hr⟩ := skB_iff.1 hs
  have HCK := Lib.hid (fun w' (hb : Below w.heap.size w w') => rChecked_any a cap ss (sk_long hs).1 (sk_long hs).2 X Y U V w' (h.below hb))
  rw [hE] at HCK
  have HM := Lib.hid ((Mem.nil w).alloc #[.int .i64 X, .int .i64 Y, .int .i64 U, .int .i64 V] 39)
  obtain ⟨G, hG⟩ : ∃ G, G = punG ss X Y U V := ⟨_, rfl⟩
  have HG9 : Hid (∀ x y, G x y ≤ 9) := Lib.hid (fun x y => by rw [hG]; exact punG_nine hs X Y U V x y)
  have HGI : Hid (∀ x y, ((X ≤ x ∧ x < X + U ∧ Y ≤ y ∧ y < Y + V) → G x y = 0) ∧ (¬ (X ≤ x ∧ x < X + U ∧ Y ≤ y ∧ y < Y + V) → G x y = (grd ss x y).toNat)) := Lib.hid (fun x y => by
    rw [hG]
    exact ⟨fun h => by unfold punG; rw [if_pos h], fun h => by unfold punG; rw [if_neg h]⟩)
  have HGW : Hid (∀ w' (x y : Nat), Below w.heap.size w w' → Calls Try.prog 51 #[.slice a ss.length cap, .int .i64 x, .int .i64 y] w' fun e w'' => e = .returned (.int .i64 (((grd ss x y).toNat : Nat) : Int)) ∧ Below w'.heap.size w' w'') := Lib.hid (fun w' x y hb => by
    have h := rGrade_any a cap ss hs x y w' (h.below hb)
    rw [(grd_toNat hs _ _).2] at h
    exact h.mono (fun e w'' ⟨h1, h2⟩ => ⟨h1, h2 ▸ Below.refl _ _⟩))
  have HIN : Hid (∀ (x y : Nat), x < wid ss → y < ss.length → ∀ w', Calls Try.prog 71 #[.agg #[.int .i64 X, .int .i64 Y, .int .i64 U, .int .i64 V], .int .i64 x, .int .i64 y] w' fun e w'' => e = .returned (.bool (decide (X ≤ x ∧ x < X + U ∧ Y ≤ y ∧ y < Y + V))) ∧ Below w'.heap.size w' w'') := Lib.hid (fun x y hx hy w' => rIn_any X Y U V x y (by omega) (by omega) (by omega) (by omega) w')
  have hcb : punB ss X Y U V = drawB (wid ss) ss.length G := by rw [hG]; rfl
  rw [hcb, drawB_len]
  obtain ⟨b, off, rfl, hb0, hc0⟩ := h.at_ (k := 0) (by omega)
  obtain ⟨s0, hs0⟩ : ∃ s, s = ss[0] := ⟨_, rfl⟩
  obtain ⟨W, hW⟩ : ∃ W, W = wid ss := ⟨_, rfl⟩
  have hz0 : (s0.size : Int) = W := by rw [hs0, hW, (hr 0 (by omega)).1]
  rw [← hs0, Nat.add_zero] at hc0
  rw [← hW] at hw1 hW2 HIN ⊢
  have HSC := Lib.hid (And.intro hb0 hc0)
  obtain ⟨H, hH⟩ : ∃ H, H = ss.length := ⟨_, rfl⟩
  rw [← hH] at hl1 hl2 HCK HGW HIN ⊢
  have hH0 : (0 : Int) < H := by omega
  have hW48 : (W : Int) ≤ 48 := by omega
  have hH48 : (H : Int) ≤ 48 := by omega
  clear hs h hE hG hcb hU hV hr hs0 hW hH hb0 hc0
  go_enter Try.func35, Try.ntmps35
  go_wp2_with fail
  refine (HCK.out _ HM.out.b).mono ?_
  rintro e w1 ⟨rfl, hb⟩
  have HM1 := Lib.hid (HM.out.step hb)
  have HRC : Hid (∀ w', Below w1.heap.size w1 w' → ((w'.cell? ⟨w.heap.size, 0, none⟩ = some (.int .i64 X) ∧ w'.cell? ⟨w.heap.size, 1, none⟩ = some (.int .i64 Y)) ∧ (w'.cell? ⟨w.heap.size, 2, none⟩ = some (.int .i64 U) ∧ w'.cell? ⟨w.heap.size, 3, none⟩ = some (.int .i64 V)) ∧ w.heap.size < w'.heap.size) ∧ w'.cell? ⟨b, off, none⟩ = some (.string s0) ∧ b < w'.heap.size) := Lib.hid (fun w' hb' => by
    have hm := HM1.out.step hb'
    exact ⟨⟨⟨hm.cell 0, hm.cell 1⟩, ⟨hm.cell 2, hm.cell 3⟩, hm.head_lt⟩, (hm.b.cell (p := ⟨b, off, none⟩) HSC.out.1).trans HSC.out.2, Nat.lt_of_lt_of_le HSC.out.1 hm.b.size⟩)
  have HO0 : Hid (OV w1 3 (.slice none 0 0) ((gridL W G (0 * W + 0)).map (Value.int .i64)) w1) := Lib.hid (by rw [Nat.zero_mul]; exact OV.start w1 _)
  clear hb
  go_wp2
  go_loopg [7, 18] H (fun gk v i wr => ∃ y : Nat, y + gk = H ∧ i = .int .i64 y ∧ Hid (OV w1 3 v ((gridL W G (y * W + 0)).map (Value.int .i64)) wr))
  case atStart => exact ⟨0, by omega, rfl, HO0⟩
  case round =>
    obtain ⟨y, hy, rfl, HI⟩ := hrel
    by_cases hlt : y < H
    · obtain ⟨gk', rfl⟩ : ∃ m, gk = m + 1 := ⟨gk - 1, by omega⟩
      have hlt' : (y : Int) < H := by omega
      have hy0 : (0 : Int) ≤ y := by omega
      have hmul : y * W ≤ 47 * 48 := Nat.mul_le_mul (by omega) hW2
      obtain ⟨⟨⟨c0, c1⟩, ⟨c2, c3⟩, c4⟩, c5, c6⟩ := HRC.out wr HI.out.b
      go_wp2
      go_loopg [7, 25] W (fun gj v i wr => ∃ x : Nat, x + gj = W ∧ i = .int .i64 x ∧ Hid (OV w1 3 v ((gridL W G (y * W + x)).map (Value.int .i64)) wr))
      case atStart => exact ⟨0, by omega, rfl, HI⟩
      case round =>
        obtain ⟨x, hx, rfl, HI2⟩ := hrel
        clear c0 c1 c2 c3 c4 c5 c6
        by_cases hlx : x < W
        · obtain ⟨gj', rfl⟩ : ∃ m, gk = m + 1 := ⟨gk - 1, by omega⟩
          have hlx' : (x : Int) < W := by omega
          have hx0 : (0 : Int) ≤ x := by omega

          obtain ⟨⟨⟨c0, c1⟩, ⟨c2, c3⟩, c4⟩, c5, c6⟩ := HRC.out wr HI2.out.b
          have HINC := Lib.hid (HIN.out x y hlx hlt)
          by_cases hin : X ≤ x ∧ x < X + U ∧ Y ≤ y ∧ y < Y + V
          · have hg0 := (HGI.out x y).1 hin
            rw [decide_eq_true hin] at HINC
            clear hin

            obtain ⟨n, hn⟩ : ∃ n, n = y * W + x := ⟨_, rfl⟩
            have HGN : Hid (gridL W G (y * W + (x + 1)) = gridL W G n ++ [((0 : Int) : Int)]) := Lib.hid (by rw [show (0 : Int) = ((G x y : Nat) : Int) by rw [hg0]; rfl, hn]; exact gridL_next hlx)
            rw [← hn] at HI2
            have hnl : (gridL W G n).length = n := gridL_len _ _ _
            obtain ⟨LL, hLL⟩ : ∃ LL, LL = gridL W G n := ⟨_, rfl⟩
            rw [← hLL] at HGN HI2 hnl
            obtain ⟨LV, hLV⟩ : ∃ LV, LV = LL.map (Value.int .i64) := ⟨_, rfl⟩
            have HLV := Lib.hid hLV
            rw [← hLV] at HI2
            have hvl : LV.length = n := by rw [hLV, List.length_map]; exact hnl
            have hn2 : n ≤ 2304 := by omega
            have HNL := Lib.hid hvl
            clear hg0 hn hLL hnl hLV hvl
            go_wp2_with fail
            refine (HINC.out _).mono ?_
            rintro e w3 ⟨rfl, hb3⟩
            have HI3 := Lib.hid (HI2.out.step hb3)
            clear hb3 c0 c1 c2 c3 c4 c5 c6
            have hown := HI3.out.own
            rw [HNL.out] at hown
            have hbs := HI3.out.b.size
            have HOL : Hid (∀ v' w6, w6.ownsRow w1.heap.size 3 1 v' (n + 1) (LV ++ [.int .i64 0]) → (w3.alloc (.cells #[.int .i64 0] 3)).grownBy w6 u7.ownBlock → OV w1 3 v' ((gridL W G (y * W + (x + 1))).map (Value.int .i64)) w6) := Lib.hid (fun v' w6 ho hg => by
              have h := (HI3.out.step ((Below.refl _ _).alloc (Nat.le_refl _) (.cells #[.int .i64 0] 3))).push (v' := v') (x := .int .i64 0) (w2 := w6) (by rw [HNL.out]; exact ho) hg
              rw [HGN.out, List.map_append, ← HLV.out]
              exact h)
            go_wp2_with (at_builtin; refine wpList_append_own _ rfl _ _ 23 rfl w1.heap.size 3 i0 (.int .i64 0) 1 8 Try.underlying23 HI0.out.1 HI0.out.2.1 HI0.out.2.2.1 HI0.out.2.2.2 rfl (by decide) u7 n LV rfl (hown.alloc _) ⟨w3.heap.size, 0, none⟩ 1 1 [.int .i64 0] rfl rfl (cell_one_new _ _ _) (by intro u hu; simp at hu; rw [hu]; rfl) (by unfold maxLen; omega) (by omega) (by simp; omega) ?_)
            intro v' w6 hown6 hgrow6 hnil6
            have HN := Lib.hid (HOL.out v' w6 hown6 hgrow6)
            clear hown6 hgrow6 hown hnil6
            go_wp2
            go_roundg gj'
            case measure => exact Nat.lt_succ_self _
            case rel => exact ⟨x + 1, by omega, by go_num, HN⟩
          · have hg0 := (HGI.out x y).2 hin
            rw [decide_eq_false hin] at HINC
            obtain ⟨g, hg⟩ : ∃ g, g = G x y := ⟨_, rfl⟩
            have HGC := Lib.hid (fun w' (hb : Below w.heap.size w w') => HGW.out w' x y hb)
            rw [← hg0, ← hg] at HGC
            clear hin hg0

            obtain ⟨n, hn⟩ : ∃ n, n = y * W + x := ⟨_, rfl⟩
            have HGN : Hid (gridL W G (y * W + (x + 1)) = gridL W G n ++ [(g : Int)]) := Lib.hid (by rw [hg, hn]; exact gridL_next hlx)
            rw [← hn] at HI2
            have hnl : (gridL W G n).length = n := gridL_len _ _ _
            obtain ⟨LL, hLL⟩ : ∃ LL, LL = gridL W G n := ⟨_, rfl⟩
            rw [← hLL] at HGN HI2 hnl
            obtain ⟨LV, hLV⟩ : ∃ LV, LV = LL.map (Value.int .i64) := ⟨_, rfl⟩
            have HLV := Lib.hid hLV
            rw [← hLV] at HI2
            have hvl : LV.length = n := by rw [hLV, List.length_map]; exact hnl
            have hn2 : n ≤ 2304 := by omega
            have HNL := Lib.hid hvl
            clear hg hn hLL hnl hLV hvl
            go_wp2_with fail
            refine (HINC.out _).mono ?_
            rintro e w2 ⟨rfl, hb2⟩
            have HI25 := Lib.hid (HI2.out.step hb2)
            clear hb2 c0 c1 c2 c3 c4 c5 c6
            go_wp2_with fail
            refine (HGC.out _ (HM1.out.b.trans (HI25.out.b.mono HM1.out.b.size))).mono ?_
            rintro e w3 ⟨rfl, hb3⟩
            have HI3 := Lib.hid (HI25.out.step hb3)
            clear hb3
            have hown := HI3.out.own
            rw [HNL.out] at hown
            have hbs := HI3.out.b.size
            obtain ⟨gi, hgi⟩ : ∃ gi : Int, gi = g := ⟨_, rfl⟩
            rw [← hgi] at HGN
            try rw [← hgi]
            have HOL : Hid (∀ v' w6, w6.ownsRow w1.heap.size 3 1 v' (n + 1) (LV ++ [.int .i64 gi]) → (w3.alloc (.cells #[.int .i64 gi] 3)).grownBy w6 u7.ownBlock → OV w1 3 v' ((gridL W G (y * W + (x + 1))).map (Value.int .i64)) w6) := Lib.hid (fun v' w6 ho hg => by
              have h := (HI3.out.step ((Below.refl _ _).alloc (Nat.le_refl _) (.cells #[.int .i64 gi] 3))).push (v' := v') (x := .int .i64 gi) (w2 := w6) (by rw [HNL.out]; exact ho) hg
              rw [HGN.out, List.map_append, ← HLV.out]
              exact h)
            clear hgi
            go_wp2_with (at_builtin; refine wpList_append_own _ rfl _ _ 23 rfl w1.heap.size 3 i0 (.int .i64 0) 1 8 Try.underlying23 HI0.out.1 HI0.out.2.1 HI0.out.2.2.1 HI0.out.2.2.2 rfl (by decide) u7 n LV rfl (hown.alloc _) ⟨w3.heap.size, 0, none⟩ 1 1 [.int .i64 gi] rfl rfl (cell_one_new _ _ _) (by intro u hu; simp at hu; rw [hu]; rfl) (by unfold maxLen; omega) (by omega) (by simp; omega) ?_)
            intro v' w6 hown6 hgrow6 hnil6
            have HN := Lib.hid (HOL.out v' w6 hown6 hgrow6)
            clear hown6 hgrow6 hown hnil6
            go_wp2
            go_roundg gj'
            case measure => exact Nat.lt_succ_self _
            case rel => exact ⟨x + 1, by omega, by go_num, HN⟩
        · obtain rfl : x = W := by omega
          have HR : Hid (OV w1 3 u7 ((gridL x G ((y + 1) * x + 0)).map (Value.int .i64)) wr) := Lib.hid (by rw [gridL_row]; exact HI2.out)
          have hlx' : ¬ (x : Int) < x := by omega
          go_wp2
          go_roundg gk'
          case measure => exact Nat.lt_succ_self _
          case rel => exact ⟨y + 1, by omega, by go_num, HR⟩
    · obtain rfl : y = H := by omega
      obtain ⟨ac, cc, hv, hz⟩ := HI.out.ints
      rw [gridL_len] at hv
      subst hv
      have HZ := Lib.hid hz
      clear hz
      obtain ⟨⟨⟨c0, c1⟩, ⟨c2, c3⟩, c4⟩, c5, c6⟩ := HRC.out wr HI.out.b
      have HDR := Lib.hid (drawn_any W y hW2 hl2 ac cc (gridL W G (y * W + 0)) (by rw [gridL_len, Nat.mul_comm, Nat.add_zero]) G (fun x y' hx hy => ⟨gridL_get hx hy, HG9.out x y'⟩) wr HZ.out)
      rw [gridL_len] at HDR
      go_wp2_with fail
      refine HDR.out.mono ?_
      rintro e w4 ⟨a', c', rfl, hst, hb4⟩
      have HE := Lib.hid (And.intro hst (HM1.out.b.trans ((HI.out.b.trans (hb4.mono HI.out.b.size)).mono HM1.out.b.size)))
      clear hst hb4 c0 c1 c2 c3 c4 c5 c6
      go_wp2
      go_ret2
      exact ⟨a', c', rfl, HE.out.1, HE.out.2⟩

end Go.Proofs.Ytdhnifhehhbjeaa

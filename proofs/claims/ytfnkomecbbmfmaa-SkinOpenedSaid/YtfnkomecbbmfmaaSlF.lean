/- Skins: Mirror and Turn of the reference. -/
import Derived.Test.YtfnkomecbbmfmaaSlE
namespace Go.Proofs.Ytfnkomecbbmfmaa
open Go.RowKit

/-- The first n grades of a drawn skin, row by row. -/
def gridL (W : Nat) (G : Nat → Nat → Nat) (n : Nat) : List Int := (List.range n).map fun k => ((G (k % W) (k / W) : Nat) : Int)
theorem gridL_len (W : Nat) (G : Nat → Nat → Nat) (n : Nat) : (gridL W G n).length = n := by simp [gridL]
theorem grid_mod {W x y : Nat} (hx : x < W) : (y * W + x) % W = x ∧ (y * W + x) / W = y := by
  constructor
  · rw [Nat.mul_comm, Nat.mul_add_mod, Nat.mod_eq_of_lt hx]
  · rw [Nat.mul_comm, Nat.mul_add_div (by omega), Nat.div_eq_of_lt hx, Nat.add_zero]
theorem gridL_next {W : Nat} {G : Nat → Nat → Nat} {x y : Nat} (hx : x < W) : gridL W G (y * W + (x + 1)) = gridL W G (y * W + x) ++ [((G x y : Nat) : Int)] := by
  unfold gridL
  rw [← Nat.add_assoc, List.range_succ, List.map_append]
  simp only [List.map_cons, List.map_nil, (grid_mod (y := y) hx).1, (grid_mod (y := y) hx).2]
theorem gridL_row (W : Nat) (G : Nat → Nat → Nat) (y : Nat) : gridL W G ((y + 1) * W + 0) = gridL W G (y * W + W) := by
  rw [Nat.add_zero, Nat.add_mul, Nat.one_mul]
theorem gridL_get {W H : Nat} {G : Nat → Nat → Nat} {x y : Nat} (hx : x < W) (hy : y < H) : (gridL W G (H * W + 0)).getD (y * W + x) 0 = ((G x y : Nat) : Int) := by
  have hlt : y * W + x < H * W + 0 := by
    have : (y + 1) * W ≤ H * W := Nat.mul_le_mul_right W (by omega)
    rw [Nat.add_mul, Nat.one_mul] at this
    omega
  unfold gridL
  rw [List.getD_eq_getElem?_getD, List.getElem?_map, List.getElem?_range hlt]
  simp only [Option.map_some, Option.getD_some, (grid_mod (y := y) hx).1, (grid_mod (y := y) hx).2]

set_option maxRecDepth 100000 in
set_option maxHeartbeats 3200000 in
theorem rMirror_yes (a : Option Addr) (cap : Nat) (ss : List ByteArray) (hs : skB ss = true) (w : World) (h : StrS w a ss) :
    Calls Try.prog 30 #[.slice a ss.length cap] w fun e w' => ∃ a' c', e = .returned (.tuple #[.slice a' (mirB ss).length c', .int .i64 0]) ∧ StrS w' a' (mirB ss) ∧ Below w.heap.size w w' := by
  obtain ⟨i0, hi, hz0, hz1, hz2⟩ := info_parts sk_infoInt
  have HI0 := Lib.hid (And.intro hi (And.intro hz0 (And.intro hz1 hz2)))
  clear hi hz0 hz1 hz2
  obtain ⟨⟨hl1, hl2⟩, ⟨hw1, hW2⟩, hr⟩ := skB_iff.1 hs
  have HV : Hid (Calls Try.prog 18 #[.slice a ss.length cap] w fun e w'' => e = .returned (.bool true) ∧ w = w'') := Lib.hid (by
    rw [← hs]; exact rValid_any a cap ss (sk_long hs).1 (sk_long hs).2 w h)
  obtain ⟨G, hG⟩ : ∃ G, G = mirG ss := ⟨_, rfl⟩
  have HG9 : Hid (∀ x y, G x y ≤ 9) := Lib.hid (fun x y => by rw [hG]; exact (grd_toNat hs _ _).1)
  have hlen : (mirB ss).length = ss.length := drawB_len _ _ _
  obtain ⟨W, hW⟩ : ∃ W, W = wid ss := ⟨_, rfl⟩
  have HGR : Hid (∀ w' (x y : Nat), x < W → y < ss.length → Below w.heap.size w w' → Calls Try.prog 51 #[.slice a ss.length cap, .int .i64 ((W : Int) - 1 - x), .int .i64 y] w' fun e w'' => e = .returned (.int .i64 ((G x y : Nat) : Int)) ∧ Below w'.heap.size w' w'') := Lib.hid (fun w' x y _ _ hb => by
    have h := rGrade_any a cap ss hs ((W : Int) - 1 - x) y w' (h.below hb)
    rw [(grd_toNat hs _ _).2, hW] at h
    rw [hG, hW]
    exact h.mono (fun e w'' ⟨h1, h2⟩ => ⟨h1, h2 ▸ Below.refl _ _⟩))
  obtain ⟨b, off, rfl, hb, hc⟩ := h.at_ (k := 0) (by omega)
  obtain ⟨s0, hs0⟩ : ∃ s, s = ss[0] := ⟨_, rfl⟩
  have hz0 : (s0.size : Int) = W := by rw [hs0, hW, (hr 0 (by omega)).1]
  rw [← hs0, Nat.add_zero] at hc
  rw [← hW] at hw1 hW2
  have hmb : mirB ss = drawB W ss.length G := by rw [hG, hW]; rfl
  rw [hlen, hmb]
  obtain ⟨H, hH⟩ : ∃ H, H = ss.length := ⟨_, rfl⟩
  rw [← hH] at hl1 hl2 HV HGR ⊢
  have hH0 : (0 : Int) < H := by omega
  have hW48 : (W : Int) ≤ 48 := by omega
  have hH48 : (H : Int) ≤ 48 := by omega
  have HO0 : Hid (OV w 3 (.slice none 0 0) ((gridL W G (0 * W + 0)).map (Value.int .i64)) w) := Lib.hid (by rw [Nat.zero_mul]; exact OV.start w _)
  have hw0 : IntKind.i64.wrap ((W : Int) - 1) = (W : Int) - 1 := IntWalk.i64_in _ (by omega)
  clear hs h hr hs0 hW hG hlen hmb hH
  go_enter Try.func30, Try.ntmps30
  go_wp2_with fail
  refine HV.out.mono ?_
  rintro e w1 ⟨rfl, rfl⟩
  go_wp2
  go_loopg [5, 17] H (fun gk v i wr => ∃ y : Nat, y + gk = H ∧ i = .int .i64 y ∧ Hid (OV w 3 v ((gridL W G (y * W + 0)).map (Value.int .i64)) wr))
  case atStart => exact ⟨0, by omega, rfl, HO0⟩
  case round =>
    obtain ⟨y, hy, rfl, HI⟩ := hrel
    by_cases hlt : y < H
    · obtain ⟨gk', rfl⟩ : ∃ m, gk = m + 1 := ⟨gk - 1, by omega⟩
      have hlt' : (y : Int) < H := by omega
      have hy0 : (0 : Int) ≤ y := by omega
      have hmul : y * W ≤ 47 * 48 := Nat.mul_le_mul (by omega) hW2
      go_wp2
      go_loopg [5, 21] W (fun gj v i wr => ∃ x : Nat, x + gj = W ∧ i = .int .i64 x ∧ Hid (OV w 3 v ((gridL W G (y * W + x)).map (Value.int .i64)) wr))
      case atStart => exact ⟨0, by omega, rfl, HI⟩
      case round =>
        obtain ⟨x, hx, rfl, HI2⟩ := hrel
        by_cases hlx : x < W
        · obtain ⟨gj', rfl⟩ : ∃ m, gk = m + 1 := ⟨gk - 1, by omega⟩
          have hlx' : (x : Int) < W := by omega
          have hx0 : (0 : Int) ≤ x := by omega
          obtain ⟨g, hg⟩ : ∃ g, g = G x y := ⟨_, rfl⟩
          have HCL := Lib.hid (HGR.out wr x y hlx hlt HI2.out.b)
          rw [← hg] at HCL
          have hw1 : IntKind.i64.wrap ((W : Int) - 1 - (x : Int)) = (W : Int) - 1 - (x : Int) := IntWalk.i64_in _ (by omega)
          obtain ⟨n, hn⟩ : ∃ n, n = y * W + x := ⟨_, rfl⟩
          have HGN : Hid (gridL W G (y * W + (x + 1)) = gridL W G n ++ [(g : Int)]) := Lib.hid (by rw [hg, hn]; exact gridL_next hlx)
          rw [← hn] at HI2
          have hnl : (gridL W G n).length = n := gridL_len _ _ _
          obtain ⟨L, hL⟩ : ∃ L, L = gridL W G n := ⟨_, rfl⟩
          rw [← hL] at HGN HI2 hnl
          obtain ⟨LV, hLV⟩ : ∃ LV, LV = L.map (Value.int .i64) := ⟨_, rfl⟩
          have HLV := Lib.hid hLV
          rw [← hLV] at HI2
          have hvl : LV.length = n := by rw [hLV, List.length_map]; exact hnl
          have hn2 : n ≤ 2304 := by omega
          have HNL := Lib.hid hvl
          clear hg hn hL hnl hLV hvl
          go_wp2_with fail
          refine HCL.out.mono ?_
          rintro e w3 ⟨rfl, hb3⟩
          have HI3 := Lib.hid (HI2.out.step hb3)
          clear hb3
          have hown := HI3.out.own
          rw [HNL.out] at hown
          have hbs := HI3.out.b.size
          obtain ⟨gi, hgi⟩ : ∃ gi : Int, gi = g := ⟨_, rfl⟩
          rw [← hgi] at HGN
          try rw [← hgi]
          have HOL : Hid (∀ v' w6, w6.ownsRow w.heap.size 3 1 v' (n + 1) (LV ++ [.int .i64 gi]) → (w3.alloc (.cells #[.int .i64 gi] 3)).grownBy w6 u5.ownBlock → OV w 3 v' ((gridL W G (y * W + (x + 1))).map (Value.int .i64)) w6) := Lib.hid (fun v' w6 ho hg => by
            have h := (HI3.out.step ((Below.refl _ _).alloc (Nat.le_refl _) (.cells #[.int .i64 gi] 3))).push (v' := v') (x := .int .i64 gi) (w2 := w6) (by rw [HNL.out]; exact ho) hg
            rw [HGN.out, List.map_append, ← HLV.out]
            exact h)
          clear hgi
          go_wp2_with (at_builtin; refine wpList_append_own _ rfl _ _ 23 rfl w.heap.size 3 i0 (.int .i64 0) 1 8 Try.underlying23 HI0.out.1 HI0.out.2.1 HI0.out.2.2.1 HI0.out.2.2.2 rfl (by decide) u5 n LV rfl (hown.alloc _) ⟨w3.heap.size, 0, none⟩ 1 1 [.int .i64 gi] rfl rfl (cell_one_new _ _ _) (by intro u hu; simp at hu; rw [hu]; rfl) (by unfold maxLen; omega) (by omega) (by simp; omega) ?_)
          intro v' w6 hown6 hgrow6 hnil6
          have HN := Lib.hid (HOL.out v' w6 hown6 hgrow6)
          clear hown6 hgrow6 hown hnil6
          go_wp2
          go_roundg gj'
          case measure => exact Nat.lt_succ_self _
          case rel => exact ⟨x + 1, by omega, by go_num, HN⟩
        · obtain rfl : x = W := by omega
          have HR : Hid (OV w 3 u5 ((gridL x G ((y + 1) * x + 0)).map (Value.int .i64)) wr) := Lib.hid (by rw [gridL_row]; exact HI2.out)
          have hlx' : ¬ (x : Int) < x := by omega
          go_wp2
          go_roundg gk'
          case measure => exact Nat.lt_succ_self _
          case rel => exact ⟨y + 1, by omega, by go_num, HR⟩
    · obtain rfl : y = H := by omega
      obtain ⟨ac, cc, hv, hz⟩ := HI.out.ints
      rw [gridL_len] at hv
      subst hv
      have HZ := Lib.hid hz
      clear hz
      have HDR := Lib.hid (drawn_any W y hW2 hl2 ac cc (gridL W G (y * W + 0)) (by rw [gridL_len, Nat.mul_comm, Nat.add_zero]) G (fun x y' hx hy => ⟨gridL_get hx hy, HG9.out x y'⟩) wr HZ.out)
      rw [gridL_len] at HDR
      go_wp2_with fail
      refine HDR.out.mono ?_
      rintro e w4 ⟨a', c', rfl, hst, hb4⟩
      have HE := Lib.hid (And.intro hst (HI.out.b.trans (hb4.mono HI.out.b.size)))
      clear hst hb4
      go_wp2
      go_ret2
      exact ⟨a', c', rfl, HE.out.1, HE.out.2⟩

end Go.Proofs.Ytfnkomecbbmfmaa

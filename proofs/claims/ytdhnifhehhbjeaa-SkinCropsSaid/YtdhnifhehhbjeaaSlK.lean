/- Skins: the reference's checked, in, Crop, Punch. -/
import Derived.Test.YtdhnifhehhbjeaaSlJ
namespace Go.Proofs.Ytdhnifhehhbjeaa
open Go.RowKit

theorem memK {w w' : World} {b off : Nat} {s0 x y u v : Value} {T : TypeId} (l1 : b < w.heap.size) (c1 : w.cell? ⟨b, off, none⟩ = some s0) (h : Mem w [(w.heap.size, #[x, y, u, v], T)] w') :
    Mem w [(w.heap.size, #[x, y, u, v], T)] w' ∧ w'.cell? ⟨b, off, none⟩ = some s0 ∧ w'.cell? ⟨w.heap.size, 0, none⟩ = some x ∧ w'.cell? ⟨w.heap.size, 1, none⟩ = some y ∧ w'.cell? ⟨w.heap.size, 2, none⟩ = some u ∧ w'.cell? ⟨w.heap.size, 3, none⟩ = some v :=
  ⟨h, (h.b.cell (p := ⟨b, off, none⟩) l1).trans c1, h.cell 0, h.cell 1, h.cell 2, h.cell 3⟩

set_option maxRecDepth 100000 in
set_option maxHeartbeats 1600000 in
theorem rChecked_any (a : Option Addr) (cap : Nat) (ss : List ByteArray) (hl : (ss.length : Int) ≤ 9223372036854775807) (hz : ∀ s ∈ ss, s.size ≤ 9223372036854775807) (x y u v : Int) (w : World) (h : StrS w a ss) :
    Calls Try.prog 69 #[.slice a ss.length cap, .agg #[.int .i64 x, .int .i64 y, .int .i64 u, .int .i64 v]] w fun e w' => e = .returned (.int .i64 (rectE ss x y u v)) ∧ Below w.heap.size w w' := by
  have hm : Below w.heap.size w (w.alloc (.cells #[.int .i64 x, .int .i64 y, .int .i64 u, .int .i64 v] 39)) := (Below.refl _ _).alloc (Nat.le_refl _) _
  have HM := Lib.hid ((Mem.nil w).alloc #[.int .i64 x, .int .i64 y, .int .i64 u, .int .i64 v] 39)
  have HV := Lib.hid (fun w' (hb : Below w.heap.size w w') => rValid_any a cap ss hl hz w' (h.below hb))
  obtain ⟨E, hE⟩ : ∃ E, E = rectE ss x y u v := ⟨_, rfl⟩
  rw [← hE]
  cases hs : skB ss with
  | false =>
    have hE2 : E = 2 := by rw [hE]; unfold rectE; rw [hs]; rfl
    rw [hs] at HV
    subst hE2
    clear hs h hE hl hz
    go_enter Try.func69, Try.ntmps69
    go_wp2_with fail
    refine (HV.out _ hm).mono ?_
    rintro e w1 ⟨rfl, rfl⟩
    go_wp2
    go_ret
    exact ⟨rfl, hm⟩
  | true =>
    rw [hs] at HV
    have HR := Lib.hid (rRect_any x y u v)
    cases hr : rectB x y u v with
    | false =>
      have hE2 : E = 2 := by rw [hE]; unfold rectE; rw [hs, hr]; rfl
      rw [hr] at HR
      subst hE2
      clear hs h hE hl hz hr
      go_enter Try.func69, Try.ntmps69
      go_wp2_with fail
      refine (HV.out _ hm).mono ?_
      rintro e w1 ⟨rfl, rfl⟩
      go_wp2_with fail
      refine (HR.out _).mono ?_
      rintro e w1 ⟨rfl, hb⟩
      have HE := Lib.hid (HM.out.step hb).b
      clear hb
      go_wp2
      go_ret
      exact ⟨rfl, HE.out⟩
    | true =>
      rw [hr] at HR
      obtain ⟨⟨hl1, hl2⟩, ⟨hw1, hw2⟩, hrw⟩ := skB_iff.1 hs
      obtain ⟨r1, r2, r3, r4⟩ := rectB_iff.1 hr
      obtain ⟨b, off, rfl, hb0, hc0⟩ := h.at_ (k := 0) (by omega)
      obtain ⟨s0, hs0⟩ : ∃ s, s = ss[0] := ⟨_, rfl⟩
      have hz0 : s0.size = wid ss := by rw [hs0]; exact (hrw 0 (by omega)).1
      rw [← hs0, Nat.add_zero] at hc0
      have HL := Lib.hid (rLies_any x y u v (wid ss) ss.length hw2 hl2 r3 r4)
      have hE2 : E = (if liesB x y u v (wid ss) ss.length = true then 0 else 5) := by rw [hE]; unfold rectE; rw [hs, hr]; rfl
      have HC9 := Lib.hid (fun w' hm => memK (w := w) (w' := w') (x := .int .i64 x) (y := .int .i64 y) (u := .int .i64 u) (v := .int .i64 v) (T := 39) hb0 hc0 hm)
      have hzi : (s0.size : Int) = (wid ss : Int) := by rw [hz0]
      have hl0 : (0 : Int) < ss.length := by omega
      obtain ⟨W, hW⟩ : ∃ W, W = wid ss := ⟨_, rfl⟩
      rw [← hW] at HL hE2 hzi
      obtain ⟨H, hH⟩ : ∃ H, H = ss.length := ⟨_, rfl⟩
      rw [← hH] at HL hE2 hl0 HV ⊢
      have hl48 : (H : Int) ≤ 48 := by omega
      have hlN : 0 < H := by omega
      have hpan : ¬ ((H : Int) ≤ 0) := by omega
      cases hlb : liesB x y u v W H with
      | false =>
        rw [hlb] at HL hE2
        have hE3 : E = 5 := hE2
        subst hE3
        clear hs h hE hl hz hr hE2 hlb hs0 hz0 hrw hW hc0 hH
        go_enter Try.func69, Try.ntmps69
        go_wp2_with fail
        refine (HV.out _ hm).mono ?_
        rintro e w1 ⟨rfl, rfl⟩
        go_wp2_with fail
        refine (HR.out _).mono ?_
        rintro e w1 ⟨rfl, hb⟩
        have HM1 := Lib.hid (HM.out.step hb)
        clear hb
        go_wp2_with fail
        go_region_held3 (fun w' => Mem w [(w.heap.size, #[.int .i64 x, .int .i64 y, .int .i64 u, .int .i64 v], 39)] w' ∧ w'.cell? ⟨b, off, none⟩ = some (.string s0) ∧ w'.cell? ⟨w.heap.size, 0, none⟩ = some (.int .i64 x) ∧ w'.cell? ⟨w.heap.size, 1, none⟩ = some (.int .i64 y) ∧ w'.cell? ⟨w.heap.size, 2, none⟩ = some (.int .i64 u) ∧ w'.cell? ⟨w.heap.size, 3, none⟩ = some (.int .i64 v))
          (first | exact HC9.out _ HM1.out.drew | (go_split_ands; exact HC9.out _ (Mem.step (by assumption) (by assumption))))
          (first
            | (go_at_call 25; go_split_ands; with_reducible (refine (HL.out _).mono ?_); rintro e w3 ⟨rfl, hb3⟩))
        go_split_ands
        have HE := Lib.hid (Mem.b (by assumption : Mem w [(w.heap.size, #[.int .i64 x, .int .i64 y, .int .i64 u, .int .i64 v], 39)] w3))
        go_wp2
        go_ret
        exact ⟨rfl, HE.out⟩
      | true =>
        rw [hlb] at HL hE2
        have hE3 : E = 0 := hE2
        subst hE3
        clear hs h hE hl hz hr hE2 hlb hs0 hz0 hrw hW hc0 hH
        go_enter Try.func69, Try.ntmps69
        go_wp2_with fail
        refine (HV.out _ hm).mono ?_
        rintro e w1 ⟨rfl, rfl⟩
        go_wp2_with fail
        refine (HR.out _).mono ?_
        rintro e w1 ⟨rfl, hb⟩
        have HM1 := Lib.hid (HM.out.step hb)
        clear hb
        go_wp2_with fail
        go_region_held3 (fun w' => Mem w [(w.heap.size, #[.int .i64 x, .int .i64 y, .int .i64 u, .int .i64 v], 39)] w' ∧ w'.cell? ⟨b, off, none⟩ = some (.string s0) ∧ w'.cell? ⟨w.heap.size, 0, none⟩ = some (.int .i64 x) ∧ w'.cell? ⟨w.heap.size, 1, none⟩ = some (.int .i64 y) ∧ w'.cell? ⟨w.heap.size, 2, none⟩ = some (.int .i64 u) ∧ w'.cell? ⟨w.heap.size, 3, none⟩ = some (.int .i64 v))
          (first | exact HC9.out _ HM1.out.drew | (go_split_ands; exact HC9.out _ (Mem.step (by assumption) (by assumption))))
          (first
            | (go_at_call 25; go_split_ands; with_reducible (refine (HL.out _).mono ?_); rintro e w3 ⟨rfl, hb3⟩))
        go_split_ands
        have HE := Lib.hid (Mem.b (by assumption : Mem w [(w.heap.size, #[.int .i64 x, .int .i64 y, .int .i64 u, .int .i64 v], 39)] w3))
        go_wp2
        go_ret
        exact ⟨rfl, HE.out⟩

set_option maxRecDepth 100000 in
set_option maxHeartbeats 1600000 in
theorem rIn_any (X Y U V x y : Nat) (hX : X ≤ 48) (hY : Y ≤ 48) (hx : x ≤ 48) (hy : y ≤ 48) (w : World) : Calls Try.prog 71 #[.agg #[.int .i64 X, .int .i64 Y, .int .i64 U, .int .i64 V], .int .i64 x, .int .i64 y] w fun e w' => e = .returned (.bool (decide (X ≤ x ∧ x < X + U ∧ Y ≤ y ∧ y < Y + V))) ∧ Below w.heap.size w w' := by
  have hw1 : IntKind.i64.wrap ((x : Int) - X) = (x : Int) - X := IntWalk.i64_in _ (by omega)
  have hw2 : IntKind.i64.wrap ((y : Int) - Y) = (y : Int) - Y := IntWalk.i64_in _ (by omega)
  obtain ⟨r, hr⟩ : ∃ r, r = decide (X ≤ x ∧ x < X + U ∧ Y ≤ y ∧ y < Y + V) := ⟨_, rfl⟩
  have hi : r = true ↔ (X ≤ x ∧ x < X + U ∧ Y ≤ y ∧ y < Y + V) := by rw [hr]; exact decide_eq_true_iff
  have HI := Lib.hid hi
  rw [← hr]
  clear hr hi
  go_enter Try.func71, Try.ntmps71
  go_wp2
  all_goals
    go_ret
    refine ⟨ret_bool ?_, (Below.refl _ _).alloc (Nat.le_refl _) _⟩
    rw [bool_of HI.out]
    first
      | (refine decide_eq_decide.2 ?_; omega)
      | (refine (decide_eq_false ?_).symm; omega)
      | (refine (decide_eq_true ?_).symm; omega)

set_option maxRecDepth 100000 in
set_option maxHeartbeats 3200000 in
theorem rCrop_yes (a : Option Addr) (cap : Nat) (ss : List ByteArray) (hs : skB ss = true) (X Y U V : Nat) (hE : rectE ss X Y U V = 0) (hU : X + U ≤ wid ss) (hV : Y + V ≤ ss.length) (w : World) (h : StrS w a ss) :
    Calls Try.prog 33 #[.slice a ss.length cap, .agg #[.int .i64 X, .int .i64 Y, .int .i64 U, .int .i64 V]] w fun e w' => ∃ a' c', e = .returned (.tuple #[.slice a' (croB ss X Y U V).length c', .int .i64 0]) ∧ StrS w' a' (croB ss X Y U V) ∧ Below w.heap.size w w' := by
  obtain ⟨i0, hi, hz0, hz1, hz2⟩ := info_parts sk_infoInt
  have HI0 := Lib.hid (And.intro hi (And.intro hz0 (And.intro hz1 hz2)))
  clear hi hz0 hz1 hz2
  obtain ⟨⟨hl1, hl2⟩, ⟨hw1, hw2⟩, -⟩ := skB_iff.1 hs
  have HCK := Lib.hid (fun w' (hb : Below w.heap.size w w') => rChecked_any a cap ss (sk_long hs).1 (sk_long hs).2 X Y U V w' (h.below hb))
  rw [hE] at HCK
  have HM := Lib.hid ((Mem.nil w).alloc #[.int .i64 X, .int .i64 Y, .int .i64 U, .int .i64 V] 39)
  obtain ⟨G, hG⟩ : ∃ G, G = croG ss X Y := ⟨_, rfl⟩
  have HG9 : Hid (∀ x y, G x y ≤ 9) := Lib.hid (fun x y => by rw [hG]; exact (grd_toNat hs _ _).1)
  have HGW : Hid (∀ w' (x y : Nat), Below w.heap.size w w' → Calls Try.prog 51 #[.slice a ss.length cap, .int .i64 ((X : Int) + x), .int .i64 ((Y : Int) + y)] w' fun e w'' => e = .returned (.int .i64 ((G x y : Nat) : Int)) ∧ Below w'.heap.size w' w'') := Lib.hid (fun w' x y hb => by
    have h := rGrade_any a cap ss hs ((X : Int) + x) ((Y : Int) + y) w' (h.below hb)
    rw [(grd_toNat hs _ _).2] at h
    rw [hG]
    exact h.mono (fun e w'' ⟨h1, h2⟩ => ⟨h1, h2 ▸ Below.refl _ _⟩))
  have hcb : croB ss X Y U V = drawB U V G := by rw [hG]; rfl
  rw [hcb, drawB_len]
  have hX48 : X ≤ 48 := by omega
  have hY48 : Y ≤ 48 := by omega
  have hW2 : U ≤ 48 := by omega
  have hV2 : V ≤ 48 := by omega
  have hU48 : (U : Int) ≤ 48 := by omega
  have hV48 : (V : Int) ≤ 48 := by omega
  clear hs h hE hG hcb hl1 hl2 hw1 hw2 hU hV
  go_enter Try.func33, Try.ntmps33
  go_wp2_with fail
  refine (HCK.out _ HM.out.b).mono ?_
  rintro e w1 ⟨rfl, hb⟩
  have HM1 := Lib.hid (HM.out.step hb)
  have HRC : Hid (∀ w', Below w1.heap.size w1 w' → (w'.cell? ⟨w.heap.size, 0, none⟩ = some (.int .i64 X) ∧ w'.cell? ⟨w.heap.size, 1, none⟩ = some (.int .i64 Y)) ∧ (w'.cell? ⟨w.heap.size, 2, none⟩ = some (.int .i64 U) ∧ w'.cell? ⟨w.heap.size, 3, none⟩ = some (.int .i64 V)) ∧ w.heap.size < w'.heap.size) := Lib.hid (fun w' hb' => by
    have hm := HM1.out.step hb'
    exact ⟨⟨hm.cell 0, hm.cell 1⟩, ⟨hm.cell 2, hm.cell 3⟩, hm.head_lt⟩)
  have HGR : Hid (∀ w' (x y : Nat), x < U → y < V → Below w1.heap.size w1 w' → Calls Try.prog 51 #[.slice a ss.length cap, .int .i64 ((X : Int) + x), .int .i64 ((Y : Int) + y)] w' fun e w'' => e = .returned (.int .i64 ((G x y : Nat) : Int)) ∧ Below w'.heap.size w' w'') := Lib.hid (fun w' x y _ _ hb' => HGW.out w' x y (HM1.out.b.trans (hb'.mono HM1.out.b.size)))
  have HO0 : Hid (OV w1 3 (.slice none 0 0) ((gridL U G (0 * U + 0)).map (Value.int .i64)) w1) := Lib.hid (by rw [Nat.zero_mul]; exact OV.start w1 _)
  obtain ⟨⟨c0, c1⟩, ⟨c2, c3⟩, c4⟩ := HRC.out w1 (Below.refl _ _)
  clear hb
  go_wp2
  clear c0 c1 c2 c3 c4
  go_loopg [7, 18] V (fun gk v i wr => ∃ y : Nat, y + gk = V ∧ i = .int .i64 y ∧ Hid (OV w1 3 v ((gridL U G (y * U + 0)).map (Value.int .i64)) wr))
  case atStart => exact ⟨0, by omega, rfl, HO0⟩
  case round =>
    obtain ⟨y, hy, rfl, HI⟩ := hrel
    by_cases hlt : y < V
    · obtain ⟨gk', rfl⟩ : ∃ m, gk = m + 1 := ⟨gk - 1, by omega⟩
      have hlt' : (y : Int) < V := by omega
      have hy0 : (0 : Int) ≤ y := by omega
      have hmul : y * U ≤ 47 * 48 := Nat.mul_le_mul (by omega) hW2
      obtain ⟨⟨c0, c1⟩, ⟨c2, c3⟩, c4⟩ := HRC.out wr HI.out.b
      go_wp2
      go_loopg [7, 23] U (fun gj v i wr => ∃ x : Nat, x + gj = U ∧ i = .int .i64 x ∧ Hid (OV w1 3 v ((gridL U G (y * U + x)).map (Value.int .i64)) wr))
      case atStart => exact ⟨0, by omega, rfl, HI⟩
      case round =>
        obtain ⟨x, hx, rfl, HI2⟩ := hrel
        clear c0 c1 c2 c3 c4
        by_cases hlx : x < U
        · obtain ⟨gj', rfl⟩ : ∃ m, gk = m + 1 := ⟨gk - 1, by omega⟩
          have hlx' : (x : Int) < U := by omega
          have hx0 : (0 : Int) ≤ x := by omega
          obtain ⟨g, hg⟩ : ∃ g, g = G x y := ⟨_, rfl⟩
          have HCL := Lib.hid (HGR.out wr x y hlx hlt HI2.out.b)
          rw [← hg] at HCL
          obtain ⟨⟨c0, c1⟩, ⟨c2, c3⟩, c4⟩ := HRC.out wr HI2.out.b
          have hv1 : IntKind.i64.wrap ((X : Int) + (x : Int)) = (X : Int) + (x : Int) := IntWalk.i64_in _ (by omega)
          have hv2 : IntKind.i64.wrap ((Y : Int) + (y : Int)) = (Y : Int) + (y : Int) := IntWalk.i64_in _ (by omega)
          obtain ⟨n, hn⟩ : ∃ n, n = y * U + x := ⟨_, rfl⟩
          have HGN : Hid (gridL U G (y * U + (x + 1)) = gridL U G n ++ [(g : Int)]) := Lib.hid (by rw [hg, hn]; exact gridL_next hlx)
          rw [← hn] at HI2
          have hnl : (gridL U G n).length = n := gridL_len _ _ _
          obtain ⟨LL, hLL⟩ : ∃ LL, LL = gridL U G n := ⟨_, rfl⟩
          rw [← hLL] at HGN HI2 hnl
          obtain ⟨LV, hLV⟩ : ∃ LV, LV = LL.map (Value.int .i64) := ⟨_, rfl⟩
          have HLV := Lib.hid hLV
          rw [← hLV] at HI2
          have hvl : LV.length = n := by rw [hLV, List.length_map]; exact hnl
          have hn2 : n ≤ 2304 := by omega
          have HNL := Lib.hid hvl
          clear hg hn hLL hnl hLV hvl
          go_wp2_with fail
          refine HCL.out.mono ?_
          rintro e w3 ⟨rfl, hb3⟩
          have HI3 := Lib.hid (HI2.out.step hb3)
          clear hb3
          have hown := HI3.out.own
          rw [HNL.out] at hown
          have hbs := HI3.out.b.size
          obtain ⟨gi, hgi⟩ : ∃ gi : Int, gi = g := ⟨_, rfl⟩
          rw [← hgi] at HGN
          try rw [← hgi]
          have HOL : Hid (∀ v' w6, w6.ownsRow w1.heap.size 3 1 v' (n + 1) (LV ++ [.int .i64 gi]) → (w3.alloc (.cells #[.int .i64 gi] 3)).grownBy w6 u7.ownBlock → OV w1 3 v' ((gridL U G (y * U + (x + 1))).map (Value.int .i64)) w6) := Lib.hid (fun v' w6 ho hg => by
            have h := (HI3.out.step ((Below.refl _ _).alloc (Nat.le_refl _) (.cells #[.int .i64 gi] 3))).push (v' := v') (x := .int .i64 gi) (w2 := w6) (by rw [HNL.out]; exact ho) hg
            rw [HGN.out, List.map_append, ← HLV.out]
            exact h)
          clear hgi
          go_wp2_with (at_builtin; refine wpList_append_own _ rfl _ _ 23 rfl w1.heap.size 3 i0 (.int .i64 0) 1 8 Try.underlying23 HI0.out.1 HI0.out.2.1 HI0.out.2.2.1 HI0.out.2.2.2 rfl (by decide) u7 n LV rfl (hown.alloc _) ⟨w3.heap.size, 0, none⟩ 1 1 [.int .i64 gi] rfl rfl (cell_one_new _ _ _) (by intro u hu; simp at hu; rw [hu]; rfl) (by unfold maxLen; omega) (by omega) (by simp; omega) ?_)
          intro v' w6 hown6 hgrow6 hnil6
          have HN := Lib.hid (HOL.out v' w6 hown6 hgrow6)
          clear hown6 hgrow6 hown hnil6
          go_wp2
          go_roundg gj'
          case measure => exact Nat.lt_succ_self _
          case rel => exact ⟨x + 1, by omega, by go_num, HN⟩
        · obtain rfl : x = U := by omega
          have HR : Hid (OV w1 3 u7 ((gridL x G ((y + 1) * x + 0)).map (Value.int .i64)) wr) := Lib.hid (by rw [gridL_row]; exact HI2.out)
          have hlx' : ¬ (x : Int) < x := by omega
          go_wp2
          go_roundg gk'
          case measure => exact Nat.lt_succ_self _
          case rel => exact ⟨y + 1, by omega, by go_num, HR⟩
    · obtain rfl : y = V := by omega
      obtain ⟨ac, cc, hv, hz⟩ := HI.out.ints
      rw [gridL_len] at hv
      subst hv
      have HZ := Lib.hid hz
      clear hz
      obtain ⟨⟨c0, c1⟩, ⟨c2, c3⟩, c4⟩ := HRC.out wr HI.out.b
      have HDR := Lib.hid (drawn_any U y hW2 hV2 ac cc (gridL U G (y * U + 0)) (by rw [gridL_len, Nat.mul_comm, Nat.add_zero]) G (fun x y' hx hy => ⟨gridL_get hx hy, HG9.out x y'⟩) wr HZ.out)
      rw [gridL_len] at HDR
      go_wp2_with fail
      refine HDR.out.mono ?_
      rintro e w4 ⟨a', c', rfl, hst, hb4⟩
      have HE := Lib.hid (And.intro hst (HM1.out.b.trans ((HI.out.b.trans (hb4.mono HI.out.b.size)).mono HM1.out.b.size)))
      clear hst hb4 c0 c1 c2 c3 c4
      go_wp2
      go_ret2
      exact ⟨a', c', rfl, HE.out.1, HE.out.2⟩

set_option maxRecDepth 100000 in
set_option maxHeartbeats 1600000 in
theorem rCrop_no (a : Option Addr) (cap : Nat) (ss : List ByteArray) (hl : (ss.length : Int) ≤ 9223372036854775807) (hz : ∀ s ∈ ss, s.size ≤ 9223372036854775807) (x y u v E : Int) (hE : rectE ss x y u v = E) (hE2 : E = 2 ∨ E = 5) (w : World) (h : StrS w a ss) :
    Calls Try.prog 33 #[.slice a ss.length cap, .agg #[.int .i64 x, .int .i64 y, .int .i64 u, .int .i64 v]] w fun e w' => e = .returned (.tuple #[.slice none 0 0, .int .i64 E]) ∧ Below w.heap.size w w' := by
  have HCR := Lib.hid (fun w' (hb : Below w.heap.size w w') => rChecked_any a cap ss hl hz x y u v w' (h.below hb))
  rw [hE] at HCR
  have HM := Lib.hid ((Mem.nil w).alloc #[.int .i64 x, .int .i64 y, .int .i64 u, .int .i64 v] 39)
  clear h hE hl hz
  rcases hE2 with rfl | rfl
  all_goals
    go_enter Try.func33, Try.ntmps33
    go_wp2_with fail
    refine (HCR.out _ HM.out.b).mono ?_
    rintro e w1 ⟨rfl, hb⟩
    have HE := Lib.hid (HM.out.step hb).b
    clear hb
    go_wp2
    go_ret2
    exact ⟨rfl, HE.out⟩

set_option maxRecDepth 100000 in
set_option maxHeartbeats 1600000 in
theorem rPunch_no (a : Option Addr) (cap : Nat) (ss : List ByteArray) (hl : (ss.length : Int) ≤ 9223372036854775807) (hz : ∀ s ∈ ss, s.size ≤ 9223372036854775807) (x y u v E : Int) (hE : rectE ss x y u v = E) (hE2 : E = 2 ∨ E = 5) (w : World) (h : StrS w a ss) :
    Calls Try.prog 35 #[.slice a ss.length cap, .agg #[.int .i64 x, .int .i64 y, .int .i64 u, .int .i64 v]] w fun e w' => e = .returned (.tuple #[.slice none 0 0, .int .i64 E]) ∧ Below w.heap.size w w' := by
  have HCR := Lib.hid (fun w' (hb : Below w.heap.size w w') => rChecked_any a cap ss hl hz x y u v w' (h.below hb))
  rw [hE] at HCR
  have HM := Lib.hid ((Mem.nil w).alloc #[.int .i64 x, .int .i64 y, .int .i64 u, .int .i64 v] 39)
  clear h hE hl hz
  rcases hE2 with rfl | rfl
  all_goals
    go_enter Try.func35, Try.ntmps35
    go_wp2_with fail
    refine (HCR.out _ HM.out.b).mono ?_
    rintro e w1 ⟨rfl, hb⟩
    have HE := Lib.hid (HM.out.step hb).b
    clear hb
    go_wp2
    go_ret2
    exact ⟨rfl, HE.out⟩

end Go.Proofs.Ytdhnifhehhbjeaa

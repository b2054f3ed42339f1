/- Skins: depths. -/
import Derived.Test.YtndhnpljdldlpabSmF
import Derived.StillTailTactics
import Derived.BigRegion
namespace Go.Proofs.Ytndhnpljdldlpab
open Go.RowKit

theorem depTo_set (U : Int → Int → Bool) (H y x : Nat) (hy : y < H) (hu : U x y = true) (y' x' : Nat) : (if y' = y ∧ x' = x then (dep U x (y + 1) (H - (y + 1)) : Int) + 1 else depTo U H y x y' x') = depTo U H y (x + 1) y' x' := by
  have hd := dep_succ U H x y hy
  rw [if_pos hu] at hd
  unfold depTo
  by_cases e : y' = y ∧ x' = x
  · obtain ⟨rfl, rfl⟩ := e
    rw [if_pos ⟨rfl, rfl⟩, if_pos (by omega), hd]
    omega
  · rw [if_neg e]
    by_cases e2 : y < y' ∨ (y' = y ∧ x' < x)
    · rw [if_pos e2, if_pos (by omega)]
    · rw [if_neg e2, if_neg (by omega)]
theorem depTo_zero (U : Int → Int → Bool) (H y x : Nat) (hy : y < H) (hu : U x y = false) (y' x' : Nat) : depTo U H y x y' x' = depTo U H y (x + 1) y' x' := by
  have hd := dep_succ U H x y hy
  rw [if_neg (by rw [hu]; simp)] at hd
  unfold depTo
  by_cases e : y' = y ∧ x' = x
  · obtain ⟨rfl, rfl⟩ := e
    rw [if_neg (by omega), if_pos (by omega), hd]
    rfl
  · by_cases e2 : y < y' ∨ (y' = y ∧ x' < x)
    · rw [if_pos e2, if_pos (by omega)]
    · rw [if_neg e2, if_neg (by omega)]

set_option maxRecDepth 100000 in
set_option maxHeartbeats 3200000 in
theorem depths_any (a : Option Addr) (cap : Nat) (ss : List ByteArray) (hs : skB ss = true) (g : Int) (ps pg : Nat) (w : World) (h : LeaM w ps pg a ss cap g) :
    Calls Try.prog 69 #[.slice a ss.length cap, .func (.func 67) #[] #[.pointer (some ⟨ps, 0, none⟩), .pointer (some ⟨pg, 0, none⟩)]] w fun e w' => ∃ n m, e = .returned (.slice (some ⟨n, 0, none⟩) (ss.length + 1) (ss.length + 1)) ∧ DM w n (wid ss) ss.length 0 m (fun y x => dep (usB ss g) x y (ss.length - y)) w' := by
  obtain ⟨⟨hl1, hl2⟩, ⟨hw1, hw2⟩, -⟩ := skB_iff.1 hs
  have hS := h.2.2.2.2
  have HSZ : Hid (Calls Try.prog 58 #[.slice a ss.length cap] w fun e w'' => e = .returned (.tuple #[.int .i64 (wid ss), .int .i64 ss.length]) ∧ w = w'') := Lib.hid (skSize_any a cap ss (by omega) (by omega) w hS)
  have HUS : Hid (∀ w' (x y : Nat), Below w.heap.size w w' → Calls Try.prog 67 #[.agg #[.int .i64 x, .int .i64 y], .pointer (some ⟨ps, 0, none⟩), .pointer (some ⟨pg, 0, none⟩)] w' fun e w'' => e = .returned (.bool (usB ss g x y)) ∧ Below w'.heap.size w' w'') := Lib.hid (fun w' x y hb => usable_any ps pg a cap ss hs g x y w' (h.below hb))
  obtain ⟨W, hW⟩ : ∃ W, W = wid ss := ⟨_, rfl⟩
  obtain ⟨H, hH⟩ : ∃ H, H = ss.length := ⟨_, rfl⟩
  obtain ⟨U, hU⟩ : ∃ U, U = usB ss g := ⟨_, rfl⟩
  rw [← hW] at hw1 hw2 HSZ ⊢
  rw [← hU] at HUS ⊢
  rw [← hH] at hl1 hl2 ⊢
  have hsz := HSZ.out
  rw [← hH] at hsz
  have HSZ2 := Lib.hid hsz
  obtain ⟨L, hL⟩ : ∃ L : Nat, L = H + 1 := ⟨_, rfl⟩
  have hmk := sk_makeRows L (by omega) w
  have hmi := Lib.hid (fun w' => sk_makeInts W (by omega) w')
  have hm1 := sk_makeInts W (by omega) (w.alloc (.cells (cV L fun _ => .slice none 0 0) 50))
  have hwH : IntKind.i64.wrap ((H : Int) + 1) = (L : Int) := by rw [IntWalk.i64_in _ (by omega)]; omega
  have hL49 : (L : Int) ≤ 49 := by omega
  have hL0 : (0 : Int) ≤ L := by omega
  have hHL : (H : Int) < L := by omega
  have hHL' : H < L := by omega
  have hH0 : (0 : Int) ≤ H := by omega
  have hH48 : (H : Int) ≤ 48 := by omega
  have hW48 : (W : Int) ≤ 48 := by omega
  have HL := Lib.hid hL
  have d1 := (DM.start w W H (fun _ _ => 0))
  have d0 := d1
  have hcV : cV (H + 1) (fun _ => Value.slice none 0 0) = cV L (fun _ => Value.slice none 0 0) := by rw [hL]
  rw [hcV] at d0 d1
  have g1 := d0.cnil (y := H) (by omega) (Nat.le_refl _)
  have g2 := d0.fn H
  have g3 := d0.ln
  have g4 : (cV L fun _ => Value.slice none 0 0)[H]? = some (Value.slice none 0 0) := cV_get hHL'
  have g5 : (cV L fun _ => Value.slice none 0 0).size = L := cV_size _ _
  have HD0 : Hid (DM w w.heap.size W H H (fun y => if y = H then w.heap.size + 1 else 0) (depTo U H H W) ((w.alloc (.cells ((cV L fun _ => .slice none 0 0).setIfInBounds H (.slice (some ⟨w.heap.size + 1, 0, none⟩) W W)) 50)).alloc (.cells (cA W fun _ => 0) 3))) := Lib.hid (by
    have h1 := d0.row (Nat.le_refl H)
    have e : (w.alloc (.cells (cV L fun _ => .slice none 0 0) 50)).heap.size = w.heap.size + 1 := by simp
    rw [e, World.setCell_alloc_at _ _ _ _ _ rfl] at h1
    refine h1.congr (fun y x hy hyH hx => ?_)
    obtain rfl : y = H := by omega
    rw [if_pos rfl]
    unfold depTo
    rw [if_pos (by omega), Nat.sub_self]
    rfl)
  rw [← hL]
  clear hs h hW hH hU hL hsz hS d0 d1 hcV HSZ
  go_enter Try.func69, Try.ntmps69
  go_wp2_with fail
  refine HSZ2.out.mono ?_
  rintro e w1 ⟨rfl, rfl⟩
  go_wp2
  clear hmk hm1 g1 g2 g3 g4 g5
  go_loopg [8] H (fun gk i wr => ∃ k : Nat, k + 1 = gk + 1 ∧ k ≤ H ∧ i = .int .i64 ((k : Int) - 1) ∧ Hid (∃ m, DM w w.heap.size W H k m (depTo U H k W) wr))
  case atStart => exact ⟨H, rfl, Nat.le_refl _, rfl, Lib.hid ⟨_, HD0.out⟩⟩
  case round =>
    obtain ⟨k, hk1, hgk, rfl, HI⟩ := hrel
    obtain rfl : k = gk := by omega
    clear hk1
    obtain ⟨m, hI⟩ := HI.out
    by_cases hlt : 0 < k
    · obtain ⟨y, rfl⟩ : ∃ m, k = m + 1 := ⟨k - 1, by omega⟩
      have hy0 : (0 : Int) ≤ (((y + 1 : Nat) : Int)) - 1 := by omega
      have ey : (((y + 1 : Nat) : Int)) - 1 = (y : Int) := by omega
      rw [ey]
      have hyL : (y : Int) < L := by omega
      have hyH : y < H := by omega
      have hyL' : y < L := by omega
      have hyy : (0 : Int) ≤ y := by omega
      have c1 := hI.cnil (y := y) (by omega) (by omega)
      have c2 := hI.fn y
      have c3 := hI.ln
      have hmw := hmi.out wr
      have HR : Hid (DM w w.heap.size W H y (fun k => if k = y then wr.heap.size else m k) (depTo U H y 0) ((wr.setCell ⟨w.heap.size, y, none⟩ (.slice (some ⟨wr.heap.size, 0, none⟩) W W)).alloc (.cells (cA W fun _ => 0) 3))) := Lib.hid (by
        have h1 := hI.row (by omega)
        refine h1.congr (fun y' x' hy' hyH' hx' => ?_)
        unfold depTo
        by_cases e : y' = y
        · subst e; rw [if_pos rfl, if_neg (by omega)]
        · rw [if_neg e, if_pos (by omega), if_pos (by omega)])
      clear hI ey hy0
      go_wp2
      clear c1 c2 c3 hmw
      obtain ⟨m2, hm2⟩ : ∃ m2, m2 = (fun k => if k = y then wr.heap.size else m k) := ⟨_, rfl⟩
      rw [← hm2] at HR
      clear hm2 HI
      go_loopg [35] W (fun gj i wr => ∃ x : Nat, x + gj = W ∧ i = .int .i64 x ∧ Hid (DM w w.heap.size W H y m2 (depTo U H y x) wr))
      case atStart => exact ⟨0, by omega, rfl, HR⟩
      case round =>
        obtain ⟨x, hx, rfl, HI2⟩ := hrel
        by_cases hlx : x < W
        · obtain ⟨gj', rfl⟩ : ∃ m, gk = m + 1 := ⟨gk - 1, by omega⟩
          have hlx' : (x : Int) < W := by omega
          have hx0 : (0 : Int) ≤ x := by omega
          have HCL := Lib.hid (HUS.out wr x y HI2.out.b)
          cases hu : U x y with
          | true =>
            rw [hu] at HCL
            have HU := Lib.hid hu
            clear hu
            go_wp2_with fail
            refine HCL.out.mono ?_
            rintro e w3 ⟨rfl, hb3⟩
            have h3 := HI2.out.step hb3
            have c1 := h3.cn (y := y) (Nat.le_refl _) (by omega)
            have c2 := h3.cn (y := y + 1) (by omega) (by omega)
            have c3 := h3.cm (y := y + 1) (x := x) (by omega) (by omega) hlx
            have c4 := h3.cm (y := y) (x := x) (Nat.le_refl _) (by omega) hlx
            have c5 := h3.fm (y := y) (Nat.le_refl _) (by omega) x
            have c6 := h3.ln
            have c7 := h3.lm (y := y) (Nat.le_refl _) (by omega)
            have c8 := h3.lm (y := y + 1) (by omega) (by omega)
            have hw1 : IntKind.i64.wrap ((y : Int) + 1) = ((y + 1 : Nat) : Int) := by rw [IntWalk.i64_in _ (by omega)]; omega
            have hT1 : ((y + 1 : Nat) : Int) < L := by omega
            have hT0 : (0 : Int) ≤ ((y + 1 : Nat) : Int) := by omega
            have hd := dep_le U x (H - (y + 1)) (y + 1)
            rw [show depTo U H y x (y + 1) x = dep U x (y + 1) (H - (y + 1)) by unfold depTo; rw [if_pos (by omega)]] at c3
            obtain ⟨d, hdd⟩ : ∃ d, d = dep U x (y + 1) (H - (y + 1)) := ⟨_, rfl⟩
            rw [← hdd] at c3 hd
            have hw2 : IntKind.i64.wrap ((d : Int) + 1) = (d : Int) + 1 := IntWalk.i64_in _ (by omega)
            have hs3 := h3.set (y := y) (Nat.le_refl _) (by omega) x ((d : Int) + 1)
            have HN := Lib.hid ((hs3.congr (f' := depTo U H y (x + 1)) (fun y' x' _ _ _ => by rw [hdd]; exact depTo_set U H y x hyH HU.out y' x')).step (Below.refl _ _).drew)
            obtain ⟨T, hT⟩ : ∃ T : Nat, T = y + 1 := ⟨_, rfl⟩
            rw [← hT] at c2 c3 c8 hw1 hT1 hT0
            obtain ⟨my, hmy⟩ : ∃ b : Nat, b = m2 y := ⟨_, rfl⟩
            obtain ⟨mT, hmT⟩ : ∃ b : Nat, b = m2 T := ⟨_, rfl⟩
            rw [← hmy] at c1 c4 c5 c7 HN
            rw [← hmT] at c2 c3 c8
            clear h3 hb3 hs3 hdd hT hmy hmT
            go_wp2_with fail
            go_still_tail 15, (by kernel_rfl)
            go_wp2
            go_roundg gj'
            case measure => exact Nat.lt_succ_self _
            case rel => exact ⟨x + 1, by omega, by go_num, HN⟩
          | false =>
            rw [hu] at HCL
            have HU := Lib.hid hu
            clear hu
            go_wp2_with fail
            refine HCL.out.mono ?_
            rintro e w3 ⟨rfl, hb3⟩
            have HN := Lib.hid ((HI2.out.step hb3).congr (f' := depTo U H y (x + 1)) (fun y' x' _ _ _ => depTo_zero U H y x hyH HU.out y' x'))
            clear hb3
            go_wp2
            go_roundg gj'
            case measure => exact Nat.lt_succ_self _
            case rel => exact ⟨x + 1, by omega, by go_num, HN⟩
        · obtain rfl : x = W := by omega
          have hlx' : ¬ (x : Int) < x := by omega
          go_wp2
          go_roundg y
          case measure => exact Nat.lt_succ_self _
          case rel => exact ⟨y, rfl, by omega, rfl, Lib.hid ⟨_, HI2.out⟩⟩
    · obtain rfl : k = 0 := by omega
      have HE : Hid (∃ m, DM w w.heap.size W H 0 m (fun y x => dep U x y (H - y)) wr) := Lib.hid ⟨m, hI.congr (fun y x hy _ hx => depTo_row U W H 0 y x hx (Nat.zero_le _))⟩
      clear hI
      go_wp2
      go_ret
      obtain ⟨m', hE⟩ := HE.out
      exact ⟨_, m', by rw [HL.out]; rfl, hE⟩

end Go.Proofs.Ytndhnpljdldlpab

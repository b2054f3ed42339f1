/- Skins: tableOf, NewTable. -/
import Derived.Test.YtndhnpljdldlpabSmA
import Derived.Outline
namespace Go.Proofs.Ytndhnpljdldlpab
open Go.RowKit

theorem sk_infoRow : (Try.prog.info? 50).map (fun i => (i.zero, i.size, i.bytes)) = some (some (.slice none 0 0), 1, 24) := by kernel_rfl

theorem sk_makeRows (n : Nat) (hn : (n : Int) ≤ 1000000) (w : World) :
    (Instr.makeSlice 118 (.int .i64 n) (.int .i64 n)).run Try.prog w = .ok (.slice (some ⟨w.heap.size, 0, none⟩) n n) (w.alloc (.cells (cV n fun _ => .slice none 0 0) 50)) := by
  obtain ⟨i0, hi, hz0, hz1, hz2⟩ := info_parts sk_infoRow
  have h := run_make (P := Try.prog) w 118 50 i0 (.slice none 0 0) Try.underlying118 hi hz0 .i64 .i64 n n (by omega) (by omega) (by rw [hz2]; omega) (by omega)
  rw [h]
  simp only [Int.toNat_natCast, hz1, Nat.mul_one, cV_made (.slice none 0 0) rfl]
theorem sk_makeInts (n : Nat) (hn : (n : Int) ≤ 1000000) (w : World) :
    (Instr.makeSlice 50 (.int .i64 n) (.int .i64 n)).run Try.prog w = .ok (.slice (some ⟨w.heap.size, 0, none⟩) n n) (w.alloc (.cells (cA n fun _ => 0) 3)) := by
  obtain ⟨i0, hi, hz0, hz1, hz2⟩ := info_parts sk_infoInt
  have h := run_make (P := Try.prog) w 50 3 i0 (.int .i64 0) Try.underlying50 hi hz0 .i64 .i64 n n (by omega) (by omega) (by rw [hz2]; omega) (by omega)
  rw [h]
  simp only [Int.toNat_natCast, hz1, Nat.mul_one, cV_made (.int .i64 0) rfl]
  rfl

section
variable {w0 wr : World} {pu pt p n B W H K : Nat} {vu : Value} {f : Nat → Nat → Int}
/-- One row more. -/
theorem GM.row (h : GM w0 pu pt p n B W H K vu (fun _ _ => 0) wr) (hz : wr.heap.size = B + K) (hK : K ≤ H) :
    GM w0 pu pt p n B W H (K + 1) vu (fun _ _ => 0) ((wr.alloc (.cells (cA (W + 1) fun _ => 0) 3)).setCell ⟨n, K, none⟩ (.slice (some ⟨B + K, 0, none⟩) (W + 1) (W + 1))) := by
  have h1 := h.step ((Below.refl wr.heap.size wr).alloc (Nat.le_refl _) (.cells (cA (W + 1) fun _ => 0) 3))
  obtain ⟨w1, hw1⟩ : ∃ w1, w1 = wr.alloc (.cells (cA (W + 1) fun _ => 0) 3) := ⟨_, rfl⟩
  have hnew : w1.heap[B + K]? = some (.cells (cA (W + 1) fun _ => 0) 3 (0, 0)) := by rw [hw1, ← hz]; exact heap_alloc_new _ _
  have hsz : w1.heap.size = B + K + 1 := by rw [hw1]; simp [hz]
  rw [← hw1] at h1 ⊢
  obtain ⟨m1, m2, m3, m4⟩ := h1.le
  obtain ⟨l1, l2, l3, l4⟩ := h1.lt
  obtain ⟨d1, d2, d3⟩ := h1.hd
  have hne : ∀ q, q ≠ n → (w1.setCell ⟨n, K, none⟩ (.slice (some ⟨B + K, 0, none⟩) (W + 1) (W + 1))).heap[q]? = w1.heap[q]? := by
    intro q hq
    simp only [World.setCell, Array.getElem?_modify]
    rw [if_neg (fun e => hq e.symm)]
  refine ⟨h1.b.setCell m4 _, h1.le, h1.lt, h1.hd, (hne _ d1).trans h1.hu, (hne _ d2).trans h1.ht, (hne _ d3).trans h1.hp, ?_, fun y hy => ?_, ?_⟩
  · simp only [World.setCell, Array.getElem?_modify, h1.hn]
    simp [cV_set]
    exact cV_congr fun k _ => by
      unfold rowV
      by_cases e : k = K
      · subst e; rw [if_pos rfl, if_pos (by omega)]
      · rw [if_neg e]
        by_cases e2 : k < K
        · rw [if_pos e2, if_pos (by omega)]
        · rw [if_neg e2, if_neg (by omega)]
  · rw [hne _ (by omega)]
    by_cases e : y = K
    · subst e; exact hnew
    · exact h1.hm y (by omega)
  · have : (w1.setCell ⟨n, K, none⟩ (.slice (some ⟨B + K, 0, none⟩) (W + 1) (W + 1))).heap.size = w1.heap.size := by simp [World.setCell]
    omega
theorem GM.cnil (h : GM w0 pu pt p n B W H K vu f wr) {y : Nat} (hy : K ≤ y) (hH : y ≤ H) : wr.cell? ⟨n, y, none⟩ = some (.slice none 0 0) := by
  have e : rowV B W K y = .slice none 0 0 := if_neg (by omega)
  simp only [World.cell?]
  rw [h.hn, ← e]
  exact cV_get (by omega)
theorem GM.start (w : World) (W H : Nat) (vu : Value) : GM w w.heap.size (w.heap.size + 1 + 1 + 1) (w.heap.size + 1 + 1) (w.heap.size + 1) (w.heap.size + 1 + 1 + 1 + 1) W H 0 vu (fun _ _ => 0)
    ((((w.alloc (.cells #[vu] 58)).alloc (.cells (cV (H + 1) fun _ => .slice none 0 0) 50)).alloc (.cells #[.slice (some ⟨w.heap.size + 1, 0, none⟩) (H + 1) (H + 1)] 120)).alloc (.cells #[.pointer (some ⟨w.heap.size + 1 + 1, 0, none⟩)] 61)) := by
  obtain ⟨o1, h1⟩ : ∃ o, o = Obj.cells #[vu] 58 := ⟨_, rfl⟩
  obtain ⟨o2, h2⟩ : ∃ o, o = Obj.cells (cV (H + 1) fun _ => .slice none 0 0) 50 := ⟨_, rfl⟩
  obtain ⟨o3, h3⟩ : ∃ o, o = Obj.cells #[.slice (some ⟨w.heap.size + 1, 0, none⟩) (H + 1) (H + 1)] 120 := ⟨_, rfl⟩
  obtain ⟨o4, h4⟩ : ∃ o, o = Obj.cells #[.pointer (some ⟨w.heap.size + 1 + 1, 0, none⟩)] 61 := ⟨_, rfl⟩
  rw [← h1, ← h2, ← h3, ← h4]
  have e0 : (((w.alloc o1).alloc o2).alloc o3).heap.size = w.heap.size + 1 + 1 + 1 := by simp
  have e1 : ((w.alloc o1).alloc o2).heap.size = w.heap.size + 1 + 1 := by simp
  have e2 : (w.alloc o1).heap.size = w.heap.size + 1 := by simp
  have b0 := Below.heap_alloc (((w.alloc o1).alloc o2).alloc o3) o4
  have b1 := Below.heap_alloc ((w.alloc o1).alloc o2) o3
  have b2 := Below.heap_alloc (w.alloc o1) o2
  refine ⟨((((Below.refl _ _).alloc (Nat.le_refl _) _).alloc (by omega) _).alloc (by omega) _).alloc (by omega) _, by omega, by omega, by omega, ?_, ?_, ?_, ?_, fun y hy => by omega, by simp⟩
  · rw [b0 _ (by omega), b1 _ (by omega), b2 _ (by omega), h1]; exact heap_alloc_new _ _
  · have := heap_alloc_new (((w.alloc o1).alloc o2).alloc o3) o4
    rw [e0, h4] at this
    rw [h4]; exact this
  · rw [b0 _ (by omega)]
    have := heap_alloc_new ((w.alloc o1).alloc o2) o3
    rw [e1, h3] at this
    rw [h3]; exact this
  · rw [b0 _ (by omega), b1 _ (by omega)]
    have := heap_alloc_new (w.alloc o1) o2
    rw [e2, h2] at this
    rw [h2]
    have e : (fun _ : Nat => Value.slice none 0 0) = rowV (w.heap.size + 1 + 1 + 1 + 1) W 0 := by
      funext y
      unfold rowV
      rw [if_neg (by omega)]
    rw [← e]; exact this
end

set_option maxRecDepth 100000 in
set_option maxHeartbeats 1600000 in
theorem walk_tab (a : Option Addr) (cap : Nat) (ss : List ByteArray) (hs : skB ss = true) (p1 p2 : Value) (I : Nat → Nat → World → Prop) (w : World) (h : StrS w a ss) (h0 : I 0 0 w)
    (hrow : ∀ y w', I y (wid ss) w' → I (y + 1) 0 w')
    (hstep : ∀ x y w', x < wid ss → y < ss.length → I y x w' → Calls Try.prog 68 #[.agg #[.int .i64 x, .int .i64 y], p1, p2] w' fun e w'' => e = .returned (.tuple #[]) ∧ I y (x + 1) w'') :
    Calls Try.prog 63 #[.slice a ss.length cap, .func (.func 68) #[] #[p1, p2]] w fun e w' => e = .returned (.tuple #[]) ∧ I ss.length 0 w' := by
  obtain ⟨⟨hl1, hl2⟩, ⟨hw1, hw2⟩, -⟩ := skB_iff.1 hs
  have HSZ : Hid (Calls Try.prog 58 #[.slice a ss.length cap] w fun e w'' => e = .returned (.tuple #[.int .i64 (wid ss), .int .i64 ss.length]) ∧ w = w'') := Lib.hid (skSize_any a cap ss (by omega) (by omega) w h)
  obtain ⟨W, hW⟩ : ∃ W, W = wid ss := ⟨_, rfl⟩
  obtain ⟨H, hH⟩ : ∃ H, H = ss.length := ⟨_, rfl⟩
  rw [← hW] at HSZ hrow hstep hw1 hw2
  rw [← hH] at hstep hl1 hl2 ⊢
  have hSZ := HSZ.out
  rw [← hH] at hSZ
  have HSZ2 := Lib.hid hSZ
  have HROW := Lib.hid hrow
  have HSTEP := Lib.hid hstep
  have H0 := Lib.hid h0
  clear hrow hstep h0 hW hH h hs HSZ hSZ
  go_enter Try.func63, Try.ntmps63
  go_wp2_with fail
  refine HSZ2.out.mono ?_
  rintro e w1 ⟨rfl, rfl⟩
  go_wp2
  go_loopg [14] H (fun gk i wr => ∃ y : Nat, y + gk = H ∧ i = .int .i64 y ∧ Hid (I y 0 wr))
  case atStart => exact ⟨0, by omega, rfl, H0⟩
  case round =>
    obtain ⟨y, hy, rfl, HI⟩ := hrel
    by_cases hlt : y < H
    · obtain ⟨gk', rfl⟩ : ∃ m, gk = m + 1 := ⟨gk - 1, by omega⟩
      have hlt' : (y : Int) < H := by omega
      go_wp2
      go_loopg [18] W (fun gj i wr => ∃ x : Nat, x + gj = W ∧ i = .int .i64 x ∧ Hid (I y x wr))
      case atStart => exact ⟨0, by omega, rfl, HI⟩
      case round =>
        obtain ⟨x, hx, rfl, HI2⟩ := hrel
        by_cases hlx : x < W
        · obtain ⟨gj', rfl⟩ : ∃ m, gk = m + 1 := ⟨gk - 1, by omega⟩
          have hlx' : (x : Int) < W := by omega
          go_wp2_with fail
          refine (HSTEP.out x y _ hlx hlt HI2.out).mono ?_
          rintro e w3 ⟨rfl, hi3⟩
          have HI3 := Lib.hid hi3
          clear hi3
          go_wp2
          go_roundg gj'
          case measure => exact Nat.lt_succ_self _
          case rel => exact ⟨x + 1, by omega, by go_num, HI3⟩
        · obtain rfl : x = W := by omega
          have hlx' : ¬ (x : Int) < x := by omega
          go_wp2
          go_roundg gk'
          case measure => exact Nat.lt_succ_self _
          case rel => exact ⟨y + 1, by omega, by go_num, Lib.hid (HROW.out _ _ HI2.out)⟩
    · obtain rfl : y = H := by omega
      go_wp2
      go_end0
      exact ⟨rfl, HI.out⟩

set_option maxRecDepth 100000 in
set_option maxHeartbeats 3200000 in
theorem tableOf_any (a : Option Addr) (cap : Nat) (ss : List ByteArray) (hs : skB ss = true) (g : Int) (ps pg : Nat) (w : World) (h : LeaM w ps pg a ss cap g) :
    Calls Try.prog 32 #[.slice a ss.length cap, .func (.func 67) #[] #[.pointer (some ⟨ps, 0, none⟩), .pointer (some ⟨pg, 0, none⟩)]] w fun e w' => ∃ p n m, e = .returned (.pointer (some ⟨p, 0, none⟩)) ∧ TabS w' p n m (wid ss) ss.length (fun x y => tab (usB ss g) x y) ∧ w.heap.size ≤ p ∧ Below w.heap.size w w' := by
  obtain ⟨⟨hl1, hl2⟩, ⟨hw1, hw2⟩, -⟩ := skB_iff.1 hs
  have hS := h.2.2.2.2
  have HSZ : Hid (∀ w', Below w.heap.size w w' → Calls Try.prog 58 #[.slice a ss.length cap] w' fun e w'' => e = .returned (.tuple #[.int .i64 (wid ss), .int .i64 ss.length]) ∧ w' = w'') := Lib.hid (fun w' hb => skSize_any a cap ss (by omega) (by omega) w' (hS.below hb))
  obtain ⟨W, hW⟩ : ∃ W, W = wid ss := ⟨_, rfl⟩
  obtain ⟨H, hH⟩ : ∃ H, H = ss.length := ⟨_, rfl⟩
  rw [← hW] at hw1 hw2 HSZ ⊢
  rw [← hH] at hl1 hl2 HSZ ⊢
  have hmk := sk_makeRows (H + 1) (by omega)
  have hmi := sk_makeInts (W + 1) (by omega)
  have hwH : IntKind.i64.wrap ((H : Int) + 1) = ((H + 1 : Nat) : Int) := by rw [IntWalk.i64_in _ (by omega)]; omega
  have hwW : IntKind.i64.wrap ((W : Int) + 1) = ((W + 1 : Nat) : Int) := by rw [IntWalk.i64_in _ (by omega)]; omega
  have HWH := Lib.hid (And.intro hW hH)
  obtain ⟨L, hL⟩ : ∃ L : Nat, L = H + 1 := ⟨_, rfl⟩
  obtain ⟨K, hK⟩ : ∃ K : Nat, K = W + 1 := ⟨_, rfl⟩
  rw [← hL] at hmk hwH
  rw [← hK] at hmi hwW
  have HLK := Lib.hid (And.intro hL hK)
  have hL0 : (0 : Int) ≤ L := by omega
  have hL49 : (L : Int) ≤ 49 := by omega
  have hm1 : Below w.heap.size w (w.alloc (.cells #[.func (.func 67) #[] #[.pointer (some ⟨ps, 0, none⟩), .pointer (some ⟨pg, 0, none⟩)]] 58)) := (Below.refl _ _).alloc (Nat.le_refl _) _
  have HW : Hid (∀ pu pt p n B w2, GM w pu pt p n B W H (H + 1) (.func (.func 67) #[] #[.pointer (some ⟨ps, 0, none⟩), .pointer (some ⟨pg, 0, none⟩)]) (fun _ _ => 0) w2 → Calls Try.prog 63 #[.slice a H cap, .func (.func 68) #[] #[.pointer (some ⟨pt, 0, none⟩), .pointer (some ⟨pu, 0, none⟩)]] w2 fun e w' => e = .returned (.tuple #[]) ∧ GM w pu pt p n B W H (H + 1) (.func (.func 67) #[] #[.pointer (some ⟨ps, 0, none⟩), .pointer (some ⟨pg, 0, none⟩)]) (tabTo (usB ss g) H 0) w') := Lib.hid (fun pu pt p n B w2 hg => by
    have hWk := walk_tab a cap ss hs (.pointer (some ⟨pt, 0, none⟩)) (.pointer (some ⟨pu, 0, none⟩)) (fun y x w' => GM w pu pt p n B W H (H + 1) (.func (.func 67) #[] #[.pointer (some ⟨ps, 0, none⟩), .pointer (some ⟨pg, 0, none⟩)]) (tabTo (usB ss g) y x) w') w2 (hS.below hg.b) (hg.congr (fun y x _ _ => (tabTo_zero _ _ _).symm)) (fun y w' hi => hi.congr (fun y' x' _ hx => by rw [hW] at hx; exact tabTo_row _ _ _ _ _ hx)) (fun x y w' hx hy hi => by
      rw [← hW] at hx
      rw [← hH] at hy
      have hc := tabClo w pu pt p n B W H _ hw2 hl2 (tabTo (usB ss g) y x) (fun y' x' hy' hx' => tabTo_bounds _ W H y x y' x' hw2 hl2 hy' hx') x y hx hy (usB ss g) ps pg rfl (fun w' x y hb => usable_any ps pg a cap ss hs g x y w' (h.below hb)) w' hi
      rw [tabTo_next] at hc
      exact hc)
    rw [← hH] at hWk
    exact hWk)
  have HT : Hid (∀ pu pt p n B w', GM w pu pt p n B W H (H + 1) (.func (.func 67) #[] #[.pointer (some ⟨ps, 0, none⟩), .pointer (some ⟨pg, 0, none⟩)]) (tabTo (usB ss g) H 0) w' → TabS w' p n (fun y => B + y) W H (fun x y => tab (usB ss g) x y)) := Lib.hid (fun pu pt p n B w' hg => (hg.congr (f' := fun y x => (tab (usB ss g) x y : Int)) (fun y x hy _ => tabTo_done _ H y x (by omega))).tab)
  clear hW hH hs hS hL hK h
  have HS0 : Hid (GM w w.heap.size (w.heap.size + 1 + 1 + 1) (w.heap.size + 1 + 1) (w.heap.size + 1) (w.heap.size + 1 + 1 + 1 + 1) W H 0 (.func (.func 67) #[] #[.pointer (some ⟨ps, 0, none⟩), .pointer (some ⟨pg, 0, none⟩)]) (fun _ _ => 0) ((((w.alloc (.cells #[.func (.func 67) #[] #[.pointer (some ⟨ps, 0, none⟩), .pointer (some ⟨pg, 0, none⟩)]] 58)).alloc (.cells (cV L fun _ => .slice none 0 0) 50)).alloc (.cells #[.slice (some ⟨w.heap.size + 1, 0, none⟩) L L] 120)).alloc (.cells #[.pointer (some ⟨w.heap.size + 1 + 1, 0, none⟩)] 61))) := Lib.hid (by rw [HLK.out.1]; exact GM.start w W H _)
  go_enter Try.func32, Try.ntmps32
  go_wp2_with fail
  refine (HSZ.out _ hm1).mono ?_
  rintro e w1 ⟨rfl, rfl⟩
  go_wp2
  go_loopg [24] L (fun gk i wr => ∃ y : Nat, y + gk = L ∧ i = .int .i64 y ∧ Hid (GM w w.heap.size (w.heap.size + 1 + 1 + 1) (w.heap.size + 1 + 1) (w.heap.size + 1) (w.heap.size + 1 + 1 + 1 + 1) W H y (.func (.func 67) #[] #[.pointer (some ⟨ps, 0, none⟩), .pointer (some ⟨pg, 0, none⟩)]) (fun _ _ => 0) wr ∧ wr.heap.size = w.heap.size + 1 + 1 + 1 + 1 + y))
  case atStart => exact ⟨0, by omega, rfl, Lib.hid ⟨HS0.out, by simp⟩⟩
  case round =>
    obtain ⟨y, hy, rfl, HI⟩ := hrel
    have c1 := HI.out.1.ct
    have c2 := HI.out.1.cp
    rw [← HLK.out.1] at c2
    by_cases hlt : y < L
    · obtain ⟨gk', rfl⟩ : ∃ m, gk = m + 1 := ⟨gk - 1, by omega⟩
      have hlt' : (y : Int) < L := by omega
      have hy0 : (0 : Int) ≤ y := by omega
      have c3 := HI.out.1.cnil (y := y) (Nat.le_refl _) (by have := HLK.out.1; omega)
      have c4 := HI.out.1.fn y
      obtain ⟨g1, g2, g3, g4⟩ := HI.out.1.lts
      have hmw := hmi wr
      go_wp2_with fail
      have HR : Hid (GM w w.heap.size (w.heap.size + 1 + 1 + 1) (w.heap.size + 1 + 1) (w.heap.size + 1) (w.heap.size + 1 + 1 + 1 + 1) W H (y + 1) (.func (.func 67) #[] #[.pointer (some ⟨ps, 0, none⟩), .pointer (some ⟨pg, 0, none⟩)]) (fun _ _ => 0) ((wr.setCell ⟨w.heap.size + 1, y, none⟩ (.slice (some ⟨wr.heap.size, 0, none⟩) K K)).alloc (.cells (cA K fun _ => 0) 3)).drew ∧ ((wr.setCell ⟨w.heap.size + 1, y, none⟩ (.slice (some ⟨wr.heap.size, 0, none⟩) K K)).alloc (.cells (cA K fun _ => 0) 3)).drew.heap.size = w.heap.size + 1 + 1 + 1 + 1 + (y + 1)) := Lib.hid (by
        have h1 := HI.out.1.row HI.out.2 (by have := HLK.out.1; omega)
        rw [← HI.out.2, ← HLK.out.2, World.setCell_alloc_past _ _ _ _ g4] at h1
        refine ⟨h1.step (Below.refl _ _).drew, ?_⟩
        have := HI.out.2
        simp [World.setCell]
        omega)
      go_region
      go_wp2
      go_roundg gk'
      case measure => exact Nat.lt_succ_self _
      case rel => exact ⟨y + 1, by omega, by go_num, HR⟩
    · obtain rfl : y = L := by omega
      have hlt' : ¬ (y : Int) < y := by omega
      have HG0 : Hid (GM w w.heap.size (w.heap.size + 1 + 1 + 1) (w.heap.size + 1 + 1) (w.heap.size + 1) (w.heap.size + 1 + 1 + 1 + 1) W H (H + 1) (.func (.func 67) #[] #[.pointer (some ⟨ps, 0, none⟩), .pointer (some ⟨pg, 0, none⟩)]) (fun _ _ => 0) wr) := Lib.hid (by rw [← HLK.out.1]; exact HI.out.1)
      go_wp2_with fail
      refine (HW.out _ _ _ _ _ _ HG0.out).mono ?_
      rintro e w3 ⟨rfl, hg⟩
      have HG3 := Lib.hid hg
      have d1 := hg.ct
      have d2 := hg.lts.2.1
      clear hg c1 c2
      go_wp2
      go_ret
      exact ⟨_, _, _, rfl, HT.out _ _ _ _ _ _ HG3.out, by omega, HG3.out.b⟩

theorem TabS.below {w w' : World} {p n W H : Nat} {m : Nat → Nat} {f : Nat → Nat → Int} (h : TabS w p n m W H f) (hb : Below w.heap.size w w') : TabS w' p n m W H f :=
  ⟨Nat.lt_of_lt_of_le h.hp hb.size, (hb.cell (p := ⟨p, 0, none⟩) h.hp).trans h.cp, Nat.lt_of_lt_of_le h.hn hb.size, fun y hy => (hb.cell (p := ⟨n, y, none⟩) h.hn).trans (h.cn y hy), fun y hy => Nat.lt_of_lt_of_le (h.hm y hy) hb.size, fun x y hx hy => (hb.cell (p := ⟨m y, x, none⟩) (h.hm y hy)).trans (h.cm x y hx hy)⟩

/-- Count of a rectangle within. -/
theorem count_box (p n : Nat) (m : Nat → Nat) (ss : List ByteArray) (hs : skB ss = true) (g : Int) (X Y U V : Nat) (hU : 1 ≤ U) (hV : 1 ≤ V) (hXU : X + U ≤ wid ss) (hYV : Y + V ≤ ss.length) (w : World) (h : TabS w p n m (wid ss) ss.length (fun x y => tab (usB ss g) x y)) :
    Calls Try.prog 93 #[.pointer (some ⟨p, 0, none⟩), .agg #[.int .i64 X, .int .i64 Y, .int .i64 U, .int .i64 V]] w fun e w' => e = .returned (.tuple #[.int .i64 (cBox (usB ss g) X U Y V), .int .i64 0]) ∧ Below w.heap.size w w' := by
  obtain ⟨⟨hl1, hl2⟩, ⟨hw1, hw2⟩, -⟩ := skB_iff.1 hs
  have hc := count_ok p n m (wid ss) ss.length hw2 hl2 _ (fun x y hx hy => by
    have h1 := tab_le (usB ss g) x y
    have h2 : x * y ≤ 48 * 48 := Nat.mul_le_mul (by omega) (by omega)
    omega) X Y U V hU hV hXU hYV w h
  simp only [tab_boxI] at hc
  exact hc

end Go.Proofs.Ytndhnpljdldlpab

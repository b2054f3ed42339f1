/- Skins: sweep, spread, Erode, Dilate, Open of the program. -/
import Derived.Test.YtfnkomecbbmfmaaSlS
import Derived.Laws.EntriesVeiled
namespace Go.Proofs.Ytfnkomecbbmfmaa
open Go.RowKit

set_option maxRecDepth 100000 in
set_option maxHeartbeats 1600000 in
theorem draw_sweep (p1 p2 p3 p4 : Value) (W H : Nat) (hW : W ≤ 48) (hH : H ≤ 48) (G : Nat → Nat → Nat) (hG : ∀ x y, x < W → y < H → G x y ≤ 9) (w0 w : World) (hb0 : Below w0.heap.size w0 w)
    (hcl : ∀ w' (x y : Nat), Below w0.heap.size w0 w' → x < W → y < H → Calls Try.prog 99 #[.agg #[.int .i64 x, .int .i64 y], p1, p2, p3, p4] w' fun e w'' => e = .returned (.int .i64 (G x y)) ∧ Below w'.heap.size w' w'') :
    Calls Try.prog 63 #[.int .i64 W, .int .i64 H, .func (.func 99) #[] #[p1, p2, p3, p4]] w fun e w' => ∃ n, e = .returned (.slice (some ⟨n, 0, none⟩) H H) ∧ StrS w' (some ⟨n, 0, none⟩) (drawB W H G) ∧ Below w.heap.size w w' := by
  have HCL := Lib.hid hcl
  have HB0 := Lib.hid hb0
  have HG := Lib.hid hG
  have hmk := sk_makeStr H (by omega) w
  have hmr := Lib.hid (fun w' => sk_makeByte W (by omega) w')
  have HCT : Hid (VT w w.heap.size H 9 (fun k => .string (if k < 0 then rowB W (fun x => G x k) else ByteArray.empty)) (w.alloc (.cells (cV H fun _ => .string ByteArray.empty) 9))) := Lib.hid ((VT.new w H _ _).congr (fun k hk => by simp))
  have hW' : (W : Int) ≤ 48 := by omega
  have hH' : (H : Int) ≤ 48 := by omega
  clear hcl hG hb0
  go_enter Try.func63, Try.ntmps63
  go_wp2
  clear hmk
  go_loopg [15] H (fun gk i wr => ∃ y : Nat, y + gk = H ∧ i = .int .i64 y ∧ Hid (VT w w.heap.size H 9 (fun k => .string (if k < y then rowB W (fun x => G x k) else ByteArray.empty)) wr))
  case atStart => exact ⟨0, by omega, rfl, HCT⟩
  case round =>
    obtain ⟨y, hy, rfl, HI⟩ := hrel
    by_cases hlt : y < H
    · obtain ⟨gk', rfl⟩ : ∃ m, gk = m + 1 := ⟨gk - 1, by omega⟩
      have hlt' : (y : Int) < H := by omega
      have hy0 : (0 : Int) ≤ y := by omega
      obtain ⟨wy, rfl⟩ : ∃ wy, wy = wr := ⟨wr, rfl⟩
      have hmw := hmr.out wy
      have HR0 : Hid (VT wy wy.heap.size W 5 (fun k => .int .u8 (if k < 0 then ((48 + G k y : Nat) : Int) else 0)) (wy.alloc (.cells (cV W fun _ => .int .u8 0) 5))) := Lib.hid ((VT.new wy W _ _).congr (fun k hk => by simp))
      go_wp2
      clear hmw
      go_loopg [22] W (fun gj i wr => ∃ x : Nat, x + gj = W ∧ i = .int .i64 x ∧ Hid (VT wy wy.heap.size W 5 (fun k => .int .u8 (if k < x then ((48 + G k y : Nat) : Int) else 0)) wr))
      case atStart => exact ⟨0, by omega, rfl, HR0⟩
      case round =>
        obtain ⟨x, hx, rfl, HI2⟩ := hrel
        by_cases hlx : x < W
        · obtain ⟨gj', rfl⟩ : ∃ m, gk = m + 1 := ⟨gk - 1, by omega⟩
          have hlx' : (x : Int) < W := by omega
          have hx0 : (0 : Int) ≤ x := by omega
          obtain ⟨g, hg⟩ : ∃ g, g = G x y := ⟨_, rfl⟩
          have HC2 : Hid (Calls Try.prog 99 #[.agg #[.int .i64 x, .int .i64 y], p1, p2, p3, p4] wr fun e w'' => e = .returned (.int .i64 g) ∧ Below wr.heap.size wr w'') := Lib.hid (by
            rw [hg]
            exact HCL.out wr x y (HB0.out.trans (((HI.out.b.trans (HI2.out.b.mono HI.out.b.size))).mono HB0.out.size)) hlx hlt)
          have hg9 : g ≤ 9 := by rw [hg]; exact HG.out x y hlx hlt
          have hw1 : IntKind.u8.wrap (g : Int) = g := IntWalk.u8_in _ (by omega)
          have hw2 : IntKind.u8.wrap (48 + (g : Int)) = ((48 + g : Nat) : Int) := by rw [IntWalk.u8_in _ (by omega)]; omega
          have HGG := Lib.hid hg
          clear hg
          go_wp2_with fail
          refine HC2.out.mono ?_
          rintro e w3 ⟨rfl, hb3⟩
          have HI3 := Lib.hid (HI2.out.step hb3)
          have d0 := HI3.out.cell hlx
          have d1 := HI3.out.frozen x
          have d2 := HI3.out.lt
          have HN : Hid (VT wy wy.heap.size W 5 (fun k => .int .u8 (if k < x + 1 then ((48 + G k y : Nat) : Int) else 0)) (w3.setCell ⟨wy.heap.size, x, none⟩ (.int .u8 ((48 + g : Nat) : Int)))) := Lib.hid ((HI3.out.set x _).congr (fun k hk => by
            by_cases e : k = x
            · subst e; simp [HGG.out]
            · rw [if_neg e]
              by_cases h2 : k < x
              · rw [if_pos h2, if_pos (by omega)]
              · rw [if_neg h2, if_neg (by omega)]))
          clear hb3
          go_wp2
          go_roundg gj'
          case measure => exact Nat.lt_succ_self _
          case rel => exact ⟨x + 1, by omega, by go_num, HN⟩
        · obtain rfl : x = W := by omega
          have hcv := run_convert_bytes_arg (P := Try.prog) wr 112 5 Try.underlying112 Try.underlying5 wy.heap.size 0 x x (rowN x (fun j => G j y)) (rowN_len _ _) (fun i hi => by
            rw [Nat.zero_add, HI2.out.cell hi, rowN_get hi, if_pos hi]) 9 Try.underlying9
          have HO := Lib.hid (HI.out.step HI2.out.b)
          obtain ⟨R, hR⟩ : ∃ R, R = strOfNums (rowN x (fun j => G j y)) := ⟨_, rfl⟩
          rw [← hR] at hcv
          have d0 := HO.out.cell hlt
          have d1 := HO.out.frozen y
          have d2 := HO.out.lt
          have HN : Hid (VT w w.heap.size H 9 (fun k => .string (if k < y + 1 then rowB x (fun j => G j k) else ByteArray.empty)) (wr.setCell ⟨w.heap.size, y, none⟩ (.string R))) := Lib.hid ((HO.out.set y _).congr (fun k hk => by
            by_cases e : k = y
            · subst e; rw [if_pos rfl, if_pos (by omega), hR]; rfl
            · rw [if_neg e]
              by_cases h2 : k < y
              · rw [if_pos h2, if_pos (by omega)]
              · rw [if_neg h2, if_neg (by omega)]))
          have hlx' : ¬ (x : Int) < x := by omega
          clear hR
          go_wp2
          go_roundg gk'
          case measure => exact Nat.lt_succ_self _
          case rel => exact ⟨y + 1, by omega, by go_num, HN⟩
    · obtain rfl : y = H := by omega
      have HE : Hid (StrS wr (some ⟨w.heap.size, 0, none⟩) (drawB W y G)) := Lib.hid (.inr ⟨w.heap.size, 0, rfl, HI.out.lt, fun j hj => by
        have hj' : j < y := by rw [drawB_len] at hj; exact hj
        rw [Nat.zero_add, HI.out.cell hj', if_pos hj', drawB_get hj]⟩)
      go_wp2
      go_ret
      exact ⟨_, rfl, HE.out, HI.out.b⟩


theorem spB_sk (least : Bool) {ss : List ByteArray} (hs : skB ss = true) (k : Nat) : skB (spB least ss k) = true := swB_sk least (swB_sk least hs _ _ _) _ _ _

set_option maxRecDepth 100000 in
set_option maxHeartbeats 1600000 in
theorem sweptE10 (a : Option Addr) (cap : Nat) (ss : List ByteArray) (hs : skB ss = true) (k : Nat) (hk : k ≤ 48) (w : World) (h : StrS w a ss) :
    Calls Try.prog 95 #[.slice a ss.length cap, .int .i64 k, .agg #[.int .i64 1, .int .i64 0], .func (.func 78) #[] #[]] w fun e w' => ∃ n, e = .returned (.slice (some ⟨n, 0, none⟩) (swB true ss 1 0 k).length (swB true ss 1 0 k).length) ∧ StrS w' (some ⟨n, 0, none⟩) (swB true ss 1 0 k) ∧ Below w.heap.size w w' := by
  obtain ⟨⟨hl1, hl2⟩, ⟨hw1, hw2⟩, -⟩ := skB_iff.1 hs
  have HSZ : Hid (∀ w', Below w.heap.size w w' → Calls Try.prog 62 #[.slice a ss.length cap] w' fun e w'' => e = .returned (.tuple #[.int .i64 (wid ss), .int .i64 ss.length]) ∧ w' = w'') := Lib.hid (fun w' hb => skSize_any a cap ss (by omega) (by omega) w' (h.below hb))
  have hm1 := (Mem.nil w).alloc #[.slice a ss.length cap] 22
  have hm2 := hm1.alloc_at (H := w.heap.size + 1) (by simp) #[.int .i64 k] 3
  have hm3 := hm2.alloc_at (H := w.heap.size + 1 + 1) (by simp) #[.int .i64 1, .int .i64 0] 87
  have HM := Lib.hid (hm3.alloc_at (H := w.heap.size + 1 + 1 + 1) (by simp) #[.func (.func 78) #[] #[]] 101)
  have HD : Hid (∀ w', Mem w [(w.heap.size + 1 + 1 + 1, #[.func (.func 78) #[] #[]], 101), (w.heap.size + 1 + 1, #[.int .i64 1, .int .i64 0], 87), (w.heap.size + 1, #[.int .i64 k], 3), (w.heap.size, #[.slice a ss.length cap], 22)] w' → Calls Try.prog 63 #[.int .i64 (wid ss), .int .i64 ss.length, .func (.func 99) #[] #[.pointer (some ⟨w.heap.size, 0, none⟩), .pointer (some ⟨w.heap.size + 1, 0, none⟩), .pointer (some ⟨w.heap.size + 1 + 1, 0, none⟩), .pointer (some ⟨w.heap.size + 1 + 1 + 1, 0, none⟩)]] w' fun e w'' => ∃ n, e = .returned (.slice (some ⟨n, 0, none⟩) ss.length ss.length) ∧ StrS w'' (some ⟨n, 0, none⟩) (swB true ss 1 0 k) ∧ Below w'.heap.size w' w'') := Lib.hid (fun w' hm =>
    draw_sweep _ _ _ _ (wid ss) ss.length hw2 hl2 (swN true ss 1 0 k) (fun x y _ _ => (swN_eq true hs 1 0 k x y).2) w' w' (Below.refl _ _) (fun w2 x y hb hx hy =>
      sweepE10 w' w.heap.size (w.heap.size + 1) (w.heap.size + 1 + 1) (w.heap.size + 1 + 1 + 1) a cap ss hs k hk ⟨⟨hm.tail.tail.tail.head_lt, hm.tail.tail.head_lt, hm.tail.head_lt, hm.head_lt⟩, hm.tail.tail.tail.cell 0, hm.tail.tail.cell 0, ⟨hm.tail.cell 0, hm.tail.cell 1⟩, hm.cell 0, h.mem hm⟩ x y (by omega) (by omega) w2 hb))
  rw [swB_len]
  obtain ⟨T, hT⟩ : ∃ T, T = swB true ss 1 0 k := ⟨_, rfl⟩
  rw [← hT] at HD ⊢
  clear hs h hT hm1 hm2 hm3
  go_enter Try.func95, Try.ntmps95
  go_wp2_with fail
  refine (HSZ.out _ HM.out.b).mono ?_
  rintro e w1 ⟨rfl, rfl⟩
  go_wp2_with fail
  refine (HD.out _ HM.out).mono ?_
  rintro e w2 ⟨n, rfl, hst, hb⟩
  have HE := Lib.hid (And.intro hst (HM.out.step hb).b)
  clear hst hb
  go_wp2
  go_ret
  exact ⟨_, rfl, HE.out.1, HE.out.2⟩

set_option maxRecDepth 100000 in
set_option maxHeartbeats 1600000 in
theorem sweptE01 (a : Option Addr) (cap : Nat) (ss : List ByteArray) (hs : skB ss = true) (k : Nat) (hk : k ≤ 48) (w : World) (h : StrS w a ss) :
    Calls Try.prog 95 #[.slice a ss.length cap, .int .i64 k, .agg #[.int .i64 0, .int .i64 1], .func (.func 78) #[] #[]] w fun e w' => ∃ n, e = .returned (.slice (some ⟨n, 0, none⟩) (swB true ss 0 1 k).length (swB true ss 0 1 k).length) ∧ StrS w' (some ⟨n, 0, none⟩) (swB true ss 0 1 k) ∧ Below w.heap.size w w' := by
  obtain ⟨⟨hl1, hl2⟩, ⟨hw1, hw2⟩, -⟩ := skB_iff.1 hs
  have HSZ : Hid (∀ w', Below w.heap.size w w' → Calls Try.prog 62 #[.slice a ss.length cap] w' fun e w'' => e = .returned (.tuple #[.int .i64 (wid ss), .int .i64 ss.length]) ∧ w' = w'') := Lib.hid (fun w' hb => skSize_any a cap ss (by omega) (by omega) w' (h.below hb))
  have hm1 := (Mem.nil w).alloc #[.slice a ss.length cap] 22
  have hm2 := hm1.alloc_at (H := w.heap.size + 1) (by simp) #[.int .i64 k] 3
  have hm3 := hm2.alloc_at (H := w.heap.size + 1 + 1) (by simp) #[.int .i64 0, .int .i64 1] 87
  have HM := Lib.hid (hm3.alloc_at (H := w.heap.size + 1 + 1 + 1) (by simp) #[.func (.func 78) #[] #[]] 101)
  have HD : Hid (∀ w', Mem w [(w.heap.size + 1 + 1 + 1, #[.func (.func 78) #[] #[]], 101), (w.heap.size + 1 + 1, #[.int .i64 0, .int .i64 1], 87), (w.heap.size + 1, #[.int .i64 k], 3), (w.heap.size, #[.slice a ss.length cap], 22)] w' → Calls Try.prog 63 #[.int .i64 (wid ss), .int .i64 ss.length, .func (.func 99) #[] #[.pointer (some ⟨w.heap.size, 0, none⟩), .pointer (some ⟨w.heap.size + 1, 0, none⟩), .pointer (some ⟨w.heap.size + 1 + 1, 0, none⟩), .pointer (some ⟨w.heap.size + 1 + 1 + 1, 0, none⟩)]] w' fun e w'' => ∃ n, e = .returned (.slice (some ⟨n, 0, none⟩) ss.length ss.length) ∧ StrS w'' (some ⟨n, 0, none⟩) (swB true ss 0 1 k) ∧ Below w'.heap.size w' w'') := Lib.hid (fun w' hm =>
    draw_sweep _ _ _ _ (wid ss) ss.length hw2 hl2 (swN true ss 0 1 k) (fun x y _ _ => (swN_eq true hs 0 1 k x y).2) w' w' (Below.refl _ _) (fun w2 x y hb hx hy =>
      sweepE01 w' w.heap.size (w.heap.size + 1) (w.heap.size + 1 + 1) (w.heap.size + 1 + 1 + 1) a cap ss hs k hk ⟨⟨hm.tail.tail.tail.head_lt, hm.tail.tail.head_lt, hm.tail.head_lt, hm.head_lt⟩, hm.tail.tail.tail.cell 0, hm.tail.tail.cell 0, ⟨hm.tail.cell 0, hm.tail.cell 1⟩, hm.cell 0, h.mem hm⟩ x y (by omega) (by omega) w2 hb))
  rw [swB_len]
  obtain ⟨T, hT⟩ : ∃ T, T = swB true ss 0 1 k := ⟨_, rfl⟩
  rw [← hT] at HD ⊢
  clear hs h hT hm1 hm2 hm3
  go_enter Try.func95, Try.ntmps95
  go_wp2_with fail
  refine (HSZ.out _ HM.out.b).mono ?_
  rintro e w1 ⟨rfl, rfl⟩
  go_wp2_with fail
  refine (HD.out _ HM.out).mono ?_
  rintro e w2 ⟨n, rfl, hst, hb⟩
  have HE := Lib.hid (And.intro hst (HM.out.step hb).b)
  clear hst hb
  go_wp2
  go_ret
  exact ⟨_, rfl, HE.out.1, HE.out.2⟩

set_option maxRecDepth 100000 in
set_option maxHeartbeats 1600000 in
theorem sweptD10 (a : Option Addr) (cap : Nat) (ss : List ByteArray) (hs : skB ss = true) (k : Nat) (hk : k ≤ 48) (w : World) (h : StrS w a ss) :
    Calls Try.prog 95 #[.slice a ss.length cap, .int .i64 k, .agg #[.int .i64 1, .int .i64 0], .func (.func 80) #[] #[]] w fun e w' => ∃ n, e = .returned (.slice (some ⟨n, 0, none⟩) (swB false ss 1 0 k).length (swB false ss 1 0 k).length) ∧ StrS w' (some ⟨n, 0, none⟩) (swB false ss 1 0 k) ∧ Below w.heap.size w w' := by
  obtain ⟨⟨hl1, hl2⟩, ⟨hw1, hw2⟩, -⟩ := skB_iff.1 hs
  have HSZ : Hid (∀ w', Below w.heap.size w w' → Calls Try.prog 62 #[.slice a ss.length cap] w' fun e w'' => e = .returned (.tuple #[.int .i64 (wid ss), .int .i64 ss.length]) ∧ w' = w'') := Lib.hid (fun w' hb => skSize_any a cap ss (by omega) (by omega) w' (h.below hb))
  have hm1 := (Mem.nil w).alloc #[.slice a ss.length cap] 22
  have hm2 := hm1.alloc_at (H := w.heap.size + 1) (by simp) #[.int .i64 k] 3
  have hm3 := hm2.alloc_at (H := w.heap.size + 1 + 1) (by simp) #[.int .i64 1, .int .i64 0] 87
  have HM := Lib.hid (hm3.alloc_at (H := w.heap.size + 1 + 1 + 1) (by simp) #[.func (.func 80) #[] #[]] 101)
  have HD : Hid (∀ w', Mem w [(w.heap.size + 1 + 1 + 1, #[.func (.func 80) #[] #[]], 101), (w.heap.size + 1 + 1, #[.int .i64 1, .int .i64 0], 87), (w.heap.size + 1, #[.int .i64 k], 3), (w.heap.size, #[.slice a ss.length cap], 22)] w' → Calls Try.prog 63 #[.int .i64 (wid ss), .int .i64 ss.length, .func (.func 99) #[] #[.pointer (some ⟨w.heap.size, 0, none⟩), .pointer (some ⟨w.heap.size + 1, 0, none⟩), .pointer (some ⟨w.heap.size + 1 + 1, 0, none⟩), .pointer (some ⟨w.heap.size + 1 + 1 + 1, 0, none⟩)]] w' fun e w'' => ∃ n, e = .returned (.slice (some ⟨n, 0, none⟩) ss.length ss.length) ∧ StrS w'' (some ⟨n, 0, none⟩) (swB false ss 1 0 k) ∧ Below w'.heap.size w' w'') := Lib.hid (fun w' hm =>
    draw_sweep _ _ _ _ (wid ss) ss.length hw2 hl2 (swN false ss 1 0 k) (fun x y _ _ => (swN_eq false hs 1 0 k x y).2) w' w' (Below.refl _ _) (fun w2 x y hb hx hy =>
      sweepD10 w' w.heap.size (w.heap.size + 1) (w.heap.size + 1 + 1) (w.heap.size + 1 + 1 + 1) a cap ss hs k hk ⟨⟨hm.tail.tail.tail.head_lt, hm.tail.tail.head_lt, hm.tail.head_lt, hm.head_lt⟩, hm.tail.tail.tail.cell 0, hm.tail.tail.cell 0, ⟨hm.tail.cell 0, hm.tail.cell 1⟩, hm.cell 0, h.mem hm⟩ x y (by omega) (by omega) w2 hb))
  rw [swB_len]
  obtain ⟨T, hT⟩ : ∃ T, T = swB false ss 1 0 k := ⟨_, rfl⟩
  rw [← hT] at HD ⊢
  clear hs h hT hm1 hm2 hm3
  go_enter Try.func95, Try.ntmps95
  go_wp2_with fail
  refine (HSZ.out _ HM.out.b).mono ?_
  rintro e w1 ⟨rfl, rfl⟩
  go_wp2_with fail
  refine (HD.out _ HM.out).mono ?_
  rintro e w2 ⟨n, rfl, hst, hb⟩
  have HE := Lib.hid (And.intro hst (HM.out.step hb).b)
  clear hst hb
  go_wp2
  go_ret
  exact ⟨_, rfl, HE.out.1, HE.out.2⟩

set_option maxRecDepth 100000 in
set_option maxHeartbeats 1600000 in
theorem sweptD01 (a : Option Addr) (cap : Nat) (ss : List ByteArray) (hs : skB ss = true) (k : Nat) (hk : k ≤ 48) (w : World) (h : StrS w a ss) :
    Calls Try.prog 95 #[.slice a ss.length cap, .int .i64 k, .agg #[.int .i64 0, .int .i64 1], .func (.func 80) #[] #[]] w fun e w' => ∃ n, e = .returned (.slice (some ⟨n, 0, none⟩) (swB false ss 0 1 k).length (swB false ss 0 1 k).length) ∧ StrS w' (some ⟨n, 0, none⟩) (swB false ss 0 1 k) ∧ Below w.heap.size w w' := by
  obtain ⟨⟨hl1, hl2⟩, ⟨hw1, hw2⟩, -⟩ := skB_iff.1 hs
  have HSZ : Hid (∀ w', Below w.heap.size w w' → Calls Try.prog 62 #[.slice a ss.length cap] w' fun e w'' => e = .returned (.tuple #[.int .i64 (wid ss), .int .i64 ss.length]) ∧ w' = w'') := Lib.hid (fun w' hb => skSize_any a cap ss (by omega) (by omega) w' (h.below hb))
  have hm1 := (Mem.nil w).alloc #[.slice a ss.length cap] 22
  have hm2 := hm1.alloc_at (H := w.heap.size + 1) (by simp) #[.int .i64 k] 3
  have hm3 := hm2.alloc_at (H := w.heap.size + 1 + 1) (by simp) #[.int .i64 0, .int .i64 1] 87
  have HM := Lib.hid (hm3.alloc_at (H := w.heap.size + 1 + 1 + 1) (by simp) #[.func (.func 80) #[] #[]] 101)
  have HD : Hid (∀ w', Mem w [(w.heap.size + 1 + 1 + 1, #[.func (.func 80) #[] #[]], 101), (w.heap.size + 1 + 1, #[.int .i64 0, .int .i64 1], 87), (w.heap.size + 1, #[.int .i64 k], 3), (w.heap.size, #[.slice a ss.length cap], 22)] w' → Calls Try.prog 63 #[.int .i64 (wid ss), .int .i64 ss.length, .func (.func 99) #[] #[.pointer (some ⟨w.heap.size, 0, none⟩), .pointer (some ⟨w.heap.size + 1, 0, none⟩), .pointer (some ⟨w.heap.size + 1 + 1, 0, none⟩), .pointer (some ⟨w.heap.size + 1 + 1 + 1, 0, none⟩)]] w' fun e w'' => ∃ n, e = .returned (.slice (some ⟨n, 0, none⟩) ss.length ss.length) ∧ StrS w'' (some ⟨n, 0, none⟩) (swB false ss 0 1 k) ∧ Below w'.heap.size w' w'') := Lib.hid (fun w' hm =>
    draw_sweep _ _ _ _ (wid ss) ss.length hw2 hl2 (swN false ss 0 1 k) (fun x y _ _ => (swN_eq false hs 0 1 k x y).2) w' w' (Below.refl _ _) (fun w2 x y hb hx hy =>
      sweepD01 w' w.heap.size (w.heap.size + 1) (w.heap.size + 1 + 1) (w.heap.size + 1 + 1 + 1) a cap ss hs k hk ⟨⟨hm.tail.tail.tail.head_lt, hm.tail.tail.head_lt, hm.tail.head_lt, hm.head_lt⟩, hm.tail.tail.tail.cell 0, hm.tail.tail.cell 0, ⟨hm.tail.cell 0, hm.tail.cell 1⟩, hm.cell 0, h.mem hm⟩ x y (by omega) (by omega) w2 hb))
  rw [swB_len]
  obtain ⟨T, hT⟩ : ∃ T, T = swB false ss 0 1 k := ⟨_, rfl⟩
  rw [← hT] at HD ⊢
  clear hs h hT hm1 hm2 hm3
  go_enter Try.func95, Try.ntmps95
  go_wp2_with fail
  refine (HSZ.out _ HM.out.b).mono ?_
  rintro e w1 ⟨rfl, rfl⟩
  go_wp2_with fail
  refine (HD.out _ HM.out).mono ?_
  rintro e w2 ⟨n, rfl, hst, hb⟩
  have HE := Lib.hid (And.intro hst (HM.out.step hb).b)
  clear hst hb
  go_wp2
  go_ret
  exact ⟨_, rfl, HE.out.1, HE.out.2⟩

set_option maxRecDepth 100000 in
set_option maxHeartbeats 1600000 in
theorem spreadE_yes (a : Option Addr) (cap : Nat) (ss : List ByteArray) (hs : skB ss = true) (k : Nat) (hk : k ≤ 48) (w : World) (h : StrS w a ss) :
    Calls Try.prog 77 #[.slice a ss.length cap, .int .i64 k, .func (.func 78) #[] #[]] w fun e w' => ∃ n, e = .returned (.tuple #[.slice (some ⟨n, 0, none⟩) (spB true ss k).length (spB true ss k).length, .int .i64 0]) ∧ StrS w' (some ⟨n, 0, none⟩) (spB true ss k) ∧ Below w.heap.size w w' := by
  have HV : Hid (Calls Try.prog 17 #[.slice a ss.length cap] w fun e w'' => e = .returned (.bool true) ∧ w = w'') := Lib.hid (by
    rw [← hs]; exact skValid_any a cap ss (sk_long hs).1 (sk_long hs).2 w h)
  obtain ⟨T, hT⟩ : ∃ T, T = swB true ss 1 0 k := ⟨_, rfl⟩
  have H1 := Lib.hid (sweptE10 a cap ss hs k hk w h)
  rw [← hT] at H1
  have H2 : Hid (∀ w' n c, StrS w' (some ⟨n, 0, none⟩) T → Calls Try.prog 95 #[.slice (some ⟨n, 0, none⟩) T.length c, .int .i64 k, .agg #[.int .i64 0, .int .i64 1], .func (.func 78) #[] #[]] w' fun e w'' => ∃ m, e = .returned (.slice (some ⟨m, 0, none⟩) (spB true ss k).length (spB true ss k).length) ∧ StrS w'' (some ⟨m, 0, none⟩) (spB true ss k) ∧ Below w'.heap.size w' w'') := Lib.hid (fun w' n c hst => by
    subst hT
    exact sweptE01 _ c _ (swB_sk true hs _ _ _) k hk w' hst)
  have hk0 : (0 : Int) ≤ k := by omega
  have hk48 : (k : Int) ≤ 48 := by omega
  have hk1 : ¬ ((k : Int) < 0) := by omega
  have hk2 : ¬ ((48 : Int) < k) := by omega
  clear hs h hT hk
  go_enter Try.func77, Try.ntmps77
  go_wp2_with fail
  refine HV.out.mono ?_
  rintro e w1 ⟨rfl, rfl⟩
  go_wp2_with fail
  refine H1.out.mono ?_
  rintro e w2 ⟨n, rfl, hst, hb⟩
  have HB2 := Lib.hid (And.intro hst hb)
  clear hst hb
  go_wp2_with fail
  refine (H2.out _ _ _ HB2.out.1).mono ?_
  rintro e w3 ⟨m, rfl, hst, hb⟩
  have HE := Lib.hid (And.intro hst (HB2.out.2.trans (hb.mono HB2.out.2.size)))
  clear hst hb
  go_wp2
  go_ret2
  exact ⟨_, rfl, HE.out.1, HE.out.2⟩

set_option maxRecDepth 100000 in
set_option maxHeartbeats 1600000 in
theorem spreadE_no (a : Option Addr) (cap : Nat) (ss : List ByteArray) (hl : (ss.length : Int) ≤ 9223372036854775807) (hz : ∀ s ∈ ss, s.size ≤ 9223372036854775807) (k : Int) (hn : skB ss = false ∨ k < 0 ∨ 48 < k) (w : World) (h : StrS w a ss) :
    Calls Try.prog 77 #[.slice a ss.length cap, .int .i64 k, .func (.func 78) #[] #[]] w fun e w' => e = .returned (.tuple #[.slice none 0 0, .int .i64 2]) ∧ w = w' := by
  cases hs : skB ss with
  | false =>
    have HV : Hid (Calls Try.prog 17 #[.slice a ss.length cap] w fun e w'' => e = .returned (.bool false) ∧ w = w'') := Lib.hid (by
      rw [← hs]; exact skValid_any a cap ss hl hz w h)
    clear hs h hn
    go_enter Try.func77, Try.ntmps77
    go_wp2_with fail
    refine HV.out.mono ?_
    rintro e w1 ⟨rfl, rfl⟩
    go_wp2
    go_ret2
    exact ⟨rfl, rfl⟩
  | true =>
    have HV : Hid (Calls Try.prog 17 #[.slice a ss.length cap] w fun e w'' => e = .returned (.bool true) ∧ w = w'') := Lib.hid (by
      rw [← hs]; exact skValid_any a cap ss hl hz w h)
    have hn2 : k < 0 ∨ (¬ k < 0 ∧ 48 < k) := by
      rcases hn with h1 | h1 | h1
      · rw [hs] at h1; cases h1
      · exact .inl h1
      · exact .inr ⟨by omega, h1⟩
    clear hs h hn
    rcases hn2 with hn3 | ⟨hn3, hn4⟩
    all_goals
      go_enter Try.func77, Try.ntmps77
      go_wp2_with fail
      refine HV.out.mono ?_
      rintro e w1 ⟨rfl, rfl⟩
      go_wp2
      go_ret2
      exact ⟨rfl, rfl⟩

set_option maxRecDepth 100000 in
theorem erE_yes (a : Option Addr) (cap : Nat) (ss : List ByteArray) (hs : skB ss = true) (k : Nat) (hk : k ≤ 48) (w : World) (h : StrS w a ss) :
    Calls Try.prog 38 #[.slice a ss.length cap, .int .i64 k] w fun e w' => ∃ n, e = .returned (.tuple #[.slice (some ⟨n, 0, none⟩) (spB true ss k).length (spB true ss k).length, .int .i64 0]) ∧ StrS w' (some ⟨n, 0, none⟩) (spB true ss k) ∧ Below w.heap.size w w' := by
  have H1 := Lib.hid (spreadE_yes a cap ss hs k hk w h)
  clear hs h hk
  go_enter Try.func38, Try.ntmps38
  go_wp2_with fail
  refine H1.out.mono ?_
  rintro e w2 ⟨n, rfl, hst, hb⟩
  have HE := Lib.hid (And.intro hst hb)
  clear hst hb
  go_wp2
  go_ret2
  exact ⟨_, rfl, HE.out.1, HE.out.2⟩

set_option maxRecDepth 100000 in
theorem erE_no (a : Option Addr) (cap : Nat) (ss : List ByteArray) (hl : (ss.length : Int) ≤ 9223372036854775807) (hz : ∀ s ∈ ss, s.size ≤ 9223372036854775807) (k : Int) (hn : skB ss = false ∨ k < 0 ∨ 48 < k) (w : World) (h : StrS w a ss) :
    Calls Try.prog 38 #[.slice a ss.length cap, .int .i64 k] w fun e w' => e = .returned (.tuple #[.slice none 0 0, .int .i64 2]) ∧ w = w' := by
  have H1 := Lib.hid (spreadE_no a cap ss hl hz k hn w h)
  clear hl hz h hn
  go_enter Try.func38, Try.ntmps38
  go_wp2_with fail
  refine H1.out.mono ?_
  rintro e w2 ⟨rfl, rfl⟩
  go_wp2
  go_ret2
  exact ⟨rfl, rfl⟩

set_option maxRecDepth 100000 in
set_option maxHeartbeats 1600000 in
theorem spreadD_yes (a : Option Addr) (cap : Nat) (ss : List ByteArray) (hs : skB ss = true) (k : Nat) (hk : k ≤ 48) (w : World) (h : StrS w a ss) :
    Calls Try.prog 77 #[.slice a ss.length cap, .int .i64 k, .func (.func 80) #[] #[]] w fun e w' => ∃ n, e = .returned (.tuple #[.slice (some ⟨n, 0, none⟩) (spB false ss k).length (spB false ss k).length, .int .i64 0]) ∧ StrS w' (some ⟨n, 0, none⟩) (spB false ss k) ∧ Below w.heap.size w w' := by
  have HV : Hid (Calls Try.prog 17 #[.slice a ss.length cap] w fun e w'' => e = .returned (.bool true) ∧ w = w'') := Lib.hid (by
    rw [← hs]; exact skValid_any a cap ss (sk_long hs).1 (sk_long hs).2 w h)
  obtain ⟨T, hT⟩ : ∃ T, T = swB false ss 1 0 k := ⟨_, rfl⟩
  have H1 := Lib.hid (sweptD10 a cap ss hs k hk w h)
  rw [← hT] at H1
  have H2 : Hid (∀ w' n c, StrS w' (some ⟨n, 0, none⟩) T → Calls Try.prog 95 #[.slice (some ⟨n, 0, none⟩) T.length c, .int .i64 k, .agg #[.int .i64 0, .int .i64 1], .func (.func 80) #[] #[]] w' fun e w'' => ∃ m, e = .returned (.slice (some ⟨m, 0, none⟩) (spB false ss k).length (spB false ss k).length) ∧ StrS w'' (some ⟨m, 0, none⟩) (spB false ss k) ∧ Below w'.heap.size w' w'') := Lib.hid (fun w' n c hst => by
    subst hT
    exact sweptD01 _ c _ (swB_sk false hs _ _ _) k hk w' hst)
  have hk0 : (0 : Int) ≤ k := by omega
  have hk48 : (k : Int) ≤ 48 := by omega
  have hk1 : ¬ ((k : Int) < 0) := by omega
  have hk2 : ¬ ((48 : Int) < k) := by omega
  clear hs h hT hk
  go_enter Try.func77, Try.ntmps77
  go_wp2_with fail
  refine HV.out.mono ?_
  rintro e w1 ⟨rfl, rfl⟩
  go_wp2_with fail
  refine H1.out.mono ?_
  rintro e w2 ⟨n, rfl, hst, hb⟩
  have HB2 := Lib.hid (And.intro hst hb)
  clear hst hb
  go_wp2_with fail
  refine (H2.out _ _ _ HB2.out.1).mono ?_
  rintro e w3 ⟨m, rfl, hst, hb⟩
  have HE := Lib.hid (And.intro hst (HB2.out.2.trans (hb.mono HB2.out.2.size)))
  clear hst hb
  go_wp2
  go_ret2
  exact ⟨_, rfl, HE.out.1, HE.out.2⟩

set_option maxRecDepth 100000 in
set_option maxHeartbeats 1600000 in
theorem spreadD_no (a : Option Addr) (cap : Nat) (ss : List ByteArray) (hl : (ss.length : Int) ≤ 9223372036854775807) (hz : ∀ s ∈ ss, s.size ≤ 9223372036854775807) (k : Int) (hn : skB ss = false ∨ k < 0 ∨ 48 < k) (w : World) (h : StrS w a ss) :
    Calls Try.prog 77 #[.slice a ss.length cap, .int .i64 k, .func (.func 80) #[] #[]] w fun e w' => e = .returned (.tuple #[.slice none 0 0, .int .i64 2]) ∧ w = w' := by
  cases hs : skB ss with
  | false =>
    have HV : Hid (Calls Try.prog 17 #[.slice a ss.length cap] w fun e w'' => e = .returned (.bool false) ∧ w = w'') := Lib.hid (by
      rw [← hs]; exact skValid_any a cap ss hl hz w h)
    clear hs h hn
    go_enter Try.func77, Try.ntmps77
    go_wp2_with fail
    refine HV.out.mono ?_
    rintro e w1 ⟨rfl, rfl⟩
    go_wp2
    go_ret2
    exact ⟨rfl, rfl⟩
  | true =>
    have HV : Hid (Calls Try.prog 17 #[.slice a ss.length cap] w fun e w'' => e = .returned (.bool true) ∧ w = w'') := Lib.hid (by
      rw [← hs]; exact skValid_any a cap ss hl hz w h)
    have hn2 : k < 0 ∨ (¬ k < 0 ∧ 48 < k) := by
      rcases hn with h1 | h1 | h1
      · rw [hs] at h1; cases h1
      · exact .inl h1
      · exact .inr ⟨by omega, h1⟩
    clear hs h hn
    rcases hn2 with hn3 | ⟨hn3, hn4⟩
    all_goals
      go_enter Try.func77, Try.ntmps77
      go_wp2_with fail
      refine HV.out.mono ?_
      rintro e w1 ⟨rfl, rfl⟩
      go_wp2
      go_ret2
      exact ⟨rfl, rfl⟩

set_option maxRecDepth 100000 in
theorem erD_yes (a : Option Addr) (cap : Nat) (ss : List ByteArray) (hs : skB ss = true) (k : Nat) (hk : k ≤ 48) (w : World) (h : StrS w a ss) :
    Calls Try.prog 40 #[.slice a ss.length cap, .int .i64 k] w fun e w' => ∃ n, e = .returned (.tuple #[.slice (some ⟨n, 0, none⟩) (spB false ss k).length (spB false ss k).length, .int .i64 0]) ∧ StrS w' (some ⟨n, 0, none⟩) (spB false ss k) ∧ Below w.heap.size w w' := by
  have H1 := Lib.hid (spreadD_yes a cap ss hs k hk w h)
  clear hs h hk
  go_enter Try.func40, Try.ntmps40
  go_wp2_with fail
  refine H1.out.mono ?_
  rintro e w2 ⟨n, rfl, hst, hb⟩
  have HE := Lib.hid (And.intro hst hb)
  clear hst hb
  go_wp2
  go_ret2
  exact ⟨_, rfl, HE.out.1, HE.out.2⟩

set_option maxRecDepth 100000 in
theorem erD_no (a : Option Addr) (cap : Nat) (ss : List ByteArray) (hl : (ss.length : Int) ≤ 9223372036854775807) (hz : ∀ s ∈ ss, s.size ≤ 9223372036854775807) (k : Int) (hn : skB ss = false ∨ k < 0 ∨ 48 < k) (w : World) (h : StrS w a ss) :
    Calls Try.prog 40 #[.slice a ss.length cap, .int .i64 k] w fun e w' => e = .returned (.tuple #[.slice none 0 0, .int .i64 2]) ∧ w = w' := by
  have H1 := Lib.hid (spreadD_no a cap ss hl hz k hn w h)
  clear hl hz h hn
  go_enter Try.func40, Try.ntmps40
  go_wp2_with fail
  refine H1.out.mono ?_
  rintro e w2 ⟨rfl, rfl⟩
  go_wp2
  go_ret2
  exact ⟨rfl, rfl⟩

set_option maxRecDepth 100000 in
set_option maxHeartbeats 1600000 in
theorem open_yes (a : Option Addr) (cap : Nat) (ss : List ByteArray) (hs : skB ss = true) (k : Nat) (hk : k ≤ 48) (w : World) (h : StrS w a ss) :
    Calls Try.prog 42 #[.slice a ss.length cap, .int .i64 k] w fun e w' => ∃ n, e = .returned (.tuple #[.slice (some ⟨n, 0, none⟩) (spB false (spB true ss k) k).length (spB false (spB true ss k) k).length, .int .i64 0]) ∧ StrS w' (some ⟨n, 0, none⟩) (spB false (spB true ss k) k) ∧ Below w.heap.size w w' := by
  have H1 := Lib.hid (erE_yes a cap ss hs k hk w h)
  obtain ⟨T, hT⟩ : ∃ T, T = spB true ss k := ⟨_, rfl⟩
  have H2 := Lib.hid (fun (w' : World) (n : Nat) (hst : StrS w' (some ⟨n, 0, none⟩) (spB true ss k)) => erD_yes _ (spB true ss k).length _ (spB_sk true hs k) k hk w' hst)
  rw [← hT] at H1 H2 ⊢
  clear hs h hk hT
  go_enter Try.func42, Try.ntmps42
  go_wp2_with fail
  refine H1.out.mono ?_
  rintro e w2 ⟨n, rfl, hst, hb⟩
  have HB2 := Lib.hid (And.intro hst hb)
  clear hst hb
  go_wp2_with fail
  refine (H2.out _ _ HB2.out.1).mono ?_
  rintro e w3 ⟨m, rfl, hst, hb⟩
  have HE := Lib.hid (And.intro hst (HB2.out.2.trans (hb.mono HB2.out.2.size)))
  clear hst hb
  go_wp2
  go_ret2
  exact ⟨_, rfl, HE.out.1, HE.out.2⟩

set_option maxRecDepth 100000 in
theorem open_no (a : Option Addr) (cap : Nat) (ss : List ByteArray) (hl : (ss.length : Int) ≤ 9223372036854775807) (hz : ∀ s ∈ ss, s.size ≤ 9223372036854775807) (k : Int) (hn : skB ss = false ∨ k < 0 ∨ 48 < k) (w : World) (h : StrS w a ss) :
    Calls Try.prog 42 #[.slice a ss.length cap, .int .i64 k] w fun e w' => e = .returned (.tuple #[.slice none 0 0, .int .i64 2]) ∧ w = w' := by
  have H1 := Lib.hid (erE_no a cap ss hl hz k hn w h)
  clear hl hz h hn
  go_enter Try.func42, Try.ntmps42
  go_wp2_with fail
  refine H1.out.mono ?_
  rintro e w2 ⟨rfl, rfl⟩
  go_wp2
  go_ret2
  exact ⟨rfl, rfl⟩

end Go.Proofs.Ytfnkomecbbmfmaa

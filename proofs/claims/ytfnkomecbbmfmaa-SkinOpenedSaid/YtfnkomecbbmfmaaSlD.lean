/- Skins: quarter, Mirror, Turn of the program. -/
import Derived.Test.YtfnkomecbbmfmaaSlB
import Derived.Test.YtfnkomecbbmfmaaSlC
namespace Go.Proofs.Ytfnkomecbbmfmaa
open Go.RowKit

/-- The grades of a mirrored skin, of one that is turned; both skins. -/
def mirG (ss : List ByteArray) (x y : Nat) : Nat := (grd ss ((wid ss : Int) - 1 - x) y).toNat
def turG (ss : List ByteArray) (x y : Nat) : Nat := (grd ss y ((ss.length : Int) - 1 - x)).toNat
def mirB (ss : List ByteArray) : List ByteArray := drawB (wid ss) ss.length (mirG ss)
def turB (ss : List ByteArray) : List ByteArray := drawB ss.length (wid ss) (turG ss)
theorem grd_toNat {ss : List ByteArray} (hs : skB ss = true) (x y : Int) : (grd ss x y).toNat ≤ 9 ∧ grd ss x y = ((grd ss x y).toNat : Nat) := by
  obtain ⟨g, hg, h9⟩ := grd_nat hs x y
  rw [hg]
  exact ⟨by simpa using h9, by simp⟩
theorem turB_sk {ss : List ByteArray} (hs : skB ss = true) : skB (turB ss) = true := by
  obtain ⟨h1, h2, -⟩ := skB_iff.1 hs
  exact drawB_sk h1 h2 (fun x y _ _ => (grd_toNat hs _ _).1)
theorem mirB_sk {ss : List ByteArray} (hs : skB ss = true) : skB (mirB ss) = true := by
  obtain ⟨h1, h2, -⟩ := skB_iff.1 hs
  exact drawB_sk h2 h1 (fun x y _ _ => (grd_toNat hs _ _).1)
def rotN (ss : List ByteArray) : Nat → List ByteArray
  | 0 => ss
  | k + 1 => turB (rotN ss k)
theorem rotN_sk {ss : List ByteArray} (hs : skB ss = true) : ∀ k, skB (rotN ss k) = true
  | 0 => hs
  | k + 1 => turB_sk (rotN_sk hs k)

set_option maxRecDepth 100000 in
set_option maxHeartbeats 1600000 in
theorem draw_quarter (p1 p2 : Value) (W H : Nat) (hW : W ≤ 48) (hH : H ≤ 48) (G : Nat → Nat → Nat) (hG : ∀ x y, x < W → y < H → G x y ≤ 9) (w0 w : World) (hb0 : Below w0.heap.size w0 w)
    (hcl : ∀ w' (x y : Nat), Below w0.heap.size w0 w' → x < W → y < H → Calls Try.prog 94 #[.agg #[.int .i64 x, .int .i64 y], p1, p2] w' fun e w'' => e = .returned (.int .i64 (G x y)) ∧ Below w'.heap.size w' w'') :
    Calls Try.prog 63 #[.int .i64 W, .int .i64 H, .func (.func 94) #[] #[p1, p2]] w fun e w' => ∃ n, e = .returned (.slice (some ⟨n, 0, none⟩) H H) ∧ StrS w' (some ⟨n, 0, none⟩) (drawB W H G) ∧ Below w.heap.size w w' := by
  have HCL := Lib.hid hcl
  have HB0 := Lib.hid hb0
  have HG := Lib.hid hG
  have hmk := sk_makeStr H (by omega) w
  have hmr := Lib.hid (fun w' => sk_makeByte W (by omega) w')
  have HCT : Hid (VT w w.heap.size H 9 (fun k => .string (if k < 0 then rowB W (fun x => G x k) else ByteArray.empty)) (w.alloc (.cells (cV H fun _ => .string ByteArray.empty) 9))) := Lib.hid ((VT.new w H _ _).congr (fun k hk => by simp))
  have hW' : (W : Int) ≤ 48 := by omega
  have hH' : (H : Int) ≤ 48 := by omega
  clear hcl hG hb0
  go_enter Try.func63, Try.ntmps63
  go_wp2
  clear hmk
  go_loopg [15] H (fun gk i wr => ∃ y : Nat, y + gk = H ∧ i = .int .i64 y ∧ Hid (VT w w.heap.size H 9 (fun k => .string (if k < y then rowB W (fun x => G x k) else ByteArray.empty)) wr))
  case atStart => exact ⟨0, by omega, rfl, HCT⟩
  case round =>
    obtain ⟨y, hy, rfl, HI⟩ := hrel
    by_cases hlt : y < H
    · obtain ⟨gk', rfl⟩ : ∃ m, gk = m + 1 := ⟨gk - 1, by omega⟩
      have hlt' : (y : Int) < H := by omega
      have hy0 : (0 : Int) ≤ y := by omega
      obtain ⟨wy, rfl⟩ : ∃ wy, wy = wr := ⟨wr, rfl⟩
      have hmw := hmr.out wy
      have HR0 : Hid (VT wy wy.heap.size W 5 (fun k => .int .u8 (if k < 0 then ((48 + G k y : Nat) : Int) else 0)) (wy.alloc (.cells (cV W fun _ => .int .u8 0) 5))) := Lib.hid ((VT.new wy W _ _).congr (fun k hk => by simp))
      go_wp2
      clear hmw
      go_loopg [22] W (fun gj i wr => ∃ x : Nat, x + gj = W ∧ i = .int .i64 x ∧ Hid (VT wy wy.heap.size W 5 (fun k => .int .u8 (if k < x then ((48 + G k y : Nat) : Int) else 0)) wr))
      case atStart => exact ⟨0, by omega, rfl, HR0⟩
      case round =>
        obtain ⟨x, hx, rfl, HI2⟩ := hrel
        by_cases hlx : x < W
        · obtain ⟨gj', rfl⟩ : ∃ m, gk = m + 1 := ⟨gk - 1, by omega⟩
          have hlx' : (x : Int) < W := by omega
          have hx0 : (0 : Int) ≤ x := by omega
          obtain ⟨g, hg⟩ : ∃ g, g = G x y := ⟨_, rfl⟩
          have HC2 : Hid (Calls Try.prog 94 #[.agg #[.int .i64 x, .int .i64 y], p1, p2] wr fun e w'' => e = .returned (.int .i64 g) ∧ Below wr.heap.size wr w'') := Lib.hid (by
            rw [hg]
            exact HCL.out wr x y (HB0.out.trans (((HI.out.b.trans (HI2.out.b.mono HI.out.b.size))).mono HB0.out.size)) hlx hlt)
          have hg9 : g ≤ 9 := by rw [hg]; exact HG.out x y hlx hlt
          have hw1 : IntKind.u8.wrap (g : Int) = g := IntWalk.u8_in _ (by omega)
          have hw2 : IntKind.u8.wrap (48 + (g : Int)) = ((48 + g : Nat) : Int) := by rw [IntWalk.u8_in _ (by omega)]; omega
          have HGG := Lib.hid hg
          clear hg
          go_wp2_with fail
          refine HC2.out.mono ?_
          rintro e w3 ⟨rfl, hb3⟩
          have HI3 := Lib.hid (HI2.out.step hb3)
          have d0 := HI3.out.cell hlx
          have d1 := HI3.out.frozen x
          have d2 := HI3.out.lt
          have HN : Hid (VT wy wy.heap.size W 5 (fun k => .int .u8 (if k < x + 1 then ((48 + G k y : Nat) : Int) else 0)) (w3.setCell ⟨wy.heap.size, x, none⟩ (.int .u8 ((48 + g : Nat) : Int)))) := Lib.hid ((HI3.out.set x _).congr (fun k hk => by
            by_cases e : k = x
            · subst e; simp [HGG.out]
            · rw [if_neg e]
              by_cases h2 : k < x
              · rw [if_pos h2, if_pos (by omega)]
              · rw [if_neg h2, if_neg (by omega)]))
          clear hb3
          go_wp2
          go_roundg gj'
          case measure => exact Nat.lt_succ_self _
          case rel => exact ⟨x + 1, by omega, by go_num, HN⟩
        · obtain rfl : x = W := by omega
          have hcv := run_convert_bytes_arg (P := Try.prog) wr 112 5 Try.underlying112 Try.underlying5 wy.heap.size 0 x x (rowN x (fun j => G j y)) (rowN_len _ _) (fun i hi => by
            rw [Nat.zero_add, HI2.out.cell hi, rowN_get hi, if_pos hi]) 9 Try.underlying9
          have HO := Lib.hid (HI.out.step HI2.out.b)
          obtain ⟨R, hR⟩ : ∃ R, R = strOfNums (rowN x (fun j => G j y)) := ⟨_, rfl⟩
          rw [← hR] at hcv
          have d0 := HO.out.cell hlt
          have d1 := HO.out.frozen y
          have d2 := HO.out.lt
          have HN : Hid (VT w w.heap.size H 9 (fun k => .string (if k < y + 1 then rowB x (fun j => G j k) else ByteArray.empty)) (wr.setCell ⟨w.heap.size, y, none⟩ (.string R))) := Lib.hid ((HO.out.set y _).congr (fun k hk => by
            by_cases e : k = y
            · subst e; rw [if_pos rfl, if_pos (by omega), hR]; rfl
            · rw [if_neg e]
              by_cases h2 : k < y
              · rw [if_pos h2, if_pos (by omega)]
              · rw [if_neg h2, if_neg (by omega)]))
          have hlx' : ¬ (x : Int) < x := by omega
          clear hR
          go_wp2
          go_roundg gk'
          case measure => exact Nat.lt_succ_self _
          case rel => exact ⟨y + 1, by omega, by go_num, HN⟩
    · obtain rfl : y = H := by omega
      have HE : Hid (StrS wr (some ⟨w.heap.size, 0, none⟩) (drawB W y G)) := Lib.hid (.inr ⟨w.heap.size, 0, rfl, HI.out.lt, fun j hj => by
        have hj' : j < y := by rw [drawB_len] at hj; exact hj
        rw [Nat.zero_add, HI.out.cell hj', if_pos hj', drawB_get hj]⟩)
      go_wp2
      go_ret
      exact ⟨_, rfl, HE.out, HI.out.b⟩

set_option maxRecDepth 100000 in
set_option maxHeartbeats 1600000 in
theorem mirrorClo (w0 : World) (ps pw : Nat) (a : Option Addr) (cap : Nat) (ss : List ByteArray) (hs : skB ss = true) (c1 : w0.cell? ⟨ps, 0, none⟩ = some (.slice a ss.length cap)) (l1 : ps < w0.heap.size) (c2 : w0.cell? ⟨pw, 0, none⟩ = some (.int .i64 (wid ss))) (l2 : pw < w0.heap.size) (hS : StrS w0 a ss) (x y : Nat) (hx : x < wid ss) (w : World) (hb : Below w0.heap.size w0 w) :
    Calls Try.prog 64 #[.agg #[.int .i64 x, .int .i64 y], .pointer (some ⟨ps, 0, none⟩), .pointer (some ⟨pw, 0, none⟩)] w fun e w' => e = .returned (.int .i64 (mirG ss x y)) ∧ Below w.heap.size w w' := by
  obtain ⟨⟨hl1, hl2⟩, ⟨hw1, hw2⟩, -⟩ := skB_iff.1 hs
  have HG : Hid (∀ w', Below w0.heap.size w0 w' → Calls Try.prog 65 #[.slice a ss.length cap, .agg #[.int .i64 ((wid ss : Int) - 1 - x), .int .i64 y]] w' fun e w'' => e = .returned (.int .i64 (mirG ss x y)) ∧ Below w'.heap.size w' w'') := Lib.hid (fun w' hb => by
    have h := gradeAt_any a cap ss hs ((wid ss : Int) - 1 - x) y w' (hS.below hb)
    rw [(grd_toNat hs _ _).2] at h
    exact h)
  obtain ⟨W, hW⟩ : ∃ W, W = wid ss := ⟨_, rfl⟩
  rw [← hW] at HG c2 hw1 hw2 hx
  have e1 : IntKind.i64.wrap ((W : Int) - 1) = (W : Int) - 1 := IntWalk.i64_in _ (by omega)
  have e2 : IntKind.i64.wrap ((W : Int) - 1 - (x : Int)) = (W : Int) - 1 - (x : Int) := IntWalk.i64_in _ (by omega)
  have d1 := (hb.cell (p := ⟨ps, 0, none⟩) l1).trans c1
  have d2 := (hb.cell (p := ⟨pw, 0, none⟩) l2).trans c2
  have k1 := Nat.lt_of_lt_of_le l1 hb.size
  have k2 := Nat.lt_of_lt_of_le l2 hb.size
  have HB := Lib.hid (hb.trans (((Below.refl w.heap.size w).alloc (Nat.le_refl _) (.cells #[.int .i64 x, .int .i64 y] 87)).mono hb.size))
  clear hb c1 c2 l1 l2 hS hs hW
  go_enter Try.func64, Try.ntmps64
  go_wp2_with fail
  refine (HG.out _ HB.out).mono ?_
  rintro e w1 ⟨rfl, hb1⟩
  have HE := Lib.hid (((Below.refl w.heap.size w).alloc (Nat.le_refl _) (.cells #[.int .i64 x, .int .i64 y] 87)).trans (hb1.mono (by simp)))
  clear hb1
  go_wp2
  go_ret
  exact ⟨rfl, HE.out⟩

set_option maxRecDepth 100000 in
set_option maxHeartbeats 1600000 in
theorem quarterClo (w0 : World) (ps pw : Nat) (a : Option Addr) (cap : Nat) (ss : List ByteArray) (hs : skB ss = true) (c1 : w0.cell? ⟨ps, 0, none⟩ = some (.slice a ss.length cap)) (l1 : ps < w0.heap.size) (c2 : w0.cell? ⟨pw, 0, none⟩ = some (.int .i64 ss.length)) (l2 : pw < w0.heap.size) (hS : StrS w0 a ss) (x y : Nat) (hx : x < ss.length) (w : World) (hb : Below w0.heap.size w0 w) :
    Calls Try.prog 94 #[.agg #[.int .i64 x, .int .i64 y], .pointer (some ⟨ps, 0, none⟩), .pointer (some ⟨pw, 0, none⟩)] w fun e w' => e = .returned (.int .i64 (turG ss x y)) ∧ Below w.heap.size w w' := by
  obtain ⟨⟨hl1, hl2⟩, ⟨hw1, hw2⟩, -⟩ := skB_iff.1 hs
  have HG : Hid (∀ w', Below w0.heap.size w0 w' → Calls Try.prog 65 #[.slice a ss.length cap, .agg #[.int .i64 y, .int .i64 ((ss.length : Int) - 1 - x)]] w' fun e w'' => e = .returned (.int .i64 (turG ss x y)) ∧ Below w'.heap.size w' w'') := Lib.hid (fun w' hb => by
    have h := gradeAt_any a cap ss hs y ((ss.length : Int) - 1 - x) w' (hS.below hb)
    rw [(grd_toNat hs _ _).2] at h
    exact h)
  have e1 : IntKind.i64.wrap ((ss.length : Int) - 1) = (ss.length : Int) - 1 := IntWalk.i64_in _ (by omega)
  have e2 : IntKind.i64.wrap ((ss.length : Int) - 1 - (x : Int)) = (ss.length : Int) - 1 - (x : Int) := IntWalk.i64_in _ (by omega)
  have d1 := (hb.cell (p := ⟨ps, 0, none⟩) l1).trans c1
  have d2 := (hb.cell (p := ⟨pw, 0, none⟩) l2).trans c2
  have k1 := Nat.lt_of_lt_of_le l1 hb.size
  have k2 := Nat.lt_of_lt_of_le l2 hb.size
  have HB := Lib.hid (hb.trans (((Below.refl w.heap.size w).alloc (Nat.le_refl _) (.cells #[.int .i64 x, .int .i64 y] 87)).mono hb.size))
  clear hb c1 c2 l1 l2 hS hs
  go_enter Try.func94, Try.ntmps94
  go_wp2_with fail
  refine (HG.out _ HB.out).mono ?_
  rintro e w1 ⟨rfl, hb1⟩
  have HE := Lib.hid (((Below.refl w.heap.size w).alloc (Nat.le_refl _) (.cells #[.int .i64 x, .int .i64 y] 87)).trans (hb1.mono (by simp)))
  clear hb1
  go_wp2
  go_ret
  exact ⟨rfl, HE.out⟩

set_option maxRecDepth 100000 in
set_option maxHeartbeats 1600000 in
theorem quarter_any (a : Option Addr) (cap : Nat) (ss : List ByteArray) (hs : skB ss = true) (w : World) (h : StrS w a ss) :
    Calls Try.prog 60 #[.slice a ss.length cap] w fun e w' => ∃ n, e = .returned (.slice (some ⟨n, 0, none⟩) (turB ss).length (turB ss).length) ∧ StrS w' (some ⟨n, 0, none⟩) (turB ss) ∧ Below w.heap.size w w' := by
  obtain ⟨⟨hl1, hl2⟩, ⟨hw1, hw2⟩, -⟩ := skB_iff.1 hs
  have HSZ : Hid (∀ w', Below w.heap.size w w' → Calls Try.prog 62 #[.slice a ss.length cap] w' fun e w'' => e = .returned (.tuple #[.int .i64 (wid ss), .int .i64 ss.length]) ∧ w' = w'') := Lib.hid (fun w' hb => skSize_any a cap ss (by omega) (by omega) w' (h.below hb))
  have HM := Lib.hid (((Mem.nil w).alloc #[.slice a ss.length cap] 22).alloc_at (H := w.heap.size + 1) (by simp) #[.int .i64 ss.length] 3)
  have HD : Hid (∀ w', Mem w [(w.heap.size + 1, #[.int .i64 ss.length], 3), (w.heap.size, #[.slice a ss.length cap], 22)] w' → Calls Try.prog 63 #[.int .i64 ss.length, .int .i64 (wid ss), .func (.func 94) #[] #[.pointer (some ⟨w.heap.size, 0, none⟩), .pointer (some ⟨w.heap.size + 1, 0, none⟩)]] w' fun e w'' => ∃ n, e = .returned (.slice (some ⟨n, 0, none⟩) (wid ss) (wid ss)) ∧ StrS w'' (some ⟨n, 0, none⟩) (turB ss) ∧ Below w'.heap.size w' w'') := Lib.hid (fun w' hm =>
    draw_quarter _ _ ss.length (wid ss) hl2 hw2 (turG ss) (fun x y _ _ => (grd_toNat hs _ _).1) w' w' (Below.refl _ _) (fun w2 x y hb hx _ =>
      quarterClo w' w.heap.size (w.heap.size + 1) a cap ss hs (hm.tail.cell 0) hm.tail.head_lt (hm.cell 0) hm.head_lt (h.mem hm) x y hx w2 hb))
  have hlen : (turB ss).length = wid ss := drawB_len _ _ _
  rw [hlen]
  obtain ⟨T, hT⟩ : ∃ T, T = turB ss := ⟨_, rfl⟩
  rw [← hT] at HD ⊢
  clear hs h hT hlen
  go_enter Try.func60, Try.ntmps60
  go_wp2_with fail
  refine (HSZ.out _ ((Below.refl _ _).alloc (Nat.le_refl _) _)).mono ?_
  rintro e w1 ⟨rfl, rfl⟩
  go_wp2_with fail
  refine (HD.out _ HM.out).mono ?_
  rintro e w2 ⟨n, rfl, hst, hb⟩
  have HE := Lib.hid (And.intro hst (HM.out.step hb).b)
  clear hst hb
  go_wp2
  go_ret
  exact ⟨_, rfl, HE.out.1, HE.out.2⟩

set_option maxRecDepth 100000 in
set_option maxHeartbeats 1600000 in
theorem mirror_yes (a : Option Addr) (cap : Nat) (ss : List ByteArray) (hs : skB ss = true) (w : World) (h : StrS w a ss) :
    Calls Try.prog 29 #[.slice a ss.length cap] w fun e w' => ∃ n, e = .returned (.tuple #[.slice (some ⟨n, 0, none⟩) (mirB ss).length (mirB ss).length, .int .i64 0]) ∧ StrS w' (some ⟨n, 0, none⟩) (mirB ss) ∧ Below w.heap.size w w' := by
  obtain ⟨⟨hl1, hl2⟩, ⟨hw1, hw2⟩, -⟩ := skB_iff.1 hs
  have HV : Hid (∀ w', Below w.heap.size w w' → Calls Try.prog 17 #[.slice a ss.length cap] w' fun e w'' => e = .returned (.bool true) ∧ w' = w'') := Lib.hid (fun w' hb => by
    rw [← hs]; exact skValid_any a cap ss (sk_long hs).1 (sk_long hs).2 w' (h.below hb))
  have HSZ : Hid (∀ w', Below w.heap.size w w' → Calls Try.prog 62 #[.slice a ss.length cap] w' fun e w'' => e = .returned (.tuple #[.int .i64 (wid ss), .int .i64 ss.length]) ∧ w' = w'') := Lib.hid (fun w' hb => skSize_any a cap ss (by omega) (by omega) w' (h.below hb))
  have HM := Lib.hid (((Mem.nil w).alloc #[.slice a ss.length cap] 22).alloc_at (H := w.heap.size + 1) (by simp) #[.int .i64 (wid ss)] 3)
  have HD : Hid (∀ w', Mem w [(w.heap.size + 1, #[.int .i64 (wid ss)], 3), (w.heap.size, #[.slice a ss.length cap], 22)] w' → Calls Try.prog 63 #[.int .i64 (wid ss), .int .i64 ss.length, .func (.func 64) #[] #[.pointer (some ⟨w.heap.size, 0, none⟩), .pointer (some ⟨w.heap.size + 1, 0, none⟩)]] w' fun e w'' => ∃ n, e = .returned (.slice (some ⟨n, 0, none⟩) ss.length ss.length) ∧ StrS w'' (some ⟨n, 0, none⟩) (mirB ss) ∧ Below w'.heap.size w' w'') := Lib.hid (fun w' hm =>
    draw_mirror _ _ (wid ss) ss.length hw2 hl2 (mirG ss) (fun x y _ _ => (grd_toNat hs _ _).1) w' w' (Below.refl _ _) (fun w2 x y hb hx _ =>
      mirrorClo w' w.heap.size (w.heap.size + 1) a cap ss hs (hm.tail.cell 0) hm.tail.head_lt (hm.cell 0) hm.head_lt (h.mem hm) x y hx w2 hb))
  have hlen : (mirB ss).length = ss.length := drawB_len _ _ _
  rw [hlen]
  obtain ⟨T, hT⟩ : ∃ T, T = mirB ss := ⟨_, rfl⟩
  rw [← hT] at HD ⊢
  clear hs h hT hlen
  go_enter Try.func29, Try.ntmps29
  go_wp2_with fail
  refine (HV.out _ ((Below.refl _ _).alloc (Nat.le_refl _) _)).mono ?_
  rintro e w1 ⟨rfl, rfl⟩
  go_wp2_with fail
  refine (HSZ.out _ ((Below.refl _ _).alloc (Nat.le_refl _) _)).mono ?_
  rintro e w1 ⟨rfl, rfl⟩
  go_wp2_with fail
  refine (HD.out _ HM.out).mono ?_
  rintro e w2 ⟨n, rfl, hst, hb⟩
  have HE := Lib.hid (And.intro hst (HM.out.step hb).b)
  clear hst hb
  go_wp2
  go_ret2
  exact ⟨_, rfl, HE.out.1, HE.out.2⟩

set_option maxRecDepth 100000 in
theorem mirror_no (a : Option Addr) (cap : Nat) (ss : List ByteArray) (hs : skB ss = false) (hl : (ss.length : Int) ≤ 9223372036854775807) (hz : ∀ s ∈ ss, s.size ≤ 9223372036854775807) (w : World) (h : StrS w a ss) :
    Calls Try.prog 29 #[.slice a ss.length cap] w fun e w' => e = .returned (.tuple #[.slice none 0 0, .int .i64 2]) ∧ Below w.heap.size w w' := by
  have HV : Hid (∀ w', Below w.heap.size w w' → Calls Try.prog 17 #[.slice a ss.length cap] w' fun e w'' => e = .returned (.bool false) ∧ w' = w'') := Lib.hid (fun w' hb => by
    rw [← hs]; exact skValid_any a cap ss hl hz w' (h.below hb))
  clear hs h
  go_enter Try.func29, Try.ntmps29
  go_wp2_with fail
  refine (HV.out _ ((Below.refl _ _).alloc (Nat.le_refl _) _)).mono ?_
  rintro e w1 ⟨rfl, rfl⟩
  go_wp2
  go_ret2
  exact ⟨rfl, (Below.refl _ _).alloc (Nat.le_refl _) _⟩

end Go.Proofs.Ytfnkomecbbmfmaa

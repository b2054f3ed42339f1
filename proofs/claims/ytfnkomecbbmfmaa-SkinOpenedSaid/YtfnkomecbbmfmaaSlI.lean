/- Skins: Crop and Punch of the program; the reference's checked. -/
import Derived.Test.YtfnkomecbbmfmaaSlH
import Derived.Test.YtfnkomecbbmfmaaSlG
namespace Go.Proofs.Ytfnkomecbbmfmaa
open Go.RowKit

/-- The grades of a skin that is cropped, that is punched. -/
def croG (ss : List ByteArray) (X Y : Nat) (x y : Nat) : Nat := (grd ss ((X : Int) + x) ((Y : Int) + y)).toNat
def punG (ss : List ByteArray) (X Y U V : Nat) (x y : Nat) : Nat := if X ≤ x ∧ x < X + U ∧ Y ≤ y ∧ y < Y + V then 0 else (grd ss x y).toNat

set_option maxRecDepth 100000 in
set_option maxHeartbeats 1600000 in
theorem draw_crop (p1 p2 : Value) (W H : Nat) (hW : W ≤ 48) (hH : H ≤ 48) (G : Nat → Nat → Nat) (hG : ∀ x y, x < W → y < H → G x y ≤ 9) (w0 w : World) (hb0 : Below w0.heap.size w0 w)
    (hcl : ∀ w' (x y : Nat), Below w0.heap.size w0 w' → x < W → y < H → Calls Try.prog 67 #[.agg #[.int .i64 x, .int .i64 y], p1, p2] w' fun e w'' => e = .returned (.int .i64 (G x y)) ∧ Below w'.heap.size w' w'') :
    Calls Try.prog 63 #[.int .i64 W, .int .i64 H, .func (.func 67) #[] #[p1, p2]] w fun e w' => ∃ n, e = .returned (.slice (some ⟨n, 0, none⟩) H H) ∧ StrS w' (some ⟨n, 0, none⟩) (drawB W H G) ∧ Below w.heap.size w w' := by
  have HCL := Lib.hid hcl
  have HB0 := Lib.hid hb0
  have HG := Lib.hid hG
  have hmk := sk_makeStr H (by omega) w
  have hmr := Lib.hid (fun w' => sk_makeByte W (by omega) w')
  have HCT : Hid (VT w w.heap.size H 9 (fun k => .string (if k < 0 then rowB W (fun x => G x k) else ByteArray.empty)) (w.alloc (.cells (cV H fun _ => .string ByteArray.empty) 9))) := Lib.hid ((VT.new w H _ _).congr (fun k hk => by simp))
  have hW' : (W : Int) ≤ 48 := by omega
  have hH' : (H : Int) ≤ 48 := by omega
  clear hcl hG hb0
  go_enter Try.func63, Try.ntmps63
  go_wp2
  clear hmk
  go_loopg [15] H (fun gk i wr => ∃ y : Nat, y + gk = H ∧ i = .int .i64 y ∧ Hid (VT w w.heap.size H 9 (fun k => .string (if k < y then rowB W (fun x => G x k) else ByteArray.empty)) wr))
  case atStart => exact ⟨0, by omega, rfl, HCT⟩
  case round =>
    obtain ⟨y, hy, rfl, HI⟩ := hrel
    by_cases hlt : y < H
    · obtain ⟨gk', rfl⟩ : ∃ m, gk = m + 1 := ⟨gk - 1, by omega⟩
      have hlt' : (y : Int) < H := by omega
      have hy0 : (0 : Int) ≤ y := by omega
      obtain ⟨wy, rfl⟩ : ∃ wy, wy = wr := ⟨wr, rfl⟩
      have hmw := hmr.out wy
      have HR0 : Hid (VT wy wy.heap.size W 5 (fun k => .int .u8 (if k < 0 then ((48 + G k y : Nat) : Int) else 0)) (wy.alloc (.cells (cV W fun _ => .int .u8 0) 5))) := Lib.hid ((VT.new wy W _ _).congr (fun k hk => by simp))
      go_wp2
      clear hmw
      go_loopg [22] W (fun gj i wr => ∃ x : Nat, x + gj = W ∧ i = .int .i64 x ∧ Hid (VT wy wy.heap.size W 5 (fun k => .int .u8 (if k < x then ((48 + G k y : Nat) : Int) else 0)) wr))
      case atStart => exact ⟨0, by omega, rfl, HR0⟩
      case round =>
        obtain ⟨x, hx, rfl, HI2⟩ := hrel
        by_cases hlx : x < W
        · obtain ⟨gj', rfl⟩ : ∃ m, gk = m + 1 := ⟨gk - 1, by omega⟩
          have hlx' : (x : Int) < W := by omega
          have hx0 : (0 : Int) ≤ x := by omega
          obtain ⟨g, hg⟩ : ∃ g, g = G x y := ⟨_, rfl⟩
          have HC2 : Hid (Calls Try.prog 67 #[.agg #[.int .i64 x, .int .i64 y], p1, p2] wr fun e w'' => e = .returned (.int .i64 g) ∧ Below wr.heap.size wr w'') := Lib.hid (by
            rw [hg]
            exact HCL.out wr x y (HB0.out.trans (((HI.out.b.trans (HI2.out.b.mono HI.out.b.size))).mono HB0.out.size)) hlx hlt)
          have hg9 : g ≤ 9 := by rw [hg]; exact HG.out x y hlx hlt
          have hw1 : IntKind.u8.wrap (g : Int) = g := IntWalk.u8_in _ (by omega)
          have hw2 : IntKind.u8.wrap (48 + (g : Int)) = ((48 + g : Nat) : Int) := by rw [IntWalk.u8_in _ (by omega)]; omega
          have HGG := Lib.hid hg
          clear hg
          go_wp2_with fail
          refine HC2.out.mono ?_
          rintro e w3 ⟨rfl, hb3⟩
          have HI3 := Lib.hid (HI2.out.step hb3)
          have d0 := HI3.out.cell hlx
          have d1 := HI3.out.frozen x
          have d2 := HI3.out.lt
          have HN : Hid (VT wy wy.heap.size W 5 (fun k => .int .u8 (if k < x + 1 then ((48 + G k y : Nat) : Int) else 0)) (w3.setCell ⟨wy.heap.size, x, none⟩ (.int .u8 ((48 + g : Nat) : Int)))) := Lib.hid ((HI3.out.set x _).congr (fun k hk => by
            by_cases e : k = x
            · subst e; simp [HGG.out]
            · rw [if_neg e]
              by_cases h2 : k < x
              · rw [if_pos h2, if_pos (by omega)]
              · rw [if_neg h2, if_neg (by omega)]))
          clear hb3
          go_wp2
          go_roundg gj'
          case measure => exact Nat.lt_succ_self _
          case rel => exact ⟨x + 1, by omega, by go_num, HN⟩
        · obtain rfl : x = W := by omega
          have hcv := run_convert_bytes_arg (P := Try.prog) wr 112 5 Try.underlying112 Try.underlying5 wy.heap.size 0 x x (rowN x (fun j => G j y)) (rowN_len _ _) (fun i hi => by
            rw [Nat.zero_add, HI2.out.cell hi, rowN_get hi, if_pos hi]) 9 Try.underlying9
          have HO := Lib.hid (HI.out.step HI2.out.b)
          obtain ⟨R, hR⟩ : ∃ R, R = strOfNums (rowN x (fun j => G j y)) := ⟨_, rfl⟩
          rw [← hR] at hcv
          have d0 := HO.out.cell hlt
          have d1 := HO.out.frozen y
          have d2 := HO.out.lt
          have HN : Hid (VT w w.heap.size H 9 (fun k => .string (if k < y + 1 then rowB x (fun j => G j k) else ByteArray.empty)) (wr.setCell ⟨w.heap.size, y, none⟩ (.string R))) := Lib.hid ((HO.out.set y _).congr (fun k hk => by
            by_cases e : k = y
            · subst e; rw [if_pos rfl, if_pos (by omega), hR]; rfl
            · rw [if_neg e]
              by_cases h2 : k < y
              · rw [if_pos h2, if_pos (by omega)]
              · rw [if_neg h2, if_neg (by omega)]))
          have hlx' : ¬ (x : Int) < x := by omega
          clear hR
          go_wp2
          go_roundg gk'
          case measure => exact Nat.lt_succ_self _
          case rel => exact ⟨y + 1, by omega, by go_num, HN⟩
    · obtain rfl : y = H := by omega
      have HE : Hid (StrS wr (some ⟨w.heap.size, 0, none⟩) (drawB W y G)) := Lib.hid (.inr ⟨w.heap.size, 0, rfl, HI.out.lt, fun j hj => by
        have hj' : j < y := by rw [drawB_len] at hj; exact hj
        rw [Nat.zero_add, HI.out.cell hj', if_pos hj', drawB_get hj]⟩)
      go_wp2
      go_ret
      exact ⟨_, rfl, HE.out, HI.out.b⟩


set_option maxRecDepth 100000 in
set_option maxHeartbeats 1600000 in
theorem draw_punch (p1 p2 : Value) (W H : Nat) (hW : W ≤ 48) (hH : H ≤ 48) (G : Nat → Nat → Nat) (hG : ∀ x y, x < W → y < H → G x y ≤ 9) (w0 w : World) (hb0 : Below w0.heap.size w0 w)
    (hcl : ∀ w' (x y : Nat), Below w0.heap.size w0 w' → x < W → y < H → Calls Try.prog 70 #[.agg #[.int .i64 x, .int .i64 y], p1, p2] w' fun e w'' => e = .returned (.int .i64 (G x y)) ∧ Below w'.heap.size w' w'') :
    Calls Try.prog 63 #[.int .i64 W, .int .i64 H, .func (.func 70) #[] #[p1, p2]] w fun e w' => ∃ n, e = .returned (.slice (some ⟨n, 0, none⟩) H H) ∧ StrS w' (some ⟨n, 0, none⟩) (drawB W H G) ∧ Below w.heap.size w w' := by
  have HCL := Lib.hid hcl
  have HB0 := Lib.hid hb0
  have HG := Lib.hid hG
  have hmk := sk_makeStr H (by omega) w
  have hmr := Lib.hid (fun w' => sk_makeByte W (by omega) w')
  have HCT : Hid (VT w w.heap.size H 9 (fun k => .string (if k < 0 then rowB W (fun x => G x k) else ByteArray.empty)) (w.alloc (.cells (cV H fun _ => .string ByteArray.empty) 9))) := Lib.hid ((VT.new w H _ _).congr (fun k hk => by simp))
  have hW' : (W : Int) ≤ 48 := by omega
  have hH' : (H : Int) ≤ 48 := by omega
  clear hcl hG hb0
  go_enter Try.func63, Try.ntmps63
  go_wp2
  clear hmk
  go_loopg [15] H (fun gk i wr => ∃ y : Nat, y + gk = H ∧ i = .int .i64 y ∧ Hid (VT w w.heap.size H 9 (fun k => .string (if k < y then rowB W (fun x => G x k) else ByteArray.empty)) wr))
  case atStart => exact ⟨0, by omega, rfl, HCT⟩
  case round =>
    obtain ⟨y, hy, rfl, HI⟩ := hrel
    by_cases hlt : y < H
    · obtain ⟨gk', rfl⟩ : ∃ m, gk = m + 1 := ⟨gk - 1, by omega⟩
      have hlt' : (y : Int) < H := by omega
      have hy0 : (0 : Int) ≤ y := by omega
      obtain ⟨wy, rfl⟩ : ∃ wy, wy = wr := ⟨wr, rfl⟩
      have hmw := hmr.out wy
      have HR0 : Hid (VT wy wy.heap.size W 5 (fun k => .int .u8 (if k < 0 then ((48 + G k y : Nat) : Int) else 0)) (wy.alloc (.cells (cV W fun _ => .int .u8 0) 5))) := Lib.hid ((VT.new wy W _ _).congr (fun k hk => by simp))
      go_wp2
      clear hmw
      go_loopg [22] W (fun gj i wr => ∃ x : Nat, x + gj = W ∧ i = .int .i64 x ∧ Hid (VT wy wy.heap.size W 5 (fun k => .int .u8 (if k < x then ((48 + G k y : Nat) : Int) else 0)) wr))
      case atStart => exact ⟨0, by omega, rfl, HR0⟩
      case round =>
        obtain ⟨x, hx, rfl, HI2⟩ := hrel
        by_cases hlx : x < W
        · obtain ⟨gj', rfl⟩ : ∃ m, gk = m + 1 := ⟨gk - 1, by omega⟩
          have hlx' : (x : Int) < W := by omega
          have hx0 : (0 : Int) ≤ x := by omega
          obtain ⟨g, hg⟩ : ∃ g, g = G x y := ⟨_, rfl⟩
          have HC2 : Hid (Calls Try.prog 70 #[.agg #[.int .i64 x, .int .i64 y], p1, p2] wr fun e w'' => e = .returned (.int .i64 g) ∧ Below wr.heap.size wr w'') := Lib.hid (by
            rw [hg]
            exact HCL.out wr x y (HB0.out.trans (((HI.out.b.trans (HI2.out.b.mono HI.out.b.size))).mono HB0.out.size)) hlx hlt)
          have hg9 : g ≤ 9 := by rw [hg]; exact HG.out x y hlx hlt
          have hw1 : IntKind.u8.wrap (g : Int) = g := IntWalk.u8_in _ (by omega)
          have hw2 : IntKind.u8.wrap (48 + (g : Int)) = ((48 + g : Nat) : Int) := by rw [IntWalk.u8_in _ (by omega)]; omega
          have HGG := Lib.hid hg
          clear hg
          go_wp2_with fail
          refine HC2.out.mono ?_
          rintro e w3 ⟨rfl, hb3⟩
          have HI3 := Lib.hid (HI2.out.step hb3)
          have d0 := HI3.out.cell hlx
          have d1 := HI3.out.frozen x
          have d2 := HI3.out.lt
          have HN : Hid (VT wy wy.heap.size W 5 (fun k => .int .u8 (if k < x + 1 then ((48 + G k y : Nat) : Int) else 0)) (w3.setCell ⟨wy.heap.size, x, none⟩ (.int .u8 ((48 + g : Nat) : Int)))) := Lib.hid ((HI3.out.set x _).congr (fun k hk => by
            by_cases e : k = x
            · subst e; simp [HGG.out]
            · rw [if_neg e]
              by_cases h2 : k < x
              · rw [if_pos h2, if_pos (by omega)]
              · rw [if_neg h2, if_neg (by omega)]))
          clear hb3
          go_wp2
          go_roundg gj'
          case measure => exact Nat.lt_succ_self _
          case rel => exact ⟨x + 1, by omega, by go_num, HN⟩
        · obtain rfl : x = W := by omega
          have hcv := run_convert_bytes_arg (P := Try.prog) wr 112 5 Try.underlying112 Try.underlying5 wy.heap.size 0 x x (rowN x (fun j => G j y)) (rowN_len _ _) (fun i hi => by
            rw [Nat.zero_add, HI2.out.cell hi, rowN_get hi, if_pos hi]) 9 Try.underlying9
          have HO := Lib.hid (HI.out.step HI2.out.b)
          obtain ⟨R, hR⟩ : ∃ R, R = strOfNums (rowN x (fun j => G j y)) := ⟨_, rfl⟩
          rw [← hR] at hcv
          have d0 := HO.out.cell hlt
          have d1 := HO.out.frozen y
          have d2 := HO.out.lt
          have HN : Hid (VT w w.heap.size H 9 (fun k => .string (if k < y + 1 then rowB x (fun j => G j k) else ByteArray.empty)) (wr.setCell ⟨w.heap.size, y, none⟩ (.string R))) := Lib.hid ((HO.out.set y _).congr (fun k hk => by
            by_cases e : k = y
            · subst e; rw [if_pos rfl, if_pos (by omega), hR]; rfl
            · rw [if_neg e]
              by_cases h2 : k < y
              · rw [if_pos h2, if_pos (by omega)]
              · rw [if_neg h2, if_neg (by omega)]))
          have hlx' : ¬ (x : Int) < x := by omega
          clear hR
          go_wp2
          go_roundg gk'
          case measure => exact Nat.lt_succ_self _
          case rel => exact ⟨y + 1, by omega, by go_num, HN⟩
    · obtain rfl : y = H := by omega
      have HE : Hid (StrS wr (some ⟨w.heap.size, 0, none⟩) (drawB W y G)) := Lib.hid (.inr ⟨w.heap.size, 0, rfl, HI.out.lt, fun j hj => by
        have hj' : j < y := by rw [drawB_len] at hj; exact hj
        rw [Nat.zero_add, HI.out.cell hj', if_pos hj', drawB_get hj]⟩)
      go_wp2
      go_ret
      exact ⟨_, rfl, HE.out, HI.out.b⟩


theorem memC {w w' : World} {ps pc : Nat} {vs cx cy x y : Value} {T : TypeId} (l1 : ps < w.heap.size) (l2 : pc < w.heap.size) (c1 : w.cell? ⟨ps, 0, none⟩ = some vs) (c2 : w.cell? ⟨pc, 0, none⟩ = some cx) (c3 : w.cell? ⟨pc, 1, none⟩ = some cy) (h : Mem w [(w.heap.size, #[x, y], T)] w') :
    Mem w [(w.heap.size, #[x, y], T)] w' ∧ w'.cell? ⟨ps, 0, none⟩ = some vs ∧ w'.cell? ⟨pc, 0, none⟩ = some cx ∧ w'.cell? ⟨pc, 1, none⟩ = some cy ∧ w'.cell? ⟨w.heap.size, 0, none⟩ = some x ∧ w'.cell? ⟨w.heap.size, 1, none⟩ = some y :=
  ⟨h, (h.b.cell (p := ⟨ps, 0, none⟩) l1).trans c1, (h.b.cell (p := ⟨pc, 0, none⟩) l2).trans c2, (h.b.cell (p := ⟨pc, 1, none⟩) l2).trans c3, h.c2.1, h.c2.2.1⟩

set_option maxRecDepth 100000 in
set_option maxHeartbeats 1600000 in
theorem cropClo (w0 : World) (ps pc : Nat) (a : Option Addr) (cap : Nat) (ss : List ByteArray) (hs : skB ss = true) (X Y : Nat) (hX : X ≤ 48) (hY : Y ≤ 48) (c1 : w0.cell? ⟨ps, 0, none⟩ = some (.slice a ss.length cap)) (l1 : ps < w0.heap.size) (c2 : w0.cell? ⟨pc, 0, none⟩ = some (.int .i64 X)) (c3 : w0.cell? ⟨pc, 1, none⟩ = some (.int .i64 Y)) (l2 : pc < w0.heap.size) (hS : StrS w0 a ss) (x y : Nat) (hx : x ≤ 48) (hy : y ≤ 48) (w : World) (hb : Below w0.heap.size w0 w) :
    Calls Try.prog 67 #[.agg #[.int .i64 x, .int .i64 y], .pointer (some ⟨ps, 0, none⟩), .pointer (some ⟨pc, 0, none⟩)] w fun e w' => e = .returned (.int .i64 (croG ss X Y x y)) ∧ Below w.heap.size w w' := by
  obtain ⟨p, hp⟩ : ∃ p : Int, p = (X : Int) + x := ⟨_, rfl⟩
  obtain ⟨q, hq⟩ : ∃ q : Int, q = (Y : Int) + y := ⟨_, rfl⟩
  obtain ⟨g, hg⟩ : ∃ g, g = croG ss X Y x y := ⟨_, rfl⟩
  have HG : Hid (∀ w', Below w0.heap.size w0 w' → Calls Try.prog 65 #[.slice a ss.length cap, .agg #[.int .i64 p, .int .i64 q]] w' fun e w'' => e = .returned (.int .i64 g) ∧ Below w'.heap.size w' w'') := Lib.hid (fun w' hb => by
    have h := gradeAt_any a cap ss hs p q w' (hS.below hb)
    rw [(grd_toNat hs _ _).2, hp, hq] at h
    rw [hg, hp, hq]
    exact h)
  have HPL : Hid (∀ w', Calls Try.prog 68 #[.agg #[.int .i64 x, .int .i64 y], .agg #[.int .i64 X, .int .i64 Y]] w' fun e w'' => e = .returned (.agg #[.int .i64 p, .int .i64 q]) ∧ Below w'.heap.size w' w'') := Lib.hid (fun w' => by
    have h := cplus_any x y X Y (by omega) (by omega) (by omega) (by omega) w'
    rw [show (x : Int) + X = p by omega, show (y : Int) + Y = q by omega] at h
    exact h)
  rw [← hg]
  have d1 := (hb.cell (p := ⟨ps, 0, none⟩) l1).trans c1
  have d2 := (hb.cell (p := ⟨pc, 0, none⟩) l2).trans c2
  have d3 := (hb.cell (p := ⟨pc, 1, none⟩) l2).trans c3
  have k1 := Nat.lt_of_lt_of_le l1 hb.size
  have k2 := Nat.lt_of_lt_of_le l2 hb.size
  have HB := Lib.hid hb
  have hM := (Mem.nil w).alloc #[.int .i64 x, .int .i64 y] 87
  have HM := Lib.hid hM
  have HC9 := Lib.hid (fun w' hm => memC (w := w) (w' := w') (x := .int .i64 x) (y := .int .i64 y) (T := 87) k1 k2 d1 d2 d3 hm)
  have HBB : Hid (∀ w', Mem w [(w.heap.size, #[.int .i64 x, .int .i64 y], 87)] w' → Below w0.heap.size w0 w') := Lib.hid (fun w' hm => HB.out.trans (hm.b.mono HB.out.size))
  clear hb c1 c2 c3 l1 l2 hS hs hp hq hg d1 d2 d3 hM
  go_enter Try.func67, Try.ntmps67
  go_wp2_with fail
  go_region_held3 (fun w' => Mem w [(w.heap.size, #[.int .i64 x, .int .i64 y], 87)] w' ∧ w'.cell? ⟨ps, 0, none⟩ = some (.slice a ss.length cap) ∧ w'.cell? ⟨pc, 0, none⟩ = some (.int .i64 X) ∧ w'.cell? ⟨pc, 1, none⟩ = some (.int .i64 Y) ∧ w'.cell? ⟨w.heap.size, 0, none⟩ = some (.int .i64 x) ∧ w'.cell? ⟨w.heap.size, 1, none⟩ = some (.int .i64 y))
    (first | exact HC9.out _ HM.out.drew | (go_split_ands; exact HC9.out _ (Mem.step (by assumption) (by assumption))))
    (first
      | (go_at_call 68; go_split_ands; with_reducible (refine (HPL.out _).mono ?_); rintro e w3 ⟨rfl, hb3⟩)
      | (go_at_call 65; go_split_ands; with_reducible (refine (HG.out _ (HBB.out _ (by assumption))).mono ?_); rintro e w4 ⟨rfl, hb4⟩))
  go_split_ands
  have HE := Lib.hid (Mem.b (by assumption : Mem w [(w.heap.size, #[.int .i64 x, .int .i64 y], 87)] w4))
  go_wp2
  go_ret
  exact ⟨rfl, HE.out⟩

set_option maxRecDepth 100000 in
set_option maxHeartbeats 1600000 in
theorem punchClo (w0 : World) (ps pr : Nat) (a : Option Addr) (cap : Nat) (ss : List ByteArray) (hs : skB ss = true) (X Y U V : Nat) (hX : X + U ≤ 48) (hY : Y + V ≤ 48) (c1 : w0.cell? ⟨ps, 0, none⟩ = some (.slice a ss.length cap)) (l1 : ps < w0.heap.size) (c2 : w0.cell? ⟨pr, 0, none⟩ = some (.int .i64 X)) (c3 : w0.cell? ⟨pr, 1, none⟩ = some (.int .i64 Y)) (c4 : w0.cell? ⟨pr, 2, none⟩ = some (.int .i64 U)) (c5 : w0.cell? ⟨pr, 3, none⟩ = some (.int .i64 V)) (l2 : pr < w0.heap.size) (hS : StrS w0 a ss) (x y : Nat) (w : World) (hb : Below w0.heap.size w0 w) :
    Calls Try.prog 70 #[.agg #[.int .i64 x, .int .i64 y], .pointer (some ⟨pr, 0, none⟩), .pointer (some ⟨ps, 0, none⟩)] w fun e w' => e = .returned (.int .i64 (punG ss X Y U V x y)) ∧ Below w.heap.size w w' := by
  obtain ⟨g, hg⟩ : ∃ g, g = (grd ss x y).toNat := ⟨_, rfl⟩
  have HG : Hid (∀ w', Below w0.heap.size w0 w' → Calls Try.prog 65 #[.slice a ss.length cap, .agg #[.int .i64 x, .int .i64 y]] w' fun e w'' => e = .returned (.int .i64 g) ∧ Below w'.heap.size w' w'') := Lib.hid (fun w' hb => by
    have h := gradeAt_any a cap ss hs x y w' (hS.below hb)
    rw [(grd_toNat hs _ _).2] at h
    rw [hg]
    exact h)
  have hw1 : IntKind.i64.wrap ((X : Int) + U) = (X : Int) + U := IntWalk.i64_in _ (by omega)
  have hw2 : IntKind.i64.wrap ((Y : Int) + V) = (Y : Int) + V := IntWalk.i64_in _ (by omega)
  have d1 := (hb.cell (p := ⟨ps, 0, none⟩) l1).trans c1
  have d2 := (hb.cell (p := ⟨pr, 0, none⟩) l2).trans c2
  have d3 := (hb.cell (p := ⟨pr, 1, none⟩) l2).trans c3
  have d4 := (hb.cell (p := ⟨pr, 2, none⟩) l2).trans c4
  have d5 := (hb.cell (p := ⟨pr, 3, none⟩) l2).trans c5
  have k1 := Nat.lt_of_lt_of_le l1 hb.size
  have k2 := Nat.lt_of_lt_of_le l2 hb.size
  have HB := Lib.hid (hb.trans (((Below.refl w.heap.size w).alloc (Nat.le_refl _) (.cells #[.int .i64 x, .int .i64 y] 87)).mono hb.size))
  clear hb c1 c2 c3 c4 c5 l1 l2 hS hs
  by_cases hin : X ≤ x ∧ x < X + U ∧ Y ≤ y ∧ y < Y + V
  · have hz : punG ss X Y U V x y = 0 := by unfold punG; rw [if_pos hin]
    rw [hz]
    obtain ⟨i1, i2, i3, i4⟩ := hin
    clear hz hg
    have j1 : (X : Int) ≤ x := by omega
    have j2 : (x : Int) < (X : Int) + U := by omega
    have j3 : (Y : Int) ≤ y := by omega
    have j4 : (y : Int) < (Y : Int) + V := by omega
    go_enter Try.func70, Try.ntmps70
    go_wp2
    go_ret
    exact ⟨rfl, (Below.refl _ _).alloc (Nat.le_refl _) _⟩
  · have hz : punG ss X Y U V x y = g := by unfold punG; rw [if_neg hin, hg]
    rw [hz]
    clear hz hg
    go_enter Try.func70, Try.ntmps70
    go_wp2_with fail
    all_goals first | (exfalso; omega) | skip
    all_goals
      refine (HG.out _ HB.out).mono ?_
      rintro e w1 ⟨rfl, hb1⟩
      have HE := Lib.hid (((Below.refl w.heap.size w).alloc (Nat.le_refl _) (.cells #[.int .i64 x, .int .i64 y] 87)).trans (hb1.mono (by simp)))
      clear hb1
      go_wp2
      go_ret
      exact ⟨rfl, HE.out⟩

end Go.Proofs.Ytfnkomecbbmfmaa

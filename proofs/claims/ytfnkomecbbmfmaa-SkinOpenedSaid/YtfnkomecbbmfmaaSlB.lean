/- Skins: draw, drawn, slices.Equal on strings. -/
import Derived.Test.YtfnkomecbbmfmaaSlA
namespace Go.Proofs.Ytfnkomecbbmfmaa
open Go.RowKit

set_option maxRecDepth 100000 in
set_option maxHeartbeats 1600000 in
theorem draw_mirror (p1 p2 : Value) (W H : Nat) (hW : W ≤ 48) (hH : H ≤ 48) (G : Nat → Nat → Nat) (hG : ∀ x y, x < W → y < H → G x y ≤ 9) (w0 w : World) (hb0 : Below w0.heap.size w0 w)
    (hcl : ∀ w' (x y : Nat), Below w0.heap.size w0 w' → x < W → y < H → Calls Try.prog 64 #[.agg #[.int .i64 x, .int .i64 y], p1, p2] w' fun e w'' => e = .returned (.int .i64 (G x y)) ∧ Below w'.heap.size w' w'') :
    Calls Try.prog 63 #[.int .i64 W, .int .i64 H, .func (.func 64) #[] #[p1, p2]] w fun e w' => ∃ n, e = .returned (.slice (some ⟨n, 0, none⟩) H H) ∧ StrS w' (some ⟨n, 0, none⟩) (drawB W H G) ∧ Below w.heap.size w w' := by
  have HCL := Lib.hid hcl
  have HB0 := Lib.hid hb0
  have HG := Lib.hid hG
  have hmk := sk_makeStr H (by omega) w
  have hmr := Lib.hid (fun w' => sk_makeByte W (by omega) w')
  have HCT : Hid (VT w w.heap.size H 9 (fun k => .string (if k < 0 then rowB W (fun x => G x k) else ByteArray.empty)) (w.alloc (.cells (cV H fun _ => .string ByteArray.empty) 9))) := Lib.hid ((VT.new w H _ _).congr (fun k hk => by simp))
  have hW' : (W : Int) ≤ 48 := by omega
  have hH' : (H : Int) ≤ 48 := by omega
  clear hcl hG hb0
  go_enter Try.func63, Try.ntmps63
  go_wp2
  clear hmk
  go_loopg [15] H (fun gk i wr => ∃ y : Nat, y + gk = H ∧ i = .int .i64 y ∧ Hid (VT w w.heap.size H 9 (fun k => .string (if k < y then rowB W (fun x => G x k) else ByteArray.empty)) wr))
  case atStart => exact ⟨0, by omega, rfl, HCT⟩
  case round =>
    obtain ⟨y, hy, rfl, HI⟩ := hrel
    by_cases hlt : y < H
    · obtain ⟨gk', rfl⟩ : ∃ m, gk = m + 1 := ⟨gk - 1, by omega⟩
      have hlt' : (y : Int) < H := by omega
      have hy0 : (0 : Int) ≤ y := by omega
      obtain ⟨wy, rfl⟩ : ∃ wy, wy = wr := ⟨wr, rfl⟩
      have hmw := hmr.out wy
      have HR0 : Hid (VT wy wy.heap.size W 5 (fun k => .int .u8 (if k < 0 then ((48 + G k y : Nat) : Int) else 0)) (wy.alloc (.cells (cV W fun _ => .int .u8 0) 5))) := Lib.hid ((VT.new wy W _ _).congr (fun k hk => by simp))
      go_wp2
      clear hmw
      go_loopg [22] W (fun gj i wr => ∃ x : Nat, x + gj = W ∧ i = .int .i64 x ∧ Hid (VT wy wy.heap.size W 5 (fun k => .int .u8 (if k < x then ((48 + G k y : Nat) : Int) else 0)) wr))
      case atStart => exact ⟨0, by omega, rfl, HR0⟩
      case round =>
        obtain ⟨x, hx, rfl, HI2⟩ := hrel
        by_cases hlx : x < W
        · obtain ⟨gj', rfl⟩ : ∃ m, gk = m + 1 := ⟨gk - 1, by omega⟩
          have hlx' : (x : Int) < W := by omega
          have hx0 : (0 : Int) ≤ x := by omega
          obtain ⟨g, hg⟩ : ∃ g, g = G x y := ⟨_, rfl⟩
          have HC2 : Hid (Calls Try.prog 64 #[.agg #[.int .i64 x, .int .i64 y], p1, p2] wr fun e w'' => e = .returned (.int .i64 g) ∧ Below wr.heap.size wr w'') := Lib.hid (by
            rw [hg]
            exact HCL.out wr x y (HB0.out.trans (((HI.out.b.trans (HI2.out.b.mono HI.out.b.size))).mono HB0.out.size)) hlx hlt)
          have hg9 : g ≤ 9 := by rw [hg]; exact HG.out x y hlx hlt
          have hw1 : IntKind.u8.wrap (g : Int) = g := IntWalk.u8_in _ (by omega)
          have hw2 : IntKind.u8.wrap (48 + (g : Int)) = ((48 + g : Nat) : Int) := by rw [IntWalk.u8_in _ (by omega)]; omega
          have HGG := Lib.hid hg
          clear hg
          go_wp2_with fail
          refine HC2.out.mono ?_
          rintro e w3 ⟨rfl, hb3⟩
          have HI3 := Lib.hid (HI2.out.step hb3)
          have d0 := HI3.out.cell hlx
          have d1 := HI3.out.frozen x
          have d2 := HI3.out.lt
          have HN : Hid (VT wy wy.heap.size W 5 (fun k => .int .u8 (if k < x + 1 then ((48 + G k y : Nat) : Int) else 0)) (w3.setCell ⟨wy.heap.size, x, none⟩ (.int .u8 ((48 + g : Nat) : Int)))) := Lib.hid ((HI3.out.set x _).congr (fun k hk => by
            by_cases e : k = x
            · subst e; simp [HGG.out]
            · rw [if_neg e]
              by_cases h2 : k < x
              · rw [if_pos h2, if_pos (by omega)]
              · rw [if_neg h2, if_neg (by omega)]))
          clear hb3
          go_wp2
          go_roundg gj'
          case measure => exact Nat.lt_succ_self _
          case rel => exact ⟨x + 1, by omega, by go_num, HN⟩
        · obtain rfl : x = W := by omega
          have hcv := run_convert_bytes_arg (P := Try.prog) wr 112 5 Try.underlying112 Try.underlying5 wy.heap.size 0 x x (rowN x (fun j => G j y)) (rowN_len _ _) (fun i hi => by
            rw [Nat.zero_add, HI2.out.cell hi, rowN_get hi, if_pos hi]) 9 Try.underlying9
          have HO := Lib.hid (HI.out.step HI2.out.b)
          obtain ⟨R, hR⟩ : ∃ R, R = strOfNums (rowN x (fun j => G j y)) := ⟨_, rfl⟩
          rw [← hR] at hcv
          have d0 := HO.out.cell hlt
          have d1 := HO.out.frozen y
          have d2 := HO.out.lt
          have HN : Hid (VT w w.heap.size H 9 (fun k => .string (if k < y + 1 then rowB x (fun j => G j k) else ByteArray.empty)) (wr.setCell ⟨w.heap.size, y, none⟩ (.string R))) := Lib.hid ((HO.out.set y _).congr (fun k hk => by
            by_cases e : k = y
            · subst e; rw [if_pos rfl, if_pos (by omega), hR]; rfl
            · rw [if_neg e]
              by_cases h2 : k < y
              · rw [if_pos h2, if_pos (by omega)]
              · rw [if_neg h2, if_neg (by omega)]))
          have hlx' : ¬ (x : Int) < x := by omega
          clear hR
          go_wp2
          go_roundg gk'
          case measure => exact Nat.lt_succ_self _
          case rel => exact ⟨y + 1, by omega, by go_num, HN⟩
    · obtain rfl : y = H := by omega
      have HE : Hid (StrS wr (some ⟨w.heap.size, 0, none⟩) (drawB W y G)) := Lib.hid (.inr ⟨w.heap.size, 0, rfl, HI.out.lt, fun j hj => by
        have hj' : j < y := by rw [drawB_len] at hj; exact hj
        rw [Nat.zero_add, HI.out.cell hj', if_pos hj', drawB_get hj]⟩)
      go_wp2
      go_ret
      exact ⟨_, rfl, HE.out, HI.out.b⟩

end Go.Proofs.Ytfnkomecbbmfmaa

/- Skins: slices that grow by append; drawn, slices.Equal on strings. -/
import Derived.Test.YtfnkomecbbmfmaaSlA
import Derived.Test.YtfnkomecbbmfmaaSkU
import Derived.Deep.DeepAppendWide
namespace Go.Proofs.Ytfnkomecbbmfmaa
open Go.RowKit

/-- The world w0, with new blocks: v is a slice of its own, of the one-cell values xs. -/
structure OV (w0 : World) (e : TypeId) (v : Value) (xs : List Value) (wr : World) : Prop where
  b : Below w0.heap.size w0 wr
  own : wr.ownsRow w0.heap.size e 1 v xs.length xs
section
variable {w0 wr w2 : World} {e : TypeId} {v v' x : Value} {xs : List Value}
theorem OV.start (w : World) (e : TypeId) : OV w e (.slice none 0 0) [] w := ⟨Below.refl _ _, ⟨by simp, .inl ⟨rfl, rfl⟩⟩⟩
theorem OV.step (h : OV w0 e v xs wr) (hb : Below wr.heap.size wr w2) : OV w0 e v xs w2 :=
  ⟨h.b.trans (hb.mono h.b.size), h.own.kept (row := none) (grownBy_below none hb) (by
    cases hk : v.ownBlock with
    | none => exact .inl rfl
    | some k => exact .inr (by simp))⟩
theorem OV.push (h : OV w0 e v xs wr) (hown : w2.ownsRow w0.heap.size e 1 v' (xs.length + 1) (xs ++ [x])) (hg : wr.grownBy w2 v.ownBlock) : OV w0 e v' (xs ++ [x]) w2 := by
  have hlt := h.own.lt
  refine ⟨⟨hg.os.trans h.b.os, hg.tape.trans h.b.tape, hg.output.trans h.b.output, Nat.le_trans h.b.size hg.size, fun i hi => ?_⟩, ?_⟩
  · exact (hg.block i (Nat.lt_of_lt_of_le hi h.b.size) (fun e => by have := (hlt i e.symm).1; omega)).trans (h.b.block i hi)
  · rw [List.length_append]; exact hown
theorem OV.form (h : OV w0 e v xs wr) : ∃ a cap, v = .slice a xs.length cap ∧ (xs = [] ∨ ∃ g, a = some ⟨g, 0, none⟩ ∧ g < wr.heap.size ∧ ∀ j (hj : j < xs.length), wr.cell? ⟨g, j, none⟩ = some xs[j]) := by
  rcases h.own.2 with ⟨hv, h0⟩ | ⟨g, cap, cur, hv, hb, hh, -⟩
  · exact ⟨none, 0, by rw [hv, h0], .inl (List.length_eq_zero_iff.1 h0)⟩
  · refine ⟨some ⟨g, 0, none⟩, cap, hv, .inr ⟨g, rfl, block_lt hh, fun j hj => ?_⟩⟩
    have := h.own.cells (g := g) (by rw [hv]; rfl) j xs[j] (List.getElem?_eq_getElem hj)
    rwa [add_off, Nat.zero_add] at this
theorem OV.ints {zs : List Int} (h : OV w0 e v (zs.map (Value.int .i64)) wr) : ∃ a cap, v = .slice a zs.length cap ∧ IntK wr a zs := by
  obtain ⟨a, cap, hv, hx⟩ := h.form
  rw [List.length_map] at hv
  refine ⟨a, cap, hv, ?_⟩
  rcases hx with hx | ⟨g, ha, hl, hc⟩
  · exact .inl (List.map_eq_nil_iff.1 hx)
  · exact .inr ⟨g, 0, ha, hl, fun j hj => by
      have := hc j (by rw [List.length_map]; exact hj)
      rw [Nat.zero_add, this, List.getElem_map]⟩
theorem OV.strs {ss : List ByteArray} (h : OV w0 e v (ss.map Value.string) wr) : ∃ a cap, v = .slice a ss.length cap ∧ StrS wr a ss := by
  obtain ⟨a, cap, hv, hx⟩ := h.form
  rw [List.length_map] at hv
  refine ⟨a, cap, hv, ?_⟩
  rcases hx with hx | ⟨g, ha, hl, hc⟩
  · exact .inl (List.map_eq_nil_iff.1 hx)
  · exact .inr ⟨g, 0, ha, hl, fun j hj => by
      have := hc j (by rw [List.length_map]; exact hj)
      rw [Nat.zero_add, this, List.getElem_map]⟩
end

theorem cell_one_new (w : World) (u : Value) (T : TypeId) : ∀ (j : Nat) (x : Value), [u][j]? = some x → (w.alloc (.cells #[u] T)).cell? ((⟨w.heap.size, 0, none⟩ : Addr).add j) = some x := by
  have h := block_box (heap_alloc_new w (.cells #[u] T))
  intro j x hx
  match j, hx with
  | 0, hx => simp at hx; subst hx; exact h.1
  | j + 1, hx => simp at hx

set_option maxRecDepth 100000 in
set_option maxHeartbeats 1600000 in
theorem equalS_any (a a2 : Option Addr) (cap cap2 : Nat) (ss : List ByteArray) (hl : (ss.length : Int) ≤ 9223372036854775807) (w : World) (h : StrS w a ss) (h2 : StrS w a2 ss) :
    Calls Try.prog 31 #[.slice a ss.length cap, .slice a2 ss.length cap2] w fun e w' => e = .returned (.bool true) ∧ Below w.heap.size w w' := by
  have H1 := Lib.hid h
  have H2 := Lib.hid h2
  have hne : ((ss.length : Int) != (ss.length : Int)) = false := by simp
  clear h h2
  go_enter Try.func31, Try.ntmps31
  go_wp2_with fail
  go_loopw [13] (fun i wr => ∃ k : Nat, k ≤ ss.length ∧ i = .int .i64 k ∧ Hid (Below w.heap.size w wr)) (fun i _ => ss.length - (intOf i).toNat)
  case atStart => exact ⟨0, Nat.zero_le _, rfl, Lib.hid (Below.refl _ _)⟩
  case round =>
    obtain ⟨k, hk, rfl, HB⟩ := hrel
    by_cases hkN : k < ss.length
    · have hkN' : (k : Int) < ss.length := by omega
      obtain ⟨b, off, rfl, hb, hc⟩ := H1.out.at_ hkN
      obtain ⟨b2, off2, rfl, hb2, hc2⟩ := H2.out.at_ hkN
      have c1 := (HB.out.cell (p := ⟨b, off + k, none⟩) hb).trans hc
      have c2 := (HB.out.cell (p := ⟨b2, off2 + k, none⟩) hb2).trans hc2
      have l1 := Nat.lt_of_lt_of_le hb HB.out.size
      have l2 := Nat.lt_of_lt_of_le hb2 HB.out.size
      obtain ⟨s, hs⟩ : ∃ s, s = ss[k] := ⟨_, rfl⟩
      rw [← hs] at c1 c2
      have hk0 : (0 : Int) ≤ (k : Int) := by omega
      have HD := Lib.hid HB.out.drew
      clear hs hc hc2
      go_wp2_with fail
      go_region
      go_wp2
      go_roundw
      case rel => exact ⟨k + 1, by omega, by go_num, HD⟩
      case measure => simp [intOf]; omega
    · obtain rfl : k = ss.length := by omega
      go_wp2
      go_ret
      exact ⟨rfl, HB.out⟩

set_option maxRecDepth 100000 in
set_option maxHeartbeats 3200000 in
theorem drawn_any (W H : Nat) (hW : W ≤ 48) (hH : H ≤ 48) (a : Option Addr) (cap : Nat) (zs : List Int) (hzl : zs.length = W * H) (G : Nat → Nat → Nat) (hG : ∀ x y, x < W → y < H → zs.getD (y * W + x) 0 = (G x y : Int) ∧ G x y ≤ 9) (w : World) (h : IntK w a zs) :
    Calls Try.prog 61 #[.int .i64 W, .int .i64 H, .slice a zs.length cap] w fun e w' => ∃ a' c', e = .returned (.slice a' H c') ∧ StrS w' a' (drawB W H G) ∧ Below w.heap.size w w' := by
  obtain ⟨i0, hi, hz0, hz1, hz2⟩ := info_parts sk_infoStr
  have HI0 := Lib.hid (And.intro hi (And.intro hz0 (And.intro hz1 hz2)))
  clear hi hz0 hz1 hz2
  have HG := Lib.hid hG
  have HZ := Lib.hid h
  have HZL := Lib.hid hzl
  have hmr := Lib.hid (fun w' => sk_makeByte W (by omega) w')
  have hW' : (W : Int) ≤ 48 := by omega
  have hH' : (H : Int) ≤ 48 := by omega
  have HO0 : Hid (OV w 9 (.slice none 0 0) ((drawB W 0 G).map Value.string) w) := Lib.hid (OV.start w _)
  clear hG h hzl
  go_enter Try.func61, Try.ntmps61
  go_wp2
  go_loopg [7, 12] H (fun gk v i wr => ∃ y : Nat, y + gk = H ∧ i = .int .i64 y ∧ Hid (OV w 9 v ((drawB W y G).map Value.string) wr))
  case atStart => exact ⟨0, by omega, rfl, HO0⟩
  case round =>
    obtain ⟨y, hy, rfl, HI⟩ := hrel
    by_cases hlt : y < H
    · obtain ⟨gk', rfl⟩ : ∃ m, gk = m + 1 := ⟨gk - 1, by omega⟩
      have hlt' : (y : Int) < H := by omega
      have hy0 : (0 : Int) ≤ y := by omega
      obtain ⟨wy, rfl⟩ : ∃ wy, wy = wr := ⟨wr, rfl⟩
      have hmw := hmr.out wy
      have HR0 : Hid (VT wy wy.heap.size W 5 (fun k => .int .u8 (if k < 0 then ((48 + G k y : Nat) : Int) else 0)) (wy.alloc (.cells (cV W fun _ => .int .u8 0) 5))) := Lib.hid ((VT.new wy W _ _).congr (fun k hk => by simp))
      have hmul : y * W ≤ 47 * 48 := Nat.mul_le_mul (by omega) hW
      obtain ⟨m, hm⟩ : ∃ m, m = y * W := ⟨_, rfl⟩
      have hmi : (y : Int) * (W : Int) = (m : Int) := by rw [hm]; simp
      have hw0 : IntKind.i64.wrap ((y : Int) * (W : Int)) = (m : Int) := by rw [hmi]; exact IntWalk.i64_in _ (by omega)
      have hmH : m + W ≤ zs.length := by
        rw [HZL.out, hm]
        have : (y + 1) * W ≤ H * W := Nat.mul_le_mul_right W (by omega)
        rw [Nat.mul_comm W H]
        have e : (y + 1) * W = y * W + W := by rw [Nat.add_mul]; omega
        omega
      have HM := Lib.hid hm
      rw [← hm] at hmul
      clear hm hmi
      go_wp2
      clear hmw
      go_loopg [18] W (fun gj i wr => ∃ x : Nat, x + gj = W ∧ i = .int .i64 x ∧ Hid (VT wy wy.heap.size W 5 (fun k => .int .u8 (if k < x then ((48 + G k y : Nat) : Int) else 0)) wr))
      case atStart => exact ⟨0, by omega, rfl, HR0⟩
      case round =>
        obtain ⟨x, hx, rfl, HI2⟩ := hrel
        by_cases hlx : x < W
        · obtain ⟨gj', rfl⟩ : ∃ m, gk = m + 1 := ⟨gk - 1, by omega⟩
          have hlx' : (x : Int) < W := by omega
          have hx0 : (0 : Int) ≤ x := by omega
          obtain ⟨g, hg⟩ : ∃ g, g = G x y := ⟨_, rfl⟩
          obtain ⟨j, hj⟩ : ∃ j, j = m + x := ⟨_, rfl⟩
          have hjl : j < zs.length := by omega
          obtain ⟨hgv, hg9⟩ := HG.out x y hlx hlt
          rw [← HM.out, ← hj, ← hg] at hgv
          rw [← hg] at hg9
          obtain ⟨b, off, rfl, hbz, hcz⟩ := HZ.out.at_ hjl
          have hzj : zs[j] = (g : Int) := by
            rw [List.getD_eq_getElem?_getD, List.getElem?_eq_getElem hjl] at hgv
            exact hgv
          rw [hzj] at hcz
          have hc := ((HI.out.b.trans (HI2.out.b.mono HI.out.b.size)).cell (p := ⟨b, off + j, none⟩) hbz).trans hcz
          have hbl := Nat.lt_of_lt_of_le hbz (HI.out.b.trans (HI2.out.b.mono HI.out.b.size)).size
          have hwj : IntKind.i64.wrap ((m : Int) + (x : Int)) = (j : Int) := by rw [IntWalk.i64_in _ (by omega)]; omega
          have hj0 : (0 : Int) ≤ (j : Int) := by omega
          have hjl' : (j : Int) < zs.length := by omega
          have hw1 : IntKind.i64.wrap (48 + (g : Int)) = ((48 + g : Nat) : Int) := by rw [IntWalk.i64_in _ (by omega)]; omega
          have hw2 : IntKind.u8.wrap ((48 + g : Nat) : Int) = ((48 + g : Nat) : Int) := IntWalk.u8_in _ (by omega)
          have d0 := HI2.out.cell hlx
          have d1 := HI2.out.frozen x
          have d2 := HI2.out.lt
          have HN : Hid (VT wy wy.heap.size W 5 (fun k => .int .u8 (if k < x + 1 then ((48 + G k y : Nat) : Int) else 0)) (wr.setCell ⟨wy.heap.size, x, none⟩ (.int .u8 ((48 + g : Nat) : Int)))) := Lib.hid ((HI2.out.set x _).congr (fun k hk => by
            by_cases e : k = x
            · subst e; simp [hg]
            · rw [if_neg e]
              by_cases h2 : k < x
              · rw [if_pos h2, if_pos (by omega)]
              · rw [if_neg h2, if_neg (by omega)]))
          clear hg hj hgv hcz hzj hjl
          obtain ⟨g8, hg8⟩ : ∃ g8, g8 = ((48 + g : Nat) : Int) := ⟨_, rfl⟩
          rw [← hg8] at hw1 hw2 HN
          clear hg8
          go_wp2
          go_roundg gj'
          case measure => exact Nat.lt_succ_self _
          case rel => exact ⟨x + 1, by omega, by go_num, HN⟩
        · obtain rfl : x = W := by omega
          have hcv := run_convert_bytes_arg (P := Try.prog) wr 112 5 Try.underlying112 Try.underlying5 wy.heap.size 0 x x (rowN x (fun j => G j y)) (rowN_len _ _) (fun i hi => by
            rw [Nat.zero_add, HI2.out.cell hi, rowN_get hi, if_pos hi]) 9 Try.underlying9
          have HO := Lib.hid (HI.out.step HI2.out.b)
          obtain ⟨R, hR⟩ : ∃ R, R = strOfNums (rowN x (fun j => G j y)) := ⟨_, rfl⟩
          rw [← hR] at hcv
          have hlx' : ¬ (x : Int) < x := by omega
          have HOL : Hid (∀ v' w6, w6.ownsRow w.heap.size 9 1 v' (y + 1) (((drawB x y G).map Value.string) ++ [.string R]) → (wr.alloc (.cells #[.string R] 9)).grownBy w6 u7.ownBlock → OV w 9 v' ((drawB x (y + 1) G).map Value.string) w6) := Lib.hid (fun v' w6 ho hg => by
            have h := (HO.out.step ((Below.refl _ _).alloc (Nat.le_refl _) (.cells #[.string R] 9))).push (v' := v') (x := .string R) (w2 := w6) (by rw [List.length_map, drawB_len]; exact ho) hg
            unfold drawB
            rw [List.range_succ, List.map_append, List.map_append]
            rw [hR] at h
            exact h)
          have hown : wr.ownsRow w.heap.size 9 1 u7 y ((drawB x y G).map Value.string) := by
            have := HO.out.own
            rw [List.length_map, drawB_len] at this
            exact this
          have hbs := HO.out.b.size
          clear hR
          go_wp2_with (at_builtin; refine wpList_append_own _ rfl _ _ 22 rfl w.heap.size 9 i0 (.string ByteArray.empty) 1 16 Try.underlying22 HI0.out.1 HI0.out.2.1 HI0.out.2.2.1 HI0.out.2.2.2 rfl (by decide) u7 y _ rfl (hown.alloc _) ⟨wr.heap.size, 0, none⟩ 1 1 [.string R] rfl rfl (cell_one_new _ _ _) (by intro u hu; simp at hu; rw [hu]; rfl) (by unfold maxLen; omega) (by omega) (by simp; omega) ?_)
          intro v' w6 hown6 hgrow6 hnil6
          have HN := Lib.hid (HOL.out v' w6 hown6 hgrow6)
          clear hown6 hgrow6 hown hnil6
          go_wp2
          go_roundg gk'
          case measure => exact Nat.lt_succ_self _
          case rel => exact ⟨y + 1, by omega, by go_num, HN⟩
    · obtain rfl : y = H := by omega
      obtain ⟨a', c', hv, hs⟩ := HI.out.strs
      rw [drawB_len] at hv
      subst hv
      have HE := Lib.hid hs
      clear hs
      go_wp2
      go_ret
      exact ⟨_, _, rfl, HE.out, HI.out.b⟩

end Go.Proofs.Ytfnkomecbbmfmaa

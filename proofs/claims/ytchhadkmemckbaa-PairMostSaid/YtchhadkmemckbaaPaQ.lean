/- Pairs: the reference's table, Good. -/
import Derived.Test.YtchhadkmemckbaaPaP
namespace Go.Proofs.Ytchhadkmemckbaa
open Go.RowKit
set_option linter.unusedSimpArgs false
set_option linter.unusedVariables false

/-- Rows of ints in memory. -/
def TabR (w : World) (x : Option Addr) (L R : Nat) (C : Nat → Nat → Int) : Prop :=
  ∀ i, i < L → ∃ B mi, x = some ⟨B, 0, none⟩ ∧ B < w.heap.size ∧ w.cell? ⟨B, i, none⟩ = some (.slice (some ⟨mi, 0, none⟩) R R) ∧ mi < w.heap.size ∧ ∀ j, j < R → w.cell? ⟨mi, j, none⟩ = some (.int .i64 (C i j))
theorem TabR.below {w w' : World} {x : Option Addr} {L R : Nat} {C : Nat → Nat → Int} (h : TabR w x L R C) (hb : Below w.heap.size w w') : TabR w' x L R C := fun i hi => by
  have kc : ∀ {b o : Nat} {x : Value}, b < w.heap.size → w.cell? ⟨b, o, none⟩ = some x → w'.cell? ⟨b, o, none⟩ = some x := fun {b o x} hl hc => (hb.cell (p := ⟨b, o, none⟩) hl).trans hc
  obtain ⟨B, mi, e1, l1, c1, l2, c2⟩ := h i hi
  exact ⟨B, mi, e1, Nat.lt_of_lt_of_le l1 hb.size, kc l1 c1, Nat.lt_of_lt_of_le l2 hb.size, fun j hj => kc l2 (c2 j hj)⟩
structure LQ (w0 : World) (pu : Nat) (cu : Array Value) (R : Nat) (C : Nat → Nat → Int) (m : Nat → Nat) (k : Nat) (v : Value) (wr : World) : Prop where
  ov : OV w0 38 v (rowsV R m k) wr
  hu : wr.heap[pu]? = some (.cells cu 25 (0, 0))
  hm : ∀ i, i < k → w0.heap.size ≤ m i ∧ wr.heap[m i]? = some (.cells (cA R (C i)) 3 (0, 0))
section
variable {w0 wr w2 : World} {pu R k g : Nat} {cu : Array Value} {C : Nat → Nat → Int} {m : Nat → Nat} {v v' : Value}
theorem LQ.step (h : LQ w0 pu cu R C m k v wr) (hb : Below wr.heap.size wr w2) : LQ w0 pu cu R C m k v w2 :=
  ⟨h.ov.step hb, blk_keep h.hu hb, fun i hi => ⟨(h.hm i hi).1, blk_keep (h.hm i hi).2 hb⟩⟩
theorem LQ.push (h : LQ w0 pu cu R C m k v wr) (hg : wr.heap[g]? = some (.cells (cA R (C k)) 3 (0, 0))) (hlg : w0.heap.size ≤ g) (hown : w2.ownsRow w0.heap.size 38 1 v' (k + 1) (rowsV R m k ++ [.slice (some ⟨g, 0, none⟩) R R])) (hgr : wr.grownBy w2 v.ownBlock) :
    LQ w0 pu cu R C (fset m k g) (k + 1) v' w2 := by
  have kp : ∀ {p : Nat} {cs : Array Value} {T : TypeId}, wr.heap[p]? = some (.cells cs T (0, 0)) → T ≠ 38 → w2.heap[p]? = some (.cells cs T (0, 0)) := fun hp hT => (hgr.block _ (block_lt hp) (own_type h.ov hp hT)).trans hp
  refine ⟨?_, kp h.hu (by decide), fun i hi => ?_⟩
  · rw [rowsV_next]
    exact h.ov.push (by rw [rowsV_len]; exact hown) hgr
  · unfold fset
    by_cases e : i = k
    · subst e
      rw [if_pos rfl]
      exact ⟨hlg, kp hg (by decide)⟩
    · rw [if_neg e]
      exact ⟨(h.hm i (by omega)).1, kp (h.hm i (by omega)).2 (by decide)⟩
theorem LQ.tab (h : LQ w0 pu cu R C m k v wr) : ∃ x cap, v = .slice x k cap ∧ TabR wr x k R C := by
  obtain ⟨x, cap, hv, hx⟩ := h.ov.form
  rw [rowsV_len] at hv
  refine ⟨x, cap, hv, fun i hi => ?_⟩
  rcases hx with hx | ⟨g, ha, hgl, hc⟩
  · have := rowsV_len R m k
    rw [hx] at this
    simp at this
    omega
  · have hc1 := hc i (by rw [rowsV_len]; exact hi)
    have e : (rowsV R m k)[i]'(by rw [rowsV_len]; exact hi) = .slice (some ⟨m i, 0, none⟩) R R := by simp [rowsV]
    rw [e] at hc1
    obtain ⟨-, hmi⟩ := h.hm i hi
    exact ⟨g, m i, ha, hgl, hc1, block_lt hmi, fun j hj => by rw [blkc hmi, cA_get hj]⟩
end

set_option maxRecDepth 100000 in
set_option maxHeartbeats 6400000 in
theorem rTable_yes (a a2 : Option Addr) (cap cap2 : Nat) (ls rs : List Gl) (x0 x1 x2 x3 y0 y1 y2 y3 : Int) (h1 : sidB ls = true) (h2 : sidB rs = true) (h3 : ruB ((x0, x1, x2, x3), (y0, y1, y2, y3)) = true) (w : World) (hl : RecS w a ls) (hr : RecS w a2 rs) :
    Calls Try.prog 51 #[.slice a ls.length cap, .slice a2 rs.length cap2, .agg #[.int .i64 x0, .int .i64 x1, .int .i64 x2, .int .i64 x3, .int .i64 y0, .int .i64 y1, .int .i64 y2, .int .i64 y3]] w fun e w' => ∃ x c, e = .returned (.slice x ls.length c) ∧ TabR w' x ls.length rs.length (cosT ls rs ((x0, x1, x2, x3), (y0, y1, y2, y3))) ∧ Below w.heap.size w w' := by
  obtain ⟨n1, o1⟩ : ls.length ≤ 32 ∧ allB ls = true := by unfold sidB at h1; simpa using h1
  obtain ⟨n2, o2⟩ : rs.length ≤ 32 ∧ allB rs = true := by unfold sidB at h2; simpa using h2
  have HL := Lib.hid hl
  have HR := Lib.hid hr
  have HCO : Hid (∀ i j (hi : i < ls.length) (hj : j < rs.length) w', Calls Try.prog 42 #[.agg #[.int .i64 ls[i].1, .int .i64 ls[i].2.1, .int .i64 ls[i].2.2.1, .int .i64 ls[i].2.2.2], .agg #[.int .i64 rs[j].1, .int .i64 rs[j].2.1, .int .i64 rs[j].2.2.1, .int .i64 rs[j].2.2.2], .agg #[.int .i64 x0, .int .i64 x1, .int .i64 x2, .int .i64 x3, .int .i64 y0, .int .i64 y1, .int .i64 y2, .int .i64 y3]] w' fun e w'' => e = .returned (.int .i64 (cosT ls rs ((x0, x1, x2, x3), (y0, y1, y2, y3)) i j)) ∧ Below w'.heap.size w' w'') := Lib.hid (fun i j hi hj w' => by
    have e : cosT ls rs ((x0, x1, x2, x3), (y0, y1, y2, y3)) i j = costB ls[i] rs[j] ((x0, x1, x2, x3), (y0, y1, y2, y3)) := by unfold cosT; simp [List.getD_eq_getElem?_getD, hi, hj]
    rw [e]
    exact rPrice_any ls[i].1 ls[i].2.1 ls[i].2.2.1 ls[i].2.2.2 rs[j].1 rs[j].2.1 rs[j].2.2.1 rs[j].2.2.2 x0 x1 x2 x3 y0 y1 y2 y3 (allB_iff.1 o1 i hi) (allB_iff.1 o2 j hj) h3 w')
  obtain ⟨CF, hCF⟩ : ∃ z, z = cosT ls rs ((x0, x1, x2, x3), (y0, y1, y2, y3)) := ⟨_, rfl⟩
  rw [← hCF] at HCO ⊢
  clear hCF h1 h2 h3 hl hr o1 o2
  obtain ⟨i0, hi, hz0, hz1, hz2⟩ := info_parts pa_infoRow
  have HI0 := Lib.hid (And.intro hi (And.intro hz0 (And.intro hz1 hz2)))
  clear hi hz0 hz1 hz2
  have HMI := Lib.hid (fun w' => pa_makeInt rs.length (by omega) w')
  have HT : Hid (LQ w w.heap.size #[.int .i64 x0, .int .i64 x1, .int .i64 x2, .int .i64 x3, .int .i64 y0, .int .i64 y1, .int .i64 y2, .int .i64 y3] rs.length CF (fun _ => 0) 0 (.slice none 0 0) (w.alloc (.cells #[.int .i64 x0, .int .i64 x1, .int .i64 x2, .int .i64 x3, .int .i64 y0, .int .i64 y1, .int .i64 y2, .int .i64 y3] 25))) := Lib.hid ⟨⟨(Below.refl _ _).alloc (Nat.le_refl _) _, by simp [rowsV], .inl ⟨rfl, rfl⟩⟩, heap_alloc_new _ _, fun i hi => by omega⟩
  go_enter Try.func51, Try.ntmps51
  go_wp2_with fail
  go_loopg [7, 15] ls.length (fun gk v i wr => ∃ (k : Nat), k + gk = ls.length ∧ i = .int .i64 k ∧ ∃ (m : Nat → Nat), Hid (LQ w w.heap.size #[.int .i64 x0, .int .i64 x1, .int .i64 x2, .int .i64 x3, .int .i64 y0, .int .i64 y1, .int .i64 y2, .int .i64 y3] rs.length CF m k v wr))
  case atStart => exact ⟨0, by omega, rfl, _, HT⟩
  case round =>
    obtain ⟨k, hk, rfl, m, HI⟩ := hrel
    by_cases hlt : k < ls.length
    · obtain ⟨gk', rfl⟩ : ∃ m, gk = m + 1 := ⟨gk - 1, by omega⟩
      have hlt' : (k : Int) < ls.length := by omega
      have hk0 : (0 : Int) ≤ k := by omega
      obtain ⟨b, off, rfl, hb, c0, c1, c2, c3⟩ := HL.out.at_ hlt
      have HB := Lib.hid HI.out.ov.b
      have d0 := (HB.out.cell (p := ⟨b, off + k * 4, none⟩) hb).trans c0
      have d1 := (HB.out.cell (p := ⟨b, off + k * 4 + 1, none⟩) hb).trans c1
      have d2 := (HB.out.cell (p := ⟨b, off + k * 4 + 2, none⟩) hb).trans c2
      have d3 := (HB.out.cell (p := ⟨b, off + k * 4 + 3, none⟩) hb).trans c3
      have l1 := Nat.lt_of_lt_of_le hb HB.out.size
      have HCK := Lib.hid (fun j hj w' => HCO.out k j hlt hj w')
      obtain ⟨a0, ha0⟩ : ∃ z, z = ls[k].1 := ⟨_, rfl⟩
      obtain ⟨a1, ha1⟩ : ∃ z, z = ls[k].2.1 := ⟨_, rfl⟩
      obtain ⟨a2', ha2⟩ : ∃ z, z = ls[k].2.2.1 := ⟨_, rfl⟩
      obtain ⟨a3, ha3⟩ : ∃ z, z = ls[k].2.2.2 := ⟨_, rfl⟩
      rw [← ha0] at d0 HCK
      rw [← ha1] at d1 HCK
      rw [← ha2] at d2 HCK
      rw [← ha3] at d3 HCK
      clear ha0 ha1 ha2 ha3 c0 c1 c2 c3
      go_upto_region 5 with fail
      obtain ⟨pa, hpa⟩ : ∃ z, z = wr.heap.size := ⟨_, rfl⟩
      obtain ⟨wy, hwy⟩ : ∃ z, z = wr.alloc (.cells #[.int .i64 a0, .int .i64 a1, .int .i64 a2', .int .i64 a3] 23) := ⟨_, rfl⟩
      have HIY : Hid (LQ w w.heap.size #[.int .i64 x0, .int .i64 x1, .int .i64 x2, .int .i64 x3, .int .i64 y0, .int .i64 y1, .int .i64 y2, .int .i64 y3] rs.length CF m k u7 wy) := Lib.hid (by rw [hwy]; exact HI.out.step ((Below.refl _ _).alloc (Nat.le_refl _) _))
      have HPA : Hid (wy.heap[pa]? = some (.cells #[.int .i64 a0, .int .i64 a1, .int .i64 a2', .int .i64 a3] 23 (0, 0))) := Lib.hid (by rw [hwy, hpa]; exact heap_alloc_new _ _)
      rw [← hpa, ← hwy]
      clear hpa hwy d0 d1 d2 d3 l1 HI HB
      have hmw := HMI.out wy
      have HR0 : Hid (CT wy wy.heap.size rs.length 3 (fun j => if j < 0 then CF k j else 0) (wy.alloc (.cells (cA rs.length fun _ => 0) 3))) := Lib.hid ⟨(Below.refl _ _).alloc (Nat.le_refl _) _, Nat.le_refl _, by
        rw [heap_alloc_new]
        congr 2⟩
      go_wp2_with fail
      clear hmw
      go_loopg [24] rs.length (fun gj i wr => ∃ y : Nat, y + gj = rs.length ∧ i = .int .i64 y ∧ Hid (CT wy wy.heap.size rs.length 3 (fun j => if j < y then CF k j else 0) wr))
      case atStart => exact ⟨0, by omega, rfl, HR0⟩
      case round =>
        obtain ⟨y, hy, rfl, HI2⟩ := hrel
        by_cases hly : y < rs.length
        · obtain ⟨gj', rfl⟩ : ∃ m, gk = m + 1 := ⟨gk - 1, by omega⟩
          have hly' : (y : Int) < rs.length := by omega
          have hy0 : (0 : Int) ≤ y := by omega
          obtain ⟨b2, off2, rfl, hb2, c0, c1, c2, c3⟩ := HR.out.at_ hly
          have HB2 := Lib.hid (HIY.out.ov.b.trans (HI2.out.b.mono HIY.out.ov.b.size))
          have d0 := (HB2.out.cell (p := ⟨b2, off2 + y * 4, none⟩) hb2).trans c0
          have d1 := (HB2.out.cell (p := ⟨b2, off2 + y * 4 + 1, none⟩) hb2).trans c1
          have d2 := (HB2.out.cell (p := ⟨b2, off2 + y * 4 + 2, none⟩) hb2).trans c2
          have d3 := (HB2.out.cell (p := ⟨b2, off2 + y * 4 + 3, none⟩) hb2).trans c3
          have l1 := Nat.lt_of_lt_of_le hb2 HB2.out.size
          have HCY := Lib.hid (fun w' => HCK.out y hly w')
          obtain ⟨p0, hp0⟩ : ∃ z, z = rs[y].1 := ⟨_, rfl⟩
          obtain ⟨p1, hp1⟩ : ∃ z, z = rs[y].2.1 := ⟨_, rfl⟩
          obtain ⟨p2, hp2⟩ : ∃ z, z = rs[y].2.2.1 := ⟨_, rfl⟩
          obtain ⟨p3, hp3⟩ : ∃ z, z = rs[y].2.2.2 := ⟨_, rfl⟩
          rw [← hp0] at d0 HCY
          rw [← hp1] at d1 HCY
          rw [← hp2] at d2 HCY
          rw [← hp3] at d3 HCY
          clear hp0 hp1 hp2 hp3 c0 c1 c2 c3
          obtain ⟨c, hc⟩ : ∃ z, z = CF k y := ⟨_, rfl⟩
          rw [← hc] at HCY
          have HC := Lib.hid hc
          clear hc
          go_upto_region 9 with fail
          obtain ⟨pb, hpb⟩ : ∃ z, z = wr.heap.size := ⟨_, rfl⟩
          obtain ⟨wz, hwz⟩ : ∃ z, z = wr.alloc (.cells #[.int .i64 p0, .int .i64 p1, .int .i64 p2, .int .i64 p3] 23) := ⟨_, rfl⟩
          have HI3 : Hid (CT wy wy.heap.size rs.length 3 (fun j => if j < y then CF k j else 0) wz) := Lib.hid (by rw [hwz]; exact HI2.out.step ((Below.refl _ _).alloc (Nat.le_refl _) _))
          have HPB : Hid (wz.heap[pb]? = some (.cells #[.int .i64 p0, .int .i64 p1, .int .i64 p2, .int .i64 p3] 23 (0, 0))) := Lib.hid (by rw [hwz, hpb]; exact heap_alloc_new _ _)
          rw [← hpb, ← hwz]
          clear hpb hwz d0 d1 d2 d3 l1 HI2 HB2
          obtain ⟨e0, e1, e2, e3, -, -, -, -, el⟩ := blk_cells4 HPB.out
          obtain ⟨f0, f1, f2, f3, -, -, -, -, fl⟩ := blk_cells4 (blk_keep HPA.out HI3.out.b)
          have hu := blk_keep HIY.out.hu HI3.out.b
          have k0 := blkc hu 0
          have k1 := blkc hu 1
          have k2 := blkc hu 2
          have k3 := blkc hu 3
          have k4 := blkc hu 4
          have k5 := blkc hu 5
          have k6 := blkc hu 6
          have k7 := blkc hu 7
          have ul := block_lt hu
          clear hu
          simp at k0 k1 k2 k3 k4 k5 k6 k7
          go_wp2_with fail
          refine (HCY.out _).mono ?_
          rintro e w6 ⟨rfl, hb6⟩
          have HI4 := Lib.hid (HI3.out.step hb6)
          clear e0 e1 e2 e3 el f0 f1 f2 f3 fl ul hb6 k0 k1 k2 k3 k4 k5 k6 k7 HI3 HPB
          have g0 := HI4.out.cell hly
          have g1 := HI4.out.frozen y
          have g2 := HI4.out.lt
          have HN : Hid (CT wy wy.heap.size rs.length 3 (fun j => if j < y + 1 then CF k j else 0) (w6.setCell ⟨wy.heap.size, y, none⟩ (.int .i64 c))) := Lib.hid ((HI4.out.set y c).congr (by
            funext j
            by_cases e : j = y
            · subst e; simp [HC.out]
            · rw [if_neg e]
              by_cases h2 : j < y
              · rw [if_pos h2, if_pos (by omega)]
              · rw [if_neg h2, if_neg (by omega)]))
          go_wp2
          go_roundg gj'
          case measure => exact Nat.lt_succ_self _
          case rel => exact ⟨y + 1, by omega, by go_num, HN⟩
        · obtain rfl : y = rs.length := by omega
          have HIE := Lib.hid (HIY.out.step HI2.out.b)
          have HGE : Hid (wr.heap[wy.heap.size]? = some (.cells (cA rs.length (CF k)) 3 (0, 0))) := Lib.hid (by
            have h := HI2.out.arr
            rw [h]
            congr 2
            unfold cA
            congr 1
            funext i
            exact congrArg (Value.int .i64) (if_pos i.isLt))
          have HLG := Lib.hid HIY.out.ov.b.size
          have HNE : Hid (∀ i, i < k → m i ≠ wy.heap.size) := Lib.hid (fun i hi => Nat.ne_of_lt (block_lt (HIY.out.hm i hi).2))
          have hown : wr.ownsRow w.heap.size 38 1 u7 k (rowsV rs.length m k) := by
            have := HIE.out.ov.own
            rw [rowsV_len] at this
            exact this
          have hbs := HIE.out.ov.b.size
          have HPU : Hid (∀ v' w2, w2.ownsRow w.heap.size 38 1 v' (k + 1) (rowsV rs.length m k ++ [.slice (some ⟨wy.heap.size, 0, none⟩) rs.length rs.length]) → (wr.alloc (.cells #[.slice (some ⟨wy.heap.size, 0, none⟩) rs.length rs.length] 38)).grownBy w2 u7.ownBlock → LQ w w.heap.size #[.int .i64 x0, .int .i64 x1, .int .i64 x2, .int .i64 x3, .int .i64 y0, .int .i64 y1, .int .i64 y2, .int .i64 y3] rs.length CF (fset m k wy.heap.size) (k + 1) v' w2) := Lib.hid (fun v' w2 ho hg =>
            (HIE.out.step ((Below.refl _ _).alloc (Nat.le_refl _) _)).push (blk_keep HGE.out ((Below.refl _ _).alloc (Nat.le_refl _) _)) HLG.out ho hg)
          clear HI2 HR0
          go_wp2_with (at_builtin; refine wpList_append_own _ rfl _ _ 76 rfl w.heap.size 38 i0 (.slice none 0 0) 1 24 Try.underlying76 HI0.out.1 HI0.out.2.1 HI0.out.2.2.1 HI0.out.2.2.2 rfl (by decide) u7 k _ rfl (hown.alloc _) ⟨wr.heap.size, 0, none⟩ 1 1 [.slice (some ⟨wy.heap.size, 0, none⟩) rs.length rs.length] rfl rfl (cell_one_new _ _ _) (by intro u hu; simp at hu; rw [hu]; rfl) (by unfold maxLen; omega) (by omega) (by simp; omega) ?_)
          intro v' w6 hown6 hgrow6 hnil6
          obtain ⟨g6, cap6, rfl⟩ : ∃ g c, v' = .slice (some ⟨g, 0, none⟩) (k + 1) c := by
            rcases hown6.2 with ⟨-, h0⟩ | ⟨g, c, -, hv, -⟩
            · omega
            · exact ⟨g, c, hv⟩
          have HP6 := Lib.hid (HPU.out _ w6 hown6 hgrow6)
          clear hown6 hgrow6 hown hnil6
          go_wp2
          go_roundg gk'
          case measure => exact Nat.lt_succ_self _
          case rel => exact ⟨k + 1, by omega, by go_num, _, HP6⟩
    · obtain rfl : k = ls.length := by omega
      obtain ⟨x, c, rfl, ht⟩ := HI.out.tab
      have HE := Lib.hid (And.intro ht HI.out.ov.b)
      go_wp2
      go_ret
      exact ⟨x, c, rfl, HE.out.1, HE.out.2⟩

end Go.Proofs.Ytchhadkmemckbaa

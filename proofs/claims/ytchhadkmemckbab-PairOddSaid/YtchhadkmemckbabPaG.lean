/- Pairs: the table of costs that lay makes. -/
import Derived.Test.YtchhadkmemckbabPaF
namespace Go.Proofs.Ytchhadkmemckbab
open Go.RowKit
set_option linter.unusedSimpArgs false
set_option linter.unusedVariables false

theorem pa_infoRow : (Try.prog.info? 36).map (fun i => (i.zero, i.size, i.bytes)) = some (some (.slice none 0 0), 1, 24) := by kernel_rfl
theorem pa_infoInt : (Try.prog.info? 3).map (fun i => (i.zero, i.size, i.bytes)) = some (some (.int .i64 0), 1, 8) := by kernel_rfl
theorem pa_infoBool : (Try.prog.info? 4).map (fun i => (i.zero, i.size, i.bytes)) = some (some (.bool false), 1, 1) := by kernel_rfl
theorem pa_makeInt (n : Nat) (hn : (n : Int) ≤ 1000000) (w : World) :
    (Instr.makeSlice 36 (.int .i64 n) (.int .i64 n)).run Try.prog w = .ok (.slice (some ⟨w.heap.size, 0, none⟩) n n) (w.alloc (.cells (cA n fun _ => 0) 3)) := by
  obtain ⟨i0, hi, hz0, hz1, hz2⟩ := info_parts pa_infoInt
  have h := run_make (P := Try.prog) w 36 3 i0 (.int .i64 0) Try.underlying36 hi hz0 .i64 .i64 n n (by omega) (by omega) (by rw [hz2]; omega) (by omega)
  rw [h]
  simp only [Int.toNat_natCast, hz1, Nat.mul_one, cV_made (.int .i64 0) rfl]
  rfl
theorem pa_makeBool (n : Nat) (hn : (n : Int) ≤ 1000000) (w : World) :
    (Instr.makeSlice 70 (.int .i64 n) (.int .i64 n)).run Try.prog w = .ok (.slice (some ⟨w.heap.size, 0, none⟩) n n) (w.alloc (.cells (cV n fun _ => .bool false) 4)) := by
  obtain ⟨i0, hi, hz0, hz1, hz2⟩ := info_parts pa_infoBool
  have h := run_make (P := Try.prog) w 70 4 i0 (.bool false) Try.underlying70 hi hz0 .i64 .i64 n n (by omega) (by omega) (by rw [hz2]; omega) (by omega)
  rw [h]
  simp only [Int.toNat_natCast, hz1, Nat.mul_one, cV_made (.bool false) rfl]

/-- The rows' headers. -/
def rowsV (R : Nat) (m : Nat → Nat) (k : Nat) : List Value := (List.range k).map fun i => .slice (some ⟨m i, 0, none⟩) R R
theorem rowsV_len (R : Nat) (m : Nat → Nat) (k : Nat) : (rowsV R m k).length = k := by simp [rowsV]
theorem rowsV_next (R : Nat) (m : Nat → Nat) (k g : Nat) : rowsV R (fset m k g) (k + 1) = rowsV R m k ++ [.slice (some ⟨g, 0, none⟩) R R] := by
  unfold rowsV
  rw [List.range_succ, List.map_append]
  congr 1
  · refine List.map_congr_left fun i hi => ?_
    unfold fset
    rw [if_neg (by have := List.mem_range.1 hi; omega)]
  · simp [fset]
/-- While lay works: the rule's box pu, the table's box pt (its rows f), k rows at m. -/
structure LT (w0 : World) (pu pt : Nat) (cu : Array Value) (L R : Nat) (C : Nat → Nat → Int) (m : Nat → Nat) (k : Nat) (v f : Value) (wr : World) : Prop where
  ov : OV w0 36 v (rowsV R m k) wr
  lu : w0.heap.size ≤ pu
  hu : wr.heap[pu]? = some (.cells cu 34 (0, 0))
  lt : w0.heap.size ≤ pt
  ht : wr.heap[pt]? = some (.cells #[.int .i64 L, .int .i64 R, f] 65 (0, 0))
  hm : ∀ i, i < k → w0.heap.size ≤ m i ∧ wr.heap[m i]? = some (.cells (cA R (C i)) 3 (0, 0))
  hd : ∀ i j, i < j → j < k → m i ≠ m j
section
variable {w0 wr w2 : World} {pu pt L R k g : Nat} {cu : Array Value} {C : Nat → Nat → Int} {m : Nat → Nat} {v v' f : Value}
theorem blk_keep {w w' : World} {p : Nat} {o : Obj} (h : w.heap[p]? = some o) (hb : Below w.heap.size w w') : w'.heap[p]? = some o := (hb.block _ (block_lt h)).trans h
theorem LT.step (h : LT w0 pu pt cu L R C m k v f wr) (hb : Below wr.heap.size wr w2) : LT w0 pu pt cu L R C m k v f w2 :=
  ⟨h.ov.step hb, h.lu, blk_keep h.hu hb, h.lt, blk_keep h.ht hb, fun i hi => ⟨(h.hm i hi).1, blk_keep (h.hm i hi).2 hb⟩, h.hd⟩
/-- The rows' own block has another type. -/
theorem own_type {w0 wr : World} {e T : TypeId} {v : Value} {xs : List Value} {p : Nat} {cs : Array Value} (h : OV w0 e v xs wr) (hp : wr.heap[p]? = some (.cells cs T (0, 0))) (hT : T ≠ e) : some p ≠ v.ownBlock := by
  rcases h.own.2 with ⟨hv, -⟩ | ⟨g, cap, cur, hv, -, hh, -⟩
  · rw [hv]; simp [Value.ownBlock]
  · rw [hv]
    simp only [Value.ownBlock, ne_eq, Option.some.injEq]
    rintro rfl
    rw [hh] at hp
    simp only [Option.some.injEq, Obj.cells.injEq] at hp
    exact hT hp.2.1.symm
theorem LT.push (h : LT w0 pu pt cu L R C m k v f wr) (hg : wr.heap[g]? = some (.cells (cA R (C k)) 3 (0, 0))) (hlg : w0.heap.size ≤ g) (hne : ∀ i, i < k → m i ≠ g) (hown : w2.ownsRow w0.heap.size 36 1 v' (k + 1) (rowsV R m k ++ [.slice (some ⟨g, 0, none⟩) R R])) (hgr : wr.grownBy w2 v.ownBlock) :
    LT w0 pu pt cu L R C (fset m k g) (k + 1) v' f w2 := by
  have kp : ∀ {p : Nat} {cs : Array Value} {T : TypeId}, wr.heap[p]? = some (.cells cs T (0, 0)) → T ≠ 36 → w2.heap[p]? = some (.cells cs T (0, 0)) := fun hp hT => (hgr.block _ (block_lt hp) (own_type h.ov hp hT)).trans hp
  refine ⟨?_, h.lu, kp h.hu (by decide), h.lt, kp h.ht (by decide), fun i hi => ?_, fun i j hij hj => ?_⟩
  · rw [rowsV_next]
    exact h.ov.push (by rw [rowsV_len]; exact hown) hgr
  · unfold fset
    by_cases e : i = k
    · subst e
      rw [if_pos rfl]
      exact ⟨hlg, kp hg (by decide)⟩
    · rw [if_neg e]
      exact ⟨(h.hm i (by omega)).1, kp (h.hm i (by omega)).2 (by decide)⟩
  · unfold fset
    rw [if_neg (by omega)]
    by_cases e : j = k
    · rw [if_pos e]; exact hne i (by omega)
    · rw [if_neg e]; exact h.hd i j hij (by omega)
theorem LT.sett (h : LT w0 pu pt cu L R C m k v f wr) : LT w0 pu pt cu L R C m k v v (wr.setCell ⟨pt, 2, none⟩ v) := by
  have ko : ∀ {p : Nat} {cs : Array Value} {T : TypeId}, wr.heap[p]? = some (.cells cs T (0, 0)) → T ≠ 65 → (wr.setCell ⟨pt, 2, none⟩ v).heap[p]? = some (.cells cs T (0, 0)) := fun {p cs T} hp hT => by
    rw [Below.heap_setCell _ _ _ _ (by
      rintro rfl
      have := h.ht
      rw [hp] at this
      simp only [Option.some.injEq, Obj.cells.injEq] at this
      exact hT this.2.1)]
    exact hp
  refine ⟨⟨h.ov.b.setCell h.lt _, h.ov.own.1, ?_⟩, h.lu, ko h.hu (by decide), h.lt, ?_, fun i hi => ⟨(h.hm i hi).1, ko (h.hm i hi).2 (by decide)⟩, h.hd⟩
  · rcases h.ov.own.2 with hn | ⟨g, cap, cur, hv, hb, hg, rest⟩
    · exact .inl hn
    · exact .inr ⟨g, cap, cur, hv, hb, ko hg (by decide), rest⟩
  · simp only [World.setCell, Array.getElem?_modify, h.ht]
    simp
theorem blk3 {w : World} {p : Nat} {a b c : Value} {T : TypeId} (h : w.heap[p]? = some (.cells #[a, b, c] T (0, 0))) : w.cell? ⟨p, 0, none⟩ = some a ∧ w.cell? ⟨p, 1, none⟩ = some b ∧ w.cell? ⟨p, 2, none⟩ = some c ∧ w.frozen? ⟨p, 2, none⟩ = false ∧ p < w.heap.size := by
  have hl := block_lt h
  refine ⟨?_, ?_, ?_, ?_, hl⟩ <;> first | (simp only [World.cell?]; rw [h]; rfl) | (simp only [World.frozen?]; rw [h]; simp)
theorem blkc {w : World} {p : Nat} {cs : Array Value} {T : TypeId} (h : w.heap[p]? = some (.cells cs T (0, 0))) (i : Nat) : w.cell? ⟨p, i, none⟩ = cs[i]? := by
  simp only [World.cell?]; rw [h]; rfl
end

/-- A table in memory. -/
structure TabC (w : World) (p L R : Nat) (C : Nat → Nat → Int) : Prop where
  lt : p < w.heap.size
  c0 : w.cell? ⟨p, 0, none⟩ = some (.int .i64 L)
  c1 : w.cell? ⟨p, 1, none⟩ = some (.int .i64 R)
  c2 : ∃ x cap, w.cell? ⟨p, 2, none⟩ = some (.slice x L cap) ∧ ∀ i, i < L → ∃ B mi, x = some ⟨B, 0, none⟩ ∧ B < w.heap.size ∧ w.cell? ⟨B, i, none⟩ = some (.slice (some ⟨mi, 0, none⟩) R R) ∧ mi < w.heap.size ∧ ∀ j, j < R → w.cell? ⟨mi, j, none⟩ = some (.int .i64 (C i j))
theorem TabC.below {w w' : World} {p L R : Nat} {C : Nat → Nat → Int} (h : TabC w p L R C) (hb : Below w.heap.size w w') : TabC w' p L R C := by
  have kc : ∀ {b o : Nat} {x : Value}, b < w.heap.size → w.cell? ⟨b, o, none⟩ = some x → w'.cell? ⟨b, o, none⟩ = some x := fun {b o x} hl hc => (hb.cell (p := ⟨b, o, none⟩) hl).trans hc
  obtain ⟨x, cap, e, hr⟩ := h.c2
  refine ⟨Nat.lt_of_lt_of_le h.lt hb.size, kc h.lt h.c0, kc h.lt h.c1, x, cap, kc h.lt e, fun i hi => ?_⟩
  obtain ⟨B, mi, e1, l1, c1, l2, c2⟩ := hr i hi
  exact ⟨B, mi, e1, Nat.lt_of_lt_of_le l1 hb.size, kc l1 c1, Nat.lt_of_lt_of_le l2 hb.size, fun j hj => kc l2 (c2 j hj)⟩
theorem LT.tab {w0 wr : World} {pu pt L R : Nat} {cu : Array Value} {C : Nat → Nat → Int} {m : Nat → Nat} {v : Value} (h : LT w0 pu pt cu L R C m L v v wr) : TabC wr pt L R C := by
  obtain ⟨c0, c1, c2, -, hl⟩ := blk3 h.ht
  obtain ⟨x, cap, hv, hx⟩ := h.ov.form
  rw [rowsV_len] at hv
  refine ⟨hl, c0, c1, x, cap, by rw [c2, hv], fun i hi => ?_⟩
  rcases hx with hx | ⟨g, ha, hgl, hc⟩
  · have := rowsV_len R m L
    rw [hx] at this
    simp at this
    omega
  · have hc1 := hc i (by rw [rowsV_len]; exact hi)
    have e : (rowsV R m L)[i]'(by rw [rowsV_len]; exact hi) = .slice (some ⟨m i, 0, none⟩) R R := by simp [rowsV]
    rw [e] at hc1
    obtain ⟨-, hmi⟩ := h.hm i hi
    exact ⟨g, m i, ha, hgl, hc1, block_lt hmi, fun j hj => by rw [blkc hmi, cA_get hj]⟩

/-- The costs of two sides. -/
def cosT (ls rs : List Gl) (u : Ru) (i j : Nat) : Int := costB (ls.getD i (0, 0, 0, 0)) (rs.getD j (0, 0, 0, 0)) u

set_option maxRecDepth 100000 in
set_option maxHeartbeats 6400000 in
theorem lay_full (a a2 : Option Addr) (cap cap2 : Nat) (ls rs : List Gl) (x0 x1 x2 x3 y0 y1 y2 y3 : Int) (h1 : sidB ls = true) (h2 : sidB rs = true) (h3 : ruB ((x0, x1, x2, x3), (y0, y1, y2, y3)) = true) (w : World) (hl : RecS w a ls) (hr : RecS w a2 rs) :
    Calls Try.prog 27 #[.slice a ls.length cap, .slice a2 rs.length cap2, .agg #[.int .i64 x0, .int .i64 x1, .int .i64 x2, .int .i64 x3, .int .i64 y0, .int .i64 y1, .int .i64 y2, .int .i64 y3]] w fun e w' => ∃ p m v, e = .returned (.tuple #[.pointer (some ⟨p, 0, none⟩), .int .i64 0]) ∧ LT w w.heap.size p #[.int .i64 x0, .int .i64 x1, .int .i64 x2, .int .i64 x3, .int .i64 y0, .int .i64 y1, .int .i64 y2, .int .i64 y3] ls.length rs.length (cosT ls rs ((x0, x1, x2, x3), (y0, y1, y2, y3))) m ls.length v v w' := by
  obtain ⟨n1, o1⟩ : ls.length ≤ 32 ∧ allB ls = true := by unfold sidB at h1; simpa using h1
  obtain ⟨n2, o2⟩ : rs.length ≤ 32 ∧ allB rs = true := by unfold sidB at h2; simpa using h2
  have HSL := Lib.hid (fun w' hb => pSide_any a cap ls (by omega) w' (hl.below (w' := w') hb))
  have HSR := Lib.hid (fun w' hb => pSide_any a2 cap2 rs (by omega) w' (hr.below (w' := w') hb))
  have HRU := Lib.hid (fun w' => isRule_any x0 x1 x2 x3 y0 y1 y2 y3 w')
  rw [h1] at HSL
  rw [h2] at HSR
  rw [h3] at HRU
  have HL := Lib.hid hl
  have HR := Lib.hid hr
  have HCO : Hid (∀ i j (hi : i < ls.length) (hj : j < rs.length) w', Calls Try.prog 54 #[.agg #[.int .i64 ls[i].1, .int .i64 ls[i].2.1, .int .i64 ls[i].2.2.1, .int .i64 ls[i].2.2.2], .agg #[.int .i64 rs[j].1, .int .i64 rs[j].2.1, .int .i64 rs[j].2.2.1, .int .i64 rs[j].2.2.2], .agg #[.int .i64 x0, .int .i64 x1, .int .i64 x2, .int .i64 x3, .int .i64 y0, .int .i64 y1, .int .i64 y2, .int .i64 y3]] w' fun e w'' => e = .returned (.int .i64 (cosT ls rs ((x0, x1, x2, x3), (y0, y1, y2, y3)) i j)) ∧ Below w'.heap.size w' w'') := Lib.hid (fun i j hi hj w' => by
    have e : cosT ls rs ((x0, x1, x2, x3), (y0, y1, y2, y3)) i j = costB ls[i] rs[j] ((x0, x1, x2, x3), (y0, y1, y2, y3)) := by unfold cosT; simp [List.getD_eq_getElem?_getD, hi, hj]
    rw [e]
    exact cost_any ls[i].1 ls[i].2.1 ls[i].2.2.1 ls[i].2.2.2 rs[j].1 rs[j].2.1 rs[j].2.2.1 rs[j].2.2.2 x0 x1 x2 x3 y0 y1 y2 y3 (allB_iff.1 o1 i hi) (allB_iff.1 o2 j hj) h3 w')
  obtain ⟨CF, hCF⟩ : ∃ z, z = cosT ls rs ((x0, x1, x2, x3), (y0, y1, y2, y3)) := ⟨_, rfl⟩
  rw [← hCF] at HCO ⊢
  clear hCF h1 h2 h3 hl hr o1 o2
  obtain ⟨i0, hi, hz0, hz1, hz2⟩ := info_parts pa_infoRow
  have HI0 := Lib.hid (And.intro hi (And.intro hz0 (And.intro hz1 hz2)))
  clear hi hz0 hz1 hz2
  have HMI := Lib.hid (fun w' => pa_makeInt rs.length (by omega) w')
  have HM := Lib.hid ((Mem.nil w).alloc_at (H := w.heap.size) rfl #[.int .i64 x0, .int .i64 x1, .int .i64 x2, .int .i64 x3, .int .i64 y0, .int .i64 y1, .int .i64 y2, .int .i64 y3] 34)
  go_enter Try.func27, Try.ntmps27
  go_wp2_with fail
  refine (HSL.out _ HM.out.b).mono ?_
  rintro e w1 ⟨rfl, hb1⟩
  have HM1 := Lib.hid (HM.out.step hb1)
  clear hb1 HM HSL
  go_wp2_with fail
  refine (HSR.out _ HM1.out.b).mono ?_
  rintro e w2 ⟨rfl, hb2⟩
  have HM2 := Lib.hid (HM1.out.step hb2)
  clear hb2 HM1 HSR
  have k0 := HM2.out.cell 0
  have k1 := HM2.out.cell 1
  have k2 := HM2.out.cell 2
  have k3 := HM2.out.cell 3
  have k4 := HM2.out.cell 4
  have k5 := HM2.out.cell 5
  have k6 := HM2.out.cell 6
  have k7 := HM2.out.cell 7
  simp at k0 k1 k2 k3 k4 k5 k6 k7
  go_wp2_with fail
  refine (HRU.out _).mono ?_
  rintro e w3 ⟨rfl, hb3⟩
  have HM3 := Lib.hid (HM2.out.step hb3)
  clear hb3 HM2 HRU k0 k1 k2 k3 k4 k5 k6 k7
  go_upto_region 4 with fail
  obtain ⟨pt, hpt⟩ : ∃ z, z = w3.heap.size := ⟨_, rfl⟩
  obtain ⟨wt, hwt⟩ : ∃ z, z = w3.alloc (.cells #[.int .i64 ls.length, .int .i64 rs.length, .slice none 0 0] 65) := ⟨_, rfl⟩
  have HT : Hid (LT w w.heap.size pt #[.int .i64 x0, .int .i64 x1, .int .i64 x2, .int .i64 x3, .int .i64 y0, .int .i64 y1, .int .i64 y2, .int .i64 y3] ls.length rs.length CF (fun _ => 0) 0 (.slice none 0 0) (.slice none 0 0) wt) := Lib.hid (by
    have hm4 := HM3.out.alloc_at hpt.symm #[.int .i64 ls.length, .int .i64 rs.length, .slice none 0 0] 65
    rw [← hwt] at hm4
    exact ⟨⟨hm4.b, by simp [rowsV], .inl ⟨rfl, rfl⟩⟩, Nat.le_refl _, (hm4.tail.h _ (List.mem_cons_self ..)).2, hm4.head_le, (hm4.h _ (List.mem_cons_self ..)).2, fun i hi => by omega, fun i j _ hj => by omega⟩)
  rw [← hpt, ← hwt]
  clear hpt hwt HM3
  go_wp2_with fail
  go_loopg [35] ls.length (fun gk i wr => ∃ (k : Nat), k + gk = ls.length ∧ i = .int .i64 k ∧ ∃ (m : Nat → Nat) (v : Value), Hid (LT w w.heap.size pt #[.int .i64 x0, .int .i64 x1, .int .i64 x2, .int .i64 x3, .int .i64 y0, .int .i64 y1, .int .i64 y2, .int .i64 y3] ls.length rs.length CF m k v v wr))
  case atStart => exact ⟨0, by omega, rfl, _, _, HT⟩
  case round =>
    obtain ⟨k, hk, rfl, m, v, HI⟩ := hrel
    by_cases hlt : k < ls.length
    · obtain ⟨gk', rfl⟩ : ∃ m, gk = m + 1 := ⟨gk - 1, by omega⟩
      have hlt' : (k : Int) < ls.length := by omega
      have hk0 : (0 : Int) ≤ k := by omega
      obtain ⟨b, off, rfl, hb, c0, c1, c2, c3⟩ := HL.out.at_ hlt
      have HB := Lib.hid HI.out.ov.b
      have d0 := (HB.out.cell (p := ⟨b, off + k * 4, none⟩) hb).trans c0
      have d1 := (HB.out.cell (p := ⟨b, off + k * 4 + 1, none⟩) hb).trans c1
      have d2 := (HB.out.cell (p := ⟨b, off + k * 4 + 2, none⟩) hb).trans c2
      have d3 := (HB.out.cell (p := ⟨b, off + k * 4 + 3, none⟩) hb).trans c3
      have l1 := Nat.lt_of_lt_of_le hb HB.out.size
      have HCK := Lib.hid (fun j hj w' => HCO.out k j hlt hj w')
      obtain ⟨a0, ha0⟩ : ∃ z, z = ls[k].1 := ⟨_, rfl⟩
      obtain ⟨a1, ha1⟩ : ∃ z, z = ls[k].2.1 := ⟨_, rfl⟩
      obtain ⟨a2', ha2⟩ : ∃ z, z = ls[k].2.2.1 := ⟨_, rfl⟩
      obtain ⟨a3, ha3⟩ : ∃ z, z = ls[k].2.2.2 := ⟨_, rfl⟩
      rw [← ha0] at d0 HCK
      rw [← ha1] at d1 HCK
      rw [← ha2] at d2 HCK
      rw [← ha3] at d3 HCK
      clear ha0 ha1 ha2 ha3 c0 c1 c2 c3
      go_upto_region 7 with fail
      obtain ⟨pa, hpa⟩ : ∃ z, z = wr.heap.size := ⟨_, rfl⟩
      obtain ⟨wy, hwy⟩ : ∃ z, z = wr.alloc (.cells #[.int .i64 a0, .int .i64 a1, .int .i64 a2', .int .i64 a3] 32) := ⟨_, rfl⟩
      have HIY : Hid (LT w w.heap.size pt #[.int .i64 x0, .int .i64 x1, .int .i64 x2, .int .i64 x3, .int .i64 y0, .int .i64 y1, .int .i64 y2, .int .i64 y3] ls.length rs.length CF m k v v wy) := Lib.hid (by rw [hwy]; exact HI.out.step ((Below.refl _ _).alloc (Nat.le_refl _) _))
      have HPA : Hid (wy.heap[pa]? = some (.cells #[.int .i64 a0, .int .i64 a1, .int .i64 a2', .int .i64 a3] 32 (0, 0))) := Lib.hid (by rw [hwy, hpa]; exact heap_alloc_new _ _)
      rw [← hpa, ← hwy]
      clear hpa hwy d0 d1 d2 d3 l1 HI HB
      have hmw := HMI.out wy
      have HR0 : Hid (CT wy wy.heap.size rs.length 3 (fun j => if j < 0 then CF k j else 0) (wy.alloc (.cells (cA rs.length fun _ => 0) 3))) := Lib.hid ⟨(Below.refl _ _).alloc (Nat.le_refl _) _, Nat.le_refl _, by
        rw [heap_alloc_new]
        congr 2⟩
      go_wp2_with fail
      clear hmw
      go_loopg [44] rs.length (fun gj i wr => ∃ y : Nat, y + gj = rs.length ∧ i = .int .i64 y ∧ Hid (CT wy wy.heap.size rs.length 3 (fun j => if j < y then CF k j else 0) wr))
      case atStart => exact ⟨0, by omega, rfl, HR0⟩
      case round =>
        obtain ⟨y, hy, rfl, HI2⟩ := hrel
        by_cases hly : y < rs.length
        · obtain ⟨gj', rfl⟩ : ∃ m, gk = m + 1 := ⟨gk - 1, by omega⟩
          have hly' : (y : Int) < rs.length := by omega
          have hy0 : (0 : Int) ≤ y := by omega
          obtain ⟨b2, off2, rfl, hb2, c0, c1, c2, c3⟩ := HR.out.at_ hly
          have HB2 := Lib.hid (HIY.out.ov.b.trans (HI2.out.b.mono HIY.out.ov.b.size))
          have d0 := (HB2.out.cell (p := ⟨b2, off2 + y * 4, none⟩) hb2).trans c0
          have d1 := (HB2.out.cell (p := ⟨b2, off2 + y * 4 + 1, none⟩) hb2).trans c1
          have d2 := (HB2.out.cell (p := ⟨b2, off2 + y * 4 + 2, none⟩) hb2).trans c2
          have d3 := (HB2.out.cell (p := ⟨b2, off2 + y * 4 + 3, none⟩) hb2).trans c3
          have l1 := Nat.lt_of_lt_of_le hb2 HB2.out.size
          have HCY := Lib.hid (fun w' => HCK.out y hly w')
          obtain ⟨p0, hp0⟩ : ∃ z, z = rs[y].1 := ⟨_, rfl⟩
          obtain ⟨p1, hp1⟩ : ∃ z, z = rs[y].2.1 := ⟨_, rfl⟩
          obtain ⟨p2, hp2⟩ : ∃ z, z = rs[y].2.2.1 := ⟨_, rfl⟩
          obtain ⟨p3, hp3⟩ : ∃ z, z = rs[y].2.2.2 := ⟨_, rfl⟩
          rw [← hp0] at d0 HCY
          rw [← hp1] at d1 HCY
          rw [← hp2] at d2 HCY
          rw [← hp3] at d3 HCY
          clear hp0 hp1 hp2 hp3 c0 c1 c2 c3
          obtain ⟨c, hc⟩ : ∃ z, z = CF k y := ⟨_, rfl⟩
          rw [← hc] at HCY
          have HC := Lib.hid hc
          clear hc
          go_upto_region 11 with fail
          obtain ⟨pb, hpb⟩ : ∃ z, z = wr.heap.size := ⟨_, rfl⟩
          obtain ⟨wz, hwz⟩ : ∃ z, z = wr.alloc (.cells #[.int .i64 p0, .int .i64 p1, .int .i64 p2, .int .i64 p3] 32) := ⟨_, rfl⟩
          have HI3 : Hid (CT wy wy.heap.size rs.length 3 (fun j => if j < y then CF k j else 0) wz) := Lib.hid (by rw [hwz]; exact HI2.out.step ((Below.refl _ _).alloc (Nat.le_refl _) _))
          have HPB : Hid (wz.heap[pb]? = some (.cells #[.int .i64 p0, .int .i64 p1, .int .i64 p2, .int .i64 p3] 32 (0, 0))) := Lib.hid (by rw [hwz, hpb]; exact heap_alloc_new _ _)
          rw [← hpb, ← hwz]
          clear hpb hwz d0 d1 d2 d3 l1 HI2 HB2
          obtain ⟨e0, e1, e2, e3, -, -, -, -, el⟩ := blk_cells4 HPB.out
          obtain ⟨f0, f1, f2, f3, -, -, -, -, fl⟩ := blk_cells4 (blk_keep HPA.out HI3.out.b)
          have hu := blk_keep HIY.out.hu HI3.out.b
          have k0 := blkc hu 0
          have k1 := blkc hu 1
          have k2 := blkc hu 2
          have k3 := blkc hu 3
          have k4 := blkc hu 4
          have k5 := blkc hu 5
          have k6 := blkc hu 6
          have k7 := blkc hu 7
          have ul := block_lt hu
          clear hu
          simp at k0 k1 k2 k3 k4 k5 k6 k7
          go_wp2_with fail
          refine (HCY.out _).mono ?_
          rintro e w6 ⟨rfl, hb6⟩
          have HI4 := Lib.hid (HI3.out.step hb6)
          clear e0 e1 e2 e3 el f0 f1 f2 f3 fl ul hb6 k0 k1 k2 k3 k4 k5 k6 k7 HI3 HPB
          have g0 := HI4.out.cell hly
          have g1 := HI4.out.frozen y
          have g2 := HI4.out.lt
          have HN : Hid (CT wy wy.heap.size rs.length 3 (fun j => if j < y + 1 then CF k j else 0) (w6.setCell ⟨wy.heap.size, y, none⟩ (.int .i64 c))) := Lib.hid ((HI4.out.set y c).congr (by
            funext j
            by_cases e : j = y
            · subst e; simp [HC.out]
            · rw [if_neg e]
              by_cases h2 : j < y
              · rw [if_pos h2, if_pos (by omega)]
              · rw [if_neg h2, if_neg (by omega)]))
          go_wp2
          go_roundg gj'
          case measure => exact Nat.lt_succ_self _
          case rel => exact ⟨y + 1, by omega, by go_num, HN⟩
        · obtain rfl : y = rs.length := by omega
          have HIE := Lib.hid (HIY.out.step HI2.out.b)
          have HGE : Hid (wr.heap[wy.heap.size]? = some (.cells (cA rs.length (CF k)) 3 (0, 0))) := Lib.hid (by
            have h := HI2.out.arr
            rw [h]
            congr 2
            unfold cA
            congr 1
            funext i
            exact congrArg (Value.int .i64) (if_pos i.isLt))
          have HLG := Lib.hid HIY.out.ov.b.size
          have HNE : Hid (∀ i, i < k → m i ≠ wy.heap.size) := Lib.hid (fun i hi => Nat.ne_of_lt (block_lt (HIY.out.hm i hi).2))
          obtain ⟨-, -, t2, -, tl⟩ := blk3 HIE.out.ht
          have hown : wr.ownsRow w.heap.size 36 1 v k (rowsV rs.length m k) := by
            have := HIE.out.ov.own
            rw [rowsV_len] at this
            exact this
          have hbs := HIE.out.ov.b.size
          have HPU : Hid (∀ v' w2, w2.ownsRow w.heap.size 36 1 v' (k + 1) (rowsV rs.length m k ++ [.slice (some ⟨wy.heap.size, 0, none⟩) rs.length rs.length]) → (wr.alloc (.cells #[.slice (some ⟨wy.heap.size, 0, none⟩) rs.length rs.length] 36)).grownBy w2 v.ownBlock → LT w w.heap.size pt #[.int .i64 x0, .int .i64 x1, .int .i64 x2, .int .i64 x3, .int .i64 y0, .int .i64 y1, .int .i64 y2, .int .i64 y3] ls.length rs.length CF (fset m k wy.heap.size) (k + 1) v' v w2) := Lib.hid (fun v' w2 ho hg =>
            (HIE.out.step ((Below.refl _ _).alloc (Nat.le_refl _) _)).push (blk_keep HGE.out ((Below.refl _ _).alloc (Nat.le_refl _) _)) HLG.out HNE.out ho hg)
          clear HI2 HR0
          go_wp2_with (at_builtin; refine wpList_append_own _ rfl _ _ 63 rfl w.heap.size 36 i0 (.slice none 0 0) 1 24 Try.underlying63 HI0.out.1 HI0.out.2.1 HI0.out.2.2.1 HI0.out.2.2.2 rfl (by decide) v k _ rfl (hown.alloc _) ⟨wr.heap.size, 0, none⟩ 1 1 [.slice (some ⟨wy.heap.size, 0, none⟩) rs.length rs.length] rfl rfl (cell_one_new _ _ _) (by intro u hu; simp at hu; rw [hu]; rfl) (by unfold maxLen; omega) (by omega) (by simp; omega) ?_)
          intro v' w6 hown6 hgrow6 hnil6
          obtain ⟨g6, cap6, rfl⟩ : ∃ g c, v' = .slice (some ⟨g, 0, none⟩) (k + 1) c := by
            rcases hown6.2 with ⟨-, h0⟩ | ⟨g, c, -, hv, -⟩
            · omega
            · exact ⟨g, c, hv⟩
          have HP6 := Lib.hid (HPU.out _ w6 hown6 hgrow6)
          clear hown6 hgrow6 hown hnil6 t2 tl
          obtain ⟨-, -, t2, t3, tl⟩ := blk3 HP6.out.ht
          have HN := Lib.hid HP6.out.sett
          go_wp2
          go_roundg gk'
          case measure => exact Nat.lt_succ_self _
          case rel => exact ⟨k + 1, by omega, by go_num, _, _, HN⟩
    · obtain rfl : k = ls.length := by omega
      go_wp2
      go_ret2
      exact ⟨pt, m, v, rfl, HI.out⟩

theorem lay_yes (a a2 : Option Addr) (cap cap2 : Nat) (ls rs : List Gl) (x0 x1 x2 x3 y0 y1 y2 y3 : Int) (h1 : sidB ls = true) (h2 : sidB rs = true) (h3 : ruB ((x0, x1, x2, x3), (y0, y1, y2, y3)) = true) (w : World) (hl : RecS w a ls) (hr : RecS w a2 rs) :
    Calls Try.prog 27 #[.slice a ls.length cap, .slice a2 rs.length cap2, .agg #[.int .i64 x0, .int .i64 x1, .int .i64 x2, .int .i64 x3, .int .i64 y0, .int .i64 y1, .int .i64 y2, .int .i64 y3]] w fun e w' => ∃ p, e = .returned (.tuple #[.pointer (some ⟨p, 0, none⟩), .int .i64 0]) ∧ w.heap.size ≤ p ∧ TabC w' p ls.length rs.length (cosT ls rs ((x0, x1, x2, x3), (y0, y1, y2, y3))) ∧ Below w.heap.size w w' := by
  refine (lay_full a a2 cap cap2 ls rs x0 x1 x2 x3 y0 y1 y2 y3 h1 h2 h3 w hl hr).mono ?_
  rintro e w' ⟨p, m, v, rfl, h⟩
  exact ⟨p, rfl, h.lt, h.tab, h.ov.b⟩

end Go.Proofs.Ytchhadkmemckbab

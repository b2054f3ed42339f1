/- Pairs: the pile of a heap. -/
import Derived.Test.YtchhadkmemckbabPaS
namespace Go.Proofs.Ytchhadkmemckbab
open Go.RowKit
set_option linter.unusedSimpArgs false
set_option linter.unusedVariables false

/-- No glove is a partner of itself, of the first k ones. -/
def dgK (C : Nat → Nat → Int) (k : Nat) (i j : Nat) : Int := if i = j ∧ i < k then -1 else C i j
def dgF (C : Nat → Nat → Int) (i j : Nat) : Int := if i = j then -1 else C i j
theorem LT.setm {w0 wr : World} {pu pt L R k : Nat} {cu : Array Value} {C : Nat → Nat → Int} {m : Nat → Nat} {v f : Value} (h : LT w0 pu pt cu L R C m k v f wr) (i j : Nat) (hi : i < k) (x : Int) :
    LT w0 pu pt cu L R (fun a b => if a = i ∧ b = j then x else C a b) m k v f (wr.setCell ⟨m i, j, none⟩ (.int .i64 x)) := by
  have hmi := (h.hm i hi).2
  have ko : ∀ {p : Nat} {cs : Array Value} {T : TypeId}, wr.heap[p]? = some (.cells cs T (0, 0)) → T ≠ 3 → (wr.setCell ⟨m i, j, none⟩ (.int .i64 x)).heap[p]? = some (.cells cs T (0, 0)) := fun {p cs T} hp hT => by
    rw [Below.heap_setCell _ _ _ _ (by
      rintro rfl
      rw [hp] at hmi
      simp only [Option.some.injEq, Obj.cells.injEq] at hmi
      exact hT hmi.2.1)]
    exact hp
  refine ⟨⟨h.ov.b.setCell (h.hm i hi).1 _, h.ov.own.1, ?_⟩, h.lu, ko h.hu (by decide), h.lt, ko h.ht (by decide), fun a ha => ⟨(h.hm a ha).1, ?_⟩, h.hd⟩
  · rcases h.ov.own.2 with hn | ⟨g, cap, cur, hv, hb, hg, rest⟩
    · exact .inl hn
    · exact .inr ⟨g, cap, cur, hv, hb, ko hg (by decide), rest⟩
  · by_cases e : a = i
    · subst e
      have e2 : (fun b => if a = a ∧ b = j then x else C a b) = fun b => if b = j then x else C a b := by funext b; simp
      rw [e2]
      simp only [World.setCell, Array.getElem?_modify, hmi]
      simp [cA_set]
    · have hne : m a ≠ m i := by
        rcases Nat.lt_or_gt_of_ne e with h1 | h1
        · exact h.hd a i h1 hi
        · exact (h.hd i a h1 ha).symm
      rw [Below.heap_setCell _ _ _ _ (by show m a ≠ m i; exact hne), (h.hm a ha).2]
      congr 3
      funext b
      rw [if_neg (fun hh => e hh.1)]
theorem LT.rowAt {w0 wr : World} {pu pt L R k : Nat} {cu : Array Value} {C : Nat → Nat → Int} {m : Nat → Nat} {v f : Value} (h : LT w0 pu pt cu L R C m k v f wr) {i : Nat} (hi : i < k) :
    ∃ B cap, v = .slice (some ⟨B, 0, none⟩) k cap ∧ B < wr.heap.size ∧ wr.cell? ⟨B, i, none⟩ = some (.slice (some ⟨m i, 0, none⟩) R R) := by
  obtain ⟨x, cap, hv, hx⟩ := h.ov.form
  rw [rowsV_len] at hv
  rcases hx with hx | ⟨g, ha, hgl, hc⟩
  · have := rowsV_len R m k
    rw [hx] at this
    simp at this
    omega
  · have hc1 := hc i (by rw [rowsV_len]; exact hi)
    have e : (rowsV R m k)[i]'(by rw [rowsV_len]; exact hi) = .slice (some ⟨m i, 0, none⟩) R R := by simp [rowsV]
    rw [e] at hc1
    exact ⟨g, cap, by rw [hv, ha], hgl, hc1⟩
theorem LT.congrC {w0 wr : World} {pu pt L R k : Nat} {cu : Array Value} {C C' : Nat → Nat → Int} {m : Nat → Nat} {v f : Value} (h : LT w0 pu pt cu L R C m k v f wr) (e : C = C') : LT w0 pu pt cu L R C' m k v f wr := e ▸ h

set_option maxRecDepth 100000 in
set_option maxHeartbeats 3200000 in
theorem pile_yes (a : Option Addr) (cap : Nat) (hs : List Gl) (x0 x1 x2 x3 y0 y1 y2 y3 : Int) (h1 : sidB hs = true) (h3 : ruB ((x0, x1, x2, x3), (y0, y1, y2, y3)) = true) (w : World) (hl : RecS w a hs) :
    Calls Try.prog 42 #[.slice a hs.length cap, .agg #[.int .i64 x0, .int .i64 x1, .int .i64 x2, .int .i64 x3, .int .i64 y0, .int .i64 y1, .int .i64 y2, .int .i64 y3]] w fun e w' => ∃ p, e = .returned (.tuple #[.pointer (some ⟨p, 0, none⟩), .int .i64 0]) ∧ TabC w' p hs.length hs.length (dgF (cosT hs hs ((x0, x1, x2, x3), (y0, y1, y2, y3)))) ∧ Below w.heap.size w w' := by
  have n1 : hs.length ≤ 32 := by unfold sidB at h1; simp at h1; omega
  have HLAY := Lib.hid (fun w' hb => lay_full a a cap cap hs hs x0 x1 x2 x3 y0 y1 y2 y3 h1 h1 h3 w' (hl.below (w' := w') hb) (hl.below hb))
  obtain ⟨CF, hCF⟩ : ∃ z, z = cosT hs hs ((x0, x1, x2, x3), (y0, y1, y2, y3)) := ⟨_, rfl⟩
  rw [← hCF] at HLAY ⊢
  obtain ⟨L, hL⟩ : ∃ L, L = hs.length := ⟨_, rfl⟩
  rw [← hL] at HLAY n1 ⊢
  clear hCF h1 h3 hl hL
  have HM := Lib.hid ((Mem.nil w).alloc_at (H := w.heap.size) rfl #[.int .i64 x0, .int .i64 x1, .int .i64 x2, .int .i64 x3, .int .i64 y0, .int .i64 y1, .int .i64 y2, .int .i64 y3] 34)
  have k0 := HM.out.cell 0
  have k1 := HM.out.cell 1
  have k2 := HM.out.cell 2
  have k3 := HM.out.cell 3
  have k4 := HM.out.cell 4
  have k5 := HM.out.cell 5
  have k6 := HM.out.cell 6
  have k7 := HM.out.cell 7
  simp at k0 k1 k2 k3 k4 k5 k6 k7
  go_enter Try.func42, Try.ntmps42
  go_wp2_with fail
  refine (HLAY.out _ HM.out.b).mono ?_
  rintro e w1 ⟨pt, m, v, rfl, hlt⟩
  obtain ⟨wb, hwb⟩ : ∃ z, z = w.alloc (.cells #[.int .i64 x0, .int .i64 x1, .int .i64 x2, .int .i64 x3, .int .i64 y0, .int .i64 y1, .int .i64 y2, .int .i64 y3] 34) := ⟨_, rfl⟩
  rw [← hwb] at hlt HM
  have HT : Hid (LT wb wb.heap.size pt #[.int .i64 x0, .int .i64 x1, .int .i64 x2, .int .i64 x3, .int .i64 y0, .int .i64 y1, .int .i64 y2, .int .i64 y3] L L (dgK CF 0) m L v v w1) := Lib.hid (hlt.congrC (by funext i j; unfold dgK; rw [if_neg (by omega)]))
  clear hlt hwb HLAY k0 k1 k2 k3 k4 k5 k6 k7
  go_wp2_with fail
  go_loopg [21] L (fun gk x wr => ∃ k : Nat, x = .int .i64 k ∧ k + gk = L ∧ Hid (LT wb wb.heap.size pt #[.int .i64 x0, .int .i64 x1, .int .i64 x2, .int .i64 x3, .int .i64 y0, .int .i64 y1, .int .i64 y2, .int .i64 y3] L L (dgK CF k) m L v v wr))
  case atStart => exact ⟨0, rfl, by omega, HT⟩
  case round =>
    obtain ⟨k, rfl, hk, HI⟩ := hrel
    by_cases hlt : k < L
    · obtain ⟨gk', rfl⟩ : ∃ m, gk = m + 1 := ⟨gk - 1, by omega⟩
      have hlt' : (k : Int) < L := by omega
      have hk0 : (0 : Int) ≤ k := by omega
      obtain ⟨-, -, t2, -, tl⟩ := blk3 HI.out.ht
      obtain ⟨B, cp, hv, bl, d1⟩ := HI.out.rowAt hlt
      have hm1 := (HI.out.hm k hlt).2
      have g0 := (blkc hm1 k).trans (cA_get hlt)
      have g1 : wr.frozen? ⟨m k, k, none⟩ = false := by simp only [World.frozen?]; rw [hm1]; simp
      have g2 := block_lt hm1
      have HN : Hid (LT wb wb.heap.size pt #[.int .i64 x0, .int .i64 x1, .int .i64 x2, .int .i64 x3, .int .i64 y0, .int .i64 y1, .int .i64 y2, .int .i64 y3] L L (dgK CF (k + 1)) m L v v (wr.setCell ⟨m k, k, none⟩ (.int .i64 (-1)))) := Lib.hid ((HI.out.setm k k hlt (-1)).congrC (by
        funext i j
        unfold dgK
        by_cases e : i = k ∧ j = k
        · rw [if_pos e, if_pos (by omega)]
        · rw [if_neg e]
          by_cases e2 : i = j ∧ i < k
          · rw [if_pos e2, if_pos (by omega)]
          · rw [if_neg e2, if_neg (by omega)]))
      obtain ⟨mk, hmk⟩ : ∃ z, z = m k := ⟨_, rfl⟩
      rw [← hmk] at d1 g0 g1 g2 HN
      obtain ⟨gv, hgv⟩ : ∃ z, z = dgK CF k k k := ⟨_, rfl⟩
      rw [← hgv] at g0
      subst hv
      clear hm1 hmk hgv
      go_wp2
      go_roundg gk'
      case measure => exact Nat.lt_succ_self _
      case rel => exact ⟨k + 1, by go_num, by omega, HN⟩
    · obtain ⟨rfl, rfl⟩ : gk = 0 ∧ k = L := by omega
      have HE : Hid (TabC wr pt k k (dgF CF) ∧ Below w.heap.size w wr) := Lib.hid ⟨by
        have h := HI.out.tab
        obtain ⟨x, cap, e, hr⟩ := h.c2
        refine ⟨h.lt, h.c0, h.c1, x, cap, e, fun i hi => ?_⟩
        obtain ⟨B, mi, e1, l1, c1, l2, c2⟩ := hr i hi
        refine ⟨B, mi, e1, l1, c1, l2, fun j hj => ?_⟩
        rw [c2 j hj]
        unfold dgK dgF
        by_cases e : i = j
        · rw [if_pos ⟨e, hi⟩, if_pos e]
        · rw [if_neg (fun h => e h.1), if_neg e], HM.out.b.trans (HI.out.ov.b.mono HM.out.b.size)⟩
      go_wp2
      go_ret2
      exact ⟨pt, rfl, HE.out.1, HE.out.2⟩

end Go.Proofs.Ytchhadkmemckbab

/- Skins: the closure of Maximal. -/
import Derived.Test.YtndhnpljdldlpabSmS
namespace Go.Proofs.Ytndhnpljdldlpab
open Go.RowKit

/-- The memory of Maximal: the box of the table, the table, the boxes of deep, of visit and of the list, the depths, the list. -/
structure XM (w0 : World) (pt p nb : Nat) (mb : Nat → Nat) (pd pv nd pl : Nat) (m : Nat → Nat) (W H : Nat) (U : Int → Int → Bool) (vv v : Value) (l : List Rc) (wr : World) : Prop where
  dm : DM w0 nd W H 0 m (fun y x => dep U x y (H - y)) wr
  ht : wr.heap[pt]? = some (.cells #[.pointer (some ⟨p, 0, none⟩)] 61 (0, 0))
  tb : TabS wr p nb mb W H (fun x y => tab U x y)
  hd : wr.heap[pd]? = some (.cells #[.slice (some ⟨nd, 0, none⟩) (H + 1) (H + 1)] 118 (0, 0))
  hv : wr.heap[pv]? = some (.cells #[vv] 64 (0, 0))
  hl : wr.heap[pl]? = some (.cells #[v] 23 (0, 0))
  own : wr.ownsRow (pl + 1) 29 4 v l.length (rcVals l)
  le : w0.heap.size ≤ pl
  ne : pt < pl ∧ pl ≠ pd ∧ pl ≠ pv ∧ pl < nd
  tlt : p < pl ∧ nb < pl ∧ ∀ y, y ≤ H → mb y < pl
section
variable {w0 wr w2 : World} {pt p nb : Nat} {mb : Nat → Nat} {pd pv nd pl : Nat} {m : Nat → Nat} {W H : Nat} {U : Int → Int → Bool} {vv v v' : Value} {l : List Rc} {r : Rc}
theorem XM.step (h : XM w0 pt p nb mb pd pv nd pl m W H U vv v l wr) (hb : Below wr.heap.size wr w2) : XM w0 pt p nb mb pd pv nd pl m W H U vv v l w2 :=
  ⟨h.dm.step hb, (hb.block _ (block_lt h.ht)).trans h.ht, h.tb.below hb, (hb.block _ (block_lt h.hd)).trans h.hd, (hb.block _ (block_lt h.hv)).trans h.hv, (hb.block _ (block_lt h.hl)).trans h.hl, h.own.kept (row := none) (grownBy_below none hb) (by
    cases hk : v.ownBlock with
    | none => exact .inl rfl
    | some k => exact .inr (by simp)), h.le, h.ne, h.tlt⟩
theorem XM.each (h : XM w0 pt p nb mb pd pv nd pl m W H U vv v l wr) {Y : Nat} (hY : Y ≤ H) : EachM pd pv nd (m Y) W H U Y vv wr := by
  refine ⟨?_, block_lt h.hd, ?_, block_lt h.hv, h.dm.cn (Nat.zero_le _) hY, h.dm.ln, fun x hx => h.dm.cm (Nat.zero_le _) hY hx, h.dm.lm (Nat.zero_le _) hY⟩
  · simp only [World.cell?]; rw [h.hd]; rfl
  · simp only [World.cell?]; rw [h.hv]; rfl
/-- What an append and the store of its result leave. -/
theorem XM.push (h : XM w0 pt p nb mb pd pv nd pl m W H U vv v l wr) (hown : w2.ownsRow (pl + 1) 29 4 v' (l.length + 1) (rcVals l ++ [.int .i64 r.1, .int .i64 r.2.1, .int .i64 r.2.2.1, .int .i64 r.2.2.2])) (hg : wr.grownBy w2 v.ownBlock) :
    (w2.cell? ⟨pl, 0, none⟩ = some v ∧ w2.frozen? ⟨pl, 0, none⟩ = false ∧ pl < w2.heap.size) ∧
    (∀ (q : Nat) (cs : Array Value) (T : TypeId), T ≠ 29 → q ≠ pl → wr.heap[q]? = some (.cells cs T (0, 0)) → (w2.setCell ⟨pl, 0, none⟩ v').heap[q]? = some (.cells cs T (0, 0))) ∧ XM w0 pt p nb mb pd pv nd pl m W H U vv v' (l ++ [r]) (w2.setCell ⟨pl, 0, none⟩ v') := by
  have hfr : ∀ (q : Nat) (cs : Array Value) (T : TypeId), T ≠ 29 → wr.heap[q]? = some (.cells cs T (0, 0)) → w2.heap[q]? = some (.cells cs T (0, 0)) := fun q cs T hT hq => (hg.block q (block_lt hq) (fun e => own_neT h.own hq hT e.symm)).trans hq
  have hlo : ∀ q, q ≤ pl → q < wr.heap.size → w2.heap[q]? = wr.heap[q]? := fun q hq hs => hg.block q hs (fun e => by have := (h.own.lt q e.symm).1; omega)
  have hl2 := hfr pl _ _ (show (23 : Nat) ≠ 29 by decide) h.hl
  obtain ⟨n1, n2, n3, n4⟩ := h.ne
  obtain ⟨t1, t2, t3⟩ := h.tlt
  have hne : ∀ q, q ≠ pl → (w2.setCell ⟨pl, 0, none⟩ v').heap[q]? = w2.heap[q]? := fun q hq => Below.heap_setCell _ _ _ _ hq
  have hb2 : Below w0.heap.size w0 w2 := ⟨hg.os.trans h.dm.b.os, hg.tape.trans h.dm.b.tape, hg.output.trans h.dm.b.output, Nat.le_trans h.dm.b.size hg.size, fun i hi => (hlo i (by have := h.le; omega) (Nat.lt_of_lt_of_le hi h.dm.b.size)).trans (h.dm.b.block i hi)⟩
  have hz : (w2.setCell ⟨pl, 0, none⟩ v').heap.size = w2.heap.size := by simp [World.setCell]
  have hts : ∀ q i, q < pl → q < wr.heap.size → (w2.setCell ⟨pl, 0, none⟩ v').cell? ⟨q, i, none⟩ = wr.cell? ⟨q, i, none⟩ := fun q i h1 h2 => World.cell?_of_block (a := ⟨q, i, none⟩) ((hne q (by omega)).trans (hlo q (by omega) h2))
  have hgs : w2.grownBy (w2.setCell ⟨pl, 0, none⟩ v') (some pl) := ⟨rfl, rfl, rfl, Nat.le_of_eq hz.symm, fun i _ hne' => heap_setCell_other w2 ⟨pl, 0, none⟩ i v' (fun e => hne' (by rw [e]))⟩
  refine ⟨block_box hl2, fun q cs T hT hq hh => (hne q hq).trans (hfr q cs T hT hh), ⟨⟨hb2.setCell h.le _, h.dm.le, ?_, fun y hy hH => ?_, h.dm.gt, h.dm.anti⟩, ?_, ?_, ?_, ?_, ?_, ?_, h.le, h.ne, h.tlt⟩⟩
  · rw [hne _ (by omega)]; exact hfr _ _ _ (show (50 : Nat) ≠ 29 by decide) h.dm.hn
  · have := h.dm.gt y hy hH
    rw [hne _ (by omega)]; exact hfr _ _ _ (show (3 : Nat) ≠ 29 by decide) (h.dm.hm y hy hH)
  · rw [hne _ (by omega)]; exact hfr _ _ _ (show (61 : Nat) ≠ 29 by decide) h.ht
  · have hs := hg.size
    exact ⟨by rw [hz]; exact Nat.lt_of_lt_of_le h.tb.hp hs, (hts _ _ t1 h.tb.hp).trans h.tb.cp, by rw [hz]; exact Nat.lt_of_lt_of_le h.tb.hn hs, fun y hy => (hts _ _ t2 h.tb.hn).trans (h.tb.cn y hy), fun y hy => by rw [hz]; exact Nat.lt_of_lt_of_le (h.tb.hm y hy) hs, fun x y hx hy => (hts _ _ (t3 y hy) (h.tb.hm y hy)).trans (h.tb.cm x y hx hy)⟩
  · rw [hne _ (by omega)]; exact hfr _ _ _ (show (118 : Nat) ≠ 29 by decide) h.hd
  · rw [hne _ (by omega)]; exact hfr _ _ _ (show (64 : Nat) ≠ 29 by decide) h.hv
  · have := heap_setCell_same w2 pl 0 #[v] 23 v' hl2
    simpa using this
  · have := hown.kept hgs (by
      cases hk : v'.ownBlock with
      | none => exact .inl rfl
      | some k =>
        have := (hown.lt k hk).1
        exact .inr (by simp; omega))
    rw [rcVals_append, List.length_append]
    simpa [rcVals] using this
end

set_option maxRecDepth 100000 in
set_option maxHeartbeats 3200000 in
theorem maxClo (w0 : World) (pt p nb : Nat) (mb : Nat → Nat) (pd pv nd pl : Nat) (m : Nat → Nat) (ss : List ByteArray) (hs : skB ss = true) (g : Int) (vv v : Value) (l : List Rc) (hlen : l.length ≤ 6000000) (x y n k : Nat) (hn : 1 ≤ n) (hk : 1 ≤ k) (hn2 : n ≤ 48) (hk2 : k ≤ 48) (hx : x ≤ 48) (hy : y ≤ 48) (w : World) (h : XM w0 pt p nb mb pd pv nd pl m (wid ss) ss.length (usB ss g) vv v l w) :
    Calls Try.prog 34 #[.agg #[.int .i64 x, .int .i64 y, .int .i64 n, .int .i64 k], .pointer (some ⟨pt, 0, none⟩), .pointer (some ⟨pl, 0, none⟩)] w fun e w' => e = .returned (.tuple #[]) ∧
      (∀ (q : Nat) (cs : Array Value) (T : TypeId), T ≠ 29 → q ≠ pl → w.heap[q]? = some (.cells cs T (0, 0)) → w'.heap[q]? = some (.cells cs T (0, 0))) ∧
      ∃ v', XM w0 pt p nb mb pd pv nd pl m (wid ss) ss.length (usB ss g) vv v' (l ++ (if growB (usB ss g) (wid ss) ss.length x y n k = false then [((x : Int), (y : Int), (n : Int), (k : Int))] else [])) w' := by
  obtain ⟨i0, hi, hz0, hz1, hz2⟩ := info_parts infoRect
  have HI0 := Lib.hid (And.intro hi (And.intro hz0 (And.intro hz1 hz2)))
  clear hi hz0 hz1 hz2
  have hA : Below w.heap.size w (w.alloc (.cells #[.int .i64 x, .int .i64 y, .int .i64 n, .int .i64 k] 29)) := (Below.refl _ _).alloc (Nat.le_refl _) _
  have HM := Lib.hid ((Mem.nil w).alloc #[.int .i64 x, .int .i64 y, .int .i64 n, .int .i64 k] 29)
  have HH := Lib.hid (h.step hA)
  have HG := Lib.hid (fun w' (hb : Below w.heap.size w w') => canGrow_any p nb mb ss hs g x y n k hn hk hn2 hk2 hx hy w' (h.tb.below hb))
  have c0 := (block_box h.ht).1
  have c1 := block_lt h.ht
  have HFR := Lib.hid (fun w' (hb : Below w.heap.size w w') (q : Nat) (cs : Array Value) (T : TypeId) (hq : w.heap[q]? = some (.cells cs T (0, 0))) => (hb.block q (block_lt hq)).trans hq)
  obtain ⟨gb, hgb⟩ : ∃ gb, gb = growB (usB ss g) (wid ss) ss.length x y n k := ⟨_, rfl⟩
  rw [← hgb] at HG ⊢
  obtain ⟨U, hU⟩ : ∃ U, U = usB ss g := ⟨_, rfl⟩
  obtain ⟨W, hW⟩ : ∃ W, W = wid ss := ⟨_, rfl⟩
  obtain ⟨H, hH⟩ : ∃ H, H = ss.length := ⟨_, rfl⟩
  rw [← hU, ← hW, ← hH] at HH ⊢
  clear hs h hgb hA hU hW hH hn hk hn2 hk2 hx hy
  go_enter Try.func34, Try.ntmps34
  go_wp2_with fail
  refine (HG.out _ HM.out.b).mono ?_
  rintro e w1 ⟨rfl, hb⟩
  have HM1 := Lib.hid (HM.out.step hb)
  have HH1 := Lib.hid (HH.out.step hb)
  clear hb c0 c1
  cases gb with
  | true =>
    go_wp2
    go_end0
    refine ⟨rfl, fun q cs T _ _ hq => HFR.out _ HM1.out.b q cs T hq, v, ?_⟩
    simpa using HH1.out
  | false =>
    have d0 := HM1.out.cell 0
    have d1 := HM1.out.cell 1
    have d2 := HM1.out.cell 2
    have d3 := HM1.out.cell 3
    have dl := HM1.out.head_lt
    simp at d0 d1 d2 d3
    obtain ⟨e0, e1, e2⟩ := block_box HH1.out.hl
    obtain ⟨N, hN⟩ : ∃ N, N = l.length := ⟨_, rfl⟩
    have hown := HH1.out.own
    rw [← hN] at hown hlen
    have hps := block_lt HH1.out.hl
    have HOL : Hid (∀ v' w6, w6.ownsRow (pl + 1) 29 4 v' (N + 1) (rcVals l ++ [.int .i64 x, .int .i64 y, .int .i64 n, .int .i64 k]) → (w1.alloc (.cells #[.int .i64 x, .int .i64 y, .int .i64 n, .int .i64 k] 29)).grownBy w6 v.ownBlock → (w6.cell? ⟨pl, 0, none⟩ = some v ∧ w6.frozen? ⟨pl, 0, none⟩ = false ∧ pl < w6.heap.size) ∧ (∀ (q : Nat) (cs : Array Value) (T : TypeId), T ≠ 29 → q ≠ pl → w.heap[q]? = some (.cells cs T (0, 0)) → (w6.setCell ⟨pl, 0, none⟩ v').heap[q]? = some (.cells cs T (0, 0))) ∧ XM w0 pt p nb mb pd pv nd pl m W H U vv v' (l ++ [((x : Int), (y : Int), (n : Int), (k : Int))]) (w6.setCell ⟨pl, 0, none⟩ v')) := Lib.hid (fun v' w6 ho hg => by
      have hbl : Below w1.heap.size w1 (w1.alloc (.cells #[.int .i64 x, .int .i64 y, .int .i64 n, .int .i64 k] 29)) := (Below.refl _ _).alloc (Nat.le_refl _) _
      have h3 := (HH1.out.step hbl).push (r := ((x : Int), (y : Int), (n : Int), (k : Int))) (by rw [← hN]; exact ho) hg
      exact ⟨h3.1, fun q cs T hT hq hh => h3.2.1 q cs T hT hq (HFR.out _ (HM1.out.b.trans (hbl.mono HM1.out.b.size)) q cs T hh), h3.2.2⟩)
    have HNN := Lib.hid hN
    clear hN
    go_wp2_with (at_builtin; refine wpList_append_own _ rfl _ _ 23 rfl (pl + 1) 29 i0 (.agg #[.int .i64 0, .int .i64 0, .int .i64 0, .int .i64 0]) 4 32 uRects HI0.out.1 HI0.out.2.1 HI0.out.2.2.1 HI0.out.2.2.2 rfl (by decide) v N _ rfl (hown.alloc _) ⟨w1.heap.size, 0, none⟩ 1 1 [.int .i64 x, .int .i64 y, .int .i64 n, .int .i64 k] rfl rfl (cell_four_new _ _ _ _ _ _) (by intro u hu; simp at hu; rcases hu with rfl | rfl | rfl | rfl <;> rfl) (by unfold maxLen; omega) (by omega) (by simp; omega) ?_)
    intro v' w6 hown6 hgrow6 hnil6
    obtain ⟨⟨f0, f1, f2⟩, ht⟩ := HOL.out v' w6 hown6 hgrow6
    obtain ⟨a6, c6, rfl, -⟩ := ownsRow_recs ht.2.own
    have HE := Lib.hid ht
    rw [List.length_append, List.length_singleton] at HE
    rw [List.length_append, List.length_singleton]
    clear hown6 hgrow6 hnil6 ht hown d0 d1 d2 d3 dl e0 e1 e2
    go_wp2
    go_end0
    exact ⟨rfl, HE.out.1, _, HE.out.2⟩

end Go.Proofs.Ytndhnpljdldlpab

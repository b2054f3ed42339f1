/- Skins: Trim of the program. -/
import Derived.Test.YtdhnifhehhbjeaaSlD
import Derived.Test.YtdhnifhehhbjeaaSkW
import Derived.Test.YtdhnifhehhbjeaaSkH
namespace Go.Proofs.Ytdhnifhehhbjeaa
open Go.RowKit

set_option maxRecDepth 100000 in
set_option maxHeartbeats 1600000 in
theorem walk_trim (a : Option Addr) (cap : Nat) (ss : List ByteArray) (hs : skB ss = true) (p1 p2 : Value) (I : Nat → Nat → World → Prop) (w : World) (h : StrS w a ss) (h0 : I 0 0 w)
    (hrow : ∀ y w', I y (wid ss) w' → I (y + 1) 0 w')
    (hstep : ∀ x y w', x < wid ss → y < ss.length → I y x w' → Calls Try.prog 73 #[.agg #[.int .i64 x, .int .i64 y], p1, p2] w' fun e w'' => e = .returned (.tuple #[]) ∧ I y (x + 1) w'') :
    Calls Try.prog 72 #[.slice a ss.length cap, .func (.func 73) #[] #[p1, p2]] w fun e w' => e = .returned (.tuple #[]) ∧ I ss.length 0 w' := by
  obtain ⟨⟨hl1, hl2⟩, ⟨hw1, hw2⟩, -⟩ := skB_iff.1 hs
  have HSZ : Hid (Calls Try.prog 62 #[.slice a ss.length cap] w fun e w'' => e = .returned (.tuple #[.int .i64 (wid ss), .int .i64 ss.length]) ∧ w = w'') := Lib.hid (skSize_any a cap ss (by omega) (by omega) w h)
  obtain ⟨W, hW⟩ : ∃ W, W = wid ss := ⟨_, rfl⟩
  obtain ⟨H, hH⟩ : ∃ H, H = ss.length := ⟨_, rfl⟩
  rw [← hW] at HSZ hrow hstep hw1 hw2
  rw [← hH] at hstep hl1 hl2 ⊢
  have hSZ := HSZ.out
  rw [← hH] at hSZ
  have HSZ2 := Lib.hid hSZ
  have HROW := Lib.hid hrow
  have HSTEP := Lib.hid hstep
  have H0 := Lib.hid h0
  clear hrow hstep h0 hW hH h hs HSZ hSZ
  go_enter Try.func72, Try.ntmps72
  go_wp2_with fail
  refine HSZ2.out.mono ?_
  rintro e w1 ⟨rfl, rfl⟩
  go_wp2
  go_loopg [14] H (fun gk i wr => ∃ y : Nat, y + gk = H ∧ i = .int .i64 y ∧ Hid (I y 0 wr))
  case atStart => exact ⟨0, by omega, rfl, H0⟩
  case round =>
    obtain ⟨y, hy, rfl, HI⟩ := hrel
    by_cases hlt : y < H
    · obtain ⟨gk', rfl⟩ : ∃ m, gk = m + 1 := ⟨gk - 1, by omega⟩
      have hlt' : (y : Int) < H := by omega
      go_wp2
      go_loopg [18] W (fun gj i wr => ∃ x : Nat, x + gj = W ∧ i = .int .i64 x ∧ Hid (I y x wr))
      case atStart => exact ⟨0, by omega, rfl, HI⟩
      case round =>
        obtain ⟨x, hx, rfl, HI2⟩ := hrel
        by_cases hlx : x < W
        · obtain ⟨gj', rfl⟩ : ∃ m, gk = m + 1 := ⟨gk - 1, by omega⟩
          have hlx' : (x : Int) < W := by omega
          go_wp2_with fail
          refine (HSTEP.out x y _ hlx hlt HI2.out).mono ?_
          rintro e w3 ⟨rfl, hi3⟩
          have HI3 := Lib.hid hi3
          clear hi3
          go_wp2
          go_roundg gj'
          case measure => exact Nat.lt_succ_self _
          case rel => exact ⟨x + 1, by omega, by go_num, HI3⟩
        · obtain rfl : x = W := by omega
          have hlx' : ¬ (x : Int) < x := by omega
          go_wp2
          go_roundg gk'
          case measure => exact Nat.lt_succ_self _
          case rel => exact ⟨y + 1, by omega, by go_num, Lib.hid (HROW.out _ _ HI2.out)⟩
    · obtain rfl : y = H := by omega
      go_wp2
      go_end0
      exact ⟨rfl, HI.out⟩


/-- The cells with leather before a place. -/
def trimTo (ss : List ByteArray) (W y x : Nat) : List (Int × Int) := (cellsTo W y x).filter fun c => decide (0 < grd ss c.1 c.2)
theorem trimTo_next (ss : List ByteArray) (W y x : Nat) : trimTo ss W y (x + 1) = trimTo ss W y x ++ (if 0 < grd ss x y then [((x : Int), (y : Int))] else []) := by
  unfold trimTo cellsTo
  rw [List.range_succ, List.map_append, ← List.append_assoc, List.filter_append]
  congr 1
  by_cases h : 0 < grd ss x y
  · rw [if_pos h]; simp [h]
  · rw [if_neg h]; simp [h]
theorem trimTo_row (ss : List ByteArray) (W y : Nat) : trimTo ss W (y + 1) 0 = trimTo ss W y W := by
  unfold trimTo cellsTo
  rw [List.range_succ, List.flatMap_append]
  simp
theorem trimTo_len (ss : List ByteArray) (W y x : Nat) : (trimTo ss W y x).length ≤ y * W + x := by
  have := List.length_filter_le (fun c : Int × Int => decide (0 < grd ss c.1 c.2)) (cellsTo W y x)
  rw [cellsTo_len] at this
  exact this
theorem trimTo_in {ss : List ByteArray} {W y x : Nat} {c : Int × Int} (h : c ∈ trimTo ss W y x) : InR (wid ss) ss.length c := by
  have := (List.mem_filter.1 h).2
  simp only [decide_eq_true_eq] at this
  by_cases hin : InR (wid ss) ss.length c
  · exact hin
  · rw [grd_out (by unfold InR at hin; omega)] at this
    omega

/-- The list's box and its row. -/
structure TM (w0 : World) (pl : Nat) (v : Value) (l : List (Int × Int)) (wr : World) : Prop where
  b : Below w0.heap.size w0 wr
  eq : pl = w0.heap.size
  hl : wr.heap[pl]? = some (.cells #[v] 92 (0, 0))
  own : wr.ownsRow (pl + 1) 87 2 v l.length (cellVals l)
theorem TM.step {w0 : World} {pl : Nat} {v : Value} {l : List (Int × Int)} {wr w2 : World} (h : TM w0 pl v l wr) (hb : Below wr.heap.size wr w2) : TM w0 pl v l w2 :=
  ⟨h.b.trans (hb.mono h.b.size), h.eq, (hb.block _ (block_lt h.hl)).trans h.hl, h.own.kept (row := none) (grownBy_below none hb) (by
    cases hk : v.ownBlock with
    | none => exact .inl rfl
    | some k => exact .inr (by simp))⟩
theorem TM.push {w0 : World} {pl : Nat} {v v' : Value} {l : List (Int × Int)} {c : Int × Int} {wr w2 : World} (h : TM w0 pl v l wr)
    (hown : w2.ownsRow (pl + 1) 87 2 v' (l.length + 1) (cellVals l ++ [.int .i64 c.1, .int .i64 c.2])) (hg : wr.grownBy w2 v.ownBlock) : TM w0 pl v' (l ++ [c]) (w2.setCell ⟨pl, 0, none⟩ v') := by
  have hlt := h.own.lt
  have hz : w2.heap.size = (w2.setCell ⟨pl, 0, none⟩ v').heap.size := by simp [World.setCell]
  have hgs : w2.grownBy (w2.setCell ⟨pl, 0, none⟩ v') (some pl) := ⟨rfl, rfl, rfl, Nat.le_of_eq hz, fun i _ hne => heap_setCell_other w2 ⟨pl, 0, none⟩ i v' (fun e => hne (by rw [e]))⟩
  have hf : ∀ k, k ≤ pl → k < wr.heap.size → w2.heap[k]? = wr.heap[k]? := fun k hk hs => hg.block k hs (fun e => by have := (hlt k e.symm).1; omega)
  have hb : Below w0.heap.size w0 w2 := ⟨hg.os.trans h.b.os, hg.tape.trans h.b.tape, hg.output.trans h.b.output, Nat.le_trans h.b.size hg.size, fun i hi => (hf i (by have := h.eq; omega) (Nat.lt_of_lt_of_le hi h.b.size)).trans (h.b.block i hi)⟩
  refine ⟨hb.setCell (Nat.le_of_eq h.eq.symm) v', h.eq, ?_, ?_⟩
  · have := heap_setCell_same w2 pl 0 #[v] 92 v' ((hf pl (Nat.le_refl _) (block_lt h.hl)).trans h.hl)
    simpa using this
  · have := hown.kept hgs (by
      cases hk : v'.ownBlock with
      | none => exact .inl rfl
      | some k =>
        have := (hown.lt k hk).1
        exact .inr (by simp; omega))
    rw [cellVals_append, List.length_append]
    simpa [cellVals] using this
theorem TM.start (w : World) : TM w w.heap.size (.slice none 0 0) [] (w.alloc (.cells #[.slice none 0 0] 92)) :=
  ⟨(Below.refl _ _).alloc (Nat.le_refl _) _, rfl, heap_alloc_new _ _, ⟨by simp [cellVals], .inl ⟨rfl, rfl⟩⟩⟩
theorem TM.form {w0 : World} {pl : Nat} {v : Value} {l : List (Int × Int)} {wr : World} (h : TM w0 pl v l wr) : ∃ a cap, v = .slice a l.length cap ∧ (0 < l.length → ∃ g, a = some ⟨g, 0, none⟩ ∧ CellS wr g l) := by
  rcases h.own.2 with ⟨hv, h0⟩ | ⟨g, cap, cur, hv, hb, hh, -⟩
  · exact ⟨none, 0, by rw [hv, h0], fun hp => by omega⟩
  · refine ⟨some ⟨g, 0, none⟩, cap, hv, fun _ => ⟨g, rfl, block_lt hh, fun k hk => ?_⟩⟩
    obtain ⟨h1, h2⟩ := cellVals_get hk
    have e1 := h.own.cells (g := g) (by rw [hv]; rfl) _ _ h1
    have e2 := h.own.cells (g := g) (by rw [hv]; rfl) _ _ h2
    rw [add_off, Nat.zero_add] at e1 e2
    exact ⟨e1, e2⟩

set_option maxRecDepth 100000 in
set_option maxHeartbeats 3200000 in
theorem trimClo_any (w0 : World) (ps pl : Nat) (a : Option Addr) (cap : Nat) (ss : List ByteArray) (hs : skB ss = true) (v : Value) (l : List (Int × Int)) (hn : l.length ≤ 2304) (x y : Nat) (w : World) (h : TM w0 pl v l w) (hp : w0.cell? ⟨ps, 0, none⟩ = some (.slice a ss.length cap)) (hlt : ps < w0.heap.size) (hS : StrS w0 a ss) :
    Calls Try.prog 73 #[.agg #[.int .i64 x, .int .i64 y], .pointer (some ⟨ps, 0, none⟩), .pointer (some ⟨pl, 0, none⟩)] w fun e w' => e = .returned (.tuple #[]) ∧ ∃ v', TM w0 pl v' (l ++ (if 0 < grd ss x y then [((x : Int), (y : Int))] else [])) w' := by
  obtain ⟨i0, hi, hz0, hz1, hz2⟩ := info_parts infoCell
  have HI0 := Lib.hid (And.intro hi (And.intro hz0 (And.intro hz1 hz2)))
  clear hi hz0 hz1 hz2
  obtain ⟨g, hg, hg9⟩ := grd_nat hs x y
  have HG : Hid (∀ w', Below w0.heap.size w0 w' → Calls Try.prog 65 #[.slice a ss.length cap, .agg #[.int .i64 x, .int .i64 y]] w' fun e w'' => e = .returned (.int .i64 g) ∧ Below w'.heap.size w' w'') := Lib.hid (fun w' hb => by
    rw [← hg]; exact gradeAt_any a cap ss hs x y w' (hS.below hb))
  rw [hg]
  obtain ⟨R, hR⟩ : ∃ R, R = l ++ (if 0 < (g : Int) then [((x : Int), (y : Int))] else []) := ⟨_, rfl⟩
  have HR := Lib.hid hR
  rw [← hR]
  clear hR
  have HH := Lib.hid (h.step ((Below.refl _ _).alloc (Nat.le_refl _) (.cells #[.int .i64 x, .int .i64 y] 87)))
  have HM := Lib.hid ((Mem.nil w).alloc #[.int .i64 x, .int .i64 y] 87)
  have c0 := (h.b.cell (p := ⟨ps, 0, none⟩) hlt).trans hp
  have c1 := Nat.lt_of_lt_of_le hlt h.b.size
  have hpw := h.eq
  clear hp hlt hS hs h hg hpw
  go_enter Try.func73, Try.ntmps73
  go_wp2_with fail
  refine (HG.out _ HH.out.b).mono ?_
  rintro e w1 ⟨rfl, hb1⟩
  have HH1 := Lib.hid (HH.out.step hb1)
  have HM1 := Lib.hid (HM.out.step hb1)
  obtain ⟨d0, d1, -, -, d2⟩ := HM1.out.c2
  obtain ⟨e0, e1, e2⟩ := block_box HH1.out.hl
  clear hb1 c0 c1
  by_cases hgp : 0 < g
  · have hgi : (0 : Int) < g := by omega
    have HR2 : Hid (R = l ++ [((x : Int), (y : Int))]) := Lib.hid (by rw [HR.out, if_pos hgi])
    obtain ⟨n, hnn⟩ : ∃ n, n = l.length := ⟨_, rfl⟩
    have hown := HH1.out.own
    rw [← hnn] at hown hn
    have hps := block_lt HH1.out.hl
    have HOL : Hid (∀ v' w6, w6.ownsRow (pl + 1) 87 2 v' (n + 1) (cellVals l ++ [.int .i64 x, .int .i64 y]) → (w1.alloc (.cells #[.int .i64 x, .int .i64 y] 87)).grownBy w6 v.ownBlock → (w6.cell? ⟨pl, 0, none⟩ = some v ∧ w6.frozen? ⟨pl, 0, none⟩ = false ∧ pl < w6.heap.size) ∧ TM w0 pl v' (l ++ [((x : Int), (y : Int))]) (w6.setCell ⟨pl, 0, none⟩ v')) := Lib.hid (fun v' w6 ho hg => by
      have h2 := HH1.out.step ((Below.refl _ _).alloc (Nat.le_refl _) (.cells #[.int .i64 x, .int .i64 y] 87))
      refine ⟨block_box (T := 92) ((hg.block _ (block_lt h2.hl) (fun e => ?_)).trans h2.hl), h2.push (c := ((x : Int), (y : Int))) (by rw [← hnn]; exact ho) hg⟩
      have := (h2.own.lt _ e.symm).1
      omega)
    clear hnn
    go_wp2_with (at_builtin; refine wpList_append_own _ rfl _ _ 92 rfl (pl + 1) 87 i0 (.agg #[.int .i64 0, .int .i64 0]) 2 16 uCells HI0.out.1 HI0.out.2.1 HI0.out.2.2.1 HI0.out.2.2.2 rfl (by decide) v n _ rfl (hown.alloc _) ⟨w1.heap.size, 0, none⟩ 1 1 [.int .i64 x, .int .i64 y] rfl rfl (cell_two_new _ _ _ _) (by intro u hu; simp at hu; rcases hu with rfl | rfl <;> rfl) (by unfold maxLen; omega) (by omega) (by simp; omega) ?_)
    intro v' w6 hown6 hgrow6 hnil6
    obtain ⟨⟨f0, f1, f2⟩, ht⟩ := HOL.out v' w6 hown6 hgrow6
    obtain ⟨a6, c6, rfl, -⟩ := ht.form
    rw [List.length_append, List.length_singleton] at ht
    have HE := Lib.hid ht
    clear hown6 hgrow6 hnil6 ht hown d0 d1 d2 e0 e1 e2
    go_wp2
    go_end0
    exact ⟨rfl, _, by rw [HR2.out]; exact HE.out⟩
  · obtain rfl : g = 0 := by omega
    have hgi : ¬ (0 : Int) < ((0 : Nat) : Int) := by omega
    have HR2 : Hid (R = l) := Lib.hid (by rw [HR.out, if_neg hgi, List.append_nil])
    clear hgi
    go_wp2
    go_end0
    exact ⟨rfl, v, by rw [HR2.out]; exact HH1.out⟩

end Go.Proofs.Ytdhnifhehhbjeaa

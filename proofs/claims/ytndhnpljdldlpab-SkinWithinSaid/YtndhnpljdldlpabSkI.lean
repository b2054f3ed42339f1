/- Skins: box. -/
import Derived.Test.YtndhnpljdldlpabSkG
import Derived.Deep.LoopGhost
import Derived.Deep.DeepCutAuto
namespace Go.Proofs.Ytndhnpljdldlpab
open Go.RowKit

/-- Block g holds the list's cells. -/
def CellS (w : World) (g : Nat) (l : List (Int × Int)) : Prop :=
  g < w.heap.size ∧ ∀ k (h : k < l.length), w.cell? ⟨g, k * 2, none⟩ = some (.int .i64 l[k].1) ∧ w.cell? ⟨g, k * 2 + 1, none⟩ = some (.int .i64 l[k].2)
theorem CellS.below {w w' : World} {g : Nat} {l : List (Int × Int)} (h : CellS w g l) (hb : Below w.heap.size w w') : CellS w' g l :=
  ⟨Nat.lt_of_lt_of_le h.1 hb.size, fun k hk => ⟨(hb.cell (p := ⟨g, k * 2, none⟩) h.1).trans (h.2 k hk).1, (hb.cell (p := ⟨g, k * 2 + 1, none⟩) h.1).trans (h.2 k hk).2⟩⟩

/-- The least and the greatest coordinates. -/
def boxS : Int × Int × Int × Int → List (Int × Int) → Int × Int × Int × Int
  | b, [] => b
  | (p, q, r, s), c :: t => boxS (if c.1 < p then c.1 else p, if c.2 < q then c.2 else q, if r < c.1 then c.1 else r, if s < c.2 then c.2 else s) t

/-- box's memory: the result's block, the lowest cell's, the highest cell's. -/
structure BX (w : World) (R A B : Nat) (p q r s : Int) (wr : World) : Prop where
  b : Below w.heap.size w wr
  le : w.heap.size ≤ R ∧ w.heap.size ≤ A ∧ w.heap.size ≤ B
  ne : R ≠ A ∧ R ≠ B ∧ A ≠ B
  hR : wr.heap[R]? = some (.cells #[.int .i64 0, .int .i64 0, .int .i64 0, .int .i64 0] 29 (0, 0))
  hA : wr.heap[A]? = some (.cells #[.int .i64 p, .int .i64 q] 93 (0, 0))
  hB : wr.heap[B]? = some (.cells #[.int .i64 r, .int .i64 s] 93 (0, 0))

theorem size_alloc2 (w : World) (o o' : Obj) : ((w.alloc o).alloc o').heap.size = w.heap.size + 1 + 1 := by rw [World.size_alloc, World.size_alloc]
section
variable {w wr w2 : World} {R A B : Nat} {p q r s : Int} {L : List (Nat × Array Value × TypeId)}
theorem BX.of1 (h : Mem w ((B, #[.int .i64 r, .int .i64 s], 93) :: (A, #[.int .i64 p, .int .i64 q], 93) :: (R, #[.int .i64 0, .int .i64 0, .int .i64 0, .int .i64 0], 29) :: L) wr) : BX w R A B p q r s wr :=
  ⟨h.b, ⟨h.tail.tail.head_le, h.tail.head_le, h.head_le⟩, ⟨Nat.ne_of_lt h.tail.gt, Nat.ne_of_lt (Nat.lt_trans h.tail.gt h.gt), Nat.ne_of_lt h.gt⟩, (h.tail.tail.h _ (List.mem_cons_self ..)).2, (h.tail.h _ (List.mem_cons_self ..)).2, (h.h _ (List.mem_cons_self ..)).2⟩
theorem BX.of2 (h : Mem w ((A, #[.int .i64 p, .int .i64 q], 93) :: (B, #[.int .i64 r, .int .i64 s], 93) :: (R, #[.int .i64 0, .int .i64 0, .int .i64 0, .int .i64 0], 29) :: L) wr) : BX w R A B p q r s wr :=
  ⟨h.b, ⟨h.tail.tail.head_le, h.head_le, h.tail.head_le⟩, ⟨Nat.ne_of_lt (Nat.lt_trans h.tail.gt h.gt), Nat.ne_of_lt h.tail.gt, (Nat.ne_of_lt h.gt).symm⟩, (h.tail.tail.h _ (List.mem_cons_self ..)).2, (h.h _ (List.mem_cons_self ..)).2, (h.tail.h _ (List.mem_cons_self ..)).2⟩
theorem block_lt {w : World} {k : Nat} {o : Obj} (h : w.heap[k]? = some o) : k < w.heap.size := (Array.getElem?_eq_some_iff.1 h).1
theorem block_four {w : World} {H : Nat} {a b c d : Value} {T : TypeId} (h : w.heap[H]? = some (.cells #[a, b, c, d] T (0, 0))) : (w.cell? ⟨H, 0, none⟩ = some a ∧ w.cell? ⟨H, 1, none⟩ = some b ∧ w.cell? ⟨H, 2, none⟩ = some c ∧ w.cell? ⟨H, 3, none⟩ = some d) ∧ (w.frozen? ⟨H, 0, none⟩ = false ∧ w.frozen? ⟨H, 1, none⟩ = false ∧ w.frozen? ⟨H, 2, none⟩ = false ∧ w.frozen? ⟨H, 3, none⟩ = false) ∧ H < w.heap.size := by
  refine ⟨⟨?_, ?_, ?_, ?_⟩, ⟨?_, ?_, ?_, ?_⟩, block_lt h⟩
  · simp [World.cell?, h]
  · simp [World.cell?, h]
  · simp [World.cell?, h]
  · simp [World.cell?, h]
  · simp [World.frozen?, h]
  · simp [World.frozen?, h]
  · simp [World.frozen?, h]
  · simp [World.frozen?, h]
theorem BX.step (h : BX w R A B p q r s wr) (hb : Below wr.heap.size wr w2) : BX w R A B p q r s w2 :=
  ⟨h.b.trans (hb.mono h.b.size), h.le, h.ne, (hb.block _ (block_lt h.hR)).trans h.hR, (hb.block _ (block_lt h.hA)).trans h.hA, (hb.block _ (block_lt h.hB)).trans h.hB⟩
theorem BX.alloc (h : BX w R A B p q r s wr) (o : Obj) : BX w R A B p q r s (wr.alloc o) := h.step ((Below.refl _ _).alloc (Nat.le_refl _) _)
theorem heap_set2 {w : World} {A : Nat} {a b u v : Value} {T : TypeId} (h : w.heap[A]? = some (.cells #[a, b] T (0, 0))) : ((w.setCell ⟨A, 0, none⟩ u).setCell ⟨A, 1, none⟩ v).heap[A]? = some (.cells #[u, v] T (0, 0)) := by
  simp only [World.setCell, Array.getElem?_modify, h]
  simp
theorem heap_set2o {w : World} {A k : Nat} {u v : Value} (hk : k ≠ A) : ((w.setCell ⟨A, 0, none⟩ u).setCell ⟨A, 1, none⟩ v).heap[k]? = w.heap[k]? := by
  rw [Below.heap_setCell _ _ _ _ hk, Below.heap_setCell _ _ _ _ hk]
theorem BX.setA (h : BX w R A B p q r s wr) (p' q' : Int) : BX w R A B p' q' r s ((wr.setCell ⟨A, 0, none⟩ (.int .i64 p')).setCell ⟨A, 1, none⟩ (.int .i64 q')) :=
  ⟨(h.b.setCell h.le.2.1 _).setCell h.le.2.1 _, h.le, h.ne, (heap_set2o h.ne.1).trans h.hR, heap_set2 h.hA, (heap_set2o h.ne.2.2.symm).trans h.hB⟩
theorem BX.setB (h : BX w R A B p q r s wr) (r' s' : Int) : BX w R A B p q r' s' ((wr.setCell ⟨B, 0, none⟩ (.int .i64 r')).setCell ⟨B, 1, none⟩ (.int .i64 s')) :=
  ⟨(h.b.setCell h.le.2.2 _).setCell h.le.2.2 _, h.le, h.ne, (heap_set2o h.ne.2.1).trans h.hR, (heap_set2o h.ne.2.2).trans h.hA, heap_set2 h.hB⟩
theorem block_two' {w : World} {H : Nat} {u v : Value} {T : TypeId} (h : w.heap[H]? = some (.cells #[u, v] T (0, 0))) : w.cell? ⟨H, 0, none⟩ = some u ∧ w.cell? ⟨H, 1, none⟩ = some v ∧ w.frozen? ⟨H, 0, none⟩ = false ∧ w.frozen? ⟨H, 1, none⟩ = false ∧ H < w.heap.size := by
  refine ⟨(block_two h).1, (block_two h).2.1, ?_, ?_, (block_two h).2.2⟩
  · simp [World.frozen?, h]
  · simp [World.frozen?, h]
end

set_option maxRecDepth 100000 in
set_option maxHeartbeats 3200000 in
theorem box_any (g cap : Nat) (l : List (Int × Int)) (hl : 0 < l.length) (hl2 : l.length ≤ 2304) (hr : ∀ c ∈ l, (0 ≤ c.1 ∧ c.1 ≤ 48) ∧ 0 ≤ c.2 ∧ c.2 ≤ 48) (w : World) (h : CellS w g l) :
    Calls Try.prog 92 #[.slice (some ⟨g, 0, none⟩) l.length cap] w fun e w' => ∃ p q r s, e = .returned (.agg #[.int .i64 p, .int .i64 q, .int .i64 (r - p + 1), .int .i64 (s - q + 1)]) ∧ boxS (l[0].1, l[0].2, l[0].1, l[0].2) l = (p, q, r, s) ∧ Below w.heap.size w w' := by
  obtain ⟨r0, r1⟩ := h.2 0 hl
  obtain ⟨⟨cx, cy⟩, hc⟩ : ∃ c, c = l[0] := ⟨_, rfl⟩
  rw [← hc] at r0 r1 ⊢
  have hc0 := hr _ (List.getElem_mem hl)
  rw [← hc] at hc0
  simp only [Nat.zero_mul, Nat.zero_add] at r0 r1 hc0
  obtain ⟨⟨x1, x2⟩, y1, y2⟩ := hc0
  have HH := Lib.hid h
  have HR := Lib.hid hr
  have hg := h.1
  obtain ⟨FIN, hF⟩ : ∃ F, F = boxS (cx, cy, cx, cy) l := ⟨_, rfl⟩
  have HF := Lib.hid hF
  have hl' : (0 : Int) < l.length := by omega
  simp only
  rw [← hF]
  clear h hr hc hF
  go_enter Try.func92, Try.ntmps92
  go_upto_region 1 with fail
  go_cut [3, 4] (fun s3 s4 wx => ∃ A B : Nat, s3 = .pointer (some ⟨A, 0, none⟩) ∧ s4 = .pointer (some ⟨B, 0, none⟩) ∧ Hid (BX w w.heap.size A B cx cy cx cy wx))
  case first =>
    have hM := (Mem.nil w).alloc #[.int .i64 0, .int .i64 0, .int .i64 0, .int .i64 0] 29
    have HM := Lib.hid hM
    have HC9 : Hid (∀ w', Mem w [(w.heap.size, #[.int .i64 0, .int .i64 0, .int .i64 0, .int .i64 0], 29)] w' → Mem w [(w.heap.size, #[.int .i64 0, .int .i64 0, .int .i64 0, .int .i64 0], 29)] w' ∧ w'.cell? ⟨g, 0, none⟩ = some (.int .i64 cx) ∧ w'.cell? ⟨g, 1, none⟩ = some (.int .i64 cy)) :=
      Lib.hid (fun w' hm => ⟨hm, (hm.b.cell (p := ⟨g, 0, none⟩) hg).trans r0, (hm.b.cell (p := ⟨g, 1, none⟩) hg).trans r1⟩)
    clear r0 r1
    go_region_held3 (fun w' => Mem w [(w.heap.size, #[.int .i64 0, .int .i64 0, .int .i64 0, .int .i64 0], 29)] w' ∧ w'.cell? ⟨g, 0, none⟩ = some (.int .i64 cx) ∧ w'.cell? ⟨g, 1, none⟩ = some (.int .i64 cy))
      (first | (refine HC9.out _ ?_; repeat (first | exact HM.out | refine Mem.drew ?_ | refine Mem.skip ?_ _ | refine Mem.set_new2 ?_ (by simp) _ _)))
      (fail)
    all_goals go_wp2_with fail
    all_goals
      go_meet
      first
        | exact ⟨_, _, rfl, rfl, Lib.hid (BX.of1 ((HM.out.alloc_at (World.size_alloc _ _) _ _).alloc_at (size_alloc2 _ _ _) _ _).drew)⟩
        | exact ⟨_, _, rfl, rfl, Lib.hid (BX.of2 ((HM.out.alloc_at (World.size_alloc _ _) _ _).alloc_at (size_alloc2 _ _ _) _ _).drew)⟩
  case rest =>
  obtain ⟨A, B, rfl, rfl, HBX⟩ := hcut
  clear r0 r1
  go_wp2
  go_loopw [15] (fun i wr => ∃ (k : Nat) (p q r s : Int), k ≤ l.length ∧ i = .int .i64 k ∧ ((0 ≤ p ∧ p ≤ 48) ∧ (0 ≤ q ∧ q ≤ 48)) ∧ ((0 ≤ r ∧ r ≤ 48) ∧ (0 ≤ s ∧ s ≤ 48)) ∧ Hid (boxS (p, q, r, s) (l.drop k) = FIN) ∧ Hid (BX w w.heap.size A B p q r s wr)) (fun i _ => l.length - (intOf i).toNat)
  case atStart => exact ⟨0, cx, cy, cx, cy, Nat.zero_le _, rfl, ⟨⟨x1, x2⟩, y1, y2⟩, ⟨⟨x1, x2⟩, y1, y2⟩, Lib.hid HF.out.symm, HBX⟩
  case round =>
    obtain ⟨k, p, q, r, s, hk, rfl, ⟨⟨p1, p2⟩, q1, q2⟩, ⟨⟨rr1, rr2⟩, s1, s2⟩, HFL, HB⟩ := hrel
    obtain ⟨a0, a1, a2, a3, a4⟩ := block_two' HB.out.hA
    obtain ⟨b0, b1, b2, b3, b4⟩ := block_two' HB.out.hB
    have hAB := HB.out.ne.2.2
    by_cases hlt : k < l.length
    · have hcs := (HH.out.below HB.out.b)
      obtain ⟨d0, d1⟩ := hcs.2 k hlt
      have hd := hcs.1
      obtain ⟨⟨ux, uy⟩, hu⟩ : ∃ c, c = l[k] := ⟨_, rfl⟩
      have hub := HR.out _ (List.getElem_mem hlt)
      rw [← hu] at d0 d1 hub
      simp only at d0 d1 hub
      obtain ⟨⟨t1, t2⟩, t3, t4⟩ := hub
      have HFL2 : Hid (boxS (if ux < p then ux else p, if uy < q then uy else q, if r < ux then ux else r, if s < uy then uy else s) (l.drop (k + 1)) = FIN) := Lib.hid (by
        rw [← HFL.out, List.drop_eq_getElem_cons hlt, ← hu]; rfl)
      have hlt' : (k : Int) < l.length := by omega
      have hk0 : (0 : Int) ≤ k := by omega
      clear hcs hu
      go_wp2
      go_roundw
      case rel => exact ⟨k + 1, _, _, _, _, by omega, by go_num, ⟨⟨by split <;> omega, by split <;> omega⟩, by split <;> omega, by split <;> omega⟩, ⟨⟨by split <;> omega, by split <;> omega⟩, by split <;> omega, by split <;> omega⟩, HFL2, Lib.hid (((HB.out.setA _ _).setB _ _).alloc _)⟩
      case measure => simp [intOf]; omega
    · have HEND : Hid (FIN = (p, q, r, s)) := Lib.hid (by
        rw [← HFL.out, List.drop_eq_nil_of_le (by omega)]; rfl)
      have hlt' : ¬ (k : Int) < l.length := by omega
      obtain ⟨⟨z0, z1, z2, z3⟩, ⟨y0, y1, y2, y3⟩, z4⟩ := block_four HB.out.hR
      go_wp2
      refine bodyPost_ret (v := .agg #[.int .i64 p, .int .i64 q, .int .i64 (r - p + 1), .int .i64 (s - q + 1)]) (by simp [results, Try.results92, go_sem, z0, z1, z2, z3]) rfl ⟨_, _, _, _, rfl, HEND.out, ?_⟩
      exact (((HB.out.b.setCell (Nat.le_refl _) _).setCell (Nat.le_refl _) _).setCell (Nat.le_refl _) _).setCell (Nat.le_refl _) _

end Go.Proofs.Ytndhnpljdldlpab

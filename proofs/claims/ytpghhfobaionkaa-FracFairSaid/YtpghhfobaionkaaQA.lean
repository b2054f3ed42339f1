/- The reference's Over and Times. -/
import Derived.Test.YtpghhfobaionkaaQ
namespace Go.Proofs.Ytpghhfobaionkaa
open Go.RowKit

/-- A block of three cells, whatever they hold. -/
def IsBlk3 (w : World) (g : Nat) : Prop := ∃ c0 c1 c2 T, w.heap[g]? = some (.cells #[.bool c0, c1, c2] T (0, 0))

theorem IsBlk3.below {w w' : World} {g : Nat} (h : IsBlk3 w g) (hb : Below w.heap.size w w') : IsBlk3 w' g := by
  obtain ⟨c0, c1, c2, T, h⟩ := h
  exact ⟨c0, c1, c2, T, (hb.block g (Array.getElem?_eq_some_iff.1 h).1).trans h⟩

theorem IsBlk3.facts {w1 : World} {g : Nat} (h : IsBlk3 w1 g) : ∃ c0 c1 c2, w1.cell? ⟨g, 0, none⟩ = some (.bool c0) ∧ w1.cell? ⟨g, 1, none⟩ = some c1 ∧ w1.cell? ⟨g, 2, none⟩ = some c2 ∧
      w1.frozen? ⟨g, 0, none⟩ = false ∧ w1.frozen? ⟨g, 1, none⟩ = false ∧ w1.frozen? ⟨g, 2, none⟩ = false ∧ g < w1.heap.size := by
  obtain ⟨c0, c1, c2, T, hb⟩ := h
  have hlt : g < w1.heap.size := (Array.getElem?_eq_some_iff.1 hb).1
  have ec : ∀ j, w1.cell? ⟨g, j, none⟩ = #[.bool c0, c1, c2][j]? := fun j => by simp only [World.cell?]; rw [hb]; rfl
  have ef : ∀ j, w1.frozen? ⟨g, j, none⟩ = false := fun j => by simp only [World.frozen?]; rw [hb]; simp
  exact ⟨c0, c1, c2, ec 0, ec 1, ec 2, ef 0, ef 1, ef 2, hlt⟩

/-- What holds through the drawn region of a function of two rationals: nothing old has changed, the two boxes and the result's block are there. -/
def S2 (w : World) (x0 x1 x2 y0 y1 y2 : Value) (w' : World) : Prop :=
  Below w.heap.size w w' ∧ w'.heap[w.heap.size]? = some (.cells #[x0, x1, x2] 52 (0, 0)) ∧ w'.heap[w.heap.size + 1]? = some (.cells #[y0, y1, y2] 52 (0, 0)) ∧ IsBlk3 w' (w.heap.size + 1 + 1)

def S2L (w : World) (x0 x1 x2 y0 y1 y2 : Value) (w' : World) : Prop :=
  S2 w x0 x1 x2 y0 y1 y2 w' ∧ w'.cell? ⟨w.heap.size, 0, none⟩ = some x0 ∧ w'.cell? ⟨w.heap.size, 1, none⟩ = some x1 ∧ w'.cell? ⟨w.heap.size, 2, none⟩ = some x2 ∧
    w'.cell? ⟨w.heap.size + 1, 0, none⟩ = some y0 ∧ w'.cell? ⟨w.heap.size + 1, 1, none⟩ = some y1 ∧ w'.cell? ⟨w.heap.size + 1, 2, none⟩ = some y2

theorem cell_blk {w : World} {g : Nat} {c0 c1 c2 : Value} {T : TypeId} (h : w.heap[g]? = some (.cells #[c0, c1, c2] T (0, 0))) (j : Nat) : w.cell? ⟨g, j, none⟩ = #[c0, c1, c2][j]? := by
  simp only [World.cell?]; rw [h]; rfl

theorem S2.l {w : World} {x0 x1 x2 y0 y1 y2 : Value} {w' : World} (h : S2 w x0 x1 x2 y0 y1 y2 w') : S2L w x0 x1 x2 y0 y1 y2 w' :=
  ⟨h, cell_blk h.2.1 0, cell_blk h.2.1 1, cell_blk h.2.1 2, cell_blk h.2.2.1 0, cell_blk h.2.2.1 1, cell_blk h.2.2.1 2⟩

theorem S2.start (w : World) (x0 x1 x2 y0 y1 y2 : Value) (z0 : Bool) (z1 z2 : Value) (T : TypeId) :
    S2 w x0 x1 x2 y0 y1 y2 (((w.alloc (.cells #[x0, x1, x2] 52)).alloc (.cells #[y0, y1, y2] 52)).alloc (.cells #[.bool z0, z1, z2] T)) := by
  have e1 : (w.alloc (.cells #[x0, x1, x2] 52)).heap.size = w.heap.size + 1 := by simp
  have e2 : ((w.alloc (.cells #[x0, x1, x2] 52)).alloc (.cells #[y0, y1, y2] 52)).heap.size = w.heap.size + 1 + 1 := by simp
  refine ⟨(((Below.refl _ _).alloc (Nat.le_refl _) _).alloc (by simp) _).alloc (by simp; omega) _, ?_, ?_, ?_⟩
  · rw [Below.heap_alloc _ _ _ (by omega), Below.heap_alloc _ _ _ (by omega)]; exact heap_alloc_new w _
  · rw [Below.heap_alloc _ _ _ (by omega), ← e1]; exact heap_alloc_new _ _
  · exact ⟨z0, z1, z2, T, by rw [← e2]; exact heap_alloc_new _ _⟩

theorem S2.drew {w : World} {x0 x1 x2 y0 y1 y2 : Value} {w' : World} (h : S2 w x0 x1 x2 y0 y1 y2 w') : S2 w x0 x1 x2 y0 y1 y2 w'.drew := ⟨h.1.drew, h.2.1, h.2.2.1, h.2.2.2⟩

theorem S2.step {w : World} {x0 x1 x2 y0 y1 y2 : Value} {w1 w2 : World} (h : S2 w x0 x1 x2 y0 y1 y2 w1) (hb : Below w1.heap.size w1 w2) : S2 w x0 x1 x2 y0 y1 y2 w2 :=
  ⟨h.1.trans (hb.mono h.1.size), (hb.block _ (Array.getElem?_eq_some_iff.1 h.2.1).1).trans h.2.1, (hb.block _ (Array.getElem?_eq_some_iff.1 h.2.2.1).1).trans h.2.2.1, h.2.2.2.below hb⟩

theorem S2.b {w : World} {x0 x1 x2 y0 y1 y2 : Value} {w' : World} (h : S2 w x0 x1 x2 y0 y1 y2 w') : Below w.heap.size w w' := h.1

theorem S2.blk {w : World} {x0 x1 x2 y0 y1 y2 : Value} {w1 w2 : World} (h : S2 w x0 x1 x2 y0 y1 y2 w1) (hb : Below w1.heap.size w1 w2) : ∃ c0 c1 c2, w2.cell? ⟨w.heap.size + 1 + 1, 0, none⟩ = some (.bool c0) ∧ w2.cell? ⟨w.heap.size + 1 + 1, 1, none⟩ = some c1 ∧ w2.cell? ⟨w.heap.size + 1 + 1, 2, none⟩ = some c2 ∧
      w2.frozen? ⟨w.heap.size + 1 + 1, 0, none⟩ = false ∧ w2.frozen? ⟨w.heap.size + 1 + 1, 1, none⟩ = false ∧ w2.frozen? ⟨w.heap.size + 1 + 1, 2, none⟩ = false ∧ w.heap.size + 1 + 1 < w2.heap.size := (h.2.2.2.below hb).facts

theorem digs_len_mul (a b : Nat) : (digs (a * b)).length ≤ (digs a).length + (digs b).length := by
  rw [digs_length_le_iff, Nat.pow_add]
  exact Nat.mul_lt_mul'' (lt_pow_digs a) (lt_pow_digs b)

theorem S2.store {w : World} {x0 x1 x2 y0 y1 y2 : Value} {w1 : World} (h : S2 w x0 x1 x2 y0 y1 y2 w1) (a : Bool) (b c : Value) :
    S2 w x0 x1 x2 y0 y1 y2 (((w1.setCell ⟨w.heap.size + 1 + 1, 0, none⟩ (.bool a)).setCell ⟨w.heap.size + 1 + 1, 1, none⟩ b).setCell ⟨w.heap.size + 1 + 1, 2, none⟩ c) := by
  refine ⟨((h.1.setCell (by simp; omega) _).setCell (by simp; omega) _).setCell (by simp; omega) _, ?_, ?_, ?_⟩
  · rw [heap_set3 _ _ _ _ _ _ (by omega)]; exact h.2.1
  · rw [heap_set3 _ _ _ _ _ _ (by omega)]; exact h.2.2.1
  · obtain ⟨c0, c1, c2, T, hb⟩ := h.2.2.2
    refine ⟨a, b, c, T, ?_⟩
    simp only [World.setCell, Array.getElem?_modify, hb]
    simp

theorem IsQ.store {w1 : World} {g : Nat} {q : Rat} {a b c : Value} (h : IsQ w1 (.agg #[a, b, c]) q) (hg : ∀ n, w1.cell? ⟨g, 0, none⟩ ≠ some (.int .u32 n)) : IsQ (((w1.setCell ⟨g, 0, none⟩ a).setCell ⟨g, 1, none⟩ b).setCell ⟨g, 2, none⟩ c) (.agg #[a, b, c]) q := by
  obtain ⟨a1, a2, n1, n2, c1, c2, hx, h1, h2⟩ := h
  exact ⟨a1, a2, n1, n2, c1, c2, hx, IsDig.of_blocks h1 g hg (by simp [World.setCell]) (heap_set3 _ _ _ _ _), IsDig.of_blocks h2 g hg (by simp [World.setCell]) (heap_set3 _ _ _ _ _)⟩

set_option maxRecDepth 100000 in
set_option maxHeartbeats 1600000 in
theorem over_any (x y : Value) (p q : Rat) (hq : q ≠ 0) (w : World) (h : IsQ w x p) (g : IsQ w y q)
    (l1 : ((digs p.num.natAbs).length : Int) ≤ 10000000) (l2 : ((digs p.den).length : Int) ≤ 10000000) (l3 : ((digs q.num.natAbs).length : Int) ≤ 10000000) (l4 : ((digs q.den).length : Int) ≤ 10000000) :
    Calls Try.prog 40 #[x, y] w fun e w' => ∃ z, e = .returned z ∧ IsQ w' z (p / q) ∧ Below w.heap.size w w' := by
  obtain ⟨a1, a2, n1, n2, c1, c2, rfl, hx1, hx2⟩ := h
  obtain ⟨b1, b2, m1, m2, d1, d2, rfl, hy1, hy2⟩ := g
  generalize hpn : decide (p < 0) = pn
  generalize hqn : decide (q < 0) = qn
  have HN := Lib.hid (And.intro hpn hqn)
  have HX := Lib.hid (And.intro hx1 (And.intro hx2 (And.intro hy1 hy2)))
  have HL := Lib.hid (And.intro l1 (And.intro l2 (And.intro l3 l4)))
  clear hpn hqn hx1 hx2 hy1 hy2 l1 l2 l3 l4
  have HNE : Hid (p.den * q.num.natAbs ≠ 0) := Lib.hid (Nat.mul_ne_zero p.den_nz (by simpa [Rat.num_eq_zero] using hq))
  have HLL : Hid (((digs (p.num.natAbs * q.den)).length : Int) ≤ 100000000 ∧ ((digs (p.den * q.num.natAbs)).length : Int) ≤ 100000000) := Lib.hid (by
    have h1 := digs_len_mul p.num.natAbs q.den
    have h2 := digs_len_mul p.den q.num.natAbs
    have h3 := HL.out
    omega)
  go_enter Try.func40, Try.ntmps40
  go_wp2_with fail
  have hS0 := S2.start w (.bool pn) (.slice a1 n1 c1) (.slice a2 n2 c2) (.bool qn) (.slice b1 m1 d1) (.slice b2 m2 d2) false (.slice none 0 0) (.slice none 0 0) 52
  have HE := Lib.hid (S2.drew hS0).l
  clear hS0
  go_region_held3 (fun w' => S2 w (.bool pn) (.slice a1 n1 c1) (.slice a2 n2 c2) (.bool qn) (.slice b1 m1 d1) (.slice b2 m2 d2) w' ∧ w'.cell? ⟨w.heap.size, 0, none⟩ = some (.bool pn) ∧ w'.cell? ⟨w.heap.size, 1, none⟩ = some (.slice a1 n1 c1) ∧ w'.cell? ⟨w.heap.size, 2, none⟩ = some (.slice a2 n2 c2) ∧
      w'.cell? ⟨w.heap.size + 1, 0, none⟩ = some (.bool qn) ∧ w'.cell? ⟨w.heap.size + 1, 1, none⟩ = some (.slice b1 m1 d1) ∧ w'.cell? ⟨w.heap.size + 1, 2, none⟩ = some (.slice b2 m2 d2))
    (first | exact HE.out | (go_split_ands; exact (S2.step (by assumption) (by assumption)).l) | (go_split_ands; exact (S2.store (by assumption) _ _ _).l))
    (first
      | (go_at_call 35; go_split_ands; with_reducible (refine (times_any (.slice a1 n1 c1) (.slice b2 m2 d2) p.num.natAbs q.den _ (HX.out.1.below (S2.b (by assumption))) (HX.out.2.2.2.below (S2.b (by assumption))) (by have := HL.out.1; omega) (by have := HL.out.2.2.2; omega)).mono ?_); rintro e w1 ⟨z1, rfl, hz1, _, hb1⟩)
      | (go_at_call 35; go_split_ands; with_reducible (refine (times_any (.slice a2 n2 c2) (.slice b1 m1 d1) p.den q.num.natAbs _ (HX.out.2.1.below (S2.b (by assumption))) (HX.out.2.2.1.below (S2.b (by assumption))) (by have := HL.out.2.1; omega) (by have := HL.out.2.2.1; omega)).mono ?_); rintro e w2 ⟨z2, rfl, hz2, _, hb2⟩)
      | (go_at_call 36; go_split_ands; with_reducible (refine (calls_q (made_any (!(pn == qn)) z1 z2 (p.num.natAbs * q.den) (p.den * q.num.natAbs) HNE.out _ (IsNat.below hz1 hb2) hz2 HLL.out.1 HLL.out.2)).mono ?_); rintro e w3 ⟨e0, u1, k1, f1, u2, k2, f2, rfl, hq3, hb3⟩; obtain ⟨r0, r1, r2, hr0, hr1, hr2, hr3, hr4, hr5, hr6⟩ := S2.blk (by assumption) hb3))
  go_wp2
  refine bodyPost_ret (v := .agg #[.bool e0, .slice u1 k1 f1, .slice u2 k2 f2]) (by simp [results, Try.results40, go_sem, hr0, hr1, hr2]) rfl ⟨_, rfl, ?_, ?_⟩
  · rw [← mkQ_over HN.out.1 HN.out.2]
    exact hq3.store (fun n h => by rw [hr0] at h; cases h)
  · go_split_ands; exact S2.b (by assumption)

end Go.Proofs.Ytpghhfobaionkaa

/- The reference's Less, Order, Of. -/
import Derived.Test.YtpghhfobaionkaaQC
namespace Go.Proofs.Ytpghhfobaionkaa
open Go.RowKit

/-- Bounds on the digits of a rational. -/
structure LenQ (q : Rat) (k : Nat) : Prop where
  n : (digs q.num.natAbs).length ≤ k
  d : (digs q.den).length ≤ k

def ordQ (p q : Rat) : Int := if p < q then -1 else if q < p then 1 else 0

theorem ordQ_sub (p q : Rat) : sgnQ (p - q) = ordQ p q := by
  unfold ordQ sgnQ
  have h1 : p - q < 0 ↔ p < q := by grind
  have h2 : 0 < p - q ↔ q < p := by grind
  simp only [h1, h2]

theorem LenQ.int {n : Int} (h1 : -9223372036854775808 ≤ n) (h2 : n ≤ 9223372036854775807) : LenQ (n : Rat) 2 where
  n := digs_len2 (by show n.natAbs < _; omega)
  d := digs_len2 (by show 1 < _; decide)

/-- What holds through the drawn region of a function of one struct of two numbers with a rational result. -/
def S1 (w : World) (x0 x1 : Value) (T : TypeId) (w' : World) : Prop :=
  Below w.heap.size w w' ∧ w'.heap[w.heap.size]? = some (.cells #[x0, x1] T (0, 0)) ∧ IsBlk3 w' (w.heap.size + 1)

theorem cell_blk2 {w : World} {g : Nat} {c0 c1 : Value} {T : TypeId} (h : w.heap[g]? = some (.cells #[c0, c1] T (0, 0))) (j : Nat) : w.cell? ⟨g, j, none⟩ = #[c0, c1][j]? := by
  simp only [World.cell?]; rw [h]; rfl

theorem S1.l {w : World} {x0 x1 : Value} {T : TypeId} {w' : World} (h : S1 w x0 x1 T w') : S1 w x0 x1 T w' ∧ w'.cell? ⟨w.heap.size, 0, none⟩ = some x0 ∧ w'.cell? ⟨w.heap.size, 1, none⟩ = some x1 :=
  ⟨h, cell_blk2 h.2.1 0, cell_blk2 h.2.1 1⟩

theorem S1.start (w : World) (x0 x1 : Value) (T : TypeId) (z0 : Bool) (z1 z2 : Value) (T2 : TypeId) : S1 w x0 x1 T ((w.alloc (.cells #[x0, x1] T)).alloc (.cells #[.bool z0, z1, z2] T2)) := by
  have e1 : (w.alloc (.cells #[x0, x1] T)).heap.size = w.heap.size + 1 := by simp
  refine ⟨Below2 w _ _, ?_, ?_⟩
  · rw [Below.heap_alloc _ _ _ (by omega)]; exact heap_alloc_new w _
  · exact ⟨z0, z1, z2, T2, by rw [← e1]; exact heap_alloc_new _ _⟩

theorem S1.drew {w : World} {x0 x1 : Value} {T : TypeId} {w' : World} (h : S1 w x0 x1 T w') : S1 w x0 x1 T w'.drew := ⟨h.1.drew, h.2.1, h.2.2⟩

theorem S1.step {w : World} {x0 x1 : Value} {T : TypeId} {w1 w2 : World} (h : S1 w x0 x1 T w1) (hb : Below w1.heap.size w1 w2) : S1 w x0 x1 T w2 :=
  ⟨h.1.trans (hb.mono h.1.size), (hb.block _ (Array.getElem?_eq_some_iff.1 h.2.1).1).trans h.2.1, h.2.2.below hb⟩

theorem S1.b {w : World} {x0 x1 : Value} {T : TypeId} {w' : World} (h : S1 w x0 x1 T w') : Below w.heap.size w w' := h.1

theorem S1.blk {w : World} {x0 x1 : Value} {T : TypeId} {w1 w2 : World} (h : S1 w x0 x1 T w1) (hb : Below w1.heap.size w1 w2) : ∃ c0 c1 c2, w2.cell? ⟨w.heap.size + 1, 0, none⟩ = some (.bool c0) ∧ w2.cell? ⟨w.heap.size + 1, 1, none⟩ = some c1 ∧ w2.cell? ⟨w.heap.size + 1, 2, none⟩ = some c2 ∧
      w2.frozen? ⟨w.heap.size + 1, 0, none⟩ = false ∧ w2.frozen? ⟨w.heap.size + 1, 1, none⟩ = false ∧ w2.frozen? ⟨w.heap.size + 1, 2, none⟩ = false ∧ w.heap.size + 1 < w2.heap.size := (h.2.2.below hb).facts

theorem S1.store {w : World} {x0 x1 : Value} {T : TypeId} {w1 : World} (h : S1 w x0 x1 T w1) (a : Bool) (b c : Value) :
    S1 w x0 x1 T (((w1.setCell ⟨w.heap.size + 1, 0, none⟩ (.bool a)).setCell ⟨w.heap.size + 1, 1, none⟩ b).setCell ⟨w.heap.size + 1, 2, none⟩ c) := by
  refine ⟨((h.1.setCell (by simp) _).setCell (by simp) _).setCell (by simp) _, ?_, ?_⟩
  · rw [heap_set3 _ _ _ _ _ _ (by omega)]; exact h.2.1
  · obtain ⟨c0, c1, c2, T, hb⟩ := h.2.2
    refine ⟨a, b, c, T, ?_⟩
    simp only [World.setCell, Array.getElem?_modify, hb]
    simp

set_option maxRecDepth 100000 in
set_option maxHeartbeats 1600000 in
theorem of_any (n d : Int) (h1 : -9223372036854775808 ≤ n) (h2 : n ≤ 9223372036854775807) (h3 : -9223372036854775808 ≤ d) (h4 : d ≤ 9223372036854775807) (h0 : d ≠ 0) (w : World) :
    Calls Try.prog 26 #[.agg #[.int .i64 n, .int .i64 d]] w fun e w' => ∃ z, e = .returned z ∧ IsQ w' z ((n : Rat) / (d : Rat)) ∧ Below w.heap.size w w' := by
  have HL := Lib.hid (And.intro (LenQ.int h1 h2) (LenQ.int h3 h4))
  have HD : Hid ((d : Rat) ≠ 0) := Lib.hid (fun h => h0 (by exact_mod_cast h))
  go_enter Try.func26, Try.ntmps26
  go_wp2_with fail
  have hS0 := S1.start w (.int .i64 n) (.int .i64 d) 24 false (.slice none 0 0) (.slice none 0 0) 52
  have HE := Lib.hid (S1.drew hS0).l
  clear hS0
  go_region_held3 (fun w' => S1 w (.int .i64 n) (.int .i64 d) 24 w' ∧ w'.cell? ⟨w.heap.size, 0, none⟩ = some (.int .i64 n) ∧ w'.cell? ⟨w.heap.size, 1, none⟩ = some (.int .i64 d))
    (first | exact HE.out | (go_split_ands; exact (S1.step (by assumption) (by assumption)).l) | (go_split_ands; exact (S1.store (by assumption) _ _ _).l))
    (first
      | (go_at_call 41; go_split_ands; with_reducible (refine (int_any n h1 h2 _).mono ?_); rintro e w1 ⟨z1, rfl, hz1, hb1⟩)
      | (go_at_call 41; go_split_ands; with_reducible (refine (int_any d h3 h4 _).mono ?_); rintro e w2 ⟨z2, rfl, hz2, hb2⟩)
      | (go_at_call 40; go_split_ands; with_reducible (refine (calls_q (over_any z1 z2 (n : Rat) (d : Rat) HD.out _ (hz1.below hb2) hz2 (by have := HL.out.1.n; omega) (by have := HL.out.1.d; omega) (by have := HL.out.2.n; omega) (by have := HL.out.2.d; omega))).mono ?_); rintro e w5 ⟨e0, u1, k1, f1, u2, k2, f2, rfl, hq3, hb3⟩; obtain ⟨r0, r1, r2, hr0, hr1, hr2, hr3, hr4, hr5, hr6⟩ := S1.blk (by assumption) hb3))
  go_wp2
  refine bodyPost_ret (v := .agg #[.bool e0, .slice u1 k1 f1, .slice u2 k2 f2]) (by simp [results, Try.results26, go_sem, hr0, hr1, hr2]) rfl ⟨_, rfl, ?_, ?_⟩
  · exact hq3.store (fun n h => by rw [hr0] at h; cases h)
  · go_split_ands; exact S1.b (by assumption)

end Go.Proofs.Ytpghhfobaionkaa

/- The program's operations on ratios. -/
import Derived.Test.YtpghhfobaionkaaAll
namespace Go.Proofs.Ytpghhfobaionkaa
open Go.RowKit

theorem of_p (n d : Int) (w : World) :
    Calls Try.prog 32 #[.agg #[.int .i64 n, .int .i64 d]] w fun e w' => e = .returned (.agg #[.int .i64 n, .int .i64 d]) ∧ Below w.heap.size w w' := by
  go_enter Try.func32, Try.ntmps32
  go_wp2
  refine bodyPost_ret (v := .agg #[.int .i64 n, .int .i64 d]) (by simp [results, Try.results32, go_sem]) rfl ⟨rfl, Below2 _ _ _⟩

theorem Below3 (w : World) (a b c : Obj) : Below w.heap.size w (((w.alloc a).alloc b).alloc c) := (Below2 w a b).alloc (by simp; omega) _

set_option maxRecDepth 100000 in
theorem plus_r (n1 d1 n2 d2 : Int) (h1 : -2000000000000000000 ≤ n1 * d2 ∧ n1 * d2 ≤ 2000000000000000000) (h2 : -2000000000000000000 ≤ n2 * d1 ∧ n2 * d1 ≤ 2000000000000000000) (h3 : -2000000000000000000 ≤ d1 * d2 ∧ d1 * d2 ≤ 2000000000000000000) (w : World) :
    Calls Try.prog 22 #[.agg #[.int .i64 n1, .int .i64 d1], .agg #[.int .i64 n2, .int .i64 d2]] w fun e w' => e = .returned (.agg #[.int .i64 (n1 * d2 + n2 * d1), .int .i64 (d1 * d2)]) ∧ Below w.heap.size w w' := by
  obtain ⟨a1, a2⟩ := h1
  obtain ⟨b1, b2⟩ := h2
  obtain ⟨c1, c2⟩ := h3
  go_enter Try.func22, Try.ntmps22
  go_wp2
  refine bodyPost_ret (v := .agg #[.int .i64 (n1 * d2 + n2 * d1), .int .i64 (d1 * d2)]) (by simp [results, Try.results22, go_sem]) rfl ⟨rfl, Below3 _ _ _ _⟩

end Go.Proofs.Ytpghhfobaionkaa

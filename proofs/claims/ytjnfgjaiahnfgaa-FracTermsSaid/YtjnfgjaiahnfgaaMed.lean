/- The mediant: the program's and the reference's. -/
import Derived.Test.YtjnfgjaiahnfgaaOne
namespace Go.Proofs.Ytjnfgjaiahnfgaa
open Go.RowKit

set_option maxRecDepth 100000 in
theorem mediant_r (n1 d1 k n2 d2 : Int) (a1 : -2000000000000000000 ≤ k * n2) (a2 : k * n2 ≤ 2000000000000000000) (b1 : -2000000000000000000 ≤ k * d2) (b2 : k * d2 ≤ 2000000000000000000) (c1 : -2000000000000000000 ≤ n1) (c2 : n1 ≤ 2000000000000000000) (e1 : -2000000000000000000 ≤ d1) (e2 : d1 ≤ 2000000000000000000) (w : World) :
    Calls Try.prog 97 #[.agg #[.int .i64 n1, .int .i64 d1], .int .i64 k, .agg #[.int .i64 n2, .int .i64 d2]] w fun e w' => e = .returned (.agg #[.int .i64 (n1 + k * n2), .int .i64 (d1 + k * d2)]) ∧ Below w.heap.size w w' := by
  go_enter Try.func97, Try.ntmps97
  go_wp2
  refine bodyPost_ret (v := .agg #[.int .i64 (n1 + k * n2), .int .i64 (d1 + k * d2)]) (by simp [results, Try.results97, go_sem]) rfl ⟨rfl, Below3 _ _ _ _⟩

end Go.Proofs.Ytjnfgjaiahnfgaa

/- Pairs: the reference's Weigh. -/
import Derived.Test.YtchhadkmemckbabPaV
namespace Go.Proofs.Ytchhadkmemckbab
open Go.RowKit
set_option linter.unusedSimpArgs false
set_option linter.unusedVariables false

theorem wghE_take (ls rs : List Gl) (u : Ru) (m : List Int) : wghE (ls.take 34) (rs.take 34) u m = wghE ls rs u m := by
  by_cases h1 : sidB ls = true
  · by_cases h2 : sidB rs = true
    · rw [take34 h1, take34 h2]
    · unfold wghE
      rw [sid34, sid34, show sidB rs = false by simpa using h2, Bool.and_false, Bool.false_and]
      rfl
  · unfold wghE
    rw [sid34, sid34, show sidB ls = false by simpa using h1, Bool.false_and, Bool.false_and]
    rfl

end Go.Proofs.Ytchhadkmemckbab

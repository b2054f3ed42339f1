/-
  No cell of these rows narrows 'for every input' (looked for: loops, veiled, ifaces, maps, wideKeys, modest, calm, conditions, laid).
  DERIVED. THE GIVEN ROWS OF THIS SEAT. 6 by the template 'for every input the law returns true; each argument reads behind the call as it read before'; 0 by the template 'total and deterministic' (their statements: YtchhadkmemckbabTotals.lean).
  GIVEN WITH THE SEED: the statements are not yours to turn. If you find one false, say at which input.
  Laid BY PROGRAM, IN A SANDBOX (cutbox-rows.mjs): the forced cells as the released guide's own fill.sh prints them over the translation 349c7c55ccf8ff83… (all of the seat's roots in one cut). By AI agents, Wed Nov 11 2026. No macro, syntax, notation, axiom, sorry.
-/
import Derived.Test.YtchhadkmemckbabChecked
import GoSem.Claim
import GoSem.ClaimJoined
import GoSem.ClaimMapViews
import Derived.JoinedTies
import Derived.KernelRfl
namespace Go.Proofs.Ytchhadkmemckbab
/- THE CELL 'sum', in the pinned program and in every row, IS THE sha256 OF THE DUMP (.gsa) THAT YtchhadkmemckbabProg.lean LOADS. Nothing in Lean hashes anything: it is a label: what it is worth is what the hold of that sum in a sandbox is worth. -/
noncomputable def Try.pinned : Pinned := { name := "ytchhadkmemckbab", sum := "349c7c55ccf8ff836b3166e2561d88c70d32305cc6b67fa8a6b80debf7510918", checked := Try.checked }
namespace Rows
def none {H : Type} : Left H := { results := [], args := [] }

/-- 'tranklaw06.PairSides': WHATEVER THE INPUT: true; the input reads as it did. -/
def pairSidesSpec : ChangeSpec := { name := "pairSides", fn := fun _ => fun
  | [d1, d2, d3] => { results := [.lit (.bool true)], args := [d1, d2, d3] }
  | _ => none }
def pairSidesRow : OpenClaim := { program := "ytchhadkmemckbab", sum := "349c7c55ccf8ff836b3166e2561d88c70d32305cc6b67fa8a6b80debf7510918", func := "trank/tranklaw06.PairSides", spec := "pairSides", unfollowed := true, recurses := true, apart := false }
def PairSidesSaid : Prop := pairSidesRow.holds Try.pinned (OpenSpec.ofChange pairSidesSpec)

/-- ITS FALSE NEIGHBOUR: 'it returns false'. Refute it at one input. -/
def pairSidesWrong : ChangeSpec := { name := "pairSides", fn := fun _ => fun
  | [d1, d2, d3] => { results := [.lit (.bool false)], args := [d1, d2, d3] }
  | _ => none }
def PairSidesWrongFalsely : Prop := pairSidesRow.holds Try.pinned (OpenSpec.ofChange pairSidesWrong)

/-- 'tranklaw06.PairLimits': WHATEVER THE INPUT: true; the input reads as it did. -/
def pairLimitsSpec : ChangeSpec := { name := "pairLimits", fn := fun _ => fun
  | [d1, d2, d3, d4] => { results := [.lit (.bool true)], args := [d1, d2, d3, d4] }
  | _ => none }
def pairLimitsRow : OpenClaim := { program := "ytchhadkmemckbab", sum := "349c7c55ccf8ff836b3166e2561d88c70d32305cc6b67fa8a6b80debf7510918", func := "trank/tranklaw06.PairLimits", spec := "pairLimits", unfollowed := true, recurses := true, apart := false }
def PairLimitsSaid : Prop := pairLimitsRow.holds Try.pinned (OpenSpec.ofChange pairLimitsSpec)

/-- ITS FALSE NEIGHBOUR: 'it returns false'. Refute it at one input. -/
def pairLimitsWrong : ChangeSpec := { name := "pairLimits", fn := fun _ => fun
  | [d1, d2, d3, d4] => { results := [.lit (.bool false)], args := [d1, d2, d3, d4] }
  | _ => none }
def PairLimitsWrongFalsely : Prop := pairLimitsRow.holds Try.pinned (OpenSpec.ofChange pairLimitsWrong)

/-- 'tranklaw06.PairHeap': WHATEVER THE INPUT: true; the input reads as it did. -/
def pairHeapSpec : ChangeSpec := { name := "pairHeap", fn := fun _ => fun
  | [d1, d2] => { results := [.lit (.bool true)], args := [d1, d2] }
  | _ => none }
def pairHeapRow : OpenClaim := { program := "ytchhadkmemckbab", sum := "349c7c55ccf8ff836b3166e2561d88c70d32305cc6b67fa8a6b80debf7510918", func := "trank/tranklaw06.PairHeap", spec := "pairHeap", unfollowed := true, recurses := true, apart := false }
def PairHeapSaid : Prop := pairHeapRow.holds Try.pinned (OpenSpec.ofChange pairHeapSpec)

/-- ITS FALSE NEIGHBOUR: 'it returns false'. Refute it at one input. -/
def pairHeapWrong : ChangeSpec := { name := "pairHeap", fn := fun _ => fun
  | [d1, d2] => { results := [.lit (.bool false)], args := [d1, d2] }
  | _ => none }
def PairHeapWrongFalsely : Prop := pairHeapRow.holds Try.pinned (OpenSpec.ofChange pairHeapWrong)

/-- 'tranklaw06.PairPairs': WHATEVER THE INPUT: true; the input reads as it did. -/
def pairPairsSpec : ChangeSpec := { name := "pairPairs", fn := fun _ => fun
  | [d1, d2, d3] => { results := [.lit (.bool true)], args := [d1, d2, d3] }
  | _ => none }
def pairPairsRow : OpenClaim := { program := "ytchhadkmemckbab", sum := "349c7c55ccf8ff836b3166e2561d88c70d32305cc6b67fa8a6b80debf7510918", func := "trank/tranklaw06.PairPairs", spec := "pairPairs", unfollowed := true, recurses := true, apart := false }
def PairPairsSaid : Prop := pairPairsRow.holds Try.pinned (OpenSpec.ofChange pairPairsSpec)

/-- ITS FALSE NEIGHBOUR: 'it returns false'. Refute it at one input. -/
def pairPairsWrong : ChangeSpec := { name := "pairPairs", fn := fun _ => fun
  | [d1, d2, d3] => { results := [.lit (.bool false)], args := [d1, d2, d3] }
  | _ => none }
def PairPairsWrongFalsely : Prop := pairPairsRow.holds Try.pinned (OpenSpec.ofChange pairPairsWrong)

/-- 'tranklaw06.PairOdd': WHATEVER THE INPUT: true; the input reads as it did. -/
def pairOddSpec : ChangeSpec := { name := "pairOdd", fn := fun _ => fun
  | [d1, d2, d3, d4] => { results := [.lit (.bool true)], args := [d1, d2, d3, d4] }
  | _ => none }
def pairOddRow : OpenClaim := { program := "ytchhadkmemckbab", sum := "349c7c55ccf8ff836b3166e2561d88c70d32305cc6b67fa8a6b80debf7510918", func := "trank/tranklaw06.PairOdd", spec := "pairOdd", unfollowed := true, recurses := true, apart := false }
def PairOddSaid : Prop := pairOddRow.holds Try.pinned (OpenSpec.ofChange pairOddSpec)

/-- ITS FALSE NEIGHBOUR: 'it returns false'. Refute it at one input. -/
def pairOddWrong : ChangeSpec := { name := "pairOdd", fn := fun _ => fun
  | [d1, d2, d3, d4] => { results := [.lit (.bool false)], args := [d1, d2, d3, d4] }
  | _ => none }
def PairOddWrongFalsely : Prop := pairOddRow.holds Try.pinned (OpenSpec.ofChange pairOddWrong)

/-- 'tranktop.TopHeapMore': WHATEVER THE INPUT: true; the input reads as it did. -/
def topHeapMoreSpec : ChangeSpec := { name := "topHeapMore", fn := fun _ => fun
  | [d1, d2, d3] => { results := [.lit (.bool true)], args := [d1, d2, d3] }
  | _ => none }
def topHeapMoreRow : OpenClaim := { program := "ytchhadkmemckbab", sum := "349c7c55ccf8ff836b3166e2561d88c70d32305cc6b67fa8a6b80debf7510918", func := "trank/tranktop.TopHeapMore", spec := "topHeapMore", unfollowed := true, recurses := true, apart := false }
def TopHeapMoreSaid : Prop := topHeapMoreRow.holds Try.pinned (OpenSpec.ofChange topHeapMoreSpec)

/-- ITS FALSE NEIGHBOUR: 'it returns false'. Refute it at one input. -/
def topHeapMoreWrong : ChangeSpec := { name := "topHeapMore", fn := fun _ => fun
  | [d1, d2, d3] => { results := [.lit (.bool false)], args := [d1, d2, d3] }
  | _ => none }
def TopHeapMoreWrongFalsely : Prop := topHeapMoreRow.holds Try.pinned (OpenSpec.ofChange topHeapMoreWrong)

/- THE SECOND FORM. 'bulk': how many values and letters a reading holds, each counted each time it is reached (what is shared counts as often as it is met; a slice's spare places count too). A statement '..UptoSaid' is the law's where the arguments, and the package variables that the reading takes, are together of bulk at most 1048576: NARROWER than '..Said'. Prove '..Said' where nothing that the law and all that it calls make is longer than what came in: it says more and counts as full. Else prove '..UptoSaid'. A law counts once. -/
mutual
def uptoBulk {H : Type} : DataW H → Nat
  | .lit (.string bytes) => bytes.length + 1
  | .lit _ => 1
  | .nil => 1
  | .ptr d => uptoBulk d + 1
  | .slice elems spare => uptoBulkAll elems + uptoBulkAll spare + 1
  | .agg parts => uptoBulkAll parts + 1
  | .iface _ d => uptoBulk d + 1
  | .map entries => uptoBulkEntries entries + 1
  | .held _ => 1
def uptoBulkAll {H : Type} : List (DataW H) → Nat
  | [] => 0
  | d :: r => uptoBulk d + uptoBulkAll r
def uptoBulkEntries {H : Type} : List (Lit × DataW H) → Nat
  | [] => 0
  | x :: r => uptoBulkEntry x + uptoBulkEntries r
def uptoBulkEntry {H : Type} : Lit × DataW H → Nat
  | (.string bytes, d) => bytes.length + uptoBulk d + 1
  | (_, d) => uptoBulk d + 1
 end
def uptoSmall : (H : Type) → List (DataW H) → Bool := fun _ ds => decide (uptoBulkAll ds ≤ 1048576)
def OpenSpec.upto (s : _root_.Go.ChangeSpec) : _root_.Go.OpenSpec := { _root_.Go.OpenSpec.ofChange s with cond := some uptoSmall }

/-- 'tranklaw06.PairSides', WHERE WHAT IT READS IS OF BULK AT MOST 1048576: true; the input reads as it did. -/
def pairSidesUptoRow : OpenClaim := { program := "ytchhadkmemckbab", sum := "349c7c55ccf8ff836b3166e2561d88c70d32305cc6b67fa8a6b80debf7510918", func := "trank/tranklaw06.PairSides", spec := "pairSides", unfollowed := true, recurses := true, apart := false, narrowed := true }
def PairSidesUptoSaid : Prop := pairSidesUptoRow.holds Try.pinned (OpenSpec.upto pairSidesSpec)

/-- 'tranklaw06.PairLimits', WHERE WHAT IT READS IS OF BULK AT MOST 1048576: true; the input reads as it did. -/
def pairLimitsUptoRow : OpenClaim := { program := "ytchhadkmemckbab", sum := "349c7c55ccf8ff836b3166e2561d88c70d32305cc6b67fa8a6b80debf7510918", func := "trank/tranklaw06.PairLimits", spec := "pairLimits", unfollowed := true, recurses := true, apart := false, narrowed := true }
def PairLimitsUptoSaid : Prop := pairLimitsUptoRow.holds Try.pinned (OpenSpec.upto pairLimitsSpec)

/-- 'tranklaw06.PairHeap', WHERE WHAT IT READS IS OF BULK AT MOST 1048576: true; the input reads as it did. -/
def pairHeapUptoRow : OpenClaim := { program := "ytchhadkmemckbab", sum := "349c7c55ccf8ff836b3166e2561d88c70d32305cc6b67fa8a6b80debf7510918", func := "trank/tranklaw06.PairHeap", spec := "pairHeap", unfollowed := true, recurses := true, apart := false, narrowed := true }
def PairHeapUptoSaid : Prop := pairHeapUptoRow.holds Try.pinned (OpenSpec.upto pairHeapSpec)

/-- 'tranklaw06.PairPairs', WHERE WHAT IT READS IS OF BULK AT MOST 1048576: true; the input reads as it did. -/
def pairPairsUptoRow : OpenClaim := { program := "ytchhadkmemckbab", sum := "349c7c55ccf8ff836b3166e2561d88c70d32305cc6b67fa8a6b80debf7510918", func := "trank/tranklaw06.PairPairs", spec := "pairPairs", unfollowed := true, recurses := true, apart := false, narrowed := true }
def PairPairsUptoSaid : Prop := pairPairsUptoRow.holds Try.pinned (OpenSpec.upto pairPairsSpec)

/-- 'tranklaw06.PairOdd', WHERE WHAT IT READS IS OF BULK AT MOST 1048576: true; the input reads as it did. -/
def pairOddUptoRow : OpenClaim := { program := "ytchhadkmemckbab", sum := "349c7c55ccf8ff836b3166e2561d88c70d32305cc6b67fa8a6b80debf7510918", func := "trank/tranklaw06.PairOdd", spec := "pairOdd", unfollowed := true, recurses := true, apart := false, narrowed := true }
def PairOddUptoSaid : Prop := pairOddUptoRow.holds Try.pinned (OpenSpec.upto pairOddSpec)

/-- 'tranktop.TopHeapMore', WHERE WHAT IT READS IS OF BULK AT MOST 1048576: true; the input reads as it did. -/
def topHeapMoreUptoRow : OpenClaim := { program := "ytchhadkmemckbab", sum := "349c7c55ccf8ff836b3166e2561d88c70d32305cc6b67fa8a6b80debf7510918", func := "trank/tranktop.TopHeapMore", spec := "topHeapMore", unfollowed := true, recurses := true, apart := false, narrowed := true }
def TopHeapMoreUptoSaid : Prop := topHeapMoreUptoRow.holds Try.pinned (OpenSpec.upto topHeapMoreSpec)

end Rows
end Go.Proofs.Ytchhadkmemckbab

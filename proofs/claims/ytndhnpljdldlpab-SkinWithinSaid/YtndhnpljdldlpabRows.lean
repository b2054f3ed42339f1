/-
  No cell of these rows narrows 'for every input' (looked for: loops, veiled, ifaces, maps, wideKeys, modest, calm, conditions, laid).
  DERIVED. THE GIVEN ROWS OF THIS SEAT. 5 by the template 'for every input the law returns true; each argument reads behind the call as it read before'; 0 by the template 'total and deterministic' (their statements: YtndhnpljdldlpabTotals.lean).
  GIVEN WITH THE SEED: the statements are not yours to turn. If you find one false, say at which input.
  Laid BY PROGRAM, IN A SANDBOX (cutbox-rows.mjs): the forced cells as the released guide's own fill.sh prints them over the translation 1b171de7b05eefb8… (all of the seat's roots in one cut). By AI agents, Wed Nov 11 2026. No macro, syntax, notation, axiom, sorry.
-/
import Derived.Test.YtndhnpljdldlpabChecked
import GoSem.Claim
import GoSem.ClaimJoined
import GoSem.ClaimMapViews
import Derived.JoinedTies
import Derived.KernelRfl
namespace Go.Proofs.Ytndhnpljdldlpab
/- THE CELL 'sum', in the pinned program and in every row, IS THE sha256 OF THE DUMP (.gsa) THAT YtndhnpljdldlpabProg.lean LOADS. Nothing in Lean hashes anything: it is a label: what it is worth is what the hold of that sum in a sandbox is worth. -/
noncomputable def Try.pinned : Pinned := { name := "ytndhnpljdldlpab", sum := "1b171de7b05eefb881872a09a5fb80492e5ca1ecbfbc13fcc8c065418841db8f", checked := Try.checked }
namespace Rows
def none {H : Type} : Left H := { results := [], args := [] }

/-- 'tranklaw03.SkinMaximal': WHATEVER THE INPUT: true; the input reads as it did. -/
def skinMaximalSpec : ChangeSpec := { name := "skinMaximal", fn := fun _ => fun
  | [d1, d2] => { results := [.lit (.bool true)], args := [d1, d2] }
  | _ => none }
def skinMaximalRow : OpenClaim := { program := "ytndhnpljdldlpab", sum := "1b171de7b05eefb881872a09a5fb80492e5ca1ecbfbc13fcc8c065418841db8f", func := "trank/tranklaw03.SkinMaximal", spec := "skinMaximal", unfollowed := true, recurses := true, plainKeys := false, apart := false }
def SkinMaximalSaid : Prop := skinMaximalRow.holds Try.pinned (OpenSpec.ofChange skinMaximalSpec)

/-- ITS FALSE NEIGHBOUR: 'it returns false'. Refute it at one input. -/
def skinMaximalWrong : ChangeSpec := { name := "skinMaximal", fn := fun _ => fun
  | [d1, d2] => { results := [.lit (.bool false)], args := [d1, d2] }
  | _ => none }
def SkinMaximalWrongFalsely : Prop := skinMaximalRow.holds Try.pinned (OpenSpec.ofChange skinMaximalWrong)

/-- 'tranklaw03.SkinWithin': WHATEVER THE INPUT: true; the input reads as it did. -/
def skinWithinSpec : ChangeSpec := { name := "skinWithin", fn := fun _ => fun
  | [d1, d2, d3] => { results := [.lit (.bool true)], args := [d1, d2, d3] }
  | _ => none }
def skinWithinRow : OpenClaim := { program := "ytndhnpljdldlpab", sum := "1b171de7b05eefb881872a09a5fb80492e5ca1ecbfbc13fcc8c065418841db8f", func := "trank/tranklaw03.SkinWithin", spec := "skinWithin", unfollowed := true, recurses := true, plainKeys := false, apart := false }
def SkinWithinSaid : Prop := skinWithinRow.holds Try.pinned (OpenSpec.ofChange skinWithinSpec)

/-- ITS FALSE NEIGHBOUR: 'it returns false'. Refute it at one input. -/
def skinWithinWrong : ChangeSpec := { name := "skinWithin", fn := fun _ => fun
  | [d1, d2, d3] => { results := [.lit (.bool false)], args := [d1, d2, d3] }
  | _ => none }
def SkinWithinWrongFalsely : Prop := skinWithinRow.holds Try.pinned (OpenSpec.ofChange skinWithinWrong)

/-- 'tranklaw03.SkinFewest': WHATEVER THE INPUT: true; the input reads as it did. -/
def skinFewestSpec : ChangeSpec := { name := "skinFewest", fn := fun _ => fun
  | [d1, d2] => { results := [.lit (.bool true)], args := [d1, d2] }
  | _ => none }
def skinFewestRow : OpenClaim := { program := "ytndhnpljdldlpab", sum := "1b171de7b05eefb881872a09a5fb80492e5ca1ecbfbc13fcc8c065418841db8f", func := "trank/tranklaw03.SkinFewest", spec := "skinFewest", unfollowed := true, recurses := true, plainKeys := false, apart := false }
def SkinFewestSaid : Prop := skinFewestRow.holds Try.pinned (OpenSpec.ofChange skinFewestSpec)

/-- ITS FALSE NEIGHBOUR: 'it returns false'. Refute it at one input. -/
def skinFewestWrong : ChangeSpec := { name := "skinFewest", fn := fun _ => fun
  | [d1, d2] => { results := [.lit (.bool false)], args := [d1, d2] }
  | _ => none }
def SkinFewestWrongFalsely : Prop := skinFewestRow.holds Try.pinned (OpenSpec.ofChange skinFewestWrong)

/-- 'tranklaw03.SkinLeast': WHATEVER THE INPUT: true; the input reads as it did. -/
def skinLeastSpec : ChangeSpec := { name := "skinLeast", fn := fun _ => fun
  | [d1, d2] => { results := [.lit (.bool true)], args := [d1, d2] }
  | _ => none }
def skinLeastRow : OpenClaim := { program := "ytndhnpljdldlpab", sum := "1b171de7b05eefb881872a09a5fb80492e5ca1ecbfbc13fcc8c065418841db8f", func := "trank/tranklaw03.SkinLeast", spec := "skinLeast", unfollowed := true, recurses := true, plainKeys := false, apart := false }
def SkinLeastSaid : Prop := skinLeastRow.holds Try.pinned (OpenSpec.ofChange skinLeastSpec)

/-- ITS FALSE NEIGHBOUR: 'it returns false'. Refute it at one input. -/
def skinLeastWrong : ChangeSpec := { name := "skinLeast", fn := fun _ => fun
  | [d1, d2] => { results := [.lit (.bool false)], args := [d1, d2] }
  | _ => none }
def SkinLeastWrongFalsely : Prop := skinLeastRow.holds Try.pinned (OpenSpec.ofChange skinLeastWrong)

/-- 'tranklaw03.SkinAround': WHATEVER THE INPUT: true; the input reads as it did. -/
def skinAroundSpec : ChangeSpec := { name := "skinAround", fn := fun _ => fun
  | [d1, d2, d3] => { results := [.lit (.bool true)], args := [d1, d2, d3] }
  | _ => none }
def skinAroundRow : OpenClaim := { program := "ytndhnpljdldlpab", sum := "1b171de7b05eefb881872a09a5fb80492e5ca1ecbfbc13fcc8c065418841db8f", func := "trank/tranklaw03.SkinAround", spec := "skinAround", unfollowed := true, recurses := true, plainKeys := false, apart := false }
def SkinAroundSaid : Prop := skinAroundRow.holds Try.pinned (OpenSpec.ofChange skinAroundSpec)

/-- ITS FALSE NEIGHBOUR: 'it returns false'. Refute it at one input. -/
def skinAroundWrong : ChangeSpec := { name := "skinAround", fn := fun _ => fun
  | [d1, d2, d3] => { results := [.lit (.bool false)], args := [d1, d2, d3] }
  | _ => none }
def SkinAroundWrongFalsely : Prop := skinAroundRow.holds Try.pinned (OpenSpec.ofChange skinAroundWrong)

/- THE SECOND FORM. 'bulk': how many values and letters a reading holds, each counted each time it is reached (what is shared counts as often as it is met; a slice's spare places count too). A statement '..UptoSaid' is the law's where the arguments, and the package variables that the reading takes, are together of bulk at most 1048576: NARROWER than '..Said'. Prove '..Said' where nothing that the law and all that it calls make is longer than what came in: it says more and counts as full. Else prove '..UptoSaid'. A law counts once. -/
mutual
def uptoBulk {H : Type} : DataW H → Nat
  | .lit (.string bytes) => bytes.length + 1
  | .lit _ => 1
  | .nil => 1
  | .ptr d => uptoBulk d + 1
  | .slice elems spare => uptoBulkAll elems + uptoBulkAll spare + 1
  | .agg parts => uptoBulkAll parts + 1
  | .iface _ d => uptoBulk d + 1
  | .map entries => uptoBulkEntries entries + 1
  | .held _ => 1
def uptoBulkAll {H : Type} : List (DataW H) → Nat
  | [] => 0
  | d :: r => uptoBulk d + uptoBulkAll r
def uptoBulkEntries {H : Type} : List (Lit × DataW H) → Nat
  | [] => 0
  | x :: r => uptoBulkEntry x + uptoBulkEntries r
def uptoBulkEntry {H : Type} : Lit × DataW H → Nat
  | (.string bytes, d) => bytes.length + uptoBulk d + 1
  | (_, d) => uptoBulk d + 1
 end
def uptoSmall : (H : Type) → List (DataW H) → Bool := fun _ ds => decide (uptoBulkAll ds ≤ 1048576)
def OpenSpec.upto (s : _root_.Go.ChangeSpec) : _root_.Go.OpenSpec := { _root_.Go.OpenSpec.ofChange s with cond := some uptoSmall }

/-- 'tranklaw03.SkinMaximal', WHERE WHAT IT READS IS OF BULK AT MOST 1048576: true; the input reads as it did. -/
def skinMaximalUptoRow : OpenClaim := { program := "ytndhnpljdldlpab", sum := "1b171de7b05eefb881872a09a5fb80492e5ca1ecbfbc13fcc8c065418841db8f", func := "trank/tranklaw03.SkinMaximal", spec := "skinMaximal", unfollowed := true, recurses := true, plainKeys := false, apart := false, narrowed := true }
def SkinMaximalUptoSaid : Prop := skinMaximalUptoRow.holds Try.pinned (OpenSpec.upto skinMaximalSpec)

/-- 'tranklaw03.SkinWithin', WHERE WHAT IT READS IS OF BULK AT MOST 1048576: true; the input reads as it did. -/
def skinWithinUptoRow : OpenClaim := { program := "ytndhnpljdldlpab", sum := "1b171de7b05eefb881872a09a5fb80492e5ca1ecbfbc13fcc8c065418841db8f", func := "trank/tranklaw03.SkinWithin", spec := "skinWithin", unfollowed := true, recurses := true, plainKeys := false, apart := false, narrowed := true }
def SkinWithinUptoSaid : Prop := skinWithinUptoRow.holds Try.pinned (OpenSpec.upto skinWithinSpec)

/-- 'tranklaw03.SkinFewest', WHERE WHAT IT READS IS OF BULK AT MOST 1048576: true; the input reads as it did. -/
def skinFewestUptoRow : OpenClaim := { program := "ytndhnpljdldlpab", sum := "1b171de7b05eefb881872a09a5fb80492e5ca1ecbfbc13fcc8c065418841db8f", func := "trank/tranklaw03.SkinFewest", spec := "skinFewest", unfollowed := true, recurses := true, plainKeys := false, apart := false, narrowed := true }
def SkinFewestUptoSaid : Prop := skinFewestUptoRow.holds Try.pinned (OpenSpec.upto skinFewestSpec)

/-- 'tranklaw03.SkinLeast', WHERE WHAT IT READS IS OF BULK AT MOST 1048576: true; the input reads as it did. -/
def skinLeastUptoRow : OpenClaim := { program := "ytndhnpljdldlpab", sum := "1b171de7b05eefb881872a09a5fb80492e5ca1ecbfbc13fcc8c065418841db8f", func := "trank/tranklaw03.SkinLeast", spec := "skinLeast", unfollowed := true, recurses := true, plainKeys := false, apart := false, narrowed := true }
def SkinLeastUptoSaid : Prop := skinLeastUptoRow.holds Try.pinned (OpenSpec.upto skinLeastSpec)

/-- 'tranklaw03.SkinAround', WHERE WHAT IT READS IS OF BULK AT MOST 1048576: true; the input reads as it did. -/
def skinAroundUptoRow : OpenClaim := { program := "ytndhnpljdldlpab", sum := "1b171de7b05eefb881872a09a5fb80492e5ca1ecbfbc13fcc8c065418841db8f", func := "trank/tranklaw03.SkinAround", spec := "skinAround", unfollowed := true, recurses := true, plainKeys := false, apart := false, narrowed := true }
def SkinAroundUptoSaid : Prop := skinAroundUptoRow.holds Try.pinned (OpenSpec.upto skinAroundSpec)

end Rows
end Go.Proofs.Ytndhnpljdldlpab

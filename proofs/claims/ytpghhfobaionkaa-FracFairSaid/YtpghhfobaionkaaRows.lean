/-
  No cell of these rows narrows 'for every input' (looked for: loops, veiled, ifaces, maps, wideKeys, modest, calm, conditions, laid).
  DERIVED. THE GIVEN ROWS OF THIS SEAT. 3 by the template 'for every input the law returns true; each argument reads behind the call as it read before'; 0 by the template 'total and deterministic' (their statements: YtpghhfobaionkaaTotals.lean).
  GIVEN WITH THE SEED: the statements are not yours to turn. If you find one false, say at which input.
  Laid BY PROGRAM, IN A SANDBOX (cutbox-rows.mjs): the forced cells as the released guide's own fill.sh prints them over the translation 98fa10e296e19f87… (all of the seat's roots in one cut). By AI agents, Wed Nov 11 2026. No macro, syntax, notation, axiom, sorry.
-/
import Derived.Test.YtpghhfobaionkaaChecked
import GoSem.Claim
import GoSem.ClaimJoined
import GoSem.ClaimMapViews
import Derived.JoinedTies
import Derived.KernelRfl
namespace Go.Proofs.Ytpghhfobaionkaa
/- THE CELL 'sum', in the pinned program and in every row, IS THE sha256 OF THE DUMP (.gsa) THAT YtpghhfobaionkaaProg.lean LOADS. Nothing in Lean hashes anything: it is a label: what it is worth is what the hold of that sum in a sandbox is worth. -/
noncomputable def Try.pinned : Pinned := { name := "ytpghhfobaionkaa", sum := "98fa10e296e19f8721287a40b3a576b736c7926ff1d65d9c237554651822f7c9", checked := Try.checked }
namespace Rows
def none {H : Type} : Left H := { results := [], args := [] }

/-- 'tranklaw01.FracSums': WHATEVER THE INPUT: true; the input reads as it did. -/
def fracSumsSpec : ChangeSpec := { name := "fracSums", fn := fun _ => fun
  | [d] => { results := [.lit (.bool true)], args := [d] }
  | _ => none }
def fracSumsRow : OpenClaim := { program := "ytpghhfobaionkaa", sum := "98fa10e296e19f8721287a40b3a576b736c7926ff1d65d9c237554651822f7c9", func := "trank/tranklaw01.FracSums", spec := "fracSums", unfollowed := true, recurses := true, apart := false }
def FracSumsSaid : Prop := fracSumsRow.holds Try.pinned (OpenSpec.ofChange fracSumsSpec)

/-- ITS FALSE NEIGHBOUR: 'it returns false'. Refute it at one input. -/
def fracSumsWrong : ChangeSpec := { name := "fracSums", fn := fun _ => fun
  | [d] => { results := [.lit (.bool false)], args := [d] }
  | _ => none }
def FracSumsWrongFalsely : Prop := fracSumsRow.holds Try.pinned (OpenSpec.ofChange fracSumsWrong)

/-- 'tranklaw01.FracShares': WHATEVER THE INPUT: true; the input reads as it did. -/
def fracSharesSpec : ChangeSpec := { name := "fracShares", fn := fun _ => fun
  | [d1, d2] => { results := [.lit (.bool true)], args := [d1, d2] }
  | _ => none }
def fracSharesRow : OpenClaim := { program := "ytpghhfobaionkaa", sum := "98fa10e296e19f8721287a40b3a576b736c7926ff1d65d9c237554651822f7c9", func := "trank/tranklaw01.FracShares", spec := "fracShares", unfollowed := true, recurses := true, apart := false }
def FracSharesSaid : Prop := fracSharesRow.holds Try.pinned (OpenSpec.ofChange fracSharesSpec)

/-- ITS FALSE NEIGHBOUR: 'it returns false'. Refute it at one input. -/
def fracSharesWrong : ChangeSpec := { name := "fracShares", fn := fun _ => fun
  | [d1, d2] => { results := [.lit (.bool false)], args := [d1, d2] }
  | _ => none }
def FracSharesWrongFalsely : Prop := fracSharesRow.holds Try.pinned (OpenSpec.ofChange fracSharesWrong)

/-- 'tranklaw01.FracFair': WHATEVER THE INPUT: true; the input reads as it did. -/
def fracFairSpec : ChangeSpec := { name := "fracFair", fn := fun _ => fun
  | [d1, d2] => { results := [.lit (.bool true)], args := [d1, d2] }
  | _ => none }
def fracFairRow : OpenClaim := { program := "ytpghhfobaionkaa", sum := "98fa10e296e19f8721287a40b3a576b736c7926ff1d65d9c237554651822f7c9", func := "trank/tranklaw01.FracFair", spec := "fracFair", unfollowed := true, recurses := true, apart := false }
def FracFairSaid : Prop := fracFairRow.holds Try.pinned (OpenSpec.ofChange fracFairSpec)

/-- ITS FALSE NEIGHBOUR: 'it returns false'. Refute it at one input. -/
def fracFairWrong : ChangeSpec := { name := "fracFair", fn := fun _ => fun
  | [d1, d2] => { results := [.lit (.bool false)], args := [d1, d2] }
  | _ => none }
def FracFairWrongFalsely : Prop := fracFairRow.holds Try.pinned (OpenSpec.ofChange fracFairWrong)

/- THE SECOND FORM. 'bulk': how many values and letters a reading holds, each counted each time it is reached (what is shared counts as often as it is met; a slice's spare places count too). A statement '..UptoSaid' is the law's where the arguments, and the package variables that the reading takes, are together of bulk at most 1048576: NARROWER than '..Said'. Prove '..Said' where nothing that the law and all that it calls make is longer than what came in: it says more and counts as full. Else prove '..UptoSaid'. A law counts once. -/
mutual
def uptoBulk {H : Type} : DataW H → Nat
  | .lit (.string bytes) => bytes.length + 1
  | .lit _ => 1
  | .nil => 1
  | .ptr d => uptoBulk d + 1
  | .slice elems spare => uptoBulkAll elems + uptoBulkAll spare + 1
  | .agg parts => uptoBulkAll parts + 1
  | .iface _ d => uptoBulk d + 1
  | .map entries => uptoBulkEntries entries + 1
  | .held _ => 1
def uptoBulkAll {H : Type} : List (DataW H) → Nat
  | [] => 0
  | d :: r => uptoBulk d + uptoBulkAll r
def uptoBulkEntries {H : Type} : List (Lit × DataW H) → Nat
  | [] => 0
  | x :: r => uptoBulkEntry x + uptoBulkEntries r
def uptoBulkEntry {H : Type} : Lit × DataW H → Nat
  | (.string bytes, d) => bytes.length + uptoBulk d + 1
  | (_, d) => uptoBulk d + 1
 end
def uptoSmall : (H : Type) → List (DataW H) → Bool := fun _ ds => decide (uptoBulkAll ds ≤ 1048576)
def OpenSpec.upto (s : _root_.Go.ChangeSpec) : _root_.Go.OpenSpec := { _root_.Go.OpenSpec.ofChange s with cond := some uptoSmall }

/-- 'tranklaw01.FracSums', WHERE WHAT IT READS IS OF BULK AT MOST 1048576: true; the input reads as it did. -/
def fracSumsUptoRow : OpenClaim := { program := "ytpghhfobaionkaa", sum := "98fa10e296e19f8721287a40b3a576b736c7926ff1d65d9c237554651822f7c9", func := "trank/tranklaw01.FracSums", spec := "fracSums", unfollowed := true, recurses := true, apart := false, narrowed := true }
def FracSumsUptoSaid : Prop := fracSumsUptoRow.holds Try.pinned (OpenSpec.upto fracSumsSpec)

/-- 'tranklaw01.FracShares', WHERE WHAT IT READS IS OF BULK AT MOST 1048576: true; the input reads as it did. -/
def fracSharesUptoRow : OpenClaim := { program := "ytpghhfobaionkaa", sum := "98fa10e296e19f8721287a40b3a576b736c7926ff1d65d9c237554651822f7c9", func := "trank/tranklaw01.FracShares", spec := "fracShares", unfollowed := true, recurses := true, apart := false, narrowed := true }
def FracSharesUptoSaid : Prop := fracSharesUptoRow.holds Try.pinned (OpenSpec.upto fracSharesSpec)

/-- 'tranklaw01.FracFair', WHERE WHAT IT READS IS OF BULK AT MOST 1048576: true; the input reads as it did. -/
def fracFairUptoRow : OpenClaim := { program := "ytpghhfobaionkaa", sum := "98fa10e296e19f8721287a40b3a576b736c7926ff1d65d9c237554651822f7c9", func := "trank/tranklaw01.FracFair", spec := "fracFair", unfollowed := true, recurses := true, apart := false, narrowed := true }
def FracFairUptoSaid : Prop := fracFairUptoRow.holds Try.pinned (OpenSpec.upto fracFairSpec)

end Rows
end Go.Proofs.Ytpghhfobaionkaa

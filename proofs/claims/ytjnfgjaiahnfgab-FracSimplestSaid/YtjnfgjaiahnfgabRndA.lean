/- Round and RoundTo of the program. -/
import Derived.Test.YtjnfgjaiahnfgabRnd
namespace Go.Proofs.Ytjnfgjaiahnfgab
open Go.RowKit

def modeB (m : Int) : Bool := decide (0 ≤ m) && decide (m ≤ 4)
theorem modeB_iff (m : Int) : modeB m = true ↔ 0 ≤ m ∧ m ≤ 4 := by simp [modeB]

/-- What Round answers. -/
noncomputable def rndS (n d m : Int) : Int × Int := if vfB n d = true ∧ modeB m = true then (rndI m n d, 0) else (0, 2)
theorem rndS_yes {n d m : Int} (h : VF n d) (hm : modeB m = true) : rndS n d m = (rndI m n d, 0) := by unfold rndS; rw [if_pos ⟨(vfB_iff n d).2 h, hm⟩]
theorem rndS_no {n d m : Int} (h : ¬ (VF n d ∧ modeB m = true)) : rndS n d m = (0, 2) := by unfold rndS; rw [if_neg (fun h2 => h ⟨(vfB_iff n d).1 h2.1, h2.2⟩)]

end Go.Proofs.Ytjnfgjaiahnfgab

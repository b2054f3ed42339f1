/- awake. -/
import Derived.Test.YtpghhfobaionkaaDiv
namespace Go.Proofs.Ytpghhfobaionkaa
open Go.RowKit

theorem awake_eq : opS 1 2 1 3 (qof 1 2 + qof 1 3) = (5, 6, 0) := by
  have h1 : VF 1 2 := ⟨by decide, by decide, by decide, by decide, by decide⟩
  have h2 : VF 1 3 := ⟨by decide, by decide, by decide, by decide, by decide⟩
  have h3 : VF 5 6 := ⟨by decide, by decide, by decide, by decide, by decide⟩
  have e : qof 1 2 + qof 1 3 = qof 5 6 := (qof_plus (n1 := 1) (d1 := 2) (n2 := 1) (d2 := 3) (by decide) (by decide)).symm
  rw [opS_yes h1 h2, e, ansQ_yes h3.rep, h3.num.1, h3.num.2]

set_option maxRecDepth 100000 in
set_option maxHeartbeats 1600000 in
theorem awake_any (w : World) : Calls Try.prog 8 #[] w fun e w' => e = .returned (.bool true) ∧ Below w.heap.size w w' := by
  go_enter Try.func8, Try.ntmps8
  go_wp2_with fail
  refine (padd_any 1 2 1 3 w).mono ?_
  rintro e w1 ⟨ra, rb, rc, rfl, HANS, hb1⟩
  have h := HANS.out
  rw [awake_eq] at h
  simp only [Prod.mk.injEq] at h
  obtain ⟨rfl, rfl, rfl⟩ := h
  have HB := Lib.hid hb1
  clear HANS hb1
  go_wp2
  go_ret
  exact ⟨rfl, HB.out.alloc HB.out.size _⟩

end Go.Proofs.Ytpghhfobaionkaa

/- Pairs: the reference's Good, weighed, Weigh. -/
import Derived.Test.YtchhadkmemckbabPaU
namespace Go.Proofs.Ytchhadkmemckbab
open Go.RowKit
set_option linter.unusedSimpArgs false
set_option linter.unusedVariables false

set_option maxRecDepth 100000 in
set_option maxHeartbeats 1600000 in
theorem qGood_any (a a2 : Option Addr) (cap cap2 : Nat) (ls rs : List Gl) (x0 x1 x2 x3 y0 y1 y2 y3 : Int) (hl1 : (ls.length : Int) ≤ 9223372036854775807) (hl2 : (rs.length : Int) ≤ 9223372036854775807) (w : World) (hl : RecS w a ls) (hr : RecS w a2 rs) :
    Calls Try.prog 16 #[.slice a ls.length cap, .slice a2 rs.length cap2, .agg #[.int .i64 x0, .int .i64 x1, .int .i64 x2, .int .i64 x3, .int .i64 y0, .int .i64 y1, .int .i64 y2, .int .i64 y3]] w fun e w' => e = .returned (.bool (sidB ls && sidB rs && ruB ((x0, x1, x2, x3), (y0, y1, y2, y3)))) ∧ Below w.heap.size w w' := by
  have HX := Lib.hid (fun w' hb => qSide_any a cap ls hl1 w' (hl.below (w' := w') hb))
  have HY := Lib.hid (fun w' hb => qSide_any a2 cap2 rs hl2 w' (hr.below (w' := w') hb))
  have HZ := Lib.hid (fun w' => qLaw_any x0 x1 x2 x3 y0 y1 y2 y3 w')
  obtain ⟨x, hx⟩ : ∃ x, x = sidB ls := ⟨_, rfl⟩
  obtain ⟨y, hy⟩ : ∃ y, y = sidB rs := ⟨_, rfl⟩
  obtain ⟨z, hz⟩ : ∃ z, z = ruB ((x0, x1, x2, x3), (y0, y1, y2, y3)) := ⟨_, rfl⟩
  rw [← hx] at HX ⊢
  rw [← hy] at HY ⊢
  rw [← hz] at HZ ⊢
  clear hx hy hz hl hr
  have HM := Lib.hid ((Mem.nil w).alloc_at (H := w.heap.size) rfl #[.int .i64 x0, .int .i64 x1, .int .i64 x2, .int .i64 x3, .int .i64 y0, .int .i64 y1, .int .i64 y2, .int .i64 y3] 26)
  go_enter Try.func16, Try.ntmps16
  go_wp2_with fail
  refine (HX.out _ HM.out.b).mono ?_
  rintro e w1 ⟨rfl, hb1⟩
  have HM1 := Lib.hid (HM.out.step hb1)
  clear hb1 HM HX
  cases x with
  | false =>
    go_wp2
    go_ret
    exact ⟨rfl, HM1.out.b⟩
  | true =>
  go_wp2_with fail
  refine (HY.out _ HM1.out.b).mono ?_
  rintro e w2 ⟨rfl, hb2⟩
  have HM2 := Lib.hid (HM1.out.step hb2)
  clear hb2 HM1 HY
  cases y with
  | false =>
    go_wp2
    go_ret
    exact ⟨rfl, HM2.out.b⟩
  | true =>
  have k0 := HM2.out.cell 0
  have k1 := HM2.out.cell 1
  have k2 := HM2.out.cell 2
  have k3 := HM2.out.cell 3
  have k4 := HM2.out.cell 4
  have k5 := HM2.out.cell 5
  have k6 := HM2.out.cell 6
  have k7 := HM2.out.cell 7
  simp at k0 k1 k2 k3 k4 k5 k6 k7
  go_wp2_with fail
  refine (HZ.out _).mono ?_
  rintro e w3 ⟨rfl, hb3⟩
  have HM3 := Lib.hid (HM2.out.step hb3)
  clear hb3 HM2 HZ k0 k1 k2 k3 k4 k5 k6 k7
  go_wp2
  go_ret
  exact ⟨by simp, HM3.out.b⟩

def wgdR (r : Option ((Nat → Int) × Int × Int)) : Value := match r with
  | none => .tuple #[.int .i64 0, .int .i64 0, .bool false]
  | some (_, s, c) => .tuple #[.int .i64 s, .int .i64 c, .bool true]
theorem wgdR_none : wgdR none = .tuple #[.int .i64 0, .int .i64 0, .bool false] := rfl
theorem wgdR_some (o : Nat → Int) (s c : Int) : wgdR (some (o, s, c)) = .tuple #[.int .i64 s, .int .i64 c, .bool true] := rfl

end Go.Proofs.Ytchhadkmemckbab

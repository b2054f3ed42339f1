/- Pairs: gloves and rules as arguments. -/
import Derived.Test.YtchhadkmemckbabPaO
import Derived.OpenShut
import Derived.Lib.SmallJoins
namespace Go.Proofs.Ytchhadkmemckbab
open Go.ChangeShapes Go.WideShapes Go.ChangeAt Go.RowKit Go.Joins
set_option linter.unusedSimpArgs false
set_option linter.unusedVariables false
set_option maxRecDepth 100000

theorem pLaidOut : laidOutB Try.prog = true := by kernel_rfl

section
variable {H : Type} {enc : TypeId × Value → H} {w : World} {base : Nat} {spare : Nat → Bool} {held : Bool}
theorem glove_ints {fuel : Nat} {cs : List Value} {x : DataW H × List MemPlace} (h : DataW.trod enc Try.prog w base spare held fuel 24 cs = some x) : ∃ a b c d : Int, cs = [.int .i64 a, .int .i64 b, .int .i64 c, .int .i64 d] := by
  obtain ⟨y0, y1, y2, y3, n, -, hl, h0, h1, h2, h3⟩ := trod_struct4 Try.underlying24 h
  have hc : Try.prog.cellsOf 24 = 4 := by kernel_rfl
  have hi : Try.prog.cellsOf 3 = 1 := by kernel_rfl
  rw [hc] at hl
  match cs, hl with
  | [c0, c1, c2, c3], _ =>
    obtain ⟨a, e0, -, -⟩ := DataW.trod_int Try.underlying3 (by simpa [hi] using h0)
    obtain ⟨b, e1, -, -⟩ := DataW.trod_int Try.underlying3 (by simpa [hi] using h1)
    obtain ⟨c, e2, -, -⟩ := DataW.trod_int Try.underlying3 (by simpa [hi] using h2)
    obtain ⟨d, e3, -, -⟩ := DataW.trod_int Try.underlying3 (by simpa [hi] using h3)
    simp at e0 e1 e2 e3
    exact ⟨a, b, c, d, by rw [e0, e1, e2, e3]⟩
theorem open_glove {r : Reach} {b0 : Nat} {v : Value} {d : DataW H} {p : List MemPlace} (hv : Value.okWide Try.prog w r b0 24 v) (h : DataW.Trod enc Try.prog w base spare held 24 v d p) : ∃ a b c e : Int, v = .agg #[.int .i64 a, .int .i64 b, .int .i64 c, .int .i64 e] := by
  obtain ⟨cs, rfl, -⟩ := okWide_struct Try.underlying24 hv
  obtain ⟨fuel, hf⟩ := h
  obtain ⟨a, b, c, e, he⟩ := glove_ints hf
  obtain ⟨l⟩ := cs
  simp [Value.cells] at he
  exact ⟨a, b, c, e, by rw [he]⟩
theorem open_rule {r : Reach} {b0 : Nat} {v : Value} {d : DataW H} {p : List MemPlace} (hv : Value.okWide Try.prog w r b0 26 v) (h : DataW.Trod enc Try.prog w base spare held 26 v d p) : ∃ a0 a1 a2 a3 a4 a5 a6 a7 : Int, v = .agg #[.int .i64 a0, .int .i64 a1, .int .i64 a2, .int .i64 a3, .int .i64 a4, .int .i64 a5, .int .i64 a6, .int .i64 a7] := by
  obtain ⟨cs, rfl, hsz⟩ := okWide_struct Try.underlying26 hv
  obtain ⟨fuel, hf⟩ := h
  obtain ⟨y0, y1, n, -, hl, h0, h1⟩ := trod_struct2 Try.underlying26 hf
  have hc : Try.prog.cellsOf 26 = 8 := by kernel_rfl
  have hi : Try.prog.cellsOf 24 = 4 := by kernel_rfl
  obtain ⟨a0, a1, a2, a3, e0⟩ := glove_ints h0
  obtain ⟨a4, a5, a6, a7, e1⟩ := glove_ints h1
  obtain ⟨l⟩ := cs
  rw [hc] at hl
  simp [Value.cells, hi] at e0 e1 hl
  match l, hl with
  | [c0, c1, c2, c3, c4, c5, c6, c7], _ =>
    simp at e0 e1
    obtain ⟨rfl, rfl, rfl, rfl⟩ := e0
    obtain ⟨rfl, rfl, rfl, rfl⟩ := e1
    exact ⟨_, _, _, _, _, _, _, _, rfl⟩
end

end Go.Proofs.Ytchhadkmemckbab

/- FracReckons: Cmp, Add, Sub, Mul, Div, Neg and Abs give what the reference gives, for every two fractions; no condition. -/
import Derived.Test.YtenbklanlpebdaaRows
import Derived.ProofKit
import Derived.OpenShut
import Derived.Lib.SmallJoins
import Derived.Test.YtenbklanlpebdaaOne
namespace Go.Proofs.Ytenbklanlpebdaa.lawFracReckons
open Go.ChangeShapes Go.WideShapes Go.ChangeAt Go.RowKit Go.Joins
set_option linter.unusedVariables false

theorem same3 {q : Int × Int × Int} {a b c a' b' c' : Int} (h : Hid (q = (a, b, c))) (h' : Hid (q = (a', b', c'))) : a' = a ∧ b' = b ∧ c' = c := by
  have e := h'.out.symm.trans h.out
  simpa using e
theorem same2 {q : Int × Int} {a c a' c' : Int} (h : Hid (q = (a, c))) (h' : Hid (q = (a', c'))) : a' = a ∧ c' = c := by
  have e := h'.out.symm.trans h.out
  simpa using e

/-- Two boxes and two results' blocks f, g. -/
structure RB (w : World) (n1 d1 n2 d2 : Int) (f g : Nat) (x0 x1 y0 y1 : Int) (w' : World) : Prop where
  s : S20 w n1 d1 n2 d2 23 w'
  lf : w.heap.size + 1 < f
  fg : f < g
  hf : w'.heap[f]? = some (.cells #[.int .i64 x0, .int .i64 x1] 23 (0, 0))
  hg : w'.heap[g]? = some (.cells #[.int .i64 y0, .int .i64 y1] 23 (0, 0))

theorem RB.step {w w1 w2 : World} {n1 d1 n2 d2 : Int} {f g : Nat} {x0 x1 y0 y1 : Int} (h : RB w n1 d1 n2 d2 f g x0 x1 y0 y1 w1) (hb : Below w1.heap.size w1 w2) : RB w n1 d1 n2 d2 f g x0 x1 y0 y1 w2 :=
  ⟨h.s.step hb, h.lf, h.fg, (hb.block _ (Array.getElem?_eq_some_iff.1 h.hf).1).trans h.hf, (hb.block _ (Array.getElem?_eq_some_iff.1 h.hg).1).trans h.hg⟩

theorem set2_at {w : World} {g : Nat} {x0 x1 : Int} {T : TypeId} (h : w.heap[g]? = some (.cells #[.int .i64 x0, .int .i64 x1] T (0, 0))) (a b : Int) :
    ((w.setCell ⟨g, 0, none⟩ (.int .i64 a)).setCell ⟨g, 1, none⟩ (.int .i64 b)).heap[g]? = some (.cells #[.int .i64 a, .int .i64 b] T (0, 0)) := by
  simp only [World.setCell, Array.getElem?_modify, h]
  simp

theorem S20.set {w w1 : World} {n1 d1 n2 d2 : Int} {T : TypeId} (h : S20 w n1 d1 n2 d2 T w1) (f : Nat) (hf : w.heap.size + 1 < f) (a b : Value) : S20 w n1 d1 n2 d2 T ((w1.setCell ⟨f, 0, none⟩ a).setCell ⟨f, 1, none⟩ b) :=
  ⟨(h.1.setCell (by simp; omega) _).setCell (by simp; omega) _, by rw [heap_set2 _ _ _ _ _ (by omega)]; exact h.2.1, by rw [heap_set2 _ _ _ _ _ (by omega)]; exact h.2.2⟩

theorem RB.setf {w w1 : World} {n1 d1 n2 d2 : Int} {f g : Nat} {x0 x1 y0 y1 : Int} (h : RB w n1 d1 n2 d2 f g x0 x1 y0 y1 w1) (a b : Int) : RB w n1 d1 n2 d2 f g a b y0 y1 ((w1.setCell ⟨f, 0, none⟩ (.int .i64 a)).setCell ⟨f, 1, none⟩ (.int .i64 b)) :=
  ⟨S20.set h.s f h.lf _ _, h.lf, h.fg, set2_at h.hf a b, by rw [heap_set2 _ _ _ _ _ (by have := h.fg; omega)]; exact h.hg⟩
theorem RB.setg {w w1 : World} {n1 d1 n2 d2 : Int} {f g : Nat} {x0 x1 y0 y1 : Int} (h : RB w n1 d1 n2 d2 f g x0 x1 y0 y1 w1) (a b : Int) : RB w n1 d1 n2 d2 f g x0 x1 a b ((w1.setCell ⟨g, 0, none⟩ (.int .i64 a)).setCell ⟨g, 1, none⟩ (.int .i64 b)) :=
  ⟨S20.set h.s g (by have := h.lf; have := h.fg; omega) _ _, h.lf, h.fg, by rw [heap_set2 _ _ _ _ _ (by have := h.fg; omega)]; exact h.hf, set2_at h.hg a b⟩

theorem blk_f {w : World} {g : Nat} {cs : Array Value} {T : TypeId} (h : w.heap[g]? = some (.cells cs T (0, 0))) (j : Nat) : w.frozen? ⟨g, j, none⟩ = false := by simp only [World.frozen?]; rw [h]; simp

theorem RB.facts {w w1 : World} {n1 d1 n2 d2 : Int} {f g : Nat} {x0 x1 y0 y1 : Int} (h : RB w n1 d1 n2 d2 f g x0 x1 y0 y1 w1) :
    w1.cell? ⟨w.heap.size, 0, none⟩ = some (.int .i64 n1) ∧ w1.cell? ⟨w.heap.size, 1, none⟩ = some (.int .i64 d1) ∧ w1.cell? ⟨w.heap.size + 1, 0, none⟩ = some (.int .i64 n2) ∧ w1.cell? ⟨w.heap.size + 1, 1, none⟩ = some (.int .i64 d2) ∧
    w1.cell? ⟨f, 0, none⟩ = some (.int .i64 x0) ∧ w1.cell? ⟨f, 1, none⟩ = some (.int .i64 x1) ∧ w1.cell? ⟨g, 0, none⟩ = some (.int .i64 y0) ∧ w1.cell? ⟨g, 1, none⟩ = some (.int .i64 y1) ∧
    w1.frozen? ⟨f, 0, none⟩ = false ∧ w1.frozen? ⟨f, 1, none⟩ = false ∧ w1.frozen? ⟨g, 0, none⟩ = false ∧ w1.frozen? ⟨g, 1, none⟩ = false :=
  ⟨h.s.l.2.1, h.s.l.2.2.1, h.s.l.2.2.2.1, h.s.l.2.2.2.2, cell_blk2 h.hf 0, cell_blk2 h.hf 1, cell_blk2 h.hg 0, cell_blk2 h.hg 1, blk_f h.hf 0, blk_f h.hf 1, blk_f h.hg 0, blk_f h.hg 1⟩

theorem RB.start {w w1 w2 : World} {n1 d1 n2 d2 a b a' b' : Int} (hs : S20 w n1 d1 n2 d2 23 w1) (hb : Below (w1.heap.size + 1) (w1.alloc (.cells #[.int .i64 a, .int .i64 b] 23)) w2) :
    RB w n1 d1 n2 d2 w1.heap.size w2.heap.size a b a' b' (w2.alloc (.cells #[.int .i64 a', .int .i64 b'] 23)) := by
  have hlt : w.heap.size + 1 < w1.heap.size := (Array.getElem?_eq_some_iff.1 hs.2.2).1
  have hs2 : w1.heap.size + 1 ≤ w2.heap.size := by have := hb.size; simpa using this
  have hsA := (hs.step ((Below.refl _ _).alloc (Nat.le_refl _) (.cells #[.int .i64 a, .int .i64 b] 23))).step (w2 := w2) (by simpa using hb)
  refine ⟨hsA.step ((Below.refl _ _).alloc (Nat.le_refl _) _), hlt, by omega, ?_, heap_alloc_new _ _⟩
  rw [Below.heap_alloc _ _ _ (by omega)]
  exact (hb.block _ (by omega)).trans (heap_alloc_new _ _)

set_option maxRecDepth 100000 in
set_option maxHeartbeats 6400000 in
theorem walk (n1 d1 : Int) (_ : (Lit.int .i64 n1).wf = true) (_ : (Lit.int .i64 d1).wf = true) (n2 d2 : Int) (_ : (Lit.int .i64 n2).wf = true) (_ : (Lit.int .i64 d2).wf = true) (w : World) :
    Calls Try.prog 5 #[.agg #[.int .i64 n1, .int .i64 d1], .agg #[.int .i64 n2, .int .i64 d2]] w fun e w' => e = .returned (.bool true) ∧ Below w.heap.size w w' := by
  have HS := Lib.hid (S20.start w n1 d1 n2 d2 23)
  go_enter Try.func5, Try.ntmps5
  go_wp2_with fail
  refine (cmp_p n1 d1 n2 d2 _).mono ?_
  rintro e w1 ⟨a, c, rfl, H1, hb1⟩
  have hS1 := HS.out.step hb1
  obtain ⟨-, ka0, ka1, kb0, kb1⟩ := hS1.l
  have HS1 := Lib.hid hS1
  clear hb1 hS1
  go_wp2_with fail
  refine (cmp_rf n1 d1 n2 d2 _).mono ?_
  rintro e w2 ⟨a', c', rfl, H2, hb2⟩
  obtain ⟨rfl, rfl⟩ := same2 H1 H2
  have HS2 := Lib.hid (HS1.out.step hb2)
  clear hb2 ka0 ka1 kb0 kb1 H1 H2
  go_wp2_with fail
  refine (awake_any _).mono ?_
  rintro e w3 ⟨rfl, hb3⟩
  have hS3 := HS2.out.step hb3
  obtain ⟨-, ka0, ka1, kb0, kb1⟩ := hS3.l
  have HS3 := Lib.hid hS3
  clear hb3 hS3
  go_wp2_with fail
  refine (padd_any n1 d1 n2 d2 _).mono ?_
  rintro e w4 ⟨x0, x1, x2, rfl, H1, hb4⟩
  have hS4 := HS3.out.step hb4
  clear ka0 ka1 kb0 kb1
  obtain ⟨-, ka0, ka1, kb0, kb1⟩ := hS4.l
  have hs4 : w.heap.size + 1 < w4.heap.size := (Array.getElem?_eq_some_iff.1 hS4.2.2).1
  have hs4' : w.heap.size < w4.heap.size := by omega
  have HS4 := Lib.hid hS4
  clear hb4 hS4
  go_wp2_with fail
  refine (radd_any n1 d1 n2 d2 _).mono ?_
  rintro e w5 ⟨y0, y1, y2, rfl, H2, hb5⟩
  obtain ⟨rfl, rfl, rfl⟩ := same3 H1 H2
  simp only [World.size_alloc] at hb5
  have hR := RB.start (a' := y0) (b' := y1) HS4.out hb5
  have HR := Lib.hid hR
  have hS5 := (HS4.out.step ((Below.refl w4.heap.size w4).alloc (Nat.le_refl _) (.cells #[.int .i64 y0, .int .i64 y1] 23))).step (w2 := w5) (by simpa using hb5)
  have HS5 := Lib.hid hS5
  clear ka0 ka1 kb0 kb1 H1 H2
  obtain ⟨-, ka0, ka1, kb0, kb1⟩ := hS5.l
  obtain ⟨kf0, kf1, -, -, hs5⟩ := blk2 hb5
  have m1 : w.heap.size < w5.heap.size := by omega
  have m2 : w.heap.size + 1 < w5.heap.size := by omega
  have e1 : w4.heap.size ≠ w5.heap.size := by omega
  have e2 : w5.heap.size ≠ w4.heap.size := by omega
  have e3 : w.heap.size ≠ w4.heap.size := by omega
  have e4 : w4.heap.size ≠ w.heap.size := by omega
  have e5 : w.heap.size + 1 ≠ w4.heap.size := by omega
  have e6 : w4.heap.size ≠ w.heap.size + 1 := by omega
  have e7 : w.heap.size ≠ w5.heap.size := by omega
  have e8 : w5.heap.size ≠ w.heap.size := by omega
  have e9 : w.heap.size + 1 ≠ w5.heap.size := by omega
  have e10 : w5.heap.size ≠ w.heap.size + 1 := by omega
  clear hb5 hR hS5
  go_wp2_with fail
  refine (psub_any n1 d1 n2 d2 _).mono ?_
  rintro e wp6 ⟨x6a, x6b, x6c, rfl, H1, hb⟩
  have hP6 := HR.out.step hb
  clear ka0 ka1 kb0 kb1 kf0 kf1
  obtain ⟨ka0, ka1, kb0, kb1, kf0, kf1, kg0, kg1, qf0, qf1, qg0, qg1⟩ := hP6.facts
  have HP6 := Lib.hid hP6
  clear hb hP6
  go_wp2_with fail
  refine (rsub_any n1 d1 n2 d2 _).mono ?_
  rintro e wr6 ⟨y6a, y6b, y6c, rfl, H2, hb⟩
  obtain ⟨rfl, rfl, rfl⟩ := same3 H1 H2
  have hR6 := (HP6.out.setf y6a y6b).step hb
  clear ka0 ka1 kb0 kb1 kf0 kf1 kg0 kg1 qf0 qf1 qg0 qg1
  obtain ⟨ka0, ka1, kb0, kb1, kf0, kf1, kg0, kg1, qf0, qf1, qg0, qg1⟩ := hR6.facts
  have HR6 := Lib.hid hR6
  clear hb hR6 H1 H2
  go_wp2_with fail
  refine (pmul_any n1 d1 n2 d2 _).mono ?_
  rintro e wp7 ⟨x7a, x7b, x7c, rfl, H1, hb⟩
  have hP7 := (HR6.out.setg y6a y6b).step hb
  clear ka0 ka1 kb0 kb1 kf0 kf1 kg0 kg1 qf0 qf1 qg0 qg1
  obtain ⟨ka0, ka1, kb0, kb1, kf0, kf1, kg0, kg1, qf0, qf1, qg0, qg1⟩ := hP7.facts
  have HP7 := Lib.hid hP7
  clear hb hP7
  go_wp2_with fail
  refine (rmul_any n1 d1 n2 d2 _).mono ?_
  rintro e wr7 ⟨y7a, y7b, y7c, rfl, H2, hb⟩
  obtain ⟨rfl, rfl, rfl⟩ := same3 H1 H2
  have hR7 := (HP7.out.setf y7a y7b).step hb
  clear ka0 ka1 kb0 kb1 kf0 kf1 kg0 kg1 qf0 qf1 qg0 qg1
  obtain ⟨ka0, ka1, kb0, kb1, kf0, kf1, kg0, kg1, qf0, qf1, qg0, qg1⟩ := hR7.facts
  have HR7 := Lib.hid hR7
  clear hb hR7 H1 H2
  go_wp2_with fail
  refine (pdiv_any n1 d1 n2 d2 _).mono ?_
  rintro e wp8 ⟨x8a, x8b, x8c, rfl, H1, hb⟩
  have hP8 := (HR7.out.setg y7a y7b).step hb
  clear ka0 ka1 kb0 kb1 kf0 kf1 kg0 kg1 qf0 qf1 qg0 qg1
  obtain ⟨ka0, ka1, kb0, kb1, kf0, kf1, kg0, kg1, qf0, qf1, qg0, qg1⟩ := hP8.facts
  have HP8 := Lib.hid hP8
  clear hb hP8
  go_wp2_with fail
  refine (rdiv_any n1 d1 n2 d2 _).mono ?_
  rintro e wr8 ⟨y8a, y8b, y8c, rfl, H2, hb⟩
  obtain ⟨rfl, rfl, rfl⟩ := same3 H1 H2
  have hR8 := (HP8.out.setf y8a y8b).step hb
  clear ka0 ka1 kb0 kb1 kf0 kf1 kg0 kg1 qf0 qf1 qg0 qg1
  obtain ⟨ka0, ka1, kb0, kb1, kf0, kf1, kg0, kg1, qf0, qf1, qg0, qg1⟩ := hR8.facts
  have HR8 := Lib.hid hR8
  clear hb hR8 H1 H2
  go_wp2_with fail
  refine (neg_p n1 d1 _).mono ?_
  rintro e wp9 ⟨x9a, x9b, x9c, rfl, H1, hb⟩
  have hP9 := (HR8.out.setg y8a y8b).step hb
  clear ka0 ka1 kb0 kb1 kf0 kf1 kg0 kg1 qf0 qf1 qg0 qg1
  obtain ⟨ka0, ka1, kb0, kb1, kf0, kf1, kg0, kg1, qf0, qf1, qg0, qg1⟩ := hP9.facts
  have HP9 := Lib.hid hP9
  clear hb hP9
  go_wp2_with fail
  refine (neg_rf n1 d1 _).mono ?_
  rintro e wr9 ⟨y9a, y9b, y9c, rfl, H2, hb⟩
  obtain ⟨rfl, rfl, rfl⟩ := same3 H1 H2
  have hR9 := (HP9.out.setf y9a y9b).step hb
  clear ka0 ka1 kb0 kb1 kf0 kf1 kg0 kg1 qf0 qf1 qg0 qg1
  obtain ⟨ka0, ka1, kb0, kb1, kf0, kf1, kg0, kg1, qf0, qf1, qg0, qg1⟩ := hR9.facts
  have HR9 := Lib.hid hR9
  clear hb hR9 H1 H2
  go_wp2_with fail
  refine (abs_p n1 d1 _ rfl _).mono ?_
  rintro e wp10 ⟨x10a, x10b, x10c, rfl, H1, hb⟩
  have hP10 := (HR9.out.setg y9a y9b).step hb
  clear ka0 ka1 kb0 kb1 kf0 kf1 kg0 kg1 qf0 qf1 qg0 qg1
  obtain ⟨ka0, ka1, kb0, kb1, kf0, kf1, kg0, kg1, qf0, qf1, qg0, qg1⟩ := hP10.facts
  have HP10 := Lib.hid hP10
  clear hb hP10
  go_wp2_with fail
  refine (abs_rf n1 d1 _ rfl _).mono ?_
  rintro e wr10 ⟨y10a, y10b, y10c, rfl, H2, hb⟩
  obtain ⟨rfl, rfl, rfl⟩ := same3 H1 H2
  have hR10 := (HP10.out.setf y10a y10b).step hb
  clear ka0 ka1 kb0 kb1 kf0 kf1 kg0 kg1 qf0 qf1 qg0 qg1
  obtain ⟨ka0, ka1, kb0, kb1, kf0, kf1, kg0, kg1, qf0, qf1, qg0, qg1⟩ := hR10.facts
  have HR10 := Lib.hid hR10
  clear hb hR10 H1 H2
  go_wp2
  go_ret
  exact ⟨rfl, (HR10.out.setg y10a y10b).s.b⟩

theorem own : ownKnob Try.prog.godebug = none := by kernel_rfl
theorem cellsFrac : Try.prog.cellsOf 23 = 2 := by kernel_rfl

set_option maxRecDepth 100000 in
theorem lifted (os : Os) (started : os.Started) (H : Type) (enc : TypeId × Value → H) :
    ReturnsInHanded {} Try.checked os 5 .any (Rows.fracReckonsSpec.pre6 enc Try.prog Try.f5 Rows.fracReckonsRow.domain false) (Rows.fracReckonsSpec.post enc Try.prog Try.f5 false true false false) := by
  refine returnsInHanded_of_change (C := Try.checked) own started (by kernel_rfl) Try.func5
    (ChangeSpec.witness6 (enc := enc) (C := Try.checked) false ⟨#[], #[.agg #[.int .i64 0, .int .i64 0], .agg #[.int .i64 0, .int .i64 0]], []⟩ 8 (by kernel_rfl) (by kernel_rfl) (by kernel_rfl) (by kernel_rfl)) ?_
  intro W base args ds gs before hval0 hW hcnd _
  have hval : ∀ (j : Nat) t v, Try.f5.params[j]? = some t → args[j]? = some v → Value.okWide Try.prog W .any base t v := hval0
  have hW' := hW
  obtain ⟨p, q, hA0, hV, rfl, hfz, hnd⟩ := hW
  have hA : DataW.TrodAll enc Try.prog W 0 (fun _ => true) true Try.f5.params.toList args.toList ds p := hA0
  rw [Try.params5] at hA hval
  obtain ⟨v0, vs0, d0, ds0, p0, q0, hargs, rfl, rfl, h0, r0⟩ := trodAll_cons hA
  obtain ⟨v1, vs1, d1, ds1, p1, q1, rfl, rfl, rfl, h1, r1⟩ := trodAll_cons r0
  obtain ⟨rfl, rfl, rfl⟩ := trodAll_nil r1
  obtain rfl : args = #[v0, v1] := by cases args; simp_all
  obtain ⟨rfl, rfl⟩ := trodVars_none hV
  obtain ⟨c0a, c0b, y0a, y0b, m0, rfl, rfl, rfl, hy0a, hy0b⟩ := open_agg2 Try.underlying23 (by kernel_rfl) cellsFrac (hval 0 23 v0 rfl rfl) h0
  obtain ⟨n0, e0a, rfl, wn0⟩ := DataW.trod_int Try.underlying3 hy0a
  obtain ⟨k0, e0b, rfl, wk0⟩ := DataW.trod_int Try.underlying3 hy0b
  simp at e0a e0b
  subst e0a e0b
  obtain ⟨c1a, c1b, y1a, y1b, m1, rfl, rfl, rfl, hy1a, hy1b⟩ := open_agg2 Try.underlying23 (by kernel_rfl) cellsFrac (hval 1 23 v1 rfl rfl) h1
  obtain ⟨n1, e1a, rfl, wn1⟩ := DataW.trod_int Try.underlying3 hy1a
  obtain ⟨k1, e1b, rfl, wk1⟩ := DataW.trod_int Try.underlying3 hy1b
  simp at e1a e1b
  subst e1a e1b
  clear hA0 hval0
  simp only [List.append_nil] at hW'
  refine (walk n0 k0 wn0 wk0 n1 k1 wn1 wk1 W).mono fun e W' ⟨he, hb⟩ => ?_
  subst he
  refine ⟨_, rfl, _, _, _, [], [], [], hW', ?_, ?_, rfl, hb.frame _, fun h => by cases h⟩
  · exact trodAll_cons_mk (shut_bool Try.underlying4 _) trodAll_mk0
  · exact (trodAll_cons_mk (shut_agg2 (y0 := (.lit (.int .i64 n0), [])) (y1 := (.lit (.int .i64 k0), [])) Try.underlying23 (by kernel_rfl) cellsFrac ⟨1, by simp [DataW.trod, Try.underlying3, wn0]⟩ ⟨1, by simp [DataW.trod, Try.underlying3, wk0]⟩) (trodAll_cons_mk (shut_agg2 (y0 := (.lit (.int .i64 n1), [])) (y1 := (.lit (.int .i64 k1), [])) Try.underlying23 (by kernel_rfl) cellsFrac ⟨1, by simp [DataW.trod, Try.underlying3, wn1]⟩ ⟨1, by simp [DataW.trod, Try.underlying3, wk1]⟩) trodAll_mk0))

theorem over : Rows.fracReckonsRow.holds Try.pinned (OpenSpec.ofChange Rows.fracReckonsSpec) :=
  OpenClaim.holds_of_wide 5 Try.f5 rfl rfl rfl rfl rfl rfl rfl ⟨rfl, rfl, rfl, rfl, rfl⟩ rfl rfl rfl rfl rfl (by kernel_rfl) Try.func5 (by kernel_rfl)
    (of_decide_eq_true (by kernel_rfl)) (by unfold Func.isWrapper; first | (rw [if_pos (by decide +kernel)]; kernel_rfl) | (rw [if_neg (by decide +kernel)]; exact ⟨rfl, rfl⟩))
    (fun os started H enc _ => lifted os started H enc)

/-- THE STATEMENT. -/
theorem proved : Rows.FracReckonsSaid := over
#print axioms proved

end Go.Proofs.Ytenbklanlpebdaa.lawFracReckons

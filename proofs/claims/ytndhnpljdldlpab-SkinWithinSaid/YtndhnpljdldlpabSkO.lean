/- Skins: the memory of Parts. -/
import Derived.Test.YtndhnpljdldlpabSkL
namespace Go.Proofs.Ytndhnpljdldlpab
open Go.RowKit

/-- The cells of a list of parts. -/
def ptVals (l : List Pt) : List Value := l.flatMap fun p => [.int .i64 p.1, .int .i64 p.2.1, .int .i64 p.2.2.1, .int .i64 p.2.2.2.1, .int .i64 p.2.2.2.2.1, .int .i64 p.2.2.2.2.2.1, .int .i64 p.2.2.2.2.2.2]
theorem ptVals_append (l m : List Pt) : ptVals (l ++ m) = ptVals l ++ ptVals m := by simp [ptVals]
theorem ptVals_len (l : List Pt) : (ptVals l).length = l.length * 7 := by
  induction l with
  | nil => rfl
  | cons a t ih => simp [ptVals] at ih ⊢; omega

theorem infoPart : (Try.prog.info? 69).map (fun i => (i.zero, i.size, i.bytes)) = some (some (.agg #[.int .i64 0, .int .i64 0, .int .i64 0, .int .i64 0, .int .i64 0, .int .i64 0, .int .i64 0]), 7, 56) := by kernel_rfl
theorem uParts : Try.prog.underlying 53 = some (.slice 69) := by kernel_rfl

/-- Where Parts keeps what it has, for the skin at a, the grade g: the boxes of the closure (pu), of the map (pm) and of the list (pl), the map (bm); the list lies at B or beyond. -/
structure PL where
  B : Nat
  pu : Nat
  pm : Nat
  pl : Nat
  bm : Nat
  ps : Nat
  pg : Nat
  a : Option Addr
  cap : Nat
  g : Int

structure PM (w0 : World) (X : PL) (ss : List ByteArray) (st : List Pt × List (Int × Int)) (v : Value) (wr : World) : Prop where
  b : Below w0.heap.size w0 wr
  le : w0.heap.size ≤ X.pl ∧ w0.heap.size ≤ X.bm ∧ w0.heap.size ≤ X.B
  lt : X.pu < X.B ∧ X.pm < X.B ∧ X.pl < X.B ∧ X.bm < X.B ∧ X.ps < X.B ∧ X.pg < X.B
  np : X.ps ≠ X.pl ∧ X.pg ≠ X.pl
  hB : X.B ≤ wr.heap.size
  sk : ∀ b off, X.a = some ⟨b, off, none⟩ → b < w0.heap.size
  hu : wr.heap[X.pu]? = some (.cells #[.func (.func 67) #[] #[.pointer (some ⟨X.ps, 0, none⟩), .pointer (some ⟨X.pg, 0, none⟩)]] 58 (0, 0))
  hm : wr.heap[X.pm]? = some (.cells #[.map (some X.bm)] 90 (0, 0))
  hl : wr.heap[X.pl]? = some (.cells #[v] 53 (0, 0))
  own : wr.ownsRow X.B 69 7 v st.1.length (ptVals st.1)
  seen : Seen wr X.bm st.2.length st.2
  lea : LeaM wr X.ps X.pg X.a ss X.cap X.g

theorem PM.step {w0 : World} {X : PL} {ss : List ByteArray} {st : List Pt × List (Int × Int)} {v : Value} {wr w2 : World} (h : PM w0 X ss st v wr) (hb : Below wr.heap.size wr w2) : PM w0 X ss st v w2 :=
  ⟨h.b.trans (hb.mono h.b.size), h.le, h.lt, h.np, Nat.le_trans h.hB hb.size, h.sk, (hb.block _ (block_lt h.hu)).trans h.hu, (hb.block _ (block_lt h.hm)).trans h.hm, (hb.block _ (block_lt h.hl)).trans h.hl, h.own.kept (row := none) (grownBy_below none hb) (by
    cases hk : v.ownBlock with
    | none => exact .inl rfl
    | some k => exact .inr (by simp)), h.seen.below hb, h.lea.below hb⟩

theorem PM.ne {w0 : World} {X : PL} {ss : List ByteArray} {st : List Pt × List (Int × Int)} {v : Value} {wr : World} (h : PM w0 X ss st v wr) : X.ps ≠ X.bm ∧ X.pg ≠ X.bm ∧ (∀ b off, X.a = some ⟨b, off, none⟩ → b ≠ X.bm) := by
  obtain ⟨D, ⟨es, clock, hh, -⟩, -⟩ := h.seen
  refine ⟨fun e => ?_, fun e => ?_, fun b off e e2 => ?_⟩
  · have := h.lea.2.2.1
    rw [e] at this
    simp [World.cell?, hh] at this
  · have := h.lea.2.2.2.1
    rw [e] at this
    simp [World.cell?, hh] at this
  · have h1 := h.sk b off e
    have h2 := h.le.2.1
    omega

/-- Behind connected. -/
theorem PM.seenTo {w0 : World} {X : PL} {ss : List ByteArray} {st : List Pt × List (Int × Int)} {v u : Value} {fl : Fl} {wr w2 : World} (h : PM w0 X ss st v wr) (hc : CM wr X.bm u fl w2) : PM w0 X ss (st.1, fl.2) v w2 := by
  obtain ⟨n1, n2, n3⟩ := h.ne
  have hg := hc.gr
  obtain ⟨D, ⟨es, clock, hh, -⟩, -⟩ := h.seen
  have hne : ∀ k cs T z, wr.heap[k]? = some (.cells cs T z) → some k ≠ some X.bm := fun k cs T z hk e => by
    simp only [Option.some.injEq] at e
    rw [e, hh] at hk
    cases hk
  refine ⟨⟨hg.os.trans h.b.os, hg.tape.trans h.b.tape, hg.output.trans h.b.output, Nat.le_trans h.b.size hg.size, fun i hi => ?_⟩, h.le, h.lt, h.np, Nat.le_trans h.hB hg.size, h.sk, ?_, ?_, ?_, h.own.kept hg ?_, hc.seen, h.lea.grown hg n1 n2 n3⟩
  · exact (hg.block i (Nat.lt_of_lt_of_le hi h.b.size) (by have := h.le.2.1; simp; omega)).trans (h.b.block i hi)
  · exact (hg.block _ (block_lt h.hu) (hne _ _ _ _ h.hu)).trans h.hu
  · exact (hg.block _ (block_lt h.hm) (hne _ _ _ _ h.hm)).trans h.hm
  · exact (hg.block _ (block_lt h.hl) (hne _ _ _ _ h.hl)).trans h.hl
  · cases hk : v.ownBlock with
    | none => exact .inl rfl
    | some k =>
      have h1 := (h.own.lt k hk).1
      have h2 := h.lt.2.2.2.1
      exact .inr (by simp; omega)

end Go.Proofs.Ytndhnpljdldlpab

/- Skins: memory of connected; laws at the operations on the map of cells. -/
import Derived.Test.YtndhnpljdldlpabSkF
namespace Go.Proofs.Ytndhnpljdldlpab
open Go.RowKit
open Go.Maps (Keyed)

theorem wpList_update_seen (w : World) {ops : Array Oper} {rest : List Oper} {o : Oper} {a : Act} {Q : Exit → Act → World → Prop}
    (hg : o.guard = none) (m x v : Operand) (hop : o.op = Op.mapUpdate 90 m x v) (b n : Nat) (S : List (Int × Int))
    (hm : a.eval m = .map (some b)) (h : Seen w b n S) (hn : n < maxLen) (cx cy : Int) (hx : a.eval x = .agg #[.int .i64 cx, .int .i64 cy]) (hv : a.eval v = .bool true) (hi : InI cx cy)
    (hK : ∀ w', Seen w' b (n + 1) ((cx, cy) :: S) → w.grownBy w' (some b) → wpList Try.prog ops Q rest (a.put o.dst undef) w') :
    wpList Try.prog ops Q (o :: rest) a w := by
  refine wpList_plain hg fun K' hK' => ?_
  obtain ⟨w', hrun, r1, r2⟩ := h.update hi hn
  unfold Oper.wp
  simp [execOp, hop, hm, hx, hv, hrun, Result.andThen]
  exact hK' _ _ (hK w' r1 r2)

theorem InI.of {x y : Int} (hx : -1000000 ≤ x ∧ x ≤ 1000000) (hy : -1000000 ≤ y ∧ y ≤ 1000000) : InI x y := by
  unfold InI
  constructor
  · simp [Lit.wf, IntKind.min, IntKind.max, IntKind.signed, IntKind.bits]; omega
  · simp [Lit.wf, IntKind.min, IntKind.max, IntKind.signed, IntKind.bits]; omega

/-- The cells of a list, flat. -/
def cellVals (l : List (Int × Int)) : List Value := l.flatMap fun c => [.int .i64 c.1, .int .i64 c.2]
theorem cellVals_append (l m : List (Int × Int)) : cellVals (l ++ m) = cellVals l ++ cellVals m := by simp [cellVals]
theorem cellVals_get {l : List (Int × Int)} {k : Nat} (hk : k < l.length) : (cellVals l)[k * 2]? = some (.int .i64 l[k].1) ∧ (cellVals l)[k * 2 + 1]? = some (.int .i64 l[k].2) := by
  induction l generalizing k with
  | nil => simp at hk
  | cons a t ih =>
    cases k with
    | zero => simp [cellVals]
    | succ k =>
      have e1 : (k + 1) * 2 = k * 2 + 1 + 1 := by omega
      have := ih (k := k) (by simpa using hk)
      rw [e1]
      simpa [cellVals] using this

/-- The world of connected's rounds. -/
structure CM (w : World) (bs : Nat) (v : Value) (st : Fl) (wr : World) : Prop where
  gr : w.grownBy wr (some bs)
  own : wr.ownsRow w.heap.size 93 2 v st.1.length (cellVals st.1)
  seen : Seen wr bs st.2.length st.2

theorem grownBy_trans {w w1 w2 : World} {row : Option Nat} (h : w.grownBy w1 row) (k : w1.grownBy w2 row) : w.grownBy w2 row :=
  ⟨k.os.trans h.os, k.tape.trans h.tape, k.output.trans h.output, Nat.le_trans h.size k.size, fun i hi hne => (k.block i (Nat.lt_of_lt_of_le hi h.size) hne).trans (h.block i hi hne)⟩
theorem grownBy_below {w w1 : World} (row : Option Nat) (h : Below w.heap.size w w1) : w.grownBy w1 row :=
  ⟨h.os, h.tape, h.output, h.size, fun i hi _ => h.block i hi⟩

theorem CM.step {w : World} {bs : Nat} {v : Value} {st : Fl} {wr w2 : World} (h : CM w bs v st wr) (hb : Below wr.heap.size wr w2) : CM w bs v st w2 :=
  ⟨grownBy_trans h.gr (grownBy_below _ hb), h.own.kept (row := none) (grownBy_below none hb) (by
    cases hk : v.ownBlock with
    | none => exact .inl rfl
    | some k => exact .inr (by simp)), h.seen.below hb⟩

theorem LeaM.grown {w w' : World} {ps pg bs : Nat} {a : Option Addr} {ss : List ByteArray} {cap : Nat} {g : Int} (h : LeaM w ps pg a ss cap g) (hg : w.grownBy w' (some bs)) (h1 : ps ≠ bs) (h2 : pg ≠ bs) (h3 : ∀ b off, a = some ⟨b, off, none⟩ → b ≠ bs) : LeaM w' ps pg a ss cap g := by
  obtain ⟨l1, l2, c1, c2, hs⟩ := h
  refine ⟨Nat.lt_of_lt_of_le l1 hg.size, Nat.lt_of_lt_of_le l2 hg.size, hg.cell c1 (by simpa using h1), hg.cell c2 (by simpa using h2), ?_⟩
  rcases hs with hs | ⟨b, off, e, hl, hc⟩
  · exact .inl hs
  · exact .inr ⟨b, off, e, Nat.lt_of_lt_of_le hl hg.size, fun j hj => hg.cell (hc j hj) (by simpa using h3 b off e)⟩

theorem CM.put {w : World} {bs : Nat} {v : Value} {st : Fl} {wr w2 : World} (h : CM w bs v st wr) (hbs : bs < w.heap.size) {n : Int × Int} (hs : Seen w2 bs (st.2.length + 1) (n :: st.2)) (hg : wr.grownBy w2 (some bs)) :
    CM w bs v (st.1, n :: st.2) w2 :=
  ⟨grownBy_trans h.gr hg, h.own.kept hg (by
    cases hk : v.ownBlock with
    | none => exact .inl rfl
    | some k =>
      have := (h.own.lt k hk).1
      exact .inr (by simp; omega)), by simpa using hs⟩

theorem CM.push {w : World} {bs : Nat} {v v' : Value} {st : Fl} {wr w2 : World} (h : CM w bs v st wr) (hbs : bs < w.heap.size) {n : Int × Int} (hown : w2.ownsRow w.heap.size 93 2 v' (st.1.length + 1) (cellVals st.1 ++ [.int .i64 n.1, .int .i64 n.2])) (hg : wr.grownBy w2 v.ownBlock) :
    CM w bs v' (st.1 ++ [n], st.2) w2 := by
  have hlt := h.own.lt
  have hsl := h.seen.lt
  refine ⟨⟨hg.os.trans h.gr.os, hg.tape.trans h.gr.tape, hg.output.trans h.gr.output, Nat.le_trans h.gr.size hg.size, fun i hi hne => ?_⟩, ?_, ?_⟩
  · exact (hg.block i (Nat.lt_of_lt_of_le hi h.gr.size) (fun e => by have := (hlt i e.symm).1; omega)).trans (h.gr.block i hi hne)
  · rw [cellVals_append, List.length_append]
    simpa [cellVals] using hown
  · obtain ⟨D, ⟨es, clock, hh, F, hz, hD⟩, h2⟩ := h.seen
    exact ⟨D, ⟨es, clock, (hg.block bs hsl (fun e => by have := (hlt bs e.symm).1; omega)).trans hh, F, hz, hD⟩, h2⟩

theorem CM.start {w w1 : World} {bs H : Nat} {x y : Int} {S : List (Int × Int)} (hb : Below w.heap.size w w1) (hs : Seen w bs S.length S) (hH : w.heap.size ≤ H) (hh : w1.heap[H]? = some (.cells #[.int .i64 x, .int .i64 y] 93 (0, 0))) :
    CM w bs (.slice (some ⟨H, 0, none⟩) 1 1) ([(x, y)], S) w1 :=
  ⟨grownBy_below _ hb, ⟨by simp [cellVals], .inr ⟨H, 1, _, rfl, hH, hh, Nat.le_refl _, by unfold maxLen; omega, by simp, by simp [cellVals]⟩⟩, hs.below hb⟩

/-- A read of the list's cell. -/
theorem CM.read {w : World} {bs g m cap : Nat} {st : Fl} {wr : World} (h : CM w bs (.slice (some ⟨g, 0, none⟩) m cap) st wr) {k : Nat} (hk : k < st.1.length) :
    wr.cell? ⟨g, k * 2, none⟩ = some (.int .i64 st.1[k].1) ∧ wr.cell? ⟨g, k * 2 + 1, none⟩ = some (.int .i64 st.1[k].2) := by
  obtain ⟨h1, h2⟩ := cellVals_get hk
  have e1 := h.own.cells rfl _ _ h1
  have e2 := h.own.cells rfl _ _ h2
  constructor
  · have e : (⟨g, 0, none⟩ : Addr).add (k * 2) = ⟨g, k * 2, none⟩ := by
      unfold Addr.add; split
      · rename_i h0; rw [h0]
      · simp
    rw [e] at e1; exact e1
  · simpa [Addr.add] using e2
theorem CM.slice {w : World} {bs : Nat} {v : Value} {st : Fl} {wr : World} (h : CM w bs v st wr) (hp : 0 < st.1.length) : ∃ g cap, v = .slice (some ⟨g, 0, none⟩) st.1.length cap ∧ w.heap.size ≤ g ∧ g < wr.heap.size ∧ st.1.length ≤ cap ∧ cap ≤ maxLen := by
  rcases h.own.2 with ⟨_, h0⟩ | ⟨g, cap, cur, e, hg, hh, hc, hm, -⟩
  · omega
  · exact ⟨g, cap, e, hg, (Array.getElem?_eq_some_iff.1 hh).1, hc, hm⟩

theorem CM.mem {w : World} {bs : Nat} {v : Value} {st : Fl} {wr wx : World} {H : Nat} {cs : Array Value} {T : TypeId} {L : List (Nat × Array Value × TypeId)} (h : CM w bs v st wr) (hm : Mem wr ((H, cs, T) :: L) wx) :
    w.heap.size ≤ H ∧ Hid (wx.heap[H]? = some (.cells cs T (0, 0))) ∧ Hid (CM w bs v st wx) :=
  ⟨Nat.le_trans h.gr.size hm.head_le, Lib.hid (hm.h _ (List.mem_cons_self ..)).2, Lib.hid (h.step hm.b)⟩
theorem CM.memL {w : World} {bs g m cap k : Nat} {st : Fl} {wr w' : World} {cx cy : Int} {u v : Value} {T : TypeId} (_h : CM w bs (.slice (some ⟨g, 0, none⟩) m cap) st wr) (hg : g < wr.heap.size) (r0 : wr.cell? ⟨g, k * 2, none⟩ = some (.int .i64 cx)) (r1 : wr.cell? ⟨g, k * 2 + 1, none⟩ = some (.int .i64 cy))
    (hm : Mem wr [(wr.heap.size, #[u, v], T)] w') : Mem wr [(wr.heap.size, #[u, v], T)] w' ∧ w'.cell? ⟨g, k * 2, none⟩ = some (.int .i64 cx) ∧ w'.cell? ⟨g, k * 2 + 1, none⟩ = some (.int .i64 cy) ∧ w'.cell? ⟨wr.heap.size, 0, none⟩ = some u ∧ w'.cell? ⟨wr.heap.size, 1, none⟩ = some v :=
  ⟨hm, (hm.b.cell (p := ⟨g, k * 2, none⟩) hg).trans r0, (hm.b.cell (p := ⟨g, k * 2 + 1, none⟩) hg).trans r1, hm.c2.1, hm.c2.2.1⟩

theorem block_two {w : World} {H : Nat} {u v : Value} {T : TypeId} (h : w.heap[H]? = some (.cells #[u, v] T (0, 0))) : w.cell? ⟨H, 0, none⟩ = some u ∧ w.cell? ⟨H, 1, none⟩ = some v ∧ H < w.heap.size := by
  refine ⟨?_, ?_, (Array.getElem?_eq_some_iff.1 h).1⟩
  · simp [World.cell?, h]
  · simp [World.cell?, h]
theorem visit_no {us : Int → Int → Bool} {st : Fl} {n : Int × Int} (h : us n.1 n.2 = false) : visit us st n = st := by
  unfold visit; rw [h]; rfl
theorem visit_old {us : Int → Int → Bool} {st : Fl} {n : Int × Int} (h : n ∈ st.2) : visit us st n = st := by
  unfold visit; rw [if_neg]; simp [h]
theorem visit_new {us : Int → Int → Bool} {st : Fl} {n : Int × Int} (h : us n.1 n.2 = true) (h2 : n ∉ st.2) : visit us st n = (st.1 ++ [n], n :: st.2) := by
  unfold visit; rw [if_pos]; simp [h, h2]

theorem cell_two_new (w : World) (u v : Value) (T : TypeId) : ∀ (j : Nat) (x : Value), [u, v][j]? = some x → (w.alloc (.cells #[u, v] T)).cell? ((⟨w.heap.size, 0, none⟩ : Addr).add j) = some x := by
  have h := block_two (heap_alloc_new w (.cells #[u, v] T))
  intro j x hx
  match j with
  | 0 => simp at hx; subst hx; exact h.1
  | 1 => simp at hx; subst hx; exact h.2.1
  | _ + 2 => simp at hx
theorem uCells : Try.prog.underlying 97 = some (.slice 93) := by kernel_rfl

end Go.Proofs.Ytndhnpljdldlpab

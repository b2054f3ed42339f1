/- Skins: the memory of Parts behind a new part; connected and measure in it. -/
import Derived.Test.YtndhnpljdldlpabSkP
import Derived.Test.YtndhnpljdldlpabSkH
import Derived.Laws.Rows
namespace Go.Proofs.Ytndhnpljdldlpab
open Go.RowKit

theorem cell_same {w w' : World} {k : Nat} (h : w'.heap[k]? = w.heap[k]?) (i : Nat) : w'.cell? ⟨k, i, none⟩ = w.cell? ⟨k, i, none⟩ := by simp [World.cell?, h]

theorem LeaM.same {w w' : World} {ps pg : Nat} {a : Option Addr} {ss : List ByteArray} {cap : Nat} {g : Int} (h : LeaM w ps pg a ss cap g) (hz : w.heap.size ≤ w'.heap.size) (h1 : w'.heap[ps]? = w.heap[ps]?) (h2 : w'.heap[pg]? = w.heap[pg]?) (h3 : ∀ b off, a = some ⟨b, off, none⟩ → w'.heap[b]? = w.heap[b]?) : LeaM w' ps pg a ss cap g := by
  obtain ⟨l1, l2, c1, c2, hs⟩ := h
  refine ⟨Nat.lt_of_lt_of_le l1 hz, Nat.lt_of_lt_of_le l2 hz, (cell_same h1 0).trans c1, (cell_same h2 0).trans c2, ?_⟩
  rcases hs with hs | ⟨b, off, e, hl, hc⟩
  · exact .inl hs
  · exact .inr ⟨b, off, e, Nat.lt_of_lt_of_le hl hz, fun j hj => (cell_same (h3 b off e) _).trans (hc j hj)⟩

theorem Seen.same {w w' : World} {b n : Nat} {S : List (Int × Int)} (h : Seen w b n S) (hh : w'.heap[b]? = w.heap[b]?) : Seen w' b n S := by
  obtain ⟨D, ⟨es, clock, hh2, F, hs, hD⟩, h2⟩ := h
  exact ⟨D, ⟨es, clock, hh.trans hh2, F, hs, hD⟩, h2⟩

/-- A part's value. -/
def ptVal (p : Pt) : Value := .agg #[.int .i64 p.1, .int .i64 p.2.1, .int .i64 p.2.2.1, .int .i64 p.2.2.2.1, .int .i64 p.2.2.2.2.1, .int .i64 p.2.2.2.2.2.1, .int .i64 p.2.2.2.2.2.2]

/-- Behind the append and the store to the list's box. -/
theorem PM.push {w0 : World} {X : PL} {ss : List ByteArray} {l : List Pt} {S : List (Int × Int)} {v v' : Value} {P : Pt} {wr w2 : World} (h : PM w0 X ss (l, S) v wr)
    (hown : w2.ownsRow X.B 69 7 v' (l.length + 1) (ptVals l ++ [.int .i64 P.1, .int .i64 P.2.1, .int .i64 P.2.2.1, .int .i64 P.2.2.2.1, .int .i64 P.2.2.2.2.1, .int .i64 P.2.2.2.2.2.1, .int .i64 P.2.2.2.2.2.2])) (hg : wr.grownBy w2 v.ownBlock) :
    PM w0 X ss (l ++ [P], S) v' (w2.setCell ⟨X.pl, 0, none⟩ v') := by
  obtain ⟨g1, g2, g3⟩ := h.le
  obtain ⟨q1, q2, q3, q4, q5, q6⟩ := h.lt
  have hlt := h.own.lt
  have hf : ∀ k, k < X.B → k < wr.heap.size → w2.heap[k]? = wr.heap[k]? := fun k hk hs => hg.block k hs (fun e => by have := (hlt k e.symm).1; omega)
  have hf2 : ∀ k, k < X.B → k < wr.heap.size → k ≠ X.pl → (w2.setCell ⟨X.pl, 0, none⟩ v').heap[k]? = wr.heap[k]? := fun k hk hs hne => (heap_setCell_other w2 ⟨X.pl, 0, none⟩ k v' hne).trans (hf k hk hs)
  have hz : w2.heap.size = (w2.setCell ⟨X.pl, 0, none⟩ v').heap.size := by simp [World.setCell]
  have hl2 : w2.heap[X.pl]? = some (.cells #[v] 53 (0, 0)) := (hf _ q3 (block_lt h.hl)).trans h.hl
  have hne1 : X.pu ≠ X.pl := fun e => by
    have h1 := h.hu
    rw [e, h.hl] at h1
    simp at h1
  have hne2 : X.pm ≠ X.pl := fun e => by
    have h1 := h.hm
    rw [e, h.hl] at h1
    simp at h1
  obtain ⟨D, ⟨es, clock, hh, -⟩, -⟩ := h.seen
  have hne3 : X.bm ≠ X.pl := fun e => by
    have h1 := h.hl
    rw [← e, hh] at h1
    simp at h1
  have hb : Below w0.heap.size w0 w2 := ⟨hg.os.trans h.b.os, hg.tape.trans h.b.tape, hg.output.trans h.b.output, Nat.le_trans h.b.size hg.size, fun i hi => (hf i (by omega) (Nat.lt_of_lt_of_le hi h.b.size)).trans (h.b.block i hi)⟩
  have hgs : w2.grownBy (w2.setCell ⟨X.pl, 0, none⟩ v') (some X.pl) := ⟨rfl, rfl, rfl, Nat.le_of_eq hz, fun i _ hne => heap_setCell_other w2 ⟨X.pl, 0, none⟩ i v' (fun e => hne (by rw [e]))⟩
  refine ⟨hb.setCell g1 v', h.le, h.lt, h.np, Nat.le_trans h.hB (Nat.le_trans hg.size (Nat.le_of_eq hz)), h.sk, (hf2 _ q1 (block_lt h.hu) hne1).trans h.hu, (hf2 _ q2 (block_lt h.hm) hne2).trans h.hm, ?_, ?_, h.seen.same (hf2 _ q4 h.seen.lt hne3), ?_⟩
  · have := heap_setCell_same w2 X.pl 0 #[v] 53 v' hl2
    simpa using this
  · have := hown.kept hgs (by
      cases hk : v'.ownBlock with
      | none => exact .inl rfl
      | some k =>
        have := (hown.lt k hk).1
        exact .inr (by simp; omega))
    rw [ptVals_append, List.length_append]
    simpa [ptVals] using this
  · exact h.lea.same (Nat.le_trans hg.size (Nat.le_of_eq hz)) (hf2 _ q5 h.lea.1 h.np.1) (hf2 _ q6 h.lea.2.1 h.np.2) (fun b off e => by
      have h1 := h.sk b off e
      exact hf2 b (by omega) (Nat.lt_of_lt_of_le h1 h.b.size) (by omega))

theorem seven_list (w : World) (g : Nat) (a b c d e f h : Value) (h0 : w.cell? ⟨g, 0, none⟩ = some a) (h1 : w.cell? ⟨g, 1, none⟩ = some b) (h2 : w.cell? ⟨g, 2, none⟩ = some c) (h3 : w.cell? ⟨g, 3, none⟩ = some d) (h4 : w.cell? ⟨g, 4, none⟩ = some e) (h5 : w.cell? ⟨g, 5, none⟩ = some f) (h6 : w.cell? ⟨g, 6, none⟩ = some h) :
    ∀ (j : Nat) (x : Value), [a, b, c, d, e, f, h][j]? = some x → w.cell? ((⟨g, 0, none⟩ : Addr).add j) = some x := by
  intro j x hx
  match j, hx with
  | 0, hx => simp at hx; subst hx; exact h0
  | 1, hx => simp at hx; subst hx; exact h1
  | 2, hx => simp at hx; subst hx; exact h2
  | 3, hx => simp at hx; subst hx; exact h3
  | 4, hx => simp at hx; subst hx; exact h4
  | 5, hx => simp at hx; subst hx; exact h5
  | 6, hx => simp at hx; subst hx; exact h6
  | j + 7, hx => simp at hx

/-- What flood finds from a cell. -/
theorem flood_facts {us : Int → Int → Bool} {W H : Nat} (hus : ∀ x y, us x y = true → InR W H (x, y)) {x y : Int} (hu : us x y = true) (S : List (Int × Int)) (FL : Fl) (hF : FL = flood us 2305 0 ([(x, y)], (x, y) :: S)) :
    FInv W H S.length FL ∧ 0 < FL.1.length := by
  have h0 : FInv W H S.length ([(x, y)], (x, y) :: S) := ⟨by simp, by intro c hc; simp at hc; subst hc; exact hus _ _ hu, by intro c hc; simp at hc; subst hc; exact List.mem_cons_self .., by simp⟩
  obtain ⟨h1, h2, -⟩ := FInv.flood hus 2305 0 _ h0
  rw [← hF] at h1 h2
  exact ⟨h1, Nat.lt_of_lt_of_le (by simp) h2⟩

set_option maxRecDepth 100000 in
theorem connPM (w0 : World) (X : PL) (ss : List ByteArray) (hs : skB ss = true) (hg : 1 ≤ X.g) (st : List Pt × List (Int × Int)) (v : Value) (x y : Int) (hu : usB ss X.g x y = true) (hS : st.2.length ≤ 2304) (FL : Fl) (hF : FL = flood (usB ss X.g) 2305 0 ([(x, y)], (x, y) :: st.2)) (w : World) (h : PM w0 X ss st v w) :
    Calls Try.prog 66 #[.agg #[.int .i64 x, .int .i64 y], .func (.func 67) #[] #[.pointer (some ⟨X.ps, 0, none⟩), .pointer (some ⟨X.pg, 0, none⟩)], .map (some X.bm)] w fun e w' => ∃ gb cap, e = .returned (.slice (some ⟨gb, 0, none⟩) FL.1.length cap) ∧ CellS w' gb FL.1 ∧ PM w0 X ss (st.1, FL.2) v w' ∧ w.grownBy w' (some X.bm) := by
  obtain ⟨n1, n2, n3⟩ := h.ne
  obtain ⟨hfi, hfp⟩ := flood_facts (fun p q hh => usB_in hg hh) hu st.2 FL hF
  refine (connected_any X.ps X.pg X.bm X.a X.cap ss hs X.g hg x y hu st.2 hS w h.lea n1 n2 n3 h.seen).mono ?_
  rintro e w' ⟨u, rfl, hc⟩
  rw [← hF] at hc
  obtain ⟨gb, cap, rfl, -, hlt, -, -⟩ := hc.slice hfp
  exact ⟨gb, cap, rfl, ⟨hlt, fun k hk => hc.read hk⟩, h.seenTo hc, hc.gr⟩

set_option maxRecDepth 100000 in
theorem measPM (w0 : World) (X : PL) (ss : List ByteArray) (hs : skB ss = true) (st : List Pt × List (Int × Int)) (v : Value) (l : List (Int × Int)) (hl : 0 < l.length) (hr : ∀ c ∈ l, InR (wid ss) ss.length c) (hl2 : l.length ≤ 2304) (gb cap : Nat) (w : World) (h : PM w0 X ss st v w) (hc : CellS w gb l) :
    Calls Try.prog 65 #[.slice (some ⟨gb, 0, none⟩) l.length cap, .func (.func 67) #[] #[.pointer (some ⟨X.ps, 0, none⟩), .pointer (some ⟨X.pg, 0, none⟩)]] w fun e w' => e = .returned (ptVal (partOf (usB ss X.g) l)) ∧ Below w.heap.size w w' := by
  obtain ⟨⟨hl1, hl2'⟩, ⟨hw1, hw2⟩, -⟩ := skB_iff.1 hs
  refine (measure_any X.ps X.pg (usB ss X.g) gb cap l hl hl2 (fun c hc => by
    obtain ⟨r1, r2, r3, r4⟩ := hr c hc
    omega) w hc (fun w' hb p q => usable_any X.ps X.pg X.a X.cap ss hs X.g p q w' (h.lea.below hb))).mono ?_
  rintro e w' ⟨P, Q, p, q, r, s, rfl, hm, hb, hbe⟩
  refine ⟨?_, hbe⟩
  have hg0 : l.getD 0 (0, 0) = l[0] := by rw [List.getD_eq_getElem?_getD, List.getElem?_eq_getElem hl]; rfl
  unfold ptVal partOf
  rw [hg0, hm, hb]

theorem SInv.step {us : Int → Int → Bool} {W H : Nat} (hus : ∀ x y, us x y = true → InR W H (x, y)) {st : List Pt × List (Int × Int)} (h : SInv W H st.2) (c : Int × Int) : SInv W H (partStep us st c).2 ∧ (partStep us st c).1.length ≤ st.1.length + 1 := by
  unfold partStep
  split
  · rename_i hc
    simp only [Bool.and_eq_true, Bool.not_eq_true', decide_eq_false_iff_not] at hc
    refine ⟨SInv.flood hus 2305 0 _ ⟨List.nodup_cons.2 ⟨hc.2, h.1⟩, fun d hd => ?_⟩, by simp⟩
    rcases List.mem_cons.1 hd with rfl | hd
    · exact hus _ _ hc.1
    · exact h.2 d hd
  · exact ⟨h, Nat.le_succ _⟩

theorem SInv.steps {us : Int → Int → Bool} {W H : Nat} (hus : ∀ x y, us x y = true → InR W H (x, y)) : ∀ (cs : List (Int × Int)) (st : List Pt × List (Int × Int)), SInv W H st.2 → SInv W H (cs.foldl (partStep us) st).2 ∧ (cs.foldl (partStep us) st).1.length ≤ st.1.length + cs.length
  | [], _, h => ⟨h, Nat.le_refl _⟩
  | c :: t, st, h => by
    obtain ⟨h1, h2⟩ := h.step hus c
    obtain ⟨h3, h4⟩ := SInv.steps hus t _ h1
    refine ⟨h3, ?_⟩
    simp only [List.foldl_cons, List.length_cons]
    omega

theorem cellsTo_len (W y x : Nat) : (cellsTo W y x).length = y * W + x := by
  unfold cellsTo
  rw [List.length_append, List.length_map, List.length_range, List.length_flatMap]
  simp [List.map_const']

theorem partsTo_inv {us : Int → Int → Bool} {W H : Nat} (hus : ∀ x y, us x y = true → InR W H (x, y)) (y x : Nat) : SInv W H (partsTo us W y x).2 ∧ (partsTo us W y x).1.length ≤ y * W + x := by
  have := SInv.steps hus (cellsTo W y x) ([], []) ⟨List.nodup_nil, by simp⟩
  rw [cellsTo_len] at this
  unfold partsTo
  simpa using this

end Go.Proofs.Ytndhnpljdldlpab

/- Pairs: side, which turns the law's gloves into the program's. -/
import Derived.Test.YtchhadkmemckbabPaQ
namespace Go.Proofs.Ytchhadkmemckbab
open Go.RowKit
set_option linter.unusedSimpArgs false
set_option linter.unusedVariables false

def prcVals (l : List Rc) : List Value := l.flatMap fun r => [.int .i64 r.1, .int .i64 r.2.1, .int .i64 r.2.2.1, .int .i64 r.2.2.2]
theorem prcVals_append (l m : List Rc) : prcVals (l ++ m) = prcVals l ++ prcVals m := by simp [prcVals]
theorem prcVals_len (l : List Rc) : (prcVals l).length = l.length * 4 := by
  induction l with
  | nil => rfl
  | cons a t ih => simp [prcVals] at ih ⊢; omega
theorem prcVals_get : ∀ {l : List Rc} {k : Nat} (hk : k < l.length), (prcVals l)[k * 4]? = some (.int .i64 l[k].1) ∧ (prcVals l)[k * 4 + 1]? = some (.int .i64 l[k].2.1) ∧ (prcVals l)[k * 4 + 2]? = some (.int .i64 l[k].2.2.1) ∧ (prcVals l)[k * 4 + 3]? = some (.int .i64 l[k].2.2.2)
  | [], k, hk => by simp at hk
  | a :: t, 0, _ => by simp [prcVals]
  | a :: t, k + 1, hk => by
    have ih := prcVals_get (l := t) (k := k) (by simpa using hk)
    have e : prcVals (a :: t) = [.int .i64 a.1, .int .i64 a.2.1, .int .i64 a.2.2.1, .int .i64 a.2.2.2] ++ prcVals t := by simp [prcVals]
    rw [e]
    refine ⟨?_, ?_, ?_, ?_⟩
    · rw [show (k + 1) * 4 = 4 + k * 4 by omega, List.getElem?_append_right (by simp)]; simpa using ih.1
    · rw [show (k + 1) * 4 + 1 = 4 + (k * 4 + 1) by omega, List.getElem?_append_right (by simp)]; simpa using ih.2.1
    · rw [show (k + 1) * 4 + 2 = 4 + (k * 4 + 2) by omega, List.getElem?_append_right (by simp)]; simpa using ih.2.2.1
    · rw [show (k + 1) * 4 + 3 = 4 + (k * 4 + 3) by omega, List.getElem?_append_right (by simp)]; simpa using ih.2.2.2

/-- The world w0, with new blocks: v is a slice of its own, of the rectangles l. -/
structure PRV (w0 : World) (v : Value) (l : List Rc) (wr : World) : Prop where
  b : Below w0.heap.size w0 wr
  own : wr.ownsRow w0.heap.size 32 4 v l.length (prcVals l)
theorem PRV.start (w : World) : PRV w (.slice none 0 0) [] w := ⟨Below.refl _ _, ⟨by simp [prcVals], .inl ⟨rfl, rfl⟩⟩⟩
theorem PRV.step {w0 : World} {v : Value} {l : List Rc} {wr w2 : World} (h : PRV w0 v l wr) (hb : Below wr.heap.size wr w2) : PRV w0 v l w2 :=
  ⟨h.b.trans (hb.mono h.b.size), h.own.kept (row := none) (grownBy_below none hb) (by
    cases hk : v.ownBlock with
    | none => exact .inl rfl
    | some k => exact .inr (by simp))⟩
theorem PRV.push {w0 : World} {v v' : Value} {l : List Rc} {r : Rc} {wr w2 : World} (h : PRV w0 v l wr) (hown : w2.ownsRow w0.heap.size 32 4 v' (l.length + 1) (prcVals l ++ [.int .i64 r.1, .int .i64 r.2.1, .int .i64 r.2.2.1, .int .i64 r.2.2.2])) (hg : wr.grownBy w2 v.ownBlock) : PRV w0 v' (l ++ [r]) w2 := by
  have hlt := h.own.lt
  refine ⟨⟨hg.os.trans h.b.os, hg.tape.trans h.b.tape, hg.output.trans h.b.output, Nat.le_trans h.b.size hg.size, fun i hi => ?_⟩, ?_⟩
  · exact (hg.block i (Nat.lt_of_lt_of_le hi h.b.size) (fun e => by have := (hlt i e.symm).1; omega)).trans (h.b.block i hi)
  · rw [prcVals_append, List.length_append]
    simpa [prcVals] using hown
theorem pownsRow_recs {w : World} {B : Nat} {v : Value} {l : List Rc} (h : w.ownsRow B 32 4 v l.length (prcVals l)) : ∃ a cap, v = .slice a l.length cap ∧ RecS w a l := by
  rcases h.2 with ⟨hv, h0⟩ | ⟨g, cap, cur, hv, hb, hh, -⟩
  · exact ⟨none, 0, by rw [hv, h0], .inl (List.length_eq_zero_iff.1 h0)⟩
  · refine ⟨some ⟨g, 0, none⟩, cap, hv, .inr ⟨g, 0, rfl, block_lt hh, fun k hk => ?_⟩⟩
    obtain ⟨h1, h2, h3, h4⟩ := prcVals_get hk
    have e1 := h.cells (g := g) (by rw [hv]; rfl) _ _ h1
    have e2 := h.cells (g := g) (by rw [hv]; rfl) _ _ h2
    have e3 := h.cells (g := g) (by rw [hv]; rfl) _ _ h3
    have e4 := h.cells (g := g) (by rw [hv]; rfl) _ _ h4
    rw [add_off, Nat.zero_add] at e1 e2 e3 e4
    simp only [Nat.zero_add]
    exact ⟨e1, e2, e3, e4⟩
theorem pcell_four_new (w : World) (u v x y : Value) (T : TypeId) : ∀ (j : Nat) (z : Value), [u, v, x, y][j]? = some z → (w.alloc (.cells #[u, v, x, y] T)).cell? ((⟨w.heap.size, 0, none⟩ : Addr).add j) = some z := by
  have h := heap_alloc_new w (.cells #[u, v, x, y] T)
  intro j z hz
  have e : (w.alloc (.cells #[u, v, x, y] T)).cell? ((⟨w.heap.size, 0, none⟩ : Addr).add j) = (#[u, v, x, y] : Array Value)[j]? := by
    rw [add_off]
    simp only [World.cell?]
    rw [h]
    simp
  rw [e]
  simpa using hz
theorem pown_neT {w : World} {base : Nat} {e T : TypeId} {size : Nat} {v : Value} {n : Nat} {xs : List Value} {g : Nat} {cs : Array Value} (h : w.ownsRow base e size v n xs) (hg : w.heap[g]? = some (.cells cs T (0, 0))) (hT : T ≠ e) : v.ownBlock ≠ some g := by
  intro hk
  rcases h.2 with ⟨rfl, _⟩ | ⟨g', cap, cur, rfl, _, hgg, _⟩
  · simp [Value.ownBlock] at hk
  · simp [Value.ownBlock] at hk
    subst hk
    rw [hg] at hgg
    injection hgg with h1
    injection h1 with _ h2
    exact hT h2
theorem infoGlove : (Try.prog.info? 32).map (fun i => (i.zero, i.size, i.bytes)) = some (some (.agg #[.int .i64 0, .int .i64 0, .int .i64 0, .int .i64 0]), 4, 32) := by kernel_rfl
theorem uGloves : Try.prog.underlying 30 = some (.slice 32) := by kernel_rfl


theorem take_next {l : List Gl} {k : Nat} (h : k < l.length) : l.take (k + 1) = l.take k ++ [l[k]] := by
  rw [List.take_add_one, List.getElem?_eq_getElem h]; rfl
theorem sid34 (gs : List Gl) : sidB (gs.take 34) = sidB gs := by
  by_cases h : gs.length ≤ 34
  · rw [List.take_of_length_le h]
  · unfold sidB
    rw [decide_eq_false (by rw [List.length_take]; omega), decide_eq_false (by omega), Bool.false_and, Bool.false_and]
theorem take34 {gs : List Gl} (h : sidB gs = true) : gs.take 34 = gs := by
  refine List.take_of_length_le ?_
  unfold sidB at h
  simp at h
  omega

set_option maxRecDepth 100000 in
set_option maxHeartbeats 3200000 in
theorem side_any (a : Option Addr) (cap : Nat) (gs : List Gl) (hl : (gs.length : Int) ≤ 9223372036854775807) (w : World) (h : RecS w a gs) :
    Calls Try.prog 10 #[.slice a gs.length cap] w fun e w' => ∃ a' c', e = .returned (.slice a' (gs.take 34).length c') ∧ RecS w' a' (gs.take 34) ∧ Below w.heap.size w w' := by
  obtain ⟨i0, hi, hz0, hz1, hz2⟩ := info_parts infoGlove
  have HI0 := Lib.hid (And.intro hi (And.intro hz0 (And.intro hz1 hz2)))
  clear hi hz0 hz1 hz2
  have H1 := Lib.hid h
  have HS : Hid (PRV w (.slice none 0 0) (gs.take 0) w) := Lib.hid (PRV.start w)
  obtain ⟨T, hT⟩ : ∃ T, T = gs.take 34 := ⟨_, rfl⟩
  rw [← hT]
  have HT := Lib.hid hT
  clear h hT
  go_enter Try.func10, Try.ntmps10
  go_wp2_with fail
  go_loopg [3, 8] 35 (fun gk v i wr => ∃ k : Nat, k + gk = 35 ∧ k ≤ gs.length ∧ k ≤ 34 ∧ i = .int .i64 k ∧ Hid (PRV w v (gs.take k) wr))
  case atStart => exact ⟨0, by omega, by omega, by omega, rfl, HS⟩
  case round =>
    obtain ⟨k, hk, hkl, hk34, rfl, HI⟩ := hrel
    obtain ⟨gk', rfl⟩ : ∃ m, gk = m + 1 := ⟨gk - 1, by omega⟩
    by_cases hlt : k < gs.length
    · have hlt' : (k : Int) < gs.length := by omega
      have hk0 : (0 : Int) ≤ k := by omega
      obtain ⟨b, off, rfl, hb, c0, c1, c2, c3⟩ := H1.out.at_ hlt
      obtain ⟨x0, x1, x2, x3, hg⟩ := Rc.ex gs[k]
      have HNX : Hid (gs.take (k + 1) = gs.take k ++ [(x0, x1, x2, x3)]) := Lib.hid (by rw [take_next hlt, hg])
      rw [hg] at c0 c1 c2 c3
      simp only at c0 c1 c2 c3
      have HB := Lib.hid HI.out.b
      have d0 := (HB.out.cell (p := ⟨b, off + k * 4, none⟩) hb).trans c0
      have d1 := (HB.out.cell (p := ⟨b, off + k * 4 + 1, none⟩) hb).trans c1
      have d2 := (HB.out.cell (p := ⟨b, off + k * 4 + 2, none⟩) hb).trans c2
      have d3 := (HB.out.cell (p := ⟨b, off + k * 4 + 3, none⟩) hb).trans c3
      have l1 := Nat.lt_of_lt_of_le hb HB.out.size
      clear hg c0 c1 c2 c3
      by_cases h34 : k = 34
      · have t0 : decide ((33 : Int) < k) = true := decide_eq_true (by omega)
        have HE : Hid (∃ a' c', u3 = .slice a' T.length c' ∧ RecS wr a' T) := Lib.hid (by
          have h := HI.out.own
          rw [h34, ← HT.out] at h
          exact pownsRow_recs h)
        obtain ⟨a', c', rfl, hrs⟩ := HE.out
        have HE2 : Hid (RecS (wr.alloc (.cells #[.int .i64 x0, .int .i64 x1, .int .i64 x2, .int .i64 x3] 24)) a' T ∧ Below w.heap.size w (wr.alloc (.cells #[.int .i64 x0, .int .i64 x1, .int .i64 x2, .int .i64 x3] 24))) := Lib.hid ⟨hrs.below ((Below.refl _ _).alloc (Nat.le_refl _) _), HB.out.alloc HB.out.size _⟩
        clear hrs HE h34
        go_wp2
        go_ret
        exact ⟨a', c', rfl, HE2.out.1, HE2.out.2⟩
      · have t0 : decide ((33 : Int) < k) = false := decide_eq_false (by omega)
        obtain ⟨wa, hwa⟩ : ∃ z, z = wr.alloc (.cells #[.int .i64 x0, .int .i64 x1, .int .i64 x2, .int .i64 x3] 24) := ⟨_, rfl⟩
        have HIA : Hid (PRV w u3 (gs.take k) wa) := Lib.hid (by rw [hwa]; exact HI.out.step ((Below.refl _ _).alloc (Nat.le_refl _) _))
        have HWA := Lib.hid hwa
        clear hwa HI HB
        go_wp2_with fail
        refine (glove_any x0 x1 x2 x3 _).mono ?_
        rintro e w1 ⟨rfl, hb1⟩
        rw [← HWA.out] at hb1
        have HI1 := Lib.hid (HIA.out.step hb1)
        have hown : w1.ownsRow w.heap.size 32 4 u3 k (prcVals (gs.take k)) := by
          have h := HI1.out.own
          rw [List.length_take, Nat.min_eq_left (by omega)] at h
          exact h
        have hbs := HI1.out.b.size
        have HPU : Hid (∀ v' w2, w2.ownsRow w.heap.size 32 4 v' (k + 1) (prcVals (gs.take k) ++ [.int .i64 x0, .int .i64 x1, .int .i64 x2, .int .i64 x3]) → (w1.alloc (.cells #[.int .i64 x0, .int .i64 x1, .int .i64 x2, .int .i64 x3] 32)).grownBy w2 u3.ownBlock → PRV w v' (gs.take (k + 1)) w2) := Lib.hid (fun v' w2 ho hg => by
          rw [HNX.out]
          refine (HI1.out.step ((Below.refl _ _).alloc (Nat.le_refl _) _)).push (r := (x0, x1, x2, x3)) ?_ hg
          rw [List.length_take, Nat.min_eq_left (by omega)]
          exact ho)
        clear hb1 d0 d1 d2 d3 l1 HIA HWA
        go_wp2_with (at_builtin; refine wpList_append_own _ rfl _ _ 30 rfl w.heap.size 32 i0 (.agg #[.int .i64 0, .int .i64 0, .int .i64 0, .int .i64 0]) 4 32 uGloves HI0.out.1 HI0.out.2.1 HI0.out.2.2.1 HI0.out.2.2.2 rfl (by decide) u3 k _ rfl (hown.alloc _) ⟨w1.heap.size, 0, none⟩ 1 1 [.int .i64 x0, .int .i64 x1, .int .i64 x2, .int .i64 x3] rfl rfl (pcell_four_new _ _ _ _ _ _) (by intro u hu; simp at hu; rcases hu with rfl | rfl | rfl | rfl <;> rfl) (by unfold maxLen; omega) (by omega) (by simp; omega) ?_)
        intro v' w6 hown6 hgrow6 hnil6
        have HN := Lib.hid (HPU.out v' w6 hown6 hgrow6)
        clear hown6 hgrow6 hown hnil6
        go_wp2
        go_roundg gk'
        case measure => exact Nat.lt_succ_self _
        case rel => exact ⟨k + 1, by omega, by omega, by omega, by go_num, HN⟩
    · obtain rfl : k = gs.length := by omega
      have HE : Hid (∃ a' c', u3 = .slice a' T.length c' ∧ RecS wr a' T) := Lib.hid (by
        have h := HI.out.own
        rw [List.take_length] at h
        rw [HT.out, List.take_of_length_le hk34]
        exact pownsRow_recs h)
      obtain ⟨a', c', rfl, hrs⟩ := HE.out
      have HE2 := Lib.hid (And.intro hrs HI.out.b)
      clear hrs HE
      go_wp2
      go_ret
      exact ⟨a', c', rfl, HE2.out.1, HE2.out.2⟩

end Go.Proofs.Ytchhadkmemckbab

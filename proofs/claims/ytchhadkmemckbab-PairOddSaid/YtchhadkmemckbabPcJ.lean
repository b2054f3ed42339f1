/- Pairs: the reference's Odd. -/
import Derived.Test.YtchhadkmemckbabPcI
import Derived.Test.YtchhadkmemckbabPbA
namespace Go.Proofs.Ytchhadkmemckbab
open Go.RowKit
set_option linter.unusedSimpArgs false
set_option linter.unusedVariables false

/-- A search in breadth: what is met, the list to do, its place k, the next glove j. -/
structure Bfs (E : Nat → Nat → Bool) (N i : Nat) (g0 g : Nat → Bool) (L : List Nat) (k j : Nat) : Prop where
  up : ∀ v, g0 v = true → g v = true
  mem : ∀ v, v ∈ L ↔ (g v = true ∧ g0 v = false)
  lt : ∀ v ∈ L, v < N
  cnt : L.length + cntU g N = cntU g0 N
  old : ∀ n (h : n < L.length), n < k → ∀ m, m < N → E L[n] m = true → g m = true
  cur : ∀ (h : k < L.length) m, m < j → m < N → E L[k] m = true → g m = true
  least : ∀ X : Nat → Prop, (∀ v, g0 v = true → X v) → X i → (∀ v, X v → g0 v = false → ∀ m, m < N → E v m = true → X m) → ∀ v, g v = true → X v
  me : g i = true
section
variable {E : Nat → Nat → Bool} {N i k j : Nat} {g0 g : Nat → Bool} {L : List Nat}
theorem Bfs.start (hi : i < N) (h : g0 i = false) : Bfs E N i g0 (fset g0 i true) [i] 0 0 := by
  have hs := cntU_set h N hi
  refine ⟨fun v hv => by unfold fset; split <;> simp [hv], fun v => ?_, fun v hv => by simp at hv; omega, by simp; omega, fun n _ h => by omega, fun _ m h => by omega, fun X h1 h2 _ v hv => ?_, by unfold fset; rw [if_pos rfl]⟩
  · unfold fset
    by_cases e : v = i
    · subst e; simp [h]
    · rw [if_neg e]
      constructor
      · intro hv; exact absurd (by simpa using hv) e
      · rintro ⟨a, b⟩; rw [a] at b; cases b
  · unfold fset at hv
    by_cases e : v = i
    · rw [e]; exact h2
    · rw [if_neg e] at hv; exact h1 v hv
theorem Bfs.skip (h : Bfs E N i g0 g L k j) (hs : g j = true ∨ ∀ hk : k < L.length, E L[k] j = false) : Bfs E N i g0 g L k (j + 1) := by
  refine ⟨h.up, h.mem, h.lt, h.cnt, h.old, fun hk m hm hmN hE => ?_, h.least, h.me⟩
  by_cases e : m = j
  · subst e
    rcases hs with hs | hs
    · exact hs
    · rw [hs hk] at hE; cases hE
  · exact h.cur hk m (by omega) hmN hE
theorem Bfs.take (h : Bfs E N i g0 g L k j) (hk : k < L.length) (hj : j < N) (hg : g j = false) (hE : E L[k] j = true) : Bfs E N i g0 (fset g j true) (L ++ [j]) k (j + 1) := by
  have hs := cntU_set hg N hj
  have hup : ∀ v, g v = true → fset g j true v = true := fun v hv => by unfold fset; split <;> simp [hv]
  have h0j : g0 j = false := by
    cases hx : g0 j with
    | false => rfl
    | true => rw [h.up j hx] at hg; cases hg
  have hget : ∀ n (hn : n < L.length), (L ++ [j])[n]'(by rw [List.length_append]; omega) = L[n] := fun n hn => List.getElem_append_left hn
  refine ⟨fun v hv => hup v (h.up v hv), fun v => ?_, fun v hv => ?_, by rw [List.length_append, List.length_singleton]; have := h.cnt; omega, fun n hn hnk m hm hEm => ?_, fun _ m hm hmN hEm => ?_, fun X h1 h2 h3 v hv => ?_, hup i h.me⟩
  · rw [List.mem_append, h.mem v]
    unfold fset
    by_cases e : v = j
    · subst e; simp [h0j]
    · rw [if_neg e]
      constructor
      · rintro (a | a)
        · exact a
        · exact absurd (by simpa using a) e
      · exact .inl
  · rcases List.mem_append.1 hv with a | a
    · exact h.lt v a
    · have : v = j := by simpa using a
      omega
  · have hn2 : n < L.length := by omega
    rw [hget n hn2] at hEm
    exact hup m (h.old n hn2 hnk m hm hEm)
  · rw [hget k hk] at hEm
    by_cases e : m = j
    · subst e; unfold fset; rw [if_pos rfl]
    · exact hup m (h.cur hk m (by omega) hmN hEm)
  · have hXg := h.least X h1 h2 h3
    unfold fset at hv
    by_cases e : v = j
    · rw [e]
      have hmem := (h.mem L[k]).1 (List.getElem_mem hk)
      exact h3 L[k] (hXg _ hmem.1) hmem.2 j hj hE
    · rw [if_neg e] at hv; exact hXg v hv
theorem Bfs.next (h : Bfs E N i g0 g L k N) : Bfs E N i g0 g L (k + 1) 0 := by
  refine ⟨h.up, h.mem, h.lt, h.cnt, fun n hn hnk m hm hE => ?_, fun _ m hm => by omega, h.least, h.me⟩
  by_cases e : n = k
  · subst e; exact h.cur hn m hm hm hE
  · exact h.old n hn (by omega) m hm hE
theorem Bfs.cls (h : Bfs E N i g0 g L L.length 0) : Cls E N i g0 g L.length := by
  refine ⟨h.up, h.me, h.cnt, fun v hv hv0 => ?_, h.least⟩
  have hm := (h.mem v).2 ⟨hv, hv0⟩
  obtain ⟨n, hn, rfl⟩ := List.mem_iff_getElem.1 hm
  exact ⟨h.lt _ hm, fun m hmN hE => h.old n hn hn m hmN hE⟩
theorem Bfs.len (h : Bfs E N i g0 g L k j) : L.length ≤ N := by
  have := h.cnt
  have := cntU_max g0 N
  omega
end

/-- The world w0 but for block q, and a slice of ints behind it. -/
structure BF (w0 : World) (q n : Nat) (g : Nat → Bool) (v : Value) (L : List Nat) (wr : World) : Prop where
  gb : GB w0 q n g wr
  own : wr.ownsRow w0.heap.size 3 1 v L.length (L.map fun x : Nat => .int .i64 (x : Int))
  lt : q < w0.heap.size
section
variable {w0 wr w2 : World} {q n : Nat} {g : Nat → Bool} {v v' : Value} {L : List Nat}
theorem BF.neq (h : BF w0 q n g v L wr) : v.ownBlock ≠ some q := fun e => by have := (h.own.lt q e).1; have := h.lt; omega
theorem BF.step (h : BF w0 q n g v L wr) (hb : Below wr.heap.size wr w2) : BF w0 q n g v L w2 :=
  ⟨h.gb.step hb, h.own.kept (row := none) (grownBy_below none hb) (by
    cases hk : v.ownBlock with
    | none => exact .inl rfl
    | some k => exact .inr (by simp)), h.lt⟩
theorem BF.set (h : BF w0 q n g v L wr) (i : Nat) (x : Bool) : BF w0 q n (fset g i x) v L (wr.setCell ⟨q, i, none⟩ (.bool x)) :=
  ⟨h.gb.set i x, h.own.kept (row := some q) ⟨rfl, rfl, rfl, by simp [World.setCell], fun k _ hne => Below.heap_setCell _ _ _ _ (by show k ≠ q; exact fun e => hne (by rw [e]))⟩ (.inr h.neq), h.lt⟩
theorem BF.push (h : BF w0 q n g v L wr) (x : Nat) (hown : w2.ownsRow w0.heap.size 3 1 v' (L.length + 1) ((L.map fun x : Nat => .int .i64 (x : Int)) ++ [.int .i64 (x : Int)])) (hg : wr.grownBy w2 v.ownBlock) : BF w0 q n g v' (L ++ [x]) w2 := by
  refine ⟨⟨⟨hg.os.trans h.gb.ex.os, hg.tape.trans h.gb.ex.tape, hg.output.trans h.gb.ex.output, Nat.le_trans h.gb.ex.size hg.size, fun k hk h1 h2 => ?_⟩, ?_⟩, by rw [List.length_append, List.map_append]; exact hown, h.lt⟩
  · exact (hg.block k (Nat.lt_of_lt_of_le hk h.gb.ex.size) (fun e => by have := (h.own.lt k e.symm).1; omega)).trans (h.gb.ex.blk k hk h1 h2)
  · exact (hg.block q (block_lt h.gb.hh) (fun e => h.neq e.symm)).trans h.gb.hh
theorem BF.at_ (h : BF w0 q n g v L wr) {k : Nat} (hk : k < L.length) : ∃ gq cap, v = .slice (some ⟨gq, 0, none⟩) L.length cap ∧ w0.heap.size ≤ gq ∧ gq < wr.heap.size ∧ wr.cell? ⟨gq, k, none⟩ = some (.int .i64 (L[k] : Int)) := by
  rcases h.own.2 with ⟨hv, h0⟩ | ⟨gq, cap, cur, hv, hb, hh, -⟩
  · omega
  · refine ⟨gq, cap, hv, hb, block_lt hh, ?_⟩
    have := h.own.cells (g := gq) (by rw [hv]; rfl) k (.int .i64 (L[k] : Int)) (by rw [List.getElem?_map, List.getElem?_eq_getElem hk]; rfl)
    rwa [add_off, Nat.zero_add] at this
end

set_option maxRecDepth 100000 in
set_option maxHeartbeats 6400000 in
theorem rOdd_any (a a3 : Option Addr) (cap cap3 : Nat) (hs : List Gl) (x0 x1 x2 x3 y0 y1 y2 y3 : Int) (kb : List Int) (hl1 : (hs.length : Int) ≤ 9223372036854775807) (hl2 : (kb.length : Int) ≤ 9223372036854775807) (w : World) (hl : RecS w a hs) (hk : IntK w a3 kb) :
    Calls Try.prog 20 #[.slice a hs.length cap, .agg #[.int .i64 x0, .int .i64 x1, .int .i64 x2, .int .i64 x3, .int .i64 y0, .int .i64 y1, .int .i64 y2, .int .i64 y3], .slice a3 kb.length cap3] w fun e w' => (∃ d ee, e = .returned (.tuple #[.int .i64 d, .int .i64 ee]) ∧ OdA hs ((x0, x1, x2, x3), (y0, y1, y2, y3)) kb d ee) ∧ Below w.heap.size w w' := by
  have HM := Lib.hid ((Mem.nil w).alloc_at (H := w.heap.size) rfl #[.int .i64 x0, .int .i64 x1, .int .i64 x2, .int .i64 x3, .int .i64 y0, .int .i64 y1, .int .i64 y2, .int .i64 y3] 26)
  have k0 := HM.out.cell 0
  have k1 := HM.out.cell 1
  have k2 := HM.out.cell 2
  have k3 := HM.out.cell 3
  have k4 := HM.out.cell 4
  have k5 := HM.out.cell 5
  have k6 := HM.out.cell 6
  have k7 := HM.out.cell 7
  simp at k0 k1 k2 k3 k4 k5 k6 k7
  have HG := Lib.hid (fun w' hb => qGood_any a none cap 0 hs [] x0 x1 x2 x3 y0 y1 y2 y3 hl1 (by simp) w' (hl.below (w' := w') hb) (.inl rfl))
  have eg : (sidB hs && sidB [] && ruB ((x0, x1, x2, x3), (y0, y1, y2, y3))) = (sidB hs && ruB ((x0, x1, x2, x3), (y0, y1, y2, y3))) := by rw [show sidB [] = true from rfl, Bool.and_true]
  rw [eg] at HG
  simp only [List.length_nil] at HG
  clear eg
  obtain ⟨g0, hg0⟩ : ∃ g0, g0 = (sidB hs && ruB ((x0, x1, x2, x3), (y0, y1, y2, y3))) := ⟨_, rfl⟩
  rw [← hg0] at HG
  cases g0 with
  | false =>
    have e : OdA hs ((x0, x1, x2, x3), (y0, y1, y2, y3)) kb 0 2 := by unfold OdA; rw [← hg0, Bool.false_and, if_neg (by simp)]; exact ⟨rfl, rfl⟩
    have HE0 := Lib.hid e
    clear e hg0 hl hk
    go_enter Try.func20, Try.ntmps20
    go_wp2_with fail
    refine (HG.out _ HM.out.b).mono ?_
    rintro e w1 ⟨rfl, hb1⟩
    have HB1 := Lib.hid (HM.out.b.trans (hb1.mono HM.out.b.size))
    clear hb1 HM k0 k1 k2 k3 k4 k5 k6 k7
    go_wp2
    go_ret2
    exact ⟨⟨_, _, rfl, HE0.out⟩, HB1.out⟩
  | true =>
  have hg1 : sidB hs = true ∧ ruB ((x0, x1, x2, x3), (y0, y1, y2, y3)) = true := by simpa using hg0.symm
  obtain ⟨h1, h3⟩ := hg1
  have n1 : hs.length ≤ 32 := by unfold sidB at h1; simp at h1; omega
  have o1 : allB hs = true := by unfold sidB at h1; simp at h1; exact h1.2
  have HCO : Hid (∀ i j (hi : i < hs.length) (hj : j < hs.length) w', (-1 ≤ cosT hs hs ((x0, x1, x2, x3), (y0, y1, y2, y3)) i j) ∧ Calls Try.prog 46 #[.agg #[.int .i64 hs[i].1, .int .i64 hs[i].2.1, .int .i64 hs[i].2.2.1, .int .i64 hs[i].2.2.2], .agg #[.int .i64 hs[j].1, .int .i64 hs[j].2.1, .int .i64 hs[j].2.2.1, .int .i64 hs[j].2.2.2], .agg #[.int .i64 x0, .int .i64 x1, .int .i64 x2, .int .i64 x3, .int .i64 y0, .int .i64 y1, .int .i64 y2, .int .i64 y3]] w' fun e w'' => e = .returned (.int .i64 (cosT hs hs ((x0, x1, x2, x3), (y0, y1, y2, y3)) i j)) ∧ Below w'.heap.size w' w'') := Lib.hid (fun i j hi hj w' => by
    have e : cosT hs hs ((x0, x1, x2, x3), (y0, y1, y2, y3)) i j = costB hs[i] hs[j] ((x0, x1, x2, x3), (y0, y1, y2, y3)) := by unfold cosT; simp [List.getD_eq_getElem?_getD, hi, hj]
    rw [e]
    exact ⟨(costB_range (allB_iff.1 o1 i hi) (allB_iff.1 o1 j hj) h3).1, rPrice_any hs[i].1 hs[i].2.1 hs[i].2.2.1 hs[i].2.2.2 hs[j].1 hs[j].2.1 hs[j].2.2.1 hs[j].2.2.2 x0 x1 x2 x3 y0 y1 y2 y3 (allB_iff.1 o1 i hi) (allB_iff.1 o1 j hj) h3 w'⟩)
  have HOA : Hid (∀ d ee, (if upF hs.length (-1) kb then ee = 0 ∧ ∃ r : Nat, d = (r : Int) ∧ Ods (eH hs ((x0, x1, x2, x3), (y0, y1, y2, y3))) hs.length 0 (bsF kb) 0 r else d = 0 ∧ ee = 2) → OdA hs ((x0, x1, x2, x3), (y0, y1, y2, y3)) kb d ee) := Lib.hid (fun d ee h => by unfold OdA; rw [← hg0, Bool.true_and]; exact h)
  have HEX := Lib.hid (Ods.ex (eH hs ((x0, x1, x2, x3), (y0, y1, y2, y3))) hs.length hs.length 0 (bsF kb) 0 (by omega))
  obtain ⟨E, hE⟩ : ∃ E, E = eH hs ((x0, x1, x2, x3), (y0, y1, y2, y3)) := ⟨_, rfl⟩
  obtain ⟨CF, hCF⟩ : ∃ C, C = cosT hs hs ((x0, x1, x2, x3), (y0, y1, y2, y3)) := ⟨_, rfl⟩
  have HED : Hid (∀ i j, i ≠ j → E i j = (CF i j != -1)) := Lib.hid (fun i j hij => by rw [hE, hCF]; unfold eH dgF; rw [if_neg hij])
  rw [← hE] at HOA HEX
  rw [← hCF] at HCO
  obtain ⟨u, hu⟩ : ∃ u, u = upF hs.length (-1) kb := ⟨_, rfl⟩
  have HU := Lib.hid hu
  rw [← hu] at HOA
  have HHS := Lib.hid (fun w' hb => hl.below (w' := w') hb)
  have HKK := Lib.hid (fun w' hb => hk.below (w' := w') hb)
  clear hg0 h1 h3 hl hk hE hCF o1 hu
  go_enter Try.func20, Try.ntmps20
  go_wp2_with fail
  refine (HG.out _ HM.out.b).mono ?_
  rintro e w1 ⟨rfl, hb1⟩
  have HM1 := Lib.hid (HM.out.step hb1)
  clear hb1 HM k0 k1 k2 k3 k4 k5 k6 k7 HG
  have hmk := pa_makeBool hs.length (by omega) w1
  have hm2 := HM1.out.alloc_at (H := w1.heap.size) rfl (cV hs.length fun _ => .bool false) 4
  obtain ⟨q, hq⟩ : ∃ z, z = w1.heap.size := ⟨_, rfl⟩
  obtain ⟨w2, hw2⟩ : ∃ z, z = w1.alloc (.cells (cV hs.length fun _ => .bool false) 4) := ⟨_, rfl⟩
  rw [← hw2, ← hq] at hm2
  have HM2 := Lib.hid hm2
  have HW2 := Lib.hid (And.intro hq hw2)
  clear hq hw2 hm2
  go_upto_region 4 with fail
  rw [← HW2.out.2, ← HW2.out.1]
  clear hmk HW2 HM1
  have HG0 : Hid (GB w2 q hs.length (fun _ => false) w2) := Lib.hid ⟨Ex.refl _ _ _, (HM2.out.h _ (List.mem_cons_self ..)).2⟩
  have HP0 : Hid (∀ v : Nat, (fun _ => false) v = true ↔ (v : Int) ∈ kb.take 0) := Lib.hid (by simp)
  have HWQ : Hid (w.heap.size ≤ q ∧ w.heap.size < q) := Lib.hid ⟨(HM2.out.h _ (List.mem_cons_self ..)).1, HM2.out.gt⟩
  have HBE : Hid (∀ w', Ex q q w2 w' → Below w.heap.size w w') := Lib.hid (fun w' h => h.below HM2.out.b HM2.out.b.size HWQ.out.1 HWQ.out.1)
  have HUP : Hid (upF hs.length (-1) (kb.drop 0) = u) := Lib.hid HU.out.symm
  go_wp2_with fail
  go_loopg [25] kb.length (fun gk x wr => ∃ (k : Nat) (bv : Int) (g : Nat → Bool), x = .int .i64 k ∧ k + gk = kb.length ∧ Hid (upF hs.length bv (kb.drop k) = u) ∧ Hid (-1 ≤ bv ∧ (k = 0 → bv = -1) ∧ ∀ k', k = k' + 1 → bv = kb.getD k' 0) ∧ Hid (∀ v : Nat, g v = true ↔ (v : Int) ∈ kb.take k) ∧ Hid (GB w2 q hs.length g wr))
  case atStart => exact ⟨0, -1, _, rfl, by omega, HUP, Lib.hid ⟨by omega, fun _ => rfl, fun k' h => by omega⟩, HP0, HG0⟩
  case round =>
    obtain ⟨k, bv, g, rfl, hkk, HUF, HBV, HP, HI⟩ := hrel
    by_cases hlt : k < kb.length
    · obtain ⟨gk', rfl⟩ : ∃ m, gk = m + 1 := ⟨gk - 1, by omega⟩
      have hlt' : (k : Int) < kb.length := by omega
      have hk0 : (0 : Int) ≤ k := by omega
      have HKW := Lib.hid (HKK.out wr (HBE.out _ HI.out.ex))
      obtain ⟨b, off, hab, hb, d0⟩ := HKW.out.at_ hlt
      have hprev : ∀ k' : Nat, k = k' + 1 → wr.cell? ⟨b, off + k', none⟩ = some (.int .i64 bv) := fun k' e => by
        have hbv := HBV.out.2.2 k' e
        subst e
        obtain ⟨b', off', hab', hb', d'⟩ := HKW.out.at_ (show k' < kb.length by omega)
        rw [hab] at hab'
        simp only [Option.some.injEq, Addr.mk.injEq, and_true] at hab'
        obtain ⟨rfl, rfl⟩ := hab'
        rw [hbv, List.getD_eq_getElem?_getD, List.getElem?_eq_getElem (show k' < kb.length by omega)]
        exact d'
      have huf := HUF.out
      rw [List.drop_eq_getElem_cons hlt] at huf
      have HGD : Hid (kb.getD k 0 = kb[k]) := Lib.hid (by rw [List.getD_eq_getElem?_getD, List.getElem?_eq_getElem hlt]; rfl)
      have HTK0 : Hid (kb.take (k + 1) = kb.take k ++ [kb[k]]) := Lib.hid (by rw [List.take_add_one, List.getElem?_eq_getElem hlt]; rfl)
      obtain ⟨x, hx⟩ : ∃ z, z = kb[k] := ⟨_, rfl⟩
      rw [← hx] at d0 huf HGD HTK0
      subst hab
      unfold upF at huf
      have hb1 := HBV.out.1
      have hb2 := HBV.out.2.1
      clear hx HKW HUF HBV
      have hfin : (0 ≤ x ∧ x < hs.length ∧ bv < x) ∨ ((x ≤ bv ∨ (hs.length : Int) ≤ x) ∧ u = false) := by
        by_cases hc : x ≤ bv ∨ (hs.length : Int) ≤ x
        · rw [if_pos hc] at huf
          exact .inr ⟨hc, huf.symm⟩
        · exact .inl (by omega)
      rcases hfin with ⟨hx0, hxN, hxb⟩ | ⟨hbad, hub⟩
      · rw [if_neg (by omega)] at huf
        have HUN := Lib.hid huf
        obtain ⟨m, rfl⟩ := Int.eq_ofNat_of_zero_le hx0
        have hmL : m < hs.length := by omega
        have hm' : (m : Int) < hs.length := by omega
        have hm0 : (0 : Int) ≤ m := by omega
        have a0 : decide ((m : Int) < 0) = false := decide_eq_false (by omega)
        have a1 : decide ((hs.length : Int) ≤ m) = false := decide_eq_false (by omega)
        obtain ⟨e0, e1, e2⟩ := HI.out.c hmL
        have HN := Lib.hid (HI.out.set m true)
        have HPN : Hid (∀ v : Nat, fset g m true v = true ↔ (v : Int) ∈ kb.take (k + 1)) := Lib.hid (fun v => by
          rw [HTK0.out, List.mem_append, ← HP.out v]
          unfold fset
          by_cases e : v = m
          · subst e; simp
          · rw [if_neg e]
            constructor
            · exact .inl
            · rintro (h | h)
              · exact h
              · exact absurd (by have h2 : (v : Int) = (m : Int) := by simpa using h
                                 omega) e)
        have HBN : Hid (-1 ≤ (m : Int) ∧ (k + 1 = 0 → (m : Int) = -1) ∧ ∀ k', k + 1 = k' + 1 → (m : Int) = kb.getD k' 0) := Lib.hid ⟨by omega, fun h => by omega, fun k' h => by
          obtain rfl : k' = k := by omega
          exact HGD.out.symm⟩
        clear huf HP HI HTK0 HGD
        by_cases hz : 0 < k
        · obtain ⟨k', rfl⟩ : ∃ k', k = k' + 1 := ⟨k - 1, by omega⟩
          have p0 := hprev k' rfl
          have a3 : decide ((m : Int) ≤ bv) = false := decide_eq_false (by omega)
          have v1 : IntKind.i64.wrap (k' : Int) = (k' : Int) := IntWalk.i64_in _ (by omega)
          have v2 : IntKind.i64.wrap ((k' : Int) + 1 - 1) = (k' : Int) := by rw [Int.add_sub_cancel]; exact v1
          have hk1 : (k' : Int) < kb.length := by omega
          have hk2 : (0 : Int) ≤ k' := by omega
          clear hprev hz hb2
          go_wp2
          go_roundg gk'
          case measure => exact Nat.lt_succ_self _
          case rel => exact ⟨k' + 1 + 1, _, _, by go_num, by omega, HUN, HBN, HPN, HN⟩
        · obtain rfl : k = 0 := by omega
          rw [Nat.add_zero] at d0
          clear hprev hz hb2
          go_wp2
          go_roundg gk'
          case measure => exact Nat.lt_succ_self _
          case rel => exact ⟨0 + 1, _, _, by first | rfl | go_num, by omega, HUN, HBN, HPN, HN⟩
      · subst hub
        have HE0 := Lib.hid (HOA.out 0 2 (by rw [if_neg (by simp)]; exact ⟨rfl, rfl⟩))
        have HBX := Lib.hid (HBE.out _ HI.out.ex)
        clear huf HP HOA HTK0 HGD HU HUP
        by_cases hx0 : x < 0
        · have a0 : decide (x < 0) = true := decide_eq_true hx0
          clear hprev hbad hx0 hb1 hb2
          go_wp2
          go_ret2
          exact ⟨⟨_, _, rfl, HE0.out⟩, HBX.out⟩
        · have a0 : decide (x < 0) = false := decide_eq_false hx0
          by_cases hxN : (hs.length : Int) ≤ x
          · have a1 : decide ((hs.length : Int) ≤ x) = true := decide_eq_true hxN
            clear hprev hbad hx0 hb1 hb2 hxN
            go_wp2
            go_ret2
            exact ⟨⟨_, _, rfl, HE0.out⟩, HBX.out⟩
          · have a1 : decide ((hs.length : Int) ≤ x) = false := decide_eq_false hxN
            have hxb : x ≤ bv := by omega
            obtain ⟨k', rfl⟩ : ∃ k', k = k' + 1 := ⟨k - 1, by
              by_cases h : k = 0
              · have := hb2 h; omega
              · omega⟩
            have p0 := hprev k' rfl
            have a3 : decide (x ≤ bv) = true := decide_eq_true hxb
            have v1 : IntKind.i64.wrap (k' : Int) = (k' : Int) := IntWalk.i64_in _ (by omega)
            have v2 : IntKind.i64.wrap ((k' : Int) + 1 - 1) = (k' : Int) := by rw [Int.add_sub_cancel]; exact v1
            have hk1 : (k' : Int) < kb.length := by omega
            have hk2 : (0 : Int) ≤ k' := by omega
            clear hprev hbad hx0 hb1 hb2 hxN hxb
            go_wp2
            go_ret2
            exact ⟨⟨_, _, rfl, HE0.out⟩, HBX.out⟩
    · obtain ⟨rfl, rfl⟩ : gk = 0 ∧ k = kb.length := by omega
      have huf := HUF.out
      rw [List.drop_of_length_le (by omega)] at huf
      simp only [upF] at huf
      subst huf
      have hgb : g = bsF kb := by
        funext v
        have := HP.out v
        rw [List.take_length] at this
        unfold bsF
        cases hx : g v with
        | true => rw [decide_eq_true (this.1 hx)]
        | false => rw [decide_eq_false (fun h => by rw [this.2 h] at hx; cases hx)]
      subst hgb
      obtain ⟨r, hr⟩ := HEX.out
      have HO0 := Lib.hid hr
      have HOB : Hid (∀ r : Nat, Ods E hs.length 0 (bsF kb) 0 r → OdA hs ((x0, x1, x2, x3), (y0, y1, y2, y3)) kb r 0) := Lib.hid (fun r h => HOA.out r 0 (by rw [if_pos rfl]; exact ⟨rfl, r, rfl, h⟩))
      have hrN : r ≤ 100 := by have := hr.le; omega
      obtain ⟨w4, hw4⟩ : ∃ z, z = wr := ⟨_, rfl⟩
      rw [← hw4] at HI ⊢
      have HI4 : Hid (GB w4 q hs.length (bsF kb) w4) := Lib.hid ⟨Ex.refl _ _ _, HI.out.hh⟩
      have HQ4 := Lib.hid (block_lt HI.out.hh)
      have HB4 : Hid (∀ w', Ex q q w4 w' → Below w.heap.size w w') := Lib.hid (fun w' h => h.below (HBE.out _ HI.out.ex) (HBE.out _ HI.out.ex).size HWQ.out.1 HWQ.out.1)
      have HRL : Hid (∀ w', Ex q q w4 w' → w'.cell? ⟨w.heap.size, 0, none⟩ = some (.int .i64 x0) ∧ w'.cell? ⟨w.heap.size, 1, none⟩ = some (.int .i64 x1) ∧ w'.cell? ⟨w.heap.size, 2, none⟩ = some (.int .i64 x2) ∧ w'.cell? ⟨w.heap.size, 3, none⟩ = some (.int .i64 x3) ∧ w'.cell? ⟨w.heap.size, 4, none⟩ = some (.int .i64 y0) ∧ w'.cell? ⟨w.heap.size, 5, none⟩ = some (.int .i64 y1) ∧ w'.cell? ⟨w.heap.size, 6, none⟩ = some (.int .i64 y2) ∧ w'.cell? ⟨w.heap.size, 7, none⟩ = some (.int .i64 y3)) := Lib.hid (fun w' h => by
        have hlw := HM2.out.tail.head_lt
        have hne : w.heap.size ≠ q := by have := HWQ.out.2; omega
        have key : ∀ i, w'.cell? ⟨w.heap.size, i, none⟩ = w2.cell? ⟨w.heap.size, i, none⟩ := fun i => (h.cell (Nat.lt_of_lt_of_le hlw HI.out.ex.size) hne hne i).trans (HI.out.ex.cell hlw hne hne i)
        have h1 := HM2.out.tail
        exact ⟨(key 0).trans (h1.cell 0), (key 1).trans (h1.cell 1), (key 2).trans (h1.cell 2), (key 3).trans (h1.cell 3), (key 4).trans (h1.cell 4), (key 5).trans (h1.cell 5), (key 6).trans (h1.cell 6), (key 7).trans (h1.cell 7)⟩)
      obtain ⟨i0, hi, hz0, hz1, hz2⟩ := info_parts pa_infoInt
      have HI0 := Lib.hid (And.intro hi (And.intro hz0 (And.intro hz1 hz2)))
      clear hi hz0 hz1 hz2 hr HEX HOA hw4 HUF HBV HP HI HBE HP0 HG0 HUP HM2 HKK
      go_wp2_with fail
      go_loopg [11, 57] hs.length (fun gk s x wr => ∃ (i d : Nat) (g : Nat → Bool), x = .int .i64 i ∧ i + gk = hs.length ∧ s = .int .i64 d ∧ Hid (Ods E hs.length i g d r) ∧ Hid (GB w4 q hs.length g wr))
      case atStart => exact ⟨0, 0, _, rfl, by omega, rfl, HO0, HI4⟩
      case round =>
        obtain ⟨i, d, g0, rfl, hik, rfl, HO, HI⟩ := hrel
        by_cases hi : i < hs.length
        · obtain ⟨gk', rfl⟩ : ∃ m, gk = m + 1 := ⟨gk - 1, by omega⟩
          have hi' : (i : Int) < hs.length := by omega
          have hi0 : (0 : Int) ≤ i := by omega
          obtain ⟨e0, e1, e2⟩ := HI.out.c hi
          have hdr := HO.out.le
          obtain ⟨gv, hgv⟩ : ∃ z, z = g0 i := ⟨_, rfl⟩
          rw [← hgv] at e0
          cases gv with
          | true =>
            have HN := Lib.hid (HO.out.next_gone hi hgv.symm)
            clear hgv HO hdr
            go_wp2
            go_roundg gk'
            case measure => exact Nat.lt_succ_self _
            case rel => exact ⟨i + 1, d, g0, by go_num, by omega, rfl, HN, HI⟩
          | false =>
            have HGV := Lib.hid hgv.symm
            have HS1 := Lib.hid (HI.out.set i true)
            obtain ⟨ws, hws⟩ : ∃ z, z = wr.setCell ⟨q, i, none⟩ (.bool true) := ⟨_, rfl⟩
            rw [← hws] at HS1
            obtain ⟨w5, hw5⟩ : ∃ z, z = ws.alloc (.cells #[.int .i64 i] 3) := ⟨_, rfl⟩
            have hsz : ws.heap.size = wr.heap.size := by rw [hws]; simp [World.setCell]
            have h5 : w5.heap[wr.heap.size]? = some (.cells #[.int .i64 i] 3 (0, 0)) := by rw [← hsz, hw5]; exact heap_alloc_new _ _
            have hb5 : Below ws.heap.size ws w5 := by rw [hw5]; exact (Below.refl _ _).alloc (Nat.le_refl _) _
            have HBF0 : Hid (BF w4 q hs.length (fset g0 i true) (.slice (some ⟨wr.heap.size, 0, none⟩) 1 1) [i] w5) := Lib.hid ⟨HS1.out.step hb5, ⟨by simp, .inr ⟨wr.heap.size, 1, _, rfl, by rw [← hsz]; exact HS1.out.ex.size, h5, by simp, by decide, by simp, by simp⟩⟩, HQ4.out⟩
            have HB0 : Hid (Bfs E hs.length i g0 (fset g0 i true) [i] 0 0) := Lib.hid (Bfs.start hi hgv.symm)
            have HW5 := Lib.hid (And.intro hws hw5)
            clear hgv hws hw5 h5 hb5 HI hsz
            go_upto_region 18 with fail
            rw [← HW5.out.1, ← HW5.out.2]
            clear e0 e1 e2 HW5 HS1
            go_wp2_with fail
            go_loopg [13, 14] (hs.length + 1) (fun gk v x wr => ∃ (k : Nat) (g : Nat → Bool) (L : List Nat), x = .int .i64 k ∧ k ≤ L.length ∧ k + gk = hs.length + 1 ∧ Hid (Bfs E hs.length i g0 g L k 0) ∧ Hid (BF w4 q hs.length g v L wr))
            case atStart => exact ⟨0, _, [i], rfl, by simp, by omega, HB0, HBF0⟩
            case round =>
              obtain ⟨k, g, L, rfl, hkL, hkg, HBS, HBF⟩ := hrel
              have hLN := HBS.out.len
              obtain ⟨a', cap', rfl⟩ : ∃ a' cap', u13 = .slice a' L.length cap' := by
                have hln : (L.map fun x : Nat => Value.int .i64 (x : Int)).length = L.length := List.length_map ..
                rcases HBF.out.own.2 with ⟨hv, h0⟩ | ⟨gq, cap', cur, hv, -⟩
                · exact ⟨none, 0, by rw [hv, h0]⟩
                · exact ⟨_, _, hv⟩
              by_cases hkl : k < L.length
              · obtain ⟨gm', rfl⟩ : ∃ m, gk = m + 1 := ⟨gk - 1, by omega⟩
                have hkl' : (k : Int) < L.length := by omega
                have hk0 : (0 : Int) ≤ k := by omega
                go_wp2_with fail
                go_loopg [13, 77] hs.length (fun gl v x wr => ∃ (j : Nat) (g : Nat → Bool) (L : List Nat), x = .int .i64 j ∧ j + gl = hs.length ∧ k < L.length ∧ Hid (Bfs E hs.length i g0 g L k j) ∧ Hid (BF w4 q hs.length g v L wr))
                case atStart => exact ⟨0, g, L, rfl, by omega, hkl, HBS, HBF⟩
                case round =>
                  clear HBS HBF hkl hkl' hkL hLN
                  obtain ⟨j, g, L, rfl, hjk, hkl, HBS, HBF⟩ := hrel
                  have hLN := HBS.out.len
                  by_cases hj : j < hs.length
                  · obtain ⟨gl', rfl⟩ : ∃ m, gk = m + 1 := ⟨gk - 1, by omega⟩
                    have hj' : (j : Int) < hs.length := by omega
                    have hj0 : (0 : Int) ≤ j := by omega
                    have hkl' : (k : Int) < L.length := by omega
                    obtain ⟨gq, cap2, rfl, hgq, lgq, d0⟩ := HBF.out.at_ hkl
                    obtain ⟨e0, e1, e2⟩ := HBF.out.gb.c hj
                    have htl := HBS.out.lt L[k] (List.getElem_mem hkl)
                    have htm := ((HBS.out.mem L[k]).1 (List.getElem_mem hkl)).1
                    have HSKIP : Hid ((g j = true ∨ E L[k] j = false) → Bfs E hs.length i g0 g L k (j + 1)) := Lib.hid (fun h => HBS.out.skip (by
                      rcases h with h | h
                      · exact .inl h
                      · exact .inr fun _ => h))
                    have HTAKE : Hid (g j = false → E L[k] j = true → Bfs E hs.length i g0 (fset g j true) (L ++ [j]) k (j + 1)) := Lib.hid (fun h1 h2 => HBS.out.take hkl hj h1 h2)
                    obtain ⟨tv, htv⟩ : ∃ z, z = L[k] := ⟨_, rfl⟩
                    rw [← htv] at d0 htl htm HSKIP HTAKE
                    have htv' : (tv : Int) < hs.length := by omega
                    have htv0 : (0 : Int) ≤ tv := by omega
                    have hrec := HHS.out wr (HB4.out _ HBF.out.gb.ex)
                    obtain ⟨b, off, hab, hb, p0, p1, p2, p3⟩ := hrec.at_ htl
                    obtain ⟨b', off', hab', hb', r0, r1, r2, r3⟩ := hrec.at_ hj
                    rw [hab] at hab'
                    simp only [Option.some.injEq, Addr.mk.injEq, and_true] at hab'
                    obtain ⟨rfl, rfl⟩ := hab'
                    have HPR := Lib.hid (fun w' => (HCO.out tv j htl hj w').2)
                    have hpr := (HCO.out tv j htl hj wr).1
                    obtain ⟨p0', hp0⟩ : ∃ z, z = hs[tv].1 := ⟨_, rfl⟩
                    obtain ⟨p1', hp1⟩ : ∃ z, z = hs[tv].2.1 := ⟨_, rfl⟩
                    obtain ⟨p2', hp2⟩ : ∃ z, z = hs[tv].2.2.1 := ⟨_, rfl⟩
                    obtain ⟨p3', hp3⟩ : ∃ z, z = hs[tv].2.2.2 := ⟨_, rfl⟩
                    obtain ⟨r0', hr0⟩ : ∃ z, z = hs[j].1 := ⟨_, rfl⟩
                    obtain ⟨r1', hr1⟩ : ∃ z, z = hs[j].2.1 := ⟨_, rfl⟩
                    obtain ⟨r2', hr2⟩ : ∃ z, z = hs[j].2.2.1 := ⟨_, rfl⟩
                    obtain ⟨r3', hr3⟩ : ∃ z, z = hs[j].2.2.2 := ⟨_, rfl⟩
                    rw [← hp0] at p0 HPR
                    rw [← hp1] at p1 HPR
                    rw [← hp2] at p2 HPR
                    rw [← hp3] at p3 HPR
                    rw [← hr0] at r0 HPR
                    rw [← hr1] at r1 HPR
                    rw [← hr2] at r2 HPR
                    rw [← hr3] at r3 HPR
                    obtain ⟨k0, k1, k2, k3, k4, k5, k6, k7⟩ := HRL.out wr HBF.out.gb.ex
                    have lw : w.heap.size < wr.heap.size := Nat.lt_of_lt_of_le HWQ.out.2 (Nat.le_of_lt e2)
                    obtain ⟨gv, hgv⟩ : ∃ z, z = g j := ⟨_, rfl⟩
                    rw [← hgv] at e0
                    have HSD : Hid (∀ w', Below wr.heap.size wr w' → w'.cell? ⟨q, j, none⟩ = some (.bool gv) ∧ w'.cell? ⟨gq, k, none⟩ = some (.int .i64 (tv : Int)) ∧ w'.cell? ⟨b, off + tv * 4, none⟩ = some (.int .i64 p0') ∧ w'.cell? ⟨b, off + tv * 4 + 1, none⟩ = some (.int .i64 p1') ∧ w'.cell? ⟨b, off + tv * 4 + 2, none⟩ = some (.int .i64 p2') ∧ w'.cell? ⟨b, off + tv * 4 + 3, none⟩ = some (.int .i64 p3') ∧ w'.cell? ⟨b, off + j * 4, none⟩ = some (.int .i64 r0') ∧ w'.cell? ⟨b, off + j * 4 + 1, none⟩ = some (.int .i64 r1') ∧ w'.cell? ⟨b, off + j * 4 + 2, none⟩ = some (.int .i64 r2') ∧ w'.cell? ⟨b, off + j * 4 + 3, none⟩ = some (.int .i64 r3') ∧ w'.cell? ⟨w.heap.size, 0, none⟩ = some (.int .i64 x0) ∧ w'.cell? ⟨w.heap.size, 1, none⟩ = some (.int .i64 x1) ∧ w'.cell? ⟨w.heap.size, 2, none⟩ = some (.int .i64 x2) ∧ w'.cell? ⟨w.heap.size, 3, none⟩ = some (.int .i64 x3) ∧ w'.cell? ⟨w.heap.size, 4, none⟩ = some (.int .i64 y0) ∧ w'.cell? ⟨w.heap.size, 5, none⟩ = some (.int .i64 y1) ∧ w'.cell? ⟨w.heap.size, 6, none⟩ = some (.int .i64 y2) ∧ w'.cell? ⟨w.heap.size, 7, none⟩ = some (.int .i64 y3)) := Lib.hid (fun w' hbw => by
                      have kc : ∀ {b o : Nat} {x : Value}, b < wr.heap.size → wr.cell? ⟨b, o, none⟩ = some x → w'.cell? ⟨b, o, none⟩ = some x := fun {b o x} hl hc => (hbw.cell (p := ⟨b, o, none⟩) hl).trans hc
                      exact ⟨kc e2 e0, kc lgq d0, kc hb p0, kc hb p1, kc hb p2, kc hb p3, kc hb r0, kc hb r1, kc hb r2, kc hb r3, kc lw k0, kc lw k1, kc lw k2, kc lw k3, kc lw k4, kc lw k5, kc lw k6, kc lw k7⟩)
                    have hneq : gv = false → E tv j = (CF tv j != -1) := fun e => HED.out tv j (fun h => by rw [h, ← hgv, e] at htm; cases htm)
                    subst hab
                    obtain ⟨cf, hcf⟩ : ∃ z, z = CF tv j := ⟨_, rfl⟩
                    rw [← hcf] at HPR hpr hneq
                    have hEV : gv = false → E tv j = decide (0 ≤ cf) := fun e => by
                      rw [hneq e]
                      by_cases hc : cf = -1
                      · rw [hc]; rfl
                      · rw [decide_eq_true (show 0 ≤ cf by omega)]; simpa using hc
                    obtain ⟨ev, hev⟩ : ∃ z, z = E tv j := ⟨_, rfl⟩
                    rw [← hev] at hEV
                    rw [← hgv, ← hev] at HSKIP HTAKE
                    clear htv hrec p0 p1 p2 p3 r0 r1 r2 r3 hp0 hp1 hp2 hp3 hr0 hr1 hr2 hr3 k0 k1 k2 k3 k4 k5 k6 k7 hneq htm hcf hev HBS hb' hpr
                    have HGV := Lib.hid hgv
                    clear hgv
                    go_upto_region 24 with fail
                    go_cut [100] (fun s100 wx => s100 = .bool (!gv && ev) ∧ Hid (Below wr.heap.size wr wx))
                    case first =>
                      clear d0 e0 e1 hb
                      cases gv with
                      | true =>
                        refine wp_region_held_drew (S := fun w' => w'.cell? ⟨q, j, none⟩ = some (.bool true) ∧ w'.cell? ⟨gq, k, none⟩ = some (.int .i64 (tv : Int)) ∧ w'.cell? ⟨b, off + tv * 4, none⟩ = some (.int .i64 p0') ∧ w'.cell? ⟨b, off + tv * 4 + 1, none⟩ = some (.int .i64 p1') ∧ w'.cell? ⟨b, off + tv * 4 + 2, none⟩ = some (.int .i64 p2') ∧ w'.cell? ⟨b, off + tv * 4 + 3, none⟩ = some (.int .i64 p3') ∧ w'.cell? ⟨b, off + j * 4, none⟩ = some (.int .i64 r0') ∧ w'.cell? ⟨b, off + j * 4 + 1, none⟩ = some (.int .i64 r1') ∧ w'.cell? ⟨b, off + j * 4 + 2, none⟩ = some (.int .i64 r2') ∧ w'.cell? ⟨b, off + j * 4 + 3, none⟩ = some (.int .i64 r3') ∧ w'.cell? ⟨w.heap.size, 0, none⟩ = some (.int .i64 x0) ∧ w'.cell? ⟨w.heap.size, 1, none⟩ = some (.int .i64 x1) ∧ w'.cell? ⟨w.heap.size, 2, none⟩ = some (.int .i64 x2) ∧ w'.cell? ⟨w.heap.size, 3, none⟩ = some (.int .i64 x3) ∧ w'.cell? ⟨w.heap.size, 4, none⟩ = some (.int .i64 y0) ∧ w'.cell? ⟨w.heap.size, 5, none⟩ = some (.int .i64 y1) ∧ w'.cell? ⟨w.heap.size, 6, none⟩ = some (.int .i64 y2) ∧ w'.cell? ⟨w.heap.size, 7, none⟩ = some (.int .i64 y3)) (by kernel_rfl) (HSD.out _ (Below.refl _ _).drew) (fun hHeld => ?_)
                        refine wpAnyH_take (i := 0) (oi := { dst := some 80, op := Op.move (Operand.tmp 8), type := 70, pos := "ref.go:452", after := #[], guard := none }) (v := ?_) rfl (by kernel_rfl) (by kernel_rfl) (by kernel_rfl) (fun _ _ _ h => h) (Or.inl ⟨by rfl, ?_⟩) (by assumption) ?_
                        rotate_left
                        · intro w' hSw
                          (try dsimp only at hSw)
                          (try go_split_ands)
                          go_simp
                          try with_reducible rfl
                        (try simp only [Act.put, List.setIfInBounds_toArray, List.set_cons_zero, List.set_cons_succ])
                        refine wpAnyH_take (i := 1) (oi := { dst := some 81, op := Op.move (Operand.tmp 15), type := 3, pos := "ref.go:452", after := #[], guard := none }) (v := ?_) rfl (by kernel_rfl) (by kernel_rfl) (by kernel_rfl) (fun _ _ _ h => h) (Or.inl ⟨by rfl, ?_⟩) (by assumption) ?_
                        rotate_left
                        · intro w' hSw
                          (try dsimp only at hSw)
                          (try go_split_ands)
                          go_simp
                          try with_reducible rfl
                        (try simp only [Act.put, List.setIfInBounds_toArray, List.set_cons_zero, List.set_cons_succ])
                        refine wpAnyH_take (i := 2) (oi := { dst := some 82, op := Op.indexAddr 70 (Operand.tmp 80) (Operand.tmp 81), type := 0, pos := "ref.go:452", after := #[{ on := 0, ground := Ground.data }, { on := 1, ground := Ground.data }], guard := none }) (v := ?_) rfl (by kernel_rfl) (by kernel_rfl) (by kernel_rfl) (fun _ _ _ h => h) (Or.inl ⟨by rfl, ?_⟩) (by assumption) ?_
                        rotate_left
                        · intro w' hSw
                          (try dsimp only at hSw)
                          (try go_split_ands)
                          go_simp
                          try with_reducible rfl
                        (try simp only [Act.put, List.setIfInBounds_toArray, List.set_cons_zero, List.set_cons_succ])
                        refine wpAnyH_take (i := 3) (oi := { dst := some 83, op := Op.load 4 (Operand.tmp 82), type := 4, pos := "ref.go:452", after := #[{ on := 2, ground := Ground.data }], guard := none }) (v := ?_) rfl (by kernel_rfl) (by kernel_rfl) (by kernel_rfl) (fun _ _ _ h => h) (Or.inl ⟨by rfl, ?_⟩) (by assumption) ?_
                        rotate_left
                        · intro w' hSw
                          (try dsimp only at hSw)
                          (try go_split_ands)
                          go_simp
                          try with_reducible rfl
                        (try simp only [Act.put, List.setIfInBounds_toArray, List.set_cons_zero, List.set_cons_succ])
                        refine wpAnyH_take (i := 4) (oi := { dst := some 84, op := Op.unOp UnOp.not 4 (Operand.tmp 83), type := 4, pos := "ref.go:452", after := #[{ on := 3, ground := Ground.data }], guard := none }) (v := ?_) rfl (by kernel_rfl) (by kernel_rfl) (by kernel_rfl) (fun _ _ _ h => h) (Or.inl ⟨by rfl, ?_⟩) (by assumption) ?_
                        rotate_left
                        · intro w' hSw
                          (try dsimp only at hSw)
                          (try go_split_ands)
                          go_simp
                          try with_reducible rfl
                        (try simp only [Act.put, List.setIfInBounds_toArray, List.set_cons_zero, List.set_cons_succ])
                        refine wpAnyH_take (i := 5) (oi := { dst := some 85, op := Op.move (Operand.tmp 84), type := 4, pos := "ref.go:452", after := #[{ on := 4, ground := Ground.data }], guard := none }) (v := ?_) rfl (by kernel_rfl) (by kernel_rfl) (by kernel_rfl) (fun _ _ _ h => h) (Or.inl ⟨by rfl, ?_⟩) (by assumption) ?_
                        rotate_left
                        · intro w' hSw
                          (try dsimp only at hSw)
                          (try go_split_ands)
                          go_simp
                          try with_reducible rfl
                        (try simp only [Act.put, List.setIfInBounds_toArray, List.set_cons_zero, List.set_cons_succ])
                        refine wpAnyH_take (i := 6) (oi := { dst := some 86, op := Op.move (Operand.tmp 0), type := 22, pos := "ref.go:452", after := #[{ on := 5, ground := Ground.guard }], guard := some (5, true) }) (v := undef) rfl (by kernel_rfl) (by kernel_rfl) (by kernel_rfl) (fun _ _ _ h => h) (Or.inr ⟨by rfl, rfl⟩) (by assumption) ?_
                        (try simp only [Act.put, List.setIfInBounds_toArray, List.set_cons_zero, List.set_cons_succ])
                        refine wpAnyH_take (i := 7) (oi := { dst := some 87, op := Op.move (Operand.tmp 13), type := 36, pos := "ref.go:452", after := #[{ on := 5, ground := Ground.guard }], guard := some (5, true) }) (v := undef) rfl (by kernel_rfl) (by kernel_rfl) (by kernel_rfl) (fun _ _ _ h => h) (Or.inr ⟨by rfl, rfl⟩) (by assumption) ?_
                        (try simp only [Act.put, List.setIfInBounds_toArray, List.set_cons_zero, List.set_cons_succ])
                        refine wpAnyH_take (i := 8) (oi := { dst := some 88, op := Op.move (Operand.tmp 14), type := 3, pos := "ref.go:452", after := #[{ on := 5, ground := Ground.guard }], guard := some (5, true) }) (v := undef) rfl (by kernel_rfl) (by kernel_rfl) (by kernel_rfl) (fun _ _ _ h => h) (Or.inr ⟨by rfl, rfl⟩) (by assumption) ?_
                        (try simp only [Act.put, List.setIfInBounds_toArray, List.set_cons_zero, List.set_cons_succ])
                        refine wpAnyH_take (i := 9) (oi := { dst := some 89, op := Op.indexAddr 36 (Operand.tmp 87) (Operand.tmp 88), type := 0, pos := "ref.go:452", after := #[{ on := 7, ground := Ground.data }, { on := 8, ground := Ground.data }, { on := 5, ground := Ground.guard }], guard := some (5, true) }) (v := undef) rfl (by kernel_rfl) (by kernel_rfl) (by kernel_rfl) (fun _ _ _ h => h) (Or.inr ⟨by rfl, rfl⟩) (by assumption) ?_
                        (try simp only [Act.put, List.setIfInBounds_toArray, List.set_cons_zero, List.set_cons_succ])
                        refine wpAnyH_take (i := 10) (oi := { dst := some 90, op := Op.load 3 (Operand.tmp 89), type := 3, pos := "ref.go:452", after := #[{ on := 9, ground := Ground.data }, { on := 5, ground := Ground.guard }], guard := some (5, true) }) (v := undef) rfl (by kernel_rfl) (by kernel_rfl) (by kernel_rfl) (fun _ _ _ h => h) (Or.inr ⟨by rfl, rfl⟩) (by assumption) ?_
                        (try simp only [Act.put, List.setIfInBounds_toArray, List.set_cons_zero, List.set_cons_succ])
                        refine wpAnyH_take (i := 11) (oi := { dst := some 91, op := Op.indexAddr 22 (Operand.tmp 86) (Operand.tmp 90), type := 0, pos := "ref.go:452", after := #[{ on := 6, ground := Ground.data }, { on := 10, ground := Ground.data }, { on := 5, ground := Ground.guard }], guard := some (5, true) }) (v := undef) rfl (by kernel_rfl) (by kernel_rfl) (by kernel_rfl) (fun _ _ _ h => h) (Or.inr ⟨by rfl, rfl⟩) (by assumption) ?_
                        (try simp only [Act.put, List.setIfInBounds_toArray, List.set_cons_zero, List.set_cons_succ])
                        refine wpAnyH_take (i := 12) (oi := { dst := some 92, op := Op.load 24 (Operand.tmp 91), type := 24, pos := "ref.go:452", after := #[{ on := 11, ground := Ground.data }, { on := 5, ground := Ground.guard }], guard := some (5, true) }) (v := undef) rfl (by kernel_rfl) (by kernel_rfl) (by kernel_rfl) (fun _ _ _ h => h) (Or.inr ⟨by rfl, rfl⟩) (by assumption) ?_
                        (try simp only [Act.put, List.setIfInBounds_toArray, List.set_cons_zero, List.set_cons_succ])
                        refine wpAnyH_take (i := 13) (oi := { dst := some 93, op := Op.move (Operand.tmp 0), type := 22, pos := "ref.go:452", after := #[{ on := 5, ground := Ground.guard }], guard := some (5, true) }) (v := undef) rfl (by kernel_rfl) (by kernel_rfl) (by kernel_rfl) (fun _ _ _ h => h) (Or.inr ⟨by rfl, rfl⟩) (by assumption) ?_
                        (try simp only [Act.put, List.setIfInBounds_toArray, List.set_cons_zero, List.set_cons_succ])
                        refine wpAnyH_take (i := 14) (oi := { dst := some 94, op := Op.move (Operand.tmp 15), type := 3, pos := "ref.go:452", after := #[{ on := 5, ground := Ground.guard }], guard := some (5, true) }) (v := undef) rfl (by kernel_rfl) (by kernel_rfl) (by kernel_rfl) (fun _ _ _ h => h) (Or.inr ⟨by rfl, rfl⟩) (by assumption) ?_
                        (try simp only [Act.put, List.setIfInBounds_toArray, List.set_cons_zero, List.set_cons_succ])
                        refine wpAnyH_take (i := 15) (oi := { dst := some 95, op := Op.indexAddr 22 (Operand.tmp 93) (Operand.tmp 94), type := 0, pos := "ref.go:452", after := #[{ on := 13, ground := Ground.data }, { on := 14, ground := Ground.data }, { on := 5, ground := Ground.guard }], guard := some (5, true) }) (v := undef) rfl (by kernel_rfl) (by kernel_rfl) (by kernel_rfl) (fun _ _ _ h => h) (Or.inr ⟨by rfl, rfl⟩) (by assumption) ?_
                        (try simp only [Act.put, List.setIfInBounds_toArray, List.set_cons_zero, List.set_cons_succ])
                        refine wpAnyH_take (i := 16) (oi := { dst := some 96, op := Op.load 24 (Operand.tmp 95), type := 24, pos := "ref.go:452", after := #[{ on := 15, ground := Ground.data }, { on := 5, ground := Ground.guard }], guard := some (5, true) }) (v := undef) rfl (by kernel_rfl) (by kernel_rfl) (by kernel_rfl) (fun _ _ _ h => h) (Or.inr ⟨by rfl, rfl⟩) (by assumption) ?_
                        (try simp only [Act.put, List.setIfInBounds_toArray, List.set_cons_zero, List.set_cons_succ])
                        refine wpAnyH_take (i := 17) (oi := { dst := some 97, op := Op.load 26 (Operand.tmp 4), type := 26, pos := "ref.go:452", after := #[{ on := 5, ground := Ground.guard }], guard := some (5, true) }) (v := undef) rfl (by kernel_rfl) (by kernel_rfl) (by kernel_rfl) (fun _ _ _ h => h) (Or.inr ⟨by rfl, rfl⟩) (by assumption) ?_
                        (try simp only [Act.put, List.setIfInBounds_toArray, List.set_cons_zero, List.set_cons_succ])
                        refine wpAnyH_take (i := 18) (oi := { dst := some 98, op := Op.call { callee := Callee.value (Operand.func 46), args := #[Operand.tmp 92, Operand.tmp 96, Operand.tmp 97], argTypes := #[24, 24, 26] }, type := 3, pos := "ref.go:452", after := #[{ on := 12, ground := Ground.data }, { on := 16, ground := Ground.data }, { on := 17, ground := Ground.data }, { on := 5, ground := Ground.chain }, { on := 5, ground := Ground.guard }], guard := some (5, true) }) (v := undef) rfl (by kernel_rfl) (by kernel_rfl) (by kernel_rfl) (fun _ _ _ h => h) (Or.inr ⟨by rfl, rfl⟩) (by assumption) ?_
                        (try simp only [Act.put, List.setIfInBounds_toArray, List.set_cons_zero, List.set_cons_succ])
                        refine wpAnyH_take (i := 19) (oi := { dst := some 99, op := Op.binOp BinOp.geq 3 (Operand.tmp 98) (Operand.const (Value.int IntKind.i64 0)) 3, type := 4, pos := "ref.go:452", after := #[{ on := 18, ground := Ground.data }, { on := 5, ground := Ground.guard }], guard := some (5, true) }) (v := undef) rfl (by kernel_rfl) (by kernel_rfl) (by kernel_rfl) (fun _ _ _ h => h) (Or.inr ⟨by rfl, rfl⟩) (by assumption) ?_
                        (try simp only [Act.put, List.setIfInBounds_toArray, List.set_cons_zero, List.set_cons_succ])
                        refine wpAnyH_take (i := 20) (oi := { dst := some 100, op := Op.pick (Operand.tmp 85) (Operand.tmp 99) (Operand.const (Value.bool false)), type := 4, pos := "ref.go:452", after := #[{ on := 5, ground := Ground.data }, { on := 19, ground := Ground.data }], guard := none }) (v := ?_) rfl (by kernel_rfl) (by kernel_rfl) (by kernel_rfl) (fun _ _ _ h => h) (Or.inl ⟨by rfl, ?_⟩) (by assumption) ?_
                        rotate_left
                        · intro w' hSw
                          (try dsimp only at hSw)
                          (try go_split_ands)
                          go_simp
                          try with_reducible rfl
                        (try simp only [Act.put, List.setIfInBounds_toArray, List.set_cons_zero, List.set_cons_succ])
                        refine wpAnyH_done (by kernel_rfl) ?_ _
                        go_wp2_with fail
                        go_meet
                        exact ⟨rfl, Lib.hid (Below.refl wr.heap.size wr).drew⟩
                      | false =>
                        have HEV := Lib.hid (hEV rfl)
                        clear hEV
                        refine wp_region_held_drew (S := fun w' => w'.cell? ⟨q, j, none⟩ = some (.bool false) ∧ w'.cell? ⟨gq, k, none⟩ = some (.int .i64 (tv : Int)) ∧ w'.cell? ⟨b, off + tv * 4, none⟩ = some (.int .i64 p0') ∧ w'.cell? ⟨b, off + tv * 4 + 1, none⟩ = some (.int .i64 p1') ∧ w'.cell? ⟨b, off + tv * 4 + 2, none⟩ = some (.int .i64 p2') ∧ w'.cell? ⟨b, off + tv * 4 + 3, none⟩ = some (.int .i64 p3') ∧ w'.cell? ⟨b, off + j * 4, none⟩ = some (.int .i64 r0') ∧ w'.cell? ⟨b, off + j * 4 + 1, none⟩ = some (.int .i64 r1') ∧ w'.cell? ⟨b, off + j * 4 + 2, none⟩ = some (.int .i64 r2') ∧ w'.cell? ⟨b, off + j * 4 + 3, none⟩ = some (.int .i64 r3') ∧ w'.cell? ⟨w.heap.size, 0, none⟩ = some (.int .i64 x0) ∧ w'.cell? ⟨w.heap.size, 1, none⟩ = some (.int .i64 x1) ∧ w'.cell? ⟨w.heap.size, 2, none⟩ = some (.int .i64 x2) ∧ w'.cell? ⟨w.heap.size, 3, none⟩ = some (.int .i64 x3) ∧ w'.cell? ⟨w.heap.size, 4, none⟩ = some (.int .i64 y0) ∧ w'.cell? ⟨w.heap.size, 5, none⟩ = some (.int .i64 y1) ∧ w'.cell? ⟨w.heap.size, 6, none⟩ = some (.int .i64 y2) ∧ w'.cell? ⟨w.heap.size, 7, none⟩ = some (.int .i64 y3)) (by kernel_rfl) (HSD.out _ (Below.refl _ _).drew) (fun hHeld => ?_)
                        refine wpAnyH_take (i := 0) (oi := { dst := some 80, op := Op.move (Operand.tmp 8), type := 70, pos := "ref.go:452", after := #[], guard := none }) (v := ?_) rfl (by kernel_rfl) (by kernel_rfl) (by kernel_rfl) (fun _ _ _ h => h) (Or.inl ⟨by rfl, ?_⟩) (by assumption) ?_
                        rotate_left
                        · intro w' hSw
                          (try dsimp only at hSw)
                          (try go_split_ands)
                          go_simp
                          try with_reducible rfl
                        (try simp only [Act.put, List.setIfInBounds_toArray, List.set_cons_zero, List.set_cons_succ])
                        refine wpAnyH_take (i := 1) (oi := { dst := some 81, op := Op.move (Operand.tmp 15), type := 3, pos := "ref.go:452", after := #[], guard := none }) (v := ?_) rfl (by kernel_rfl) (by kernel_rfl) (by kernel_rfl) (fun _ _ _ h => h) (Or.inl ⟨by rfl, ?_⟩) (by assumption) ?_
                        rotate_left
                        · intro w' hSw
                          (try dsimp only at hSw)
                          (try go_split_ands)
                          go_simp
                          try with_reducible rfl
                        (try simp only [Act.put, List.setIfInBounds_toArray, List.set_cons_zero, List.set_cons_succ])
                        refine wpAnyH_take (i := 2) (oi := { dst := some 82, op := Op.indexAddr 70 (Operand.tmp 80) (Operand.tmp 81), type := 0, pos := "ref.go:452", after := #[{ on := 0, ground := Ground.data }, { on := 1, ground := Ground.data }], guard := none }) (v := ?_) rfl (by kernel_rfl) (by kernel_rfl) (by kernel_rfl) (fun _ _ _ h => h) (Or.inl ⟨by rfl, ?_⟩) (by assumption) ?_
                        rotate_left
                        · intro w' hSw
                          (try dsimp only at hSw)
                          (try go_split_ands)
                          go_simp
                          try with_reducible rfl
                        (try simp only [Act.put, List.setIfInBounds_toArray, List.set_cons_zero, List.set_cons_succ])
                        refine wpAnyH_take (i := 3) (oi := { dst := some 83, op := Op.load 4 (Operand.tmp 82), type := 4, pos := "ref.go:452", after := #[{ on := 2, ground := Ground.data }], guard := none }) (v := ?_) rfl (by kernel_rfl) (by kernel_rfl) (by kernel_rfl) (fun _ _ _ h => h) (Or.inl ⟨by rfl, ?_⟩) (by assumption) ?_
                        rotate_left
                        · intro w' hSw
                          (try dsimp only at hSw)
                          (try go_split_ands)
                          go_simp
                          try with_reducible rfl
                        (try simp only [Act.put, List.setIfInBounds_toArray, List.set_cons_zero, List.set_cons_succ])
                        refine wpAnyH_take (i := 4) (oi := { dst := some 84, op := Op.unOp UnOp.not 4 (Operand.tmp 83), type := 4, pos := "ref.go:452", after := #[{ on := 3, ground := Ground.data }], guard := none }) (v := ?_) rfl (by kernel_rfl) (by kernel_rfl) (by kernel_rfl) (fun _ _ _ h => h) (Or.inl ⟨by rfl, ?_⟩) (by assumption) ?_
                        rotate_left
                        · intro w' hSw
                          (try dsimp only at hSw)
                          (try go_split_ands)
                          go_simp
                          try with_reducible rfl
                        (try simp only [Act.put, List.setIfInBounds_toArray, List.set_cons_zero, List.set_cons_succ])
                        refine wpAnyH_take (i := 5) (oi := { dst := some 85, op := Op.move (Operand.tmp 84), type := 4, pos := "ref.go:452", after := #[{ on := 4, ground := Ground.data }], guard := none }) (v := ?_) rfl (by kernel_rfl) (by kernel_rfl) (by kernel_rfl) (fun _ _ _ h => h) (Or.inl ⟨by rfl, ?_⟩) (by assumption) ?_
                        rotate_left
                        · intro w' hSw
                          (try dsimp only at hSw)
                          (try go_split_ands)
                          go_simp
                          try with_reducible rfl
                        (try simp only [Act.put, List.setIfInBounds_toArray, List.set_cons_zero, List.set_cons_succ])
                        refine wpAnyH_take (i := 6) (oi := { dst := some 86, op := Op.move (Operand.tmp 0), type := 22, pos := "ref.go:452", after := #[{ on := 5, ground := Ground.guard }], guard := some (5, true) }) (v := ?_) rfl (by kernel_rfl) (by kernel_rfl) (by kernel_rfl) (fun _ _ _ h => h) (Or.inl ⟨by rfl, ?_⟩) (by assumption) ?_
                        rotate_left
                        · intro w' hSw
                          (try dsimp only at hSw)
                          (try go_split_ands)
                          go_simp
                          try with_reducible rfl
                        (try simp only [Act.put, List.setIfInBounds_toArray, List.set_cons_zero, List.set_cons_succ])
                        refine wpAnyH_take (i := 7) (oi := { dst := some 87, op := Op.move (Operand.tmp 13), type := 36, pos := "ref.go:452", after := #[{ on := 5, ground := Ground.guard }], guard := some (5, true) }) (v := ?_) rfl (by kernel_rfl) (by kernel_rfl) (by kernel_rfl) (fun _ _ _ h => h) (Or.inl ⟨by rfl, ?_⟩) (by assumption) ?_
                        rotate_left
                        · intro w' hSw
                          (try dsimp only at hSw)
                          (try go_split_ands)
                          go_simp
                          try with_reducible rfl
                        (try simp only [Act.put, List.setIfInBounds_toArray, List.set_cons_zero, List.set_cons_succ])
                        refine wpAnyH_take (i := 8) (oi := { dst := some 88, op := Op.move (Operand.tmp 14), type := 3, pos := "ref.go:452", after := #[{ on := 5, ground := Ground.guard }], guard := some (5, true) }) (v := ?_) rfl (by kernel_rfl) (by kernel_rfl) (by kernel_rfl) (fun _ _ _ h => h) (Or.inl ⟨by rfl, ?_⟩) (by assumption) ?_
                        rotate_left
                        · intro w' hSw
                          (try dsimp only at hSw)
                          (try go_split_ands)
                          go_simp
                          try with_reducible rfl
                        (try simp only [Act.put, List.setIfInBounds_toArray, List.set_cons_zero, List.set_cons_succ])
                        refine wpAnyH_take (i := 9) (oi := { dst := some 89, op := Op.indexAddr 36 (Operand.tmp 87) (Operand.tmp 88), type := 0, pos := "ref.go:452", after := #[{ on := 7, ground := Ground.data }, { on := 8, ground := Ground.data }, { on := 5, ground := Ground.guard }], guard := some (5, true) }) (v := ?_) rfl (by kernel_rfl) (by kernel_rfl) (by kernel_rfl) (fun _ _ _ h => h) (Or.inl ⟨by rfl, ?_⟩) (by assumption) ?_
                        rotate_left
                        · intro w' hSw
                          (try dsimp only at hSw)
                          (try go_split_ands)
                          go_simp
                          try with_reducible rfl
                        (try simp only [Act.put, List.setIfInBounds_toArray, List.set_cons_zero, List.set_cons_succ])
                        refine wpAnyH_take (i := 10) (oi := { dst := some 90, op := Op.load 3 (Operand.tmp 89), type := 3, pos := "ref.go:452", after := #[{ on := 9, ground := Ground.data }, { on := 5, ground := Ground.guard }], guard := some (5, true) }) (v := ?_) rfl (by kernel_rfl) (by kernel_rfl) (by kernel_rfl) (fun _ _ _ h => h) (Or.inl ⟨by rfl, ?_⟩) (by assumption) ?_
                        rotate_left
                        · intro w' hSw
                          (try dsimp only at hSw)
                          (try go_split_ands)
                          go_simp
                          try with_reducible rfl
                        (try simp only [Act.put, List.setIfInBounds_toArray, List.set_cons_zero, List.set_cons_succ])
                        refine wpAnyH_take (i := 11) (oi := { dst := some 91, op := Op.indexAddr 22 (Operand.tmp 86) (Operand.tmp 90), type := 0, pos := "ref.go:452", after := #[{ on := 6, ground := Ground.data }, { on := 10, ground := Ground.data }, { on := 5, ground := Ground.guard }], guard := some (5, true) }) (v := ?_) rfl (by kernel_rfl) (by kernel_rfl) (by kernel_rfl) (fun _ _ _ h => h) (Or.inl ⟨by rfl, ?_⟩) (by assumption) ?_
                        rotate_left
                        · intro w' hSw
                          (try dsimp only at hSw)
                          (try go_split_ands)
                          go_simp
                          try with_reducible rfl
                        (try simp only [Act.put, List.setIfInBounds_toArray, List.set_cons_zero, List.set_cons_succ])
                        refine wpAnyH_take (i := 12) (oi := { dst := some 92, op := Op.load 24 (Operand.tmp 91), type := 24, pos := "ref.go:452", after := #[{ on := 11, ground := Ground.data }, { on := 5, ground := Ground.guard }], guard := some (5, true) }) (v := ?_) rfl (by kernel_rfl) (by kernel_rfl) (by kernel_rfl) (fun _ _ _ h => h) (Or.inl ⟨by rfl, ?_⟩) (by assumption) ?_
                        rotate_left
                        · intro w' hSw
                          (try dsimp only at hSw)
                          (try go_split_ands)
                          go_simp
                          try with_reducible rfl
                        (try simp only [Act.put, List.setIfInBounds_toArray, List.set_cons_zero, List.set_cons_succ])
                        refine wpAnyH_take (i := 13) (oi := { dst := some 93, op := Op.move (Operand.tmp 0), type := 22, pos := "ref.go:452", after := #[{ on := 5, ground := Ground.guard }], guard := some (5, true) }) (v := ?_) rfl (by kernel_rfl) (by kernel_rfl) (by kernel_rfl) (fun _ _ _ h => h) (Or.inl ⟨by rfl, ?_⟩) (by assumption) ?_
                        rotate_left
                        · intro w' hSw
                          (try dsimp only at hSw)
                          (try go_split_ands)
                          go_simp
                          try with_reducible rfl
                        (try simp only [Act.put, List.setIfInBounds_toArray, List.set_cons_zero, List.set_cons_succ])
                        refine wpAnyH_take (i := 14) (oi := { dst := some 94, op := Op.move (Operand.tmp 15), type := 3, pos := "ref.go:452", after := #[{ on := 5, ground := Ground.guard }], guard := some (5, true) }) (v := ?_) rfl (by kernel_rfl) (by kernel_rfl) (by kernel_rfl) (fun _ _ _ h => h) (Or.inl ⟨by rfl, ?_⟩) (by assumption) ?_
                        rotate_left
                        · intro w' hSw
                          (try dsimp only at hSw)
                          (try go_split_ands)
                          go_simp
                          try with_reducible rfl
                        (try simp only [Act.put, List.setIfInBounds_toArray, List.set_cons_zero, List.set_cons_succ])
                        refine wpAnyH_take (i := 15) (oi := { dst := some 95, op := Op.indexAddr 22 (Operand.tmp 93) (Operand.tmp 94), type := 0, pos := "ref.go:452", after := #[{ on := 13, ground := Ground.data }, { on := 14, ground := Ground.data }, { on := 5, ground := Ground.guard }], guard := some (5, true) }) (v := ?_) rfl (by kernel_rfl) (by kernel_rfl) (by kernel_rfl) (fun _ _ _ h => h) (Or.inl ⟨by rfl, ?_⟩) (by assumption) ?_
                        rotate_left
                        · intro w' hSw
                          (try dsimp only at hSw)
                          (try go_split_ands)
                          go_simp
                          try with_reducible rfl
                        (try simp only [Act.put, List.setIfInBounds_toArray, List.set_cons_zero, List.set_cons_succ])
                        refine wpAnyH_take (i := 16) (oi := { dst := some 96, op := Op.load 24 (Operand.tmp 95), type := 24, pos := "ref.go:452", after := #[{ on := 15, ground := Ground.data }, { on := 5, ground := Ground.guard }], guard := some (5, true) }) (v := ?_) rfl (by kernel_rfl) (by kernel_rfl) (by kernel_rfl) (fun _ _ _ h => h) (Or.inl ⟨by rfl, ?_⟩) (by assumption) ?_
                        rotate_left
                        · intro w' hSw
                          (try dsimp only at hSw)
                          (try go_split_ands)
                          go_simp
                          try with_reducible rfl
                        (try simp only [Act.put, List.setIfInBounds_toArray, List.set_cons_zero, List.set_cons_succ])
                        refine wpAnyH_take (i := 17) (oi := { dst := some 97, op := Op.load 26 (Operand.tmp 4), type := 26, pos := "ref.go:452", after := #[{ on := 5, ground := Ground.guard }], guard := some (5, true) }) (v := ?_) rfl (by kernel_rfl) (by kernel_rfl) (by kernel_rfl) (fun _ _ _ h => h) (Or.inl ⟨by rfl, ?_⟩) (by assumption) ?_
                        rotate_left
                        · intro w' hSw
                          (try dsimp only at hSw)
                          (try go_split_ands)
                          go_simp
                          try with_reducible rfl
                        (try simp only [Act.put, List.setIfInBounds_toArray, List.set_cons_zero, List.set_cons_succ])
                        refine wpAnyH_ready (rs := [18]) (by kernel_rfl) (by simp) ?_
                        refine (AllReadyH.cons (o := { dst := some 98, op := Op.call { callee := Callee.value (Operand.func 46), args := #[Operand.tmp 92, Operand.tmp 96, Operand.tmp 97], argTypes := #[24, 24, 26] }, type := 3, pos := "ref.go:452", after := #[{ on := 12, ground := Ground.data }, { on := 16, ground := Ground.data }, { on := 17, ground := Ground.data }, { on := 5, ground := Ground.chain }, { on := 5, ground := Ground.guard }], guard := some (5, true) }) rfl (fun K hK => ?_) AllReadyH.nil)
                        go_simp
                        go_at_call 46
                        with_reducible (refine (HPR.out _).mono ?_)
                        rintro e w9 ⟨rfl, hb9⟩
                        have HB9 := Lib.hid ((Below.refl wr.heap.size wr).drew.trans (hb9.mono (Below.refl wr.heap.size wr).drew.size))
                        clear hb9
                        (try go_wp2_with fail)
                        refine hK.out _ _ (HSD.out _ HB9.out) (fun hHeld => ?_)
                        clear hK K
                        (try simp only [Act.put, List.setIfInBounds_toArray, List.set_cons_zero, List.set_cons_succ])
                        refine wpAnyH_take (i := 19) (oi := { dst := some 99, op := Op.binOp BinOp.geq 3 (Operand.tmp 98) (Operand.const (Value.int IntKind.i64 0)) 3, type := 4, pos := "ref.go:452", after := #[{ on := 18, ground := Ground.data }, { on := 5, ground := Ground.guard }], guard := some (5, true) }) (v := ?_) rfl (by kernel_rfl) (by kernel_rfl) (by kernel_rfl) (fun _ _ _ h => h) (Or.inl ⟨by rfl, ?_⟩) (by assumption) ?_
                        rotate_left
                        · intro w' hSw
                          (try dsimp only at hSw)
                          (try go_split_ands)
                          go_simp
                          try with_reducible rfl
                        (try simp only [Act.put, List.setIfInBounds_toArray, List.set_cons_zero, List.set_cons_succ])
                        refine wpAnyH_take (i := 20) (oi := { dst := some 100, op := Op.pick (Operand.tmp 85) (Operand.tmp 99) (Operand.const (Value.bool false)), type := 4, pos := "ref.go:452", after := #[{ on := 5, ground := Ground.data }, { on := 19, ground := Ground.data }], guard := none }) (v := ?_) rfl (by kernel_rfl) (by kernel_rfl) (by kernel_rfl) (fun _ _ _ h => h) (Or.inl ⟨by rfl, ?_⟩) (by assumption) ?_
                        rotate_left
                        · intro w' hSw
                          (try dsimp only at hSw)
                          (try go_split_ands)
                          go_simp
                          try with_reducible rfl
                        (try simp only [Act.put, List.setIfInBounds_toArray, List.set_cons_zero, List.set_cons_succ])
                        refine wpAnyH_done (by kernel_rfl) ?_ _
                        go_wp2_with fail
                        go_meet
                        exact ⟨by rw [HEV.out]; simp, HB9⟩
                    case rest =>
                    obtain ⟨rfl, HBC⟩ := hcut
                    have HBF2 := Lib.hid (HBF.out.step HBC.out)
                    clear d0 e0 e1 e2 hb lgq hgq HSD HPR hEV HBF lw
                    cases gv with
                    | true =>
                      have HN := Lib.hid (HSKIP.out (.inl rfl))
                      rw [show (!true && ev) = false from rfl]
                      clear HSKIP HTAKE HGV
                      go_wp2
                      go_roundg gl'
                      case measure => exact Nat.lt_succ_self _
                      case rel => exact ⟨j + 1, g, L, by go_num, by omega, hkl, HN, HBF2⟩
                    | false =>
                      cases ev with
                      | false =>
                        have HN := Lib.hid (HSKIP.out (.inr rfl))
                        rw [show (!false && false) = false from rfl]
                        clear HSKIP HTAKE HGV
                        go_wp2
                        go_roundg gl'
                        case measure => exact Nat.lt_succ_self _
                        case rel => exact ⟨j + 1, g, L, by go_num, by omega, hkl, HN, HBF2⟩
                      | true =>
                        have HN := Lib.hid (HTAKE.out rfl rfl)
                        rw [show (!false && true) = true from rfl]
                        obtain ⟨e0, e1, e2⟩ := HBF2.out.gb.c hj
                        have HBF3 := Lib.hid (HBF2.out.set j true)
                        obtain ⟨w6, hw6⟩ : ∃ z, z = wc.setCell ⟨q, j, none⟩ (.bool true) := ⟨_, rfl⟩
                        rw [← hw6] at HBF3
                        have hown := HBF3.out.own
                        obtain ⟨n, hn⟩ : ∃ n, n = L.length := ⟨_, rfl⟩
                        have hlen2 : n ≤ 32 := by omega
                        have hbs : w4.heap.size ≤ w6.heap.size := HBF3.out.gb.ex.size
                        have hklN : k < (L ++ [j]).length := by rw [List.length_append]; omega
                        obtain ⟨VL, hVL⟩ : ∃ z, z = L.map fun x : Nat => Value.int .i64 (x : Int) := ⟨_, rfl⟩
                        have HPU : Hid (∀ v' w7, w7.ownsRow w4.heap.size 3 1 v' (n + 1) (VL ++ [.int .i64 j]) → (w6.alloc (.cells #[.int .i64 j] 3)).grownBy w7 (Value.slice (some ⟨gq, 0, none⟩) n cap2).ownBlock → BF w4 q hs.length (fset g j true) v' (L ++ [j]) w7) := Lib.hid (fun v' w7 ho hg => by
                          rw [hn] at ho hg
                          rw [hVL] at ho
                          exact (HBF3.out.step ((Below.refl _ _).alloc (Nat.le_refl _) _)).push j ho hg)
                        rw [← hVL, ← hn] at hown
                        have HLN := Lib.hid hn
                        have HW6 := Lib.hid hw6
                        rw [← hn]
                        clear hn hVL HSKIP HTAKE HBF2 HBF3 hw6 HGV
                        go_upto_region 26 with fail
                        rw [← HW6.out]
                        clear e0 e1 e2
                        go_wp2_with (at_builtin; refine wpList_append_own _ rfl _ _ 36 rfl w4.heap.size 3 i0 (.int .i64 0) 1 8 Try.underlying36 HI0.out.1 HI0.out.2.1 HI0.out.2.2.1 HI0.out.2.2.2 rfl (by decide) (.slice (some ⟨gq, 0, none⟩) n cap2) n _ rfl (hown.alloc _) ⟨w6.heap.size, 0, none⟩ 1 1 [.int .i64 j] rfl rfl (cell_one_new _ _ _) (by intro u hu; simp at hu; subst hu; rfl) (by unfold maxLen; omega) (by omega) (by simp; omega) ?_)
                        intro v' w7 hown7 hgrow7 hnil7
                        have HNB := Lib.hid (HPU.out v' w7 hown7 hgrow7)
                        clear hown7 hgrow7 hown hnil7 HPU hbs HW6
                        go_wp2
                        go_roundg gl'
                        case measure => exact Nat.lt_succ_self _
                        case rel => exact ⟨j + 1, _, L ++ [j], by go_num, by omega, hklN, HN, HNB⟩
                  · obtain ⟨rfl, rfl⟩ : gk = 0 ∧ j = hs.length := by omega
                    have HN := Lib.hid HBS.out.next
                    clear HBS
                    go_wp2
                    go_roundg gm'
                    case measure => exact Nat.lt_succ_self _
                    case rel => exact ⟨k + 1, g, L, by go_num, by omega, by omega, HN, HBF⟩
              · obtain rfl : k = L.length := by omega
                have HCL := Lib.hid HBS.out.cls
                have HN := Lib.hid (HO.out.next_take hi HGV.out HCL.out)
                have hdn := HN.out.le
                have HGN := Lib.hid HBF.out.gb
                obtain ⟨c, hc⟩ : ∃ c, c = L.length := ⟨_, rfl⟩
                rw [← hc] at HN hdn hLN ⊢
                obtain ⟨cm, hcm⟩ : ∃ z, z = c % 2 := ⟨_, rfl⟩
                have r1 : (c : Int).tmod 2 = (cm : Int) := by rw [Int.tmod_eq_emod_of_nonneg (by omega)]; omega
                have v1 : IntKind.i64.wrap (cm : Int) = (cm : Int) := IntWalk.i64_in _ (by omega)
                rw [← hcm] at HN hdn
                have v2 : IntKind.i64.wrap ((d : Int) + (cm : Int)) = ((d + cm : Nat) : Int) := by rw [IntWalk.i64_in _ (by omega)]; simp
                clear HBS HBF HCL hc hcm HO HB0 HBF0
                go_wp2
                go_roundg gk'
                case measure => exact Nat.lt_succ_self _
                case rel => exact ⟨i + 1, d + cm, g, by go_num, by omega, by first | rfl | simp, HN, HGN⟩
        · obtain ⟨rfl, rfl⟩ : gk = 0 ∧ i = hs.length := by omega
          obtain rfl := HO.out.end_
          have HE := Lib.hid (HB4.out _ HI.out.ex)
          have HEO := Lib.hid (HOB.out _ HO0.out)
          clear HO HO0 HOB
          go_wp2
          go_ret2
          exact ⟨⟨_, _, rfl, HEO.out⟩, HE.out⟩

end Go.Proofs.Ytchhadkmemckbab

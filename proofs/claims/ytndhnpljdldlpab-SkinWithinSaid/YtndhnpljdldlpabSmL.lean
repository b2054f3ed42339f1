/- Skins: best, Largest, Square. -/
import Derived.Test.YtndhnpljdldlpabSmK
namespace Go.Proofs.Ytndhnpljdldlpab
open Go.RowKit

set_option maxRecDepth 100000 in
set_option maxHeartbeats 1600000 in
theorem bestY_L (a : Option Addr) (cap : Nat) (ss : List ByteArray) (hs : skB ss = true) (g : Int) (h1 : 1 ≤ g) (h9 : g ≤ 9) (w : World) (h : StrS w a ss) :
    Calls Try.prog 39 #[.slice a ss.length cap, .int .i64 g, .func (.func 40) #[] #[]] w fun e w' => ∃ p q r s : Nat, ∃ E : Int, e = .returned (.tuple #[.agg #[.int .i64 p, .int .i64 q, .int .i64 r, .int .i64 s], .int .i64 E]) ∧ Below w.heap.size w w' ∧ bestTo false (usB ss g) (wid ss) ss.length ss.length 0 1 1 p q r s ∧ ((r = 0 ∧ E = 7) ∨ (r ≠ 0 ∧ E = 0)) := by
  have hA := ((Below.refl w.heap.size w).alloc (Nat.le_refl _) (.cells #[.func (.func 40) #[] #[]] 71))
  have hA2 := hA.alloc (by simp) (.cells #[.int .i64 0, .int .i64 0, .int .i64 0, .int .i64 0] 29)
  have HMM := Lib.hid (((Mem.nil w).alloc #[.func (.func 40) #[] #[]] 71).alloc_at (H := w.heap.size + 1) (by simp) #[.int .i64 0, .int .i64 0, .int .i64 0, .int .i64 0] 29)
  have hL := leather_yes a cap ss hs g h1 h9 _ (h.below hA2)
  simp only [World.size_alloc] at hL
  have HL := Lib.hid hL
  have HE : Hid (∀ ps pg pb w1, LeaM w1 ps pg a ss cap g → w1.heap[pb]? = some (.cells #[.func (.func 40) #[] #[]] 71 (0, 0)) → Calls Try.prog 33 #[.slice a ss.length cap, .func (.func 67) #[] #[.pointer (some ⟨ps, 0, none⟩), .pointer (some ⟨pg, 0, none⟩)], .func (.func 72) #[] #[.pointer (some ⟨pb, 0, none⟩), .pointer (some ⟨w1.heap.size, 0, none⟩)]] (w1.alloc (.cells #[.int .i64 0, .int .i64 0, .int .i64 0, .int .i64 0] 29)) fun e w' => e = .returned (.tuple #[]) ∧ ∃ a b c d : Nat, w'.heap[w1.heap.size]? = some (.cells #[.int .i64 a, .int .i64 b, .int .i64 c, .int .i64 d] 29 (0, 0)) ∧ bestTo false (usB ss g) (wid ss) ss.length ss.length 0 1 1 a b c d ∧ Below w1.heap.size w1 w') := Lib.hid (fun ps pg pb w1 hl hpb => by
    have h2 : Below w1.heap.size w1 (w1.alloc (.cells #[.int .i64 0, .int .i64 0, .int .i64 0, .int .i64 0] 29)) := (Below.refl _ _).alloc (Nat.le_refl _) _
    exact eachTall_L a cap ss hs g ps pg pb w1.heap.size w1 _ h2 (hl.below h2) ((h2.block _ (block_lt hpb)).trans hpb) (heap_alloc_new _ _) (Nat.le_refl _) (by have := block_lt hpb; omega))
  obtain ⟨BT, hBT⟩ : ∃ BT, BT = bestTo false (usB ss g) (wid ss) ss.length ss.length 0 1 1 := ⟨_, rfl⟩
  have HBZ : Hid (∀ a b c d, BT a b c d → c = 0 → a = 0 ∧ b = 0 ∧ d = 0) := Lib.hid (fun a b c d hb hc => by
    rw [hBT] at hb
    rcases hb with ⟨h1, h2, -, h4, -⟩ | ⟨hf, -⟩
    · exact ⟨h1, h2, h4⟩
    · have := hf.1; omega)
  rw [← hBT] at HE
  rw [← hBT]
  clear hs h h1 h9 hA hA2 hBT hL
  go_enter Try.func39, Try.ntmps39
  go_wp2_with fail
  refine HL.out.mono ?_
  rintro e w1 ⟨rfl, hl, hb⟩
  have HM1 := Lib.hid (HMM.out.step (by simpa using hb))
  have HL1 := Lib.hid hl
  have HPB : Hid (w1.heap[w.heap.size]? = some (.cells #[.func (.func 40) #[] #[]] 71 (0, 0))) := Lib.hid (HM1.out.h (w.heap.size, #[.func (.func 40) #[] #[]], 71) (by simp)).2
  clear hl hb
  go_wp2_with fail
  refine (HE.out _ _ _ _ HL1.out HPB.out).mono ?_
  rintro e w4 ⟨rfl, p, q, r, s, hr, hbt, hb4⟩
  have HM4 := Lib.hid (HM1.out.step hb4)
  have HBT := Lib.hid hbt
  obtain ⟨c0, c1, c2, c3⟩ := block_4 hr
  have lr := block_lt hr
  have z0 := HM4.out.cell 0
  have z1 := HM4.out.cell 1
  have z2 := HM4.out.cell 2
  have z3 := HM4.out.cell 3
  have f0 := HM4.out.frozen 0
  have f1 := HM4.out.frozen 1
  have f2 := HM4.out.frozen 2
  have f3 := HM4.out.frozen 3
  have zl := HM4.out.head_lt
  simp at z0 z1 z2 z3
  clear hr hbt hb4
  by_cases hc : r = 0
  · obtain ⟨rfl, rfl, rfl⟩ := HBZ.out _ _ _ _ HBT.out hc
    subst hc
    go_wp2
    refine bodyPost_ret (v := .tuple #[.agg #[.int .i64 0, .int .i64 0, .int .i64 0, .int .i64 0], .int .i64 7]) (by simp [results, Try.results39, go_sem, z0, z1, z2, z3]) rfl ⟨0, 0, 0, 0, 7, rfl, ?_, HBT.out, .inl ⟨rfl, rfl⟩⟩
    exact (((HM4.out.b.setCell (Nat.le_succ _) _).setCell (Nat.le_succ _) _).setCell (Nat.le_succ _) _).setCell (Nat.le_succ _) _
  · have hc0 : ((r : Int) == 0) = false := by rw [beq_eq_false_iff_ne]; omega
    have HC := Lib.hid hc
    clear hc
    go_wp2
    refine bodyPost_ret (v := .tuple #[.agg #[.int .i64 p, .int .i64 q, .int .i64 r, .int .i64 s], .int .i64 0]) (by simp [results, Try.results39, go_sem, z0, z1, z2, z3]) rfl ⟨p, q, r, s, 0, rfl, ?_, HBT.out, .inr ⟨HC.out, rfl⟩⟩
    exact (((HM4.out.b.setCell (Nat.le_succ _) _).setCell (Nat.le_succ _) _).setCell (Nat.le_succ _) _).setCell (Nat.le_succ _) _

set_option maxRecDepth 100000 in
set_option maxHeartbeats 1600000 in
theorem bestN_L (a : Option Addr) (cap : Nat) (ss : List ByteArray) (hl : (ss.length : Int) ≤ 9223372036854775807) (hz : ∀ s ∈ ss, s.size ≤ 9223372036854775807) (g : Int) (hn : ¬ (skB ss = true ∧ 1 ≤ g ∧ g ≤ 9)) (w : World) (h : StrS w a ss) :
    Calls Try.prog 39 #[.slice a ss.length cap, .int .i64 g, .func (.func 40) #[] #[]] w fun e w' => e = .returned (.tuple #[.agg #[.int .i64 0, .int .i64 0, .int .i64 0, .int .i64 0], .int .i64 2]) ∧ Below w.heap.size w w' := by
  have hA := ((Below.refl w.heap.size w).alloc (Nat.le_refl _) (.cells #[.func (.func 40) #[] #[]] 71))
  have hA2 := hA.alloc (by simp) (.cells #[.int .i64 0, .int .i64 0, .int .i64 0, .int .i64 0] 29)
  have HMM := Lib.hid (((Mem.nil w).alloc #[.func (.func 40) #[] #[]] 71).alloc_at (H := w.heap.size + 1) (by simp) #[.int .i64 0, .int .i64 0, .int .i64 0, .int .i64 0] 29)
  have HL := Lib.hid (leather_no a cap ss hl hz g hn _ (h.below hA2))
  clear hn hl hz h hA hA2
  go_enter Try.func39, Try.ntmps39
  go_wp2_with fail
  refine HL.out.mono ?_
  rintro e w1 ⟨rfl, hb⟩
  have HM4 := Lib.hid (HMM.out.step (hb.mono (by simp)))
  have z0 := HM4.out.cell 0
  have z1 := HM4.out.cell 1
  have z2 := HM4.out.cell 2
  have z3 := HM4.out.cell 3
  have f0 := HM4.out.frozen 0
  have f1 := HM4.out.frozen 1
  have f2 := HM4.out.frozen 2
  have f3 := HM4.out.frozen 3
  have zl := HM4.out.head_lt
  simp at z0 z1 z2 z3
  clear hb
  go_wp2
  refine bodyPost_ret (v := .tuple #[.agg #[.int .i64 0, .int .i64 0, .int .i64 0, .int .i64 0], .int .i64 2]) (by simp [results, Try.results39, go_sem, z0, z1, z2, z3]) rfl ⟨rfl, ?_⟩
  exact (((HM4.out.b.setCell (Nat.le_succ _) _).setCell (Nat.le_succ _) _).setCell (Nat.le_succ _) _).setCell (Nat.le_succ _) _

set_option maxRecDepth 100000 in
set_option maxHeartbeats 1600000 in
theorem large_yes (a : Option Addr) (cap : Nat) (ss : List ByteArray) (hs : skB ss = true) (g : Int) (h1 : 1 ≤ g) (h9 : g ≤ 9) (w : World) (h : StrS w a ss) :
    Calls Try.prog 12 #[.slice a ss.length cap, .int .i64 g] w fun e w' => ∃ p q r s : Nat, ∃ E : Int, e = .returned (.tuple #[.agg #[.int .i64 p, .int .i64 q, .int .i64 r, .int .i64 s], .int .i64 E]) ∧ Below w.heap.size w w' ∧ bestTo false (usB ss g) (wid ss) ss.length ss.length 0 1 1 p q r s ∧ ((r = 0 ∧ E = 7) ∨ (r ≠ 0 ∧ E = 0)) := by
  have HM := Lib.hid ((Mem.nil w).alloc #[.int .i64 0, .int .i64 0, .int .i64 0, .int .i64 0] 29)
  have HB := Lib.hid (bestY_L a cap ss hs g h1 h9 _ (h.below HM.out.b))
  clear h hs h1 h9
  go_enter Try.func12, Try.ntmps12
  go_wp2_with fail
  refine HB.out.mono ?_
  rintro e w1 ⟨p, q, r, s, E, rfl, hb, hbt, hE⟩
  have HM4 := Lib.hid (HM.out.step hb)
  have HBT := Lib.hid (And.intro hbt hE)
  have z0 := HM4.out.cell 0
  have z1 := HM4.out.cell 1
  have z2 := HM4.out.cell 2
  have z3 := HM4.out.cell 3
  have f0 := HM4.out.frozen 0
  have f1 := HM4.out.frozen 1
  have f2 := HM4.out.frozen 2
  have f3 := HM4.out.frozen 3
  have zl := HM4.out.head_lt
  simp at z0 z1 z2 z3
  clear hb hbt hE
  go_wp2
  refine bodyPost_ret (v := .tuple #[.agg #[.int .i64 p, .int .i64 q, .int .i64 r, .int .i64 s], .int .i64 E]) (by simp [results, Try.results12, go_sem, z0, z1, z2, z3]) rfl ⟨p, q, r, s, E, rfl, ?_, HBT.out.1, HBT.out.2⟩
  exact (((HM4.out.b.setCell (Nat.le_refl _) _).setCell (Nat.le_refl _) _).setCell (Nat.le_refl _) _).setCell (Nat.le_refl _) _

set_option maxRecDepth 100000 in
set_option maxHeartbeats 1600000 in
theorem large_no (a : Option Addr) (cap : Nat) (ss : List ByteArray) (hl : (ss.length : Int) ≤ 9223372036854775807) (hz : ∀ s ∈ ss, s.size ≤ 9223372036854775807) (g : Int) (hn : ¬ (skB ss = true ∧ 1 ≤ g ∧ g ≤ 9)) (w : World) (h : StrS w a ss) :
    Calls Try.prog 12 #[.slice a ss.length cap, .int .i64 g] w fun e w' => e = .returned (.tuple #[.agg #[.int .i64 0, .int .i64 0, .int .i64 0, .int .i64 0], .int .i64 2]) ∧ Below w.heap.size w w' := by
  have HM := Lib.hid ((Mem.nil w).alloc #[.int .i64 0, .int .i64 0, .int .i64 0, .int .i64 0] 29)
  have HB := Lib.hid (bestN_L a cap ss hl hz g hn _ (h.below HM.out.b))
  clear h hn hl hz
  go_enter Try.func12, Try.ntmps12
  go_wp2_with fail
  refine HB.out.mono ?_
  rintro e w1 ⟨rfl, hb⟩
  have HM4 := Lib.hid (HM.out.step hb)
  have z0 := HM4.out.cell 0
  have z1 := HM4.out.cell 1
  have z2 := HM4.out.cell 2
  have z3 := HM4.out.cell 3
  have f0 := HM4.out.frozen 0
  have f1 := HM4.out.frozen 1
  have f2 := HM4.out.frozen 2
  have f3 := HM4.out.frozen 3
  have zl := HM4.out.head_lt
  simp at z0 z1 z2 z3
  clear hb
  go_wp2
  refine bodyPost_ret (v := .tuple #[.agg #[.int .i64 0, .int .i64 0, .int .i64 0, .int .i64 0], .int .i64 2]) (by simp [results, Try.results12, go_sem, z0, z1, z2, z3]) rfl ⟨rfl, ?_⟩
  exact (((HM4.out.b.setCell (Nat.le_refl _) _).setCell (Nat.le_refl _) _).setCell (Nat.le_refl _) _).setCell (Nat.le_refl _) _


end Go.Proofs.Ytndhnpljdldlpab

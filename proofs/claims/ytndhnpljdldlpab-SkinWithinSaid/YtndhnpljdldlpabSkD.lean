/- Skins: leather and its closure. -/
import Derived.Test.YtndhnpljdldlpabSkM
namespace Go.Proofs.Ytndhnpljdldlpab
open Go.RowKit

/-- Usable. -/
def usB (ss : List ByteArray) (g : Int) (x y : Int) : Bool := decide (g ≤ grd ss x y)

/-- What leather's closure holds: the boxes of the skin and of the grade, and the skin. -/
def LeaM (w : World) (ps pg : Nat) (a : Option Addr) (ss : List ByteArray) (cap : Nat) (g : Int) : Prop :=
  ps < w.heap.size ∧ pg < w.heap.size ∧ w.cell? ⟨ps, 0, none⟩ = some (.slice a ss.length cap) ∧ w.cell? ⟨pg, 0, none⟩ = some (.int .i64 g) ∧ StrS w a ss

theorem LeaM.below {w w' : World} {ps pg : Nat} {a : Option Addr} {ss : List ByteArray} {cap : Nat} {g : Int} (h : LeaM w ps pg a ss cap g) (hb : Below w.heap.size w w') : LeaM w' ps pg a ss cap g :=
  ⟨Nat.lt_of_lt_of_le h.1 hb.size, Nat.lt_of_lt_of_le h.2.1 hb.size, (hb.cell (p := ⟨ps, 0, none⟩) h.1).trans h.2.2.1, (hb.cell (p := ⟨pg, 0, none⟩) h.2.1).trans h.2.2.2.1, h.2.2.2.2.below hb⟩

theorem memL {w w' : World} {ps pg : Nat} {vs vg x y : Value} {T : TypeId} (l1 : ps < w.heap.size) (l2 : pg < w.heap.size) (c1 : w.cell? ⟨ps, 0, none⟩ = some vs) (c2 : w.cell? ⟨pg, 0, none⟩ = some vg) (h : Mem w [(w.heap.size, #[x, y], T)] w') :
    Mem w [(w.heap.size, #[x, y], T)] w' ∧ w'.cell? ⟨ps, 0, none⟩ = some vs ∧ w'.cell? ⟨pg, 0, none⟩ = some vg ∧ w'.cell? ⟨w.heap.size, 0, none⟩ = some x ∧ w'.cell? ⟨w.heap.size, 1, none⟩ = some y :=
  ⟨h, (h.b.cell (p := ⟨ps, 0, none⟩) l1).trans c1, (h.b.cell (p := ⟨pg, 0, none⟩) l2).trans c2, h.c2.1, h.c2.2.1⟩

set_option maxRecDepth 100000 in
set_option maxHeartbeats 1600000 in
theorem usable_any (ps pg : Nat) (a : Option Addr) (cap : Nat) (ss : List ByteArray) (hs : skB ss = true) (g x y : Int) (w : World) (h : LeaM w ps pg a ss cap g) :
    Calls Try.prog 67 #[.agg #[.int .i64 x, .int .i64 y], .pointer (some ⟨ps, 0, none⟩), .pointer (some ⟨pg, 0, none⟩)] w fun e w' => e = .returned (.bool (usB ss g x y)) ∧ Below w.heap.size w w' := by
  obtain ⟨v, hv⟩ : ∃ v, v = grd ss x y := ⟨_, rfl⟩
  have HG : Hid (∀ w', Below w.heap.size w w' → Calls Try.prog 61 #[.slice a ss.length cap, .agg #[.int .i64 x, .int .i64 y]] w' fun e w'' => e = .returned (.int .i64 v) ∧ Below w'.heap.size w' w'') := Lib.hid (fun w' hb => by
    rw [hv]; exact gradeAt_any a cap ss hs x y w' (h.below hb).2.2.2.2)
  have hv2 : usB ss g x y = decide (g ≤ v) := by unfold usB; rw [hv]
  rw [hv2]
  obtain ⟨l1, l2, c1, c2, -⟩ := h
  clear hv hv2 hs
  go_enter Try.func67, Try.ntmps67
  go_wp2
  have hM := (Mem.nil w).alloc #[.int .i64 x, .int .i64 y] 93
  go_region_held3 (fun w' => Mem w [(w.heap.size, #[.int .i64 x, .int .i64 y], 93)] w' ∧ w'.cell? ⟨ps, 0, none⟩ = some (.slice a ss.length cap) ∧ w'.cell? ⟨pg, 0, none⟩ = some (.int .i64 g) ∧ w'.cell? ⟨w.heap.size, 0, none⟩ = some (.int .i64 x) ∧ w'.cell? ⟨w.heap.size, 1, none⟩ = some (.int .i64 y))
    (first | (go_split_ands; exact memL l1 l2 c1 c2 (Mem.step (by assumption) (by assumption))) | (exact memL l1 l2 c1 c2 hM.drew))
    (first | (go_at_call 61; go_split_ands; with_reducible (refine (HG.out _ (Mem.b (by assumption))).mono ?_); rintro e w2 ⟨rfl, hb2⟩))
  go_wp2
  go_ret
  go_split_ands
  exact ⟨rfl, Mem.b (by assumption)⟩

set_option maxRecDepth 100000 in
set_option maxHeartbeats 1600000 in
theorem leather_yes (a : Option Addr) (cap : Nat) (ss : List ByteArray) (hs : skB ss = true) (g : Int) (h1 : 1 ≤ g) (h9 : g ≤ 9) (w : World) (h : StrS w a ss) :
    Calls Try.prog 31 #[.slice a ss.length cap, .int .i64 g] w fun e w' => e = .returned (.tuple #[.func (.func 67) #[] #[.pointer (some ⟨w.heap.size, 0, none⟩), .pointer (some ⟨w.heap.size + 1, 0, none⟩)], .int .i64 0]) ∧ LeaM w' w.heap.size (w.heap.size + 1) a ss cap g ∧ Below w.heap.size w w' := by
  have HV : Hid (∀ w', Below w.heap.size w w' → Calls Try.prog 55 #[.slice a ss.length cap] w' fun e w'' => e = .returned (.bool true) ∧ w' = w'') := Lib.hid (fun w' hb => by
    rw [← hs]
    obtain ⟨⟨hl1, hl2⟩, ⟨hw1, hw2⟩, hr⟩ := skB_iff.1 hs
    refine skValid_any a cap ss (by omega) (fun s hsm => ?_) w' (h.below hb)
    obtain ⟨k, hk, rfl⟩ := List.mem_iff_getElem.1 hsm
    have := (hr k hk).1
    omega)
  have hM := Lib.hid (((Mem.nil w).alloc #[.slice a ss.length cap] 22).alloc_at (H := w.heap.size + 1) (by simp) #[.int .i64 g] 3)
  have HL : Hid (∀ w', Mem w [(w.heap.size + 1, #[.int .i64 g], 3), (w.heap.size, #[.slice a ss.length cap], 22)] w' → LeaM w' w.heap.size (w.heap.size + 1) a ss cap g ∧ Below w.heap.size w w') := Lib.hid (fun w' hm =>
    ⟨⟨hm.tail.head_lt, hm.head_lt, hm.tail.cell 0, hm.cell 0, h.mem hm⟩, hm.b⟩)
  clear hs h
  go_enter Try.func31, Try.ntmps31
  go_wp2_with fail
  refine (HV.out _ (((Below.refl _ _).alloc (Nat.le_refl _) _).alloc (by simp) _)).mono ?_
  rintro e w1 ⟨rfl, rfl⟩
  go_wp2
  go_ret2
  exact ⟨rfl, HL.out _ hM.out⟩

set_option maxRecDepth 100000 in
set_option maxHeartbeats 1600000 in
theorem leather_no (a : Option Addr) (cap : Nat) (ss : List ByteArray) (hl : (ss.length : Int) ≤ 9223372036854775807) (hz : ∀ s ∈ ss, s.size ≤ 9223372036854775807) (g : Int) (hn : ¬ (skB ss = true ∧ 1 ≤ g ∧ g ≤ 9)) (w : World) (h : StrS w a ss) :
    Calls Try.prog 31 #[.slice a ss.length cap, .int .i64 g] w fun e w' => e = .returned (.tuple #[.nilFunc, .int .i64 2]) ∧ Below w.heap.size w w' := by
  obtain ⟨v, hv⟩ : ∃ v, v = skB ss := ⟨_, rfl⟩
  have HV : Hid (∀ w', Below w.heap.size w w' → Calls Try.prog 55 #[.slice a ss.length cap] w' fun e w'' => e = .returned (.bool v) ∧ w' = w'') := Lib.hid (fun w' hb => by
    rw [hv]
    exact skValid_any a cap ss hl hz w' (h.below hb))
  rw [← hv] at hn
  clear hv hl hz h
  cases v with
  | false =>
    clear hn
    go_enter Try.func31, Try.ntmps31
    go_wp2_with fail
    refine (HV.out _ (((Below.refl _ _).alloc (Nat.le_refl _) _).alloc (by simp) _)).mono ?_
    rintro e w1 ⟨rfl, rfl⟩
    go_wp2
    go_ret2
    exact ⟨rfl, ((Below.refl _ _).alloc (Nat.le_refl _) _).alloc (by simp) _⟩
  | true =>
    have hg : g < 1 ∨ 9 < g := by
      by_cases h1 : g < 1
      · exact .inl h1
      · by_cases h2 : 9 < g
        · exact .inr h2
        · exact absurd ⟨rfl, by omega, by omega⟩ hn
    clear hn
    go_enter Try.func31, Try.ntmps31
    go_wp2_with fail
    refine (HV.out _ (((Below.refl _ _).alloc (Nat.le_refl _) _).alloc (by simp) _)).mono ?_
    rintro e w1 ⟨rfl, rfl⟩
    go_wp2
    all_goals first | (exfalso; omega) | skip
    all_goals
      go_ret2
      exact ⟨rfl, ((Below.refl _ _).alloc (Nat.le_refl _) _).alloc (by simp) _⟩

end Go.Proofs.Ytndhnpljdldlpab

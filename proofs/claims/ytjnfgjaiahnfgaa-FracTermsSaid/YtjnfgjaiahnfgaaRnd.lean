/- Rounding: the program's side. -/
import Derived.Test.YtjnfgjaiahnfgaaOne
namespace Go.Proofs.Ytjnfgjaiahnfgaa
open Go.RowKit

theorem tdiv_facts {n d : Int} (h0 : 0 < d) (n1 : -2000000000000000000 ≤ n) (n2 : n ≤ 2000000000000000000) :
    -2000000000000000000 ≤ n.tdiv d ∧ n.tdiv d ≤ 2000000000000000000 ∧ (n.tmod d < 0 → n / d = n.tdiv d - 1) ∧ (¬ n.tmod d < 0 → n / d = n.tdiv d) := by
  have hd : d ≠ 0 := by omega
  have e1 : d * n.tdiv d + n.tmod d = n := Int.mul_tdiv_add_tmod n d
  have hm : -d < n.tmod d ∧ n.tmod d < d := by
    constructor
    · have := Int.lt_tmod_of_pos n h0; omega
    · exact Int.tmod_lt_of_pos n h0
  have hb : (n.tdiv d).natAbs ≤ n.natAbs := Int.natAbs_tdiv_le_natAbs n d
  refine ⟨by omega, by omega, fun h => ?_, fun h => ?_⟩
  · rw [Int.ediv_eq_iff_of_pos h0]
    grind
  · rw [Int.ediv_eq_iff_of_pos h0]
    grind

set_option maxRecDepth 100000 in
theorem floor_r (n d : Int) (h0 : 0 < d) (n1 : -2000000000000000000 ≤ n) (n2 : n ≤ 2000000000000000000) (w : World) :
    Calls Try.prog 81 #[.agg #[.int .i64 n, .int .i64 d]] w fun e w' => e = .returned (.int .i64 (n / d)) ∧ Below w.heap.size w w' := by
  have hd : d ≠ 0 := by omega
  obtain ⟨b1, b2, f1, f2⟩ := tdiv_facts h0 n1 n2
  have hd' : (d == 0) = false := by simpa using hd
  by_cases h : n.tmod d < 0
  · rw [f1 h]
    clear f1 f2
    go_enter Try.func81, Try.ntmps81
    go_wp2
    go_ret
    exact ⟨rfl, (Below.refl _ _).alloc (Nat.le_refl _) _⟩
  · rw [f2 h]
    clear f1 f2
    go_enter Try.func81, Try.ntmps81
    go_wp2
    go_ret
    exact ⟨rfl, (Below.refl _ _).alloc (Nat.le_refl _) _⟩

def upB (m n d down rest : Int) : Bool :=
  if m = 1 then decide (0 < rest) else if m = 2 then decide (0 < rest) && decide (n < 0) else if m = 3 then decide (d - rest ≤ rest) else if m = 4 then decide (d - rest < rest) || (decide (rest = d - rest) && decide (down.tmod 2 ≠ 0)) else false

set_option maxRecDepth 100000 in
set_option maxHeartbeats 1600000 in
theorem up_r (n d m down rest : Int) (r1 : 0 ≤ rest) (r2 : rest < d) (d2 : d ≤ 2000000000000000000) (w : World) :
    Calls Try.prog 92 #[.agg #[.int .i64 n, .int .i64 d], .int .i64 m, .int .i64 down, .int .i64 rest] w fun e w' => e = .returned (.bool (upB m n d down rest)) ∧ Below w.heap.size w w' := by
  obtain ⟨b, HB⟩ : ∃ b, Hid (upB m n d down rest = b) := ⟨_, Lib.hid rfl⟩
  rw [HB.out]
  have e2 : (2 : Int) ≠ 0 := by decide
  by_cases h1 : m = 1
  · subst h1
    go_enter Try.func92, Try.ntmps92
    go_wp2
    go_ret
    refine ⟨?_, (Below.refl _ _).alloc (Nat.le_refl _) _⟩
    rw [← HB.out]; simp [upB]
  by_cases h2 : m = 2
  · subst h2
    clear h1
    by_cases h : 0 < rest
    · go_enter Try.func92, Try.ntmps92
      go_wp2
      go_ret
      refine ⟨?_, (Below.refl _ _).alloc (Nat.le_refl _) _⟩
      rw [← HB.out]; simp [upB, h]
    · go_enter Try.func92, Try.ntmps92
      go_wp2
      go_ret
      refine ⟨?_, (Below.refl _ _).alloc (Nat.le_refl _) _⟩
      rw [← HB.out]; simp [upB]; omega
  by_cases h3 : m = 3
  · subst h3
    clear h1 h2
    go_enter Try.func92, Try.ntmps92
    go_wp2
    go_ret
    refine ⟨?_, (Below.refl _ _).alloc (Nat.le_refl _) _⟩
    rw [← HB.out]; simp [upB]
  by_cases h4 : m = 4
  · subst h4
    clear h1 h2 h3
    by_cases h : d - rest < rest
    · go_enter Try.func92, Try.ntmps92
      go_wp2
      go_ret
      refine ⟨?_, (Below.refl _ _).alloc (Nat.le_refl _) _⟩
      rw [← HB.out]; simp [upB, h]
    · have Hh := Lib.hid h
      by_cases h' : rest = d - rest
      · have h5 : (rest == d - rest) = true := by simpa using h'
        have Hh' := Lib.hid h'
        clear h'
        go_enter Try.func92, Try.ntmps92
        go_wp2
        go_ret
        refine ⟨?_, (Below.refl _ _).alloc (Nat.le_refl _) _⟩
        rw [← HB.out]; simp only [upB, decide_eq_true Hh'.out, decide_eq_false (Int.not_lt.2 Hh.out)]; first | (simp; done) | rfl | (simp [bne]; done) | (simp [bne]; rfl)
      · have h5 : (rest == d - rest) = false := by simpa using h'
        have Hh' := Lib.hid h'
        clear h'
        go_enter Try.func92, Try.ntmps92
        go_wp2
        go_ret
        refine ⟨?_, (Below.refl _ _).alloc (Nat.le_refl _) _⟩
        rw [← HB.out]; simp only [upB, decide_eq_false Hh'.out, decide_eq_false (Int.not_lt.2 Hh.out)]; first | (simp; done) | rfl | (simp [bne]; done) | (simp [bne]; rfl)
  · have g1 : (m == 1) = false := by simpa using h1
    have g2 : (m == 2) = false := by simpa using h2
    have g3 : (m == 3) = false := by simpa using h3
    have g4 : (m == 4) = false := by simpa using h4
    have HBB := Lib.hid (show b = false by rw [← HB.out]; simp [upB, h1, h2, h3, h4])
    clear h1 h2 h3 h4
    go_enter Try.func92, Try.ntmps92
    go_wp2
    go_ret
    exact ⟨by simp [HBB.out, go_sem], (Below.refl _ _).alloc (Nat.le_refl _) _⟩

/-- One box. -/
def S10 (w : World) (x0 x1 : Int) (T : TypeId) (w' : World) : Prop :=
  Below w.heap.size w w' ∧ w'.heap[w.heap.size]? = some (.cells #[.int .i64 x0, .int .i64 x1] T (0, 0))
theorem S10.l {w : World} {x0 x1 : Int} {T : TypeId} {w' : World} (h : S10 w x0 x1 T w') : S10 w x0 x1 T w' ∧ w'.cell? ⟨w.heap.size, 0, none⟩ = some (.int .i64 x0) ∧ w'.cell? ⟨w.heap.size, 1, none⟩ = some (.int .i64 x1) :=
  ⟨h, cell_blk2 h.2 0, cell_blk2 h.2 1⟩
theorem S10.start (w : World) (x0 x1 : Int) (T : TypeId) : S10 w x0 x1 T (w.alloc (.cells #[.int .i64 x0, .int .i64 x1] T)) :=
  ⟨(Below.refl _ _).alloc (Nat.le_refl _) _, heap_alloc_new _ _⟩
theorem S10.drew {w : World} {x0 x1 : Int} {T : TypeId} {w' : World} (h : S10 w x0 x1 T w') : S10 w x0 x1 T w'.drew := ⟨h.1.drew, h.2⟩
theorem S10.step {w : World} {x0 x1 : Int} {T : TypeId} {w1 w2 : World} (h : S10 w x0 x1 T w1) (hb : Below w1.heap.size w1 w2) : S10 w x0 x1 T w2 :=
  ⟨h.1.trans (hb.mono h.1.size), (hb.block _ (Array.getElem?_eq_some_iff.1 h.2).1).trans h.2⟩

/-- The whole number to which n / d is rounded. -/
def rndI (m n d : Int) : Int := if upB m n d (n / d) (n - n / d * d) = true then n / d + 1 else n / d

theorem floor_facts {n d : Int} (h0 : 0 < d) (d2 : d ≤ 2000000000000000000) (n1 : -2000000000000000000 ≤ n) (n2 : n ≤ 2000000000000000000) :
    0 ≤ n - n / d * d ∧ n - n / d * d < d ∧ -4000000000000000000 ≤ n / d * d ∧ n / d * d ≤ 2000000000000000000 ∧ -2000000000000000001 ≤ n / d ∧ n / d ≤ 2000000000000000000 := by
  have e := Int.emod_add_mul_ediv n d
  have e1 := Int.emod_nonneg n (show d ≠ 0 by omega)
  have e2 := Int.emod_lt_of_pos n h0
  have e3 : n / d * d = d * (n / d) := Int.mul_comm _ _
  obtain ⟨b1, b2, f1, f2⟩ := tdiv_facts h0 n1 n2
  refine ⟨by omega, by omega, by omega, by omega, ?_, ?_⟩
  · by_cases h : n.tmod d < 0
    · rw [f1 h]; omega
    · rw [f2 h]; omega
  · by_cases h : n.tmod d < 0
    · rw [f1 h]; omega
    · rw [f2 h]; omega

set_option maxRecDepth 100000 in
set_option maxHeartbeats 1600000 in
theorem round_r (n d m : Int) (h0 : 0 < d) (d2 : d ≤ 2000000000000000000) (n1 : -2000000000000000000 ≤ n) (n2 : n ≤ 2000000000000000000) (w : World) :
    Calls Try.prog 73 #[.agg #[.int .i64 n, .int .i64 d], .int .i64 m] w fun e w' => e = .returned (.int .i64 (rndI m n d)) ∧ Below w.heap.size w w' := by
  obtain ⟨b1, b2, b3, b4, b5, b6⟩ := floor_facts h0 d2 n1 n2
  have HF : Hid (∀ w, Calls Try.prog 81 #[.agg #[.int .i64 n, .int .i64 d]] w fun e w' => e = .returned (.int .i64 (n / d)) ∧ Below w.heap.size w w') := Lib.hid (floor_r n d h0 n1 n2)
  have HU : Hid (∀ w, Calls Try.prog 92 #[.agg #[.int .i64 n, .int .i64 d], .int .i64 m, .int .i64 (n / d), .int .i64 (n - n / d * d)] w fun e w' => e = .returned (.bool (upB m n d (n / d) (n - n / d * d))) ∧ Below w.heap.size w w') := Lib.hid (up_r n d m (n / d) (n - n / d * d) b1 b2 d2)
  unfold rndI
  generalize upB m n d (n / d) (n - n / d * d) = b at HU ⊢
  generalize n / d = q at *
  have HS := Lib.hid (S10.start w n d 67)
  clear b1 b2 h0
  go_enter Try.func73, Try.ntmps73
  go_wp2_with fail
  refine (HF.out _).mono ?_
  rintro e w1 ⟨rfl, hb⟩
  have hS1 := HS.out.step hb
  obtain ⟨-, ka0, ka1⟩ := hS1.l
  have HS1 := Lib.hid hS1
  clear hb hS1
  go_wp2_with fail
  refine (HU.out _).mono ?_
  rintro e w2 ⟨rfl, hb⟩
  have HS2 := Lib.hid (HS1.out.step hb)
  clear hb ka0 ka1 HU HF
  cases b
  · go_wp2
    go_ret
    exact ⟨by simp, HS2.out.1⟩
  · go_wp2
    go_ret
    exact ⟨by simp, HS2.out.1⟩

end Go.Proofs.Ytjnfgjaiahnfgaa

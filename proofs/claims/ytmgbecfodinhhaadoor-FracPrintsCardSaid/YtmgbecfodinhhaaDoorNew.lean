/- New and Whole: the program's and the reference's. -/
import Derived.Test.YtmgbecfodinhhaaDoorAwake
namespace Go.Proofs.YtmgbecfodinhhaaDoor
open Go.RowKit

noncomputable def newS (n d : Int) : Int × Int × Int := if d = 0 then (0, 0, 4) else ansQ (qof n d)
theorem newS_zero (n : Int) {d : Int} (h : d = 0) : newS n d = (0, 0, 4) := by unfold newS; rw [if_pos h]
theorem newS_else (n : Int) {d : Int} (h : d ≠ 0) : newS n d = ansQ (qof n d) := by unfold newS; rw [if_neg h]

/-- A block of two numbers that the call itself has laid, in a later world. -/
theorem blk2 {w w1 : World} {c0 c1 : Value} {T : TypeId} (h : Below (w.heap.size + 1) (w.alloc (.cells #[c0, c1] T)) w1) :
    w1.cell? ⟨w.heap.size, 0, none⟩ = some c0 ∧ w1.cell? ⟨w.heap.size, 1, none⟩ = some c1 ∧ w1.frozen? ⟨w.heap.size, 0, none⟩ = false ∧ w1.frozen? ⟨w.heap.size, 1, none⟩ = false ∧ w.heap.size < w1.heap.size := by
  obtain ⟨h1, h2, h3⟩ := blk_at h (by omega) (heap_alloc_new w _)
  exact ⟨h1 0, h1 1, h2 0, h2 1, h3⟩

theorem cell_keep {w w' : World} {p : Addr} {v : Value} (h : w.cell? p = some v) (hb : Below w.heap.size w w') : w'.cell? p = some v := (hb.cell (World.block_lt_of_cell? w _ h)).trans h

set_option maxRecDepth 100000 in
set_option maxHeartbeats 800000 in
theorem new_p (n d : Int) (h1 : -9223372036854775808 ≤ n) (h2 : n ≤ 9223372036854775807) (h3 : -9223372036854775808 ≤ d) (h4 : d ≤ 9223372036854775807) (w : World) :
    Calls Tryd.prog 34 #[.int .i64 n, .int .i64 d] w fun e w' => ∃ a b c, e = .returned (.tuple #[.agg #[.int .i64 a, .int .i64 b], .int .i64 c]) ∧ Hid (newS n d = (a, b, c)) ∧ Below w.heap.size w w' := by
  have HH := Lib.hid (And.intro h1 (And.intro h2 (And.intro h3 h4)))
  clear h1 h2 h3 h4
  by_cases h0 : d = 0
  · have HN := Lib.hid (newS_zero n h0)
    have hzb : (d == 0) = true := by simpa using h0
    clear h0
    go_enter Tryd.func34, Tryd.ntmps34
    go_wp2
    refine bodyPost_ret (v := .tuple #[.agg #[.int .i64 0, .int .i64 0], .int .i64 4]) (by simp [results, Tryd.results34, go_sem]) rfl ⟨_, _, _, rfl, HN, (Below.refl _ _).alloc (Nat.le_refl _) _⟩
  · have HN := Lib.hid (newS_else n h0)
    have HD := Lib.hid h0
    have hzb : (d == 0) = false := by simpa using h0
    clear h0
    go_enter Tryd.func34, Tryd.ntmps34
    go_wp2_with fail
    refine (rfrac_var n d HH.out.1 HH.out.2.1 HH.out.2.2.1 HH.out.2.2.2 HD.out (qof n d) rfl _).mono ?_
    rintro e w1 ⟨ra, rb, rc, rfl, HANS, hb1⟩
    simp only [World.size_alloc] at hb1
    obtain ⟨hc0, hc1, hf0, hf1, hsz⟩ := blk2 hb1
    have HB := Lib.hid hb1
    clear hb1
    go_wp2
    refine bodyPost_ret (v := .tuple #[.agg #[.int .i64 ra, .int .i64 rb], .int .i64 rc]) (by simp [results, Tryd.results34, go_sem, hc0, hc1]) rfl ⟨_, _, _, rfl, Lib.hid (HN.out.trans HANS.out), ?_⟩
    exact (((((Below.refl _ _).alloc (Nat.le_refl _) _).trans (HB.out.mono (by omega)))).setCell (Nat.le_refl _) _).setCell (Nat.le_refl _) _

end Go.Proofs.YtmgbecfodinhhaaDoor

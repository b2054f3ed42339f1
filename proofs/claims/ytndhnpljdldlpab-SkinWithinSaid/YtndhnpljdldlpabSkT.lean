/- Skins: the ring, and that the parts of a ring are counted. -/
import Derived.Test.YtndhnpljdldlpabSkS
namespace Go.Proofs.Ytndhnpljdldlpab
open Go.RowKit

def ringT : List ByteArray := [⟨#[49, 49, 49]⟩, ⟨#[49, 48, 49]⟩, ⟨#[49, 49, 49]⟩]
theorem ringT_sk : skB ringT = true := by decide
theorem ringT_parts : (partsTo (usB ringT 1) (wid ringT) ringT.length 0).1.map (fun p => (p.1, p.2.2.1)) = [(8, 1)] := by
  have hw : wid ringT = 3 := by decide
  have hl : ringT.length = 3 := rfl
  rw [hw, hl]
  decide

set_option maxRecDepth 100000 in
theorem ring_any (w : World) : Calls Try.prog 38 #[] w fun e w' => e = .returned (.slice (some ⟨w.heap.size, 0, none⟩) ringT.length 3) ∧ StrS w' (some ⟨w.heap.size, 0, none⟩) ringT ∧ Below w.heap.size w w' := by
  have HS : Hid (StrS (w.alloc (.cells #[.string ⟨#[49, 49, 49]⟩, .string ⟨#[49, 48, 49]⟩, .string ⟨#[49, 49, 49]⟩] 9)) (some ⟨w.heap.size, 0, none⟩) ringT) := Lib.hid (by
    have h := heap_alloc_new w (.cells #[.string ⟨#[49, 49, 49]⟩, .string ⟨#[49, 48, 49]⟩, .string ⟨#[49, 49, 49]⟩] 9)
    refine .inr ⟨w.heap.size, 0, rfl, block_lt h, fun j hj => ?_⟩
    generalize w.alloc (.cells #[.string ⟨#[49, 49, 49]⟩, .string ⟨#[49, 48, 49]⟩, .string ⟨#[49, 49, 49]⟩] 9) = w' at h ⊢
    generalize w.heap.size = H at h ⊢
    rcases (show j = 0 ∨ j = 1 ∨ j = 2 by simp [ringT] at hj; omega) with rfl | rfl | rfl <;> simp [World.cell?, h, ringT])
  go_enter Try.func38, Try.ntmps38
  go_wp2
  go_ret
  exact ⟨rfl, HS.out, (Below.refl _ _).alloc (Nat.le_refl _) _⟩

set_option maxRecDepth 100000 in
set_option maxHeartbeats 1600000 in
theorem skAwake_any (w : World) : Calls Try.prog 11 #[] w fun e w' => e = .returned (.bool true) ∧ Below w.heap.size w w' := by
  have HR := Lib.hid (ring_any w)
  have HP := Lib.hid (fun (w1 : World) (h : StrS w1 (some ⟨w.heap.size, 0, none⟩) ringT) => parts_yes (some ⟨w.heap.size, 0, none⟩) 3 ringT ringT_sk 1 (by omega) (by omega) w1 h)
  have hm := ringT_parts
  obtain ⟨L, hL⟩ : ∃ L, L = (partsTo (usB ringT 1) (wid ringT) ringT.length 0).1 := ⟨_, rfl⟩
  rw [← hL] at HP hm
  obtain ⟨p, rfl, hp⟩ : ∃ p, L = [p] ∧ (p.1, p.2.2.1) = (8, 1) := by
    match L, hm with
    | [p], hm => exact ⟨p, rfl, by simpa using hm⟩
  obtain ⟨p1, p2, p3, p4, p5, p6, p7⟩ := p
  obtain ⟨rfl, rfl⟩ : p1 = 8 ∧ p3 = 1 := by simpa using hp
  clear hm hL hp
  go_enter Try.func11, Try.ntmps11
  go_wp2_with fail
  refine HR.out.mono ?_
  rintro e w1 ⟨rfl, hs1, hb1⟩
  have HP1 := Lib.hid (HP.out w1 hs1)
  have HB1 := Lib.hid hb1
  clear hs1 hb1
  go_wp2_with fail
  refine HP1.out.mono ?_
  rintro e w2 ⟨v, B, rfl, hB, hown, hb2⟩
  obtain ⟨g, cap, rfl, hg1, hg2⟩ := hown.form (by simp)
  have e0 : w2.cell? ⟨g, 0, none⟩ = some (.int .i64 8) := by
    have := hown.cells (g := g) rfl 0 (.int .i64 8) (by simp [ptVals])
    simpa [Addr.add] using this
  have e2 : w2.cell? ⟨g, 2, none⟩ = some (.int .i64 1) := by
    have := hown.cells (g := g) rfl 2 (.int .i64 1) (by simp [ptVals])
    simpa [Addr.add] using this
  have HB2 := Lib.hid (HB1.out.trans (hb2.mono HB1.out.size))
  clear hB hown hb2
  go_wp2
  go_ret
  exact ⟨rfl, HB2.out⟩

end Go.Proofs.Ytndhnpljdldlpab

/- Skins: the ring, and that the parts of a ring are counted. -/
import Derived.Test.YtdhnifhehhbjeaaSkS
namespace Go.Proofs.Ytdhnifhehhbjeaa
open Go.RowKit

def ringT : List ByteArray := [⟨#[49, 49, 49]⟩, ⟨#[49, 48, 49]⟩, ⟨#[49, 49, 49]⟩]
theorem ringT_sk : skB ringT = true := by decide
theorem ringT_parts : (partsTo (usB ringT 1) (wid ringT) ringT.length 0).1.map (fun p => (p.1, p.2.2.1)) = [(8, 1)] := by
  have hw : wid ringT = 3 := by decide
  have hl : ringT.length = 3 := rfl
  rw [hw, hl]
  decide

set_option maxRecDepth 100000 in
theorem ring_any (w : World) : Calls Try.prog 55 #[] w fun e w' => e = .returned (.slice (some ⟨w.heap.size, 0, none⟩) ringT.length 3) ∧ StrS w' (some ⟨w.heap.size, 0, none⟩) ringT ∧ Below w.heap.size w w' := by
  have HS : Hid (StrS (w.alloc (.cells #[.string ⟨#[49, 49, 49]⟩, .string ⟨#[49, 48, 49]⟩, .string ⟨#[49, 49, 49]⟩] 9)) (some ⟨w.heap.size, 0, none⟩) ringT) := Lib.hid (by
    have h := heap_alloc_new w (.cells #[.string ⟨#[49, 49, 49]⟩, .string ⟨#[49, 48, 49]⟩, .string ⟨#[49, 49, 49]⟩] 9)
    refine .inr ⟨w.heap.size, 0, rfl, block_lt h, fun j hj => ?_⟩
    generalize w.alloc (.cells #[.string ⟨#[49, 49, 49]⟩, .string ⟨#[49, 48, 49]⟩, .string ⟨#[49, 49, 49]⟩] 9) = w' at h ⊢
    generalize w.heap.size = H at h ⊢
    rcases (show j = 0 ∨ j = 1 ∨ j = 2 by simp [ringT] at hj; omega) with rfl | rfl | rfl <;> simp [World.cell?, h, ringT])
  go_enter Try.func55, Try.ntmps55
  go_wp2
  go_ret
  exact ⟨rfl, HS.out, (Below.refl _ _).alloc (Nat.le_refl _) _⟩

end Go.Proofs.Ytdhnifhehhbjeaa

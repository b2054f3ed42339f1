/- The reference's Parse: every text. -/
import Derived.Test.YtmgbecfodinhhaaDoorTxJ
namespace Go.Proofs.YtmgbecfodinhhaaDoor
open Go.RowKit

theorem rparse (l : List UInt8) (hs : l.length ≤ 140737488355328) (w : World) (he : Env w) :
    Calls Tryd.prog 9 #[.string ⟨l.toArray⟩] w fun e w' => ∃ x y z, e = .returned (.tuple #[.agg #[.int .i64 x, .int .i64 y], .int .i64 z]) ∧ Hid (ParQ l x y z) ∧ Below w.heap.size w w' := by
  obtain ⟨⟨g, r⟩, hg⟩ : ∃ x, signS l = x := ⟨_, rfl⟩
  have hrl := sign_len hg
  obtain ⟨⟨a0, b0, f⟩, h32⟩ : ∃ x, Lib.cut r [32] = x := ⟨_, rfl⟩
  have hcl := cut_len r [32]
  rw [h32] at hcl
  simp only at hcl
  cases f
  · have ha : a0 = r := by have := cut_no (l := r) (s := [32]) (by rw [h32]); rw [h32] at this; exact this
    have hb : b0 = [] := by
      have h' := h32
      unfold Lib.cut at h'
      split at h'
      · simp at h'
      · simp only [Prod.mk.injEq] at h'; exact h'.2.1.symm
    cases hk : Lib.contains a0 [47]
    · obtain ⟨⟨a, b, k⟩, hc⟩ : ∃ x, Lib.cut ([48, 47, 49] : List UInt8) [47] = x := ⟨_, rfl⟩
      exact rparse_D l r a0 b0 a0 [48, 47, 49] a b g k (Lib.hid hg) (Lib.hid h32) (Lib.hid hk) hb (Lib.hid (by unfold splitR; rw [h32]; simp only [hk, Bool.false_eq_true, if_false])) ⟨rfl, rfl⟩ (Lib.hid hc) (Lib.hid ⟨by omega, by simp⟩) w he
    · obtain ⟨⟨a, b, k⟩, hc⟩ : ∃ x, Lib.cut a0 [47] = x := ⟨_, rfl⟩
      have hne : a0 ≠ [] := by
        intro h
        rw [h, contains_miss [] 47 (by simp)] at hk
        cases hk
      exact rparse_C l r a0 b0 [48] a0 a b g k (Lib.hid hg) (Lib.hid h32) (Lib.hid hk) (Lib.hid (by unfold splitR; rw [h32]; simp only [hk, Bool.false_eq_true, if_false, if_true])) ⟨rfl, rfl, hne⟩ (Lib.hid hc) (Lib.hid ⟨by omega, by omega⟩) w he
  · by_cases hb : b0 = []
    · obtain ⟨⟨a, b, k⟩, hc⟩ : ∃ x, Lib.cut ([48, 47, 49] : List UInt8) [47] = x := ⟨_, rfl⟩
      exact rparse_B l r a0 b0 a0 [48, 47, 49] a b g k (Lib.hid hg) (Lib.hid h32) (Lib.hid (by unfold splitR; rw [h32]; simp only [if_true, hb])) ⟨rfl, hb, rfl⟩ (Lib.hid hc) (Lib.hid ⟨by omega, by simp⟩) w he
    · obtain ⟨⟨a, b, k⟩, hc⟩ : ∃ x, Lib.cut b0 [47] = x := ⟨_, rfl⟩
      exact rparse_A l r a0 b0 a0 b0 a b g k (Lib.hid hg) (Lib.hid h32) (Lib.hid (by unfold splitR; rw [h32]; simp only [if_true, hb, if_false])) ⟨rfl, rfl, hb⟩ (Lib.hid hc) (Lib.hid ⟨by omega, by omega⟩) w he

end Go.Proofs.YtmgbecfodinhhaaDoor

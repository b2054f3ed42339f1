/- The program's Share. -/
import Derived.Test.YtpghhfobaionkaaSsK
import Derived.Test.YtpghhfobaionkaaSsL
import Derived.Test.YtpghhfobaionkaaBlend
namespace Go.Proofs.Ytpghhfobaionkaa
open Go.RowKit

/-- The error of Share; 0: none. -/
noncomputable def shrE (n : Int) (zs : List Int) : Int := if 64 < zs.length then 3 else if n < 0 ∨ 1000000000 < n ∨ wB zs 1000000000 = false then 2 else if zs.sum = 0 then 4 else 0

theorem shrE_ok {n : Int} {zs : List Int} (h : shrE n zs = 0) : zs.length ≤ 64 ∧ 0 ≤ n ∧ n ≤ 1000000000 ∧ wB zs 1000000000 = true ∧ zs.sum ≠ 0 := by
  unfold shrE at h
  split at h
  · omega
  · split at h
    · omega
    · rename_i h1 h2
      split at h
      · omega
      · rename_i h3
        simp only [not_or, Bool.not_eq_false] at h2
        exact ⟨by omega, by omega, by omega, h2.2.2, h3⟩

theorem sum_pos {zs : List Int} (hw : wB zs 1000000000 = true) (hl : zs.length ≤ 64) (h0 : zs.sum ≠ 0) : 0 < zs.sum ∧ zs.sum ≤ 64000000000 := by
  have h1 := sum_bd (zs := zs) (most := 1000000000) hw
  omega

set_option maxRecDepth 100000 in
set_option maxHeartbeats 3200000 in
theorem share_err (a : Option Addr) (cap : Nat) (zs : List Int) (n z : Int) (hz : shrE n zs = z) (h0 : z ≠ 0) (w : World) (h : IntS w a zs) :
    Calls Try.prog 9 #[.int .i64 n, .slice a zs.length cap] w fun e w' => e = .returned (.tuple #[.slice none 0 0, .int .i64 z]) ∧ w = w' := by
  by_cases h64 : 64 < zs.length
  · have hzz : z = 3 := by unfold shrE at hz; rw [if_pos h64] at hz; exact hz.symm
    subst hzz
    have hi : (64 : Int) < zs.length := by omega
    clear hz h64 h0 h
    go_enter Try.func9, Try.ntmps9
    go_wp2
    go_ret2
    exact ⟨rfl, rfl⟩
  · have hi : (zs.length : Int) ≤ 64 := by omega
    unfold shrE at hz
    rw [if_neg h64] at hz
    by_cases hn0 : n < 0
    · rw [if_pos (.inl hn0)] at hz
      subst hz
      clear h64 h0 h
      go_enter Try.func9, Try.ntmps9
      go_wp2
      go_ret2
      exact ⟨rfl, rfl⟩
    · by_cases hn1 : 1000000000 < n
      · rw [if_pos (.inr (.inl hn1))] at hz
        subst hz
        clear h64 h0 h
        go_enter Try.func9, Try.ntmps9
        go_wp2
        go_ret2
        exact ⟨rfl, rfl⟩
      · cases hw : wB zs 1000000000
        · rw [if_pos (.inr (.inr hw))] at hz
          subst hz
          have HW : Hid (Calls Try.prog 17 #[.slice a zs.length cap, .int .i64 1000000000] w fun e w'' => e = .returned (.bool false) ∧ w = w'') := Lib.hid (by rw [← hw]; exact areWeights_any a cap zs 1000000000 (by omega) w h)
          clear h64 h0 h hw
          go_enter Try.func9, Try.ntmps9
          go_wp2_with fail
          refine HW.out.mono ?_
          rintro e w1 ⟨rfl, rfl⟩
          go_wp2
          go_ret2
          exact ⟨rfl, rfl⟩
        · rw [if_neg (fun hh => hh.elim (fun h1 => hn0 h1) fun hh => hh.elim (fun h1 => hn1 h1) fun h1 => by rw [hw] at h1; cases h1)] at hz
          by_cases hs : zs.sum = 0
          · rw [if_pos hs] at hz
            subst hz
            have HW : Hid (Calls Try.prog 17 #[.slice a zs.length cap, .int .i64 1000000000] w fun e w'' => e = .returned (.bool true) ∧ w = w'') := Lib.hid (by rw [← hw]; exact areWeights_any a cap zs 1000000000 (by omega) w h)
            have HT : Hid (Calls Try.prog 18 #[.slice a zs.length cap] w fun e w'' => e = .returned (.int .i64 0) ∧ w = w'') := Lib.hid (by rw [← hs]; exact total_any a cap zs 1000000000 (by omega) (by decide) (by omega) hw w h)
            clear h64 h0 h hw hs
            go_enter Try.func9, Try.ntmps9
            go_wp2_with fail
            refine HW.out.mono ?_
            rintro e w1 ⟨rfl, rfl⟩
            go_wp2_with fail
            refine HT.out.mono ?_
            rintro e w1 ⟨rfl, rfl⟩
            go_wp2
            go_ret2
            exact ⟨rfl, rfl⟩
          · rw [if_neg hs] at hz
            exact absurd hz.symm h0

/-- How Share ends without an error. -/
def ShrP (n : Int) (zs : List Int) (w : World) (e : Ending) (w' : World) : Prop :=
  ∃ (g L : Nat) (f : Nat → Int), e = .returned (.tuple #[.slice (some ⟨g, 0, none⟩) zs.length zs.length, .int .i64 0]) ∧ Hid (Enum (keyOf n zs.sum zs) zs.length f ∧ lft n zs.sum zs = L ∧ L ≤ zs.length) ∧ Hid (w.heap.size ≤ g ∧ w'.heap[g]? = some (.cells (arrC zs.length (shr n zs.sum zs f L)) 3 (0, 0))) ∧ Below w.heap.size w w'

end Go.Proofs.Ytpghhfobaionkaa

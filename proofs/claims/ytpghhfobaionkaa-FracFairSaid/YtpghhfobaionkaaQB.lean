/- The reference's Int, Minus, Sign. -/
import Derived.Test.YtpghhfobaionkaaQA
namespace Go.Proofs.Ytpghhfobaionkaa
open Go.RowKit

set_option maxRecDepth 100000 in
set_option maxHeartbeats 800000 in
theorem int_any (n : Int) (h1 : -9223372036854775808 ≤ n) (h2 : n ≤ 9223372036854775807) (w : World) :
    Calls Try.prog 41 #[.int .i64 n] w fun e w' => ∃ z, e = .returned z ∧ IsQ w' z (n : Rat) ∧ Below w.heap.size w w' := by
  have HB0 : Hid (Below w.heap.size w (w.alloc (.cells #[.bool false, .slice none 0 0, .slice none 0 0] 52))) := Lib.hid ((Below.refl _ _).alloc (Nat.le_refl _) _)
  have HNA : Hid (n.natAbs < 18446744073709551616) := Lib.hid (by omega)
  by_cases hneg : n < 0
  · go_enter Try.func41, Try.ntmps41
    go_wp2_with fail
    refine (natural_any (-(n + 1) + 1) (by omega) (by omega) _).mono ?_
    rintro e w1 ⟨v1, rfl, hz1, hown1, hb1⟩
    have HZ1 := Lib.hid (And.intro hz1 hb1)
    clear hz1 hown1 hb1
    go_wp2_with fail
    refine (calls_q (made_any true v1 _ n.natAbs 1 (by decide) _ (by have h := HZ1.out.1; rw [show (-(n + 1) + 1).toNat = n.natAbs by omega] at h; exact h.below ((Below.refl _ _).alloc (Nat.le_refl _) _)) (one_nat w1) (by have := digs_len2 HNA.out; omega) (by have := digs_len2 (n := 1) (by decide); omega))).mono ?_
    rintro e w3 ⟨b, u1, k1, f1, u2, k2, f2, rfl, hq3, hb3⟩
    have hb4 : Below (w.heap.size + 1) (w.alloc (.cells #[.bool false, .slice none 0 0, .slice none 0 0] 52)) w3 := by
      have h1 := HZ1.out.2
      simp only [World.size_alloc] at h1 hb3
      have s1 := h1.size
      simp only [World.size_alloc] at s1
      exact h1.trans (((Below.refl w1.heap.size w1).alloc (Nat.le_refl _) _ |>.trans (hb3.mono (by omega))).mono s1)
    obtain ⟨hc0, hc1, hc2, hf0, hf1, hf2, hsz⟩ := blk3 hb4
    have HB4 := Lib.hid hb4
    have HQ3 := Lib.hid hq3
    clear hb3 hb4 hq3
    go_wp2
    refine bodyPost_ret (v := .agg #[.bool b, .slice u1 k1 f1, .slice u2 k2 f2]) (by simp [results, Try.results41, go_sem, hc0, hc1, hc2]) rfl ⟨_, rfl, ?_, ?_⟩
    · rw [← mkQ_int n true (by simp; omega)]
      exact HQ3.out.store (fun n h => by rw [hc0] at h; cases h)
    · exact ((((HB0.out.trans (HB4.out.mono (by omega))).setCell (Nat.le_refl _) _).setCell (Nat.le_refl _) _).setCell (Nat.le_refl _) _)
  · go_enter Try.func41, Try.ntmps41
    go_wp2_with fail
    refine (natural_any n (by omega) (by omega) _).mono ?_
    rintro e w1 ⟨v1, rfl, hz1, hown1, hb1⟩
    have HZ1 := Lib.hid (And.intro hz1 hb1)
    clear hz1 hown1 hb1
    go_wp2_with fail
    refine (calls_q (made_any false v1 _ n.natAbs 1 (by decide) _ (by have h := HZ1.out.1; rw [show n.toNat = n.natAbs by omega] at h; exact h.below ((Below.refl _ _).alloc (Nat.le_refl _) _)) (one_nat w1) (by have := digs_len2 HNA.out; omega) (by have := digs_len2 (n := 1) (by decide); omega))).mono ?_
    rintro e w3 ⟨b, u1, k1, f1, u2, k2, f2, rfl, hq3, hb3⟩
    have hb4 : Below (w.heap.size + 1) (w.alloc (.cells #[.bool false, .slice none 0 0, .slice none 0 0] 52)) w3 := by
      have h1 := HZ1.out.2
      simp only [World.size_alloc] at h1 hb3
      have s1 := h1.size
      simp only [World.size_alloc] at s1
      exact h1.trans (((Below.refl w1.heap.size w1).alloc (Nat.le_refl _) _ |>.trans (hb3.mono (by omega))).mono s1)
    obtain ⟨hc0, hc1, hc2, hf0, hf1, hf2, hsz⟩ := blk3 hb4
    have HB4 := Lib.hid hb4
    have HQ3 := Lib.hid hq3
    clear hb3 hb4 hq3
    go_wp2
    refine bodyPost_ret (v := .agg #[.bool b, .slice u1 k1 f1, .slice u2 k2 f2]) (by simp [results, Try.results41, go_sem, hc0, hc1, hc2]) rfl ⟨_, rfl, ?_, ?_⟩
    · rw [← mkQ_int n false (by simp; omega)]
      exact HQ3.out.store (fun n h => by rw [hc0] at h; cases h)
    · exact ((((HB0.out.trans (HB4.out.mono (by omega))).setCell (Nat.le_refl _) _).setCell (Nat.le_refl _) _).setCell (Nat.le_refl _) _)

theorem Below2 (w : World) (a b : Obj) : Below w.heap.size w ((w.alloc a).alloc b) := ((Below.refl _ _).alloc (Nat.le_refl _) _).alloc (by simp) _

def sgnQ (q : Rat) : Int := if q < 0 then -1 else if 0 < q then 1 else 0

end Go.Proofs.Ytpghhfobaionkaa

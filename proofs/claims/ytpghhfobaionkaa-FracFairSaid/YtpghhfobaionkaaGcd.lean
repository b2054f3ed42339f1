/- Small integer functions of package frac and of the reference: contracts. -/
import Derived.Test.YtpghhfobaionkaaQG
namespace Go.Proofs.Ytpghhfobaionkaa
open Go.RowKit

theorem size_any (n : Int) (h1 : -9223372036854775808 ≤ n) (h2 : n ≤ 9223372036854775807) (w : World) :
    Calls Try.prog 31 #[.int .i64 n] w fun e w' => e = .returned (.int .u64 n.natAbs) ∧ w = w' := by
  by_cases h0 : n < 0
  · go_enter Try.func31, Try.ntmps31
    go_wp2
    go_ret
    refine ⟨ret_int ?_, rfl⟩
    rw [IntKind.wrap_u64, IntKind.wrap_u64]
    omega
  · go_enter Try.func31, Try.ntmps31
    go_wp2
    go_ret
    exact ⟨ret_int (by omega), rfl⟩

theorem size_same (n : Int) (h1 : -9223372036854775808 ≤ n) (h2 : n ≤ 9223372036854775807) (w : World) :
    Calls Try.prog 31 #[.int .i64 n] w fun e w' => e = .returned (.int .u64 n.natAbs) ∧ w' = w := (size_any n h1 h2 w).mono fun _ _ h => ⟨h.1, h.2.symm⟩

theorem gcd_any (a b : Nat) (ha : (a : Int) ≤ 18446744073709551615) (hb : (b : Int) ≤ 18446744073709551615) (w : World) :
    Calls Try.prog 30 #[.int .u64 a, .int .u64 b] w fun e w' => e = .returned (.int .u64 (Nat.gcd a b)) ∧ ∃ m, w' = w.drewN m := by
  go_enter Try.func30, Try.ntmps30
  go_wp2
  go_loopw [0, 1] (fun x y wr => ∃ p q : Nat, (p : Int) ≤ 18446744073709551615 ∧ (q : Int) ≤ 18446744073709551615 ∧ x = .int .u64 p ∧ y = .int .u64 q ∧ Nat.gcd p q = Nat.gcd a b ∧ ∃ m, wr = w.drewN m) (fun _ y _ => (intOf y).toNat)
  case atStart => exact ⟨a, b, ha, hb, rfl, rfl, rfl, 0, rfl⟩
  case round =>
    obtain ⟨p, q, hp, hq, rfl, rfl, hg, m, rfl⟩ := hrel
    have HG := Lib.hid hg
    clear hg
    by_cases h0 : q = 0
    · have hz : ((q : Int) != 0) = false := by subst h0; rfl
      go_wp2
      go_ret
      exact ⟨ret_int (by have := HG.out; subst h0; simpa using congrArg Int.ofNat this), m, rfl⟩
    · have hz : ((q : Int) != 0) = true := by simp; omega
      have hz2 : ((q : Int) == 0) = false := by simp; omega
      go_wp2
      go_quiet (fail)
      go_wp2
      go_roundw
      case rel =>
        have hmod : p % q < q := Nat.mod_lt _ (by omega)
        exact ⟨q, p % q, hq, by omega, rfl, by rw [Int.natCast_emod], (by rw [Nat.gcd_comm q (p % q), ← Nat.gcd_rec, Nat.gcd_comm]; exact HG.out), _, by rw [World.drewN_drewN]⟩
      case measure =>
        have hmod : p % q < q := Nat.mod_lt _ (by omega)
        show ((p : Int) % (q : Int)).toNat < _
        have e : ((p : Int) % (q : Int)).toNat = p % q := by rw [← Int.natCast_emod]; rfl
        rw [e]
        simpa [intOf] using hmod

theorem vf_gcd {n d : Int} (h1 : 1 ≤ d) (h2 : d ≤ 1000000000) (h3 : -1000000000 ≤ n) (h4 : n ≤ 1000000000) : (((Nat.gcd n.natAbs d.natAbs : Nat) : Int) == 1) = vfB n d := by
  by_cases hv : VF n d
  · rw [(vfB_iff n d).2 hv, hv.g]; rfl
  · have e : vfB n d = false := by
      cases hb : vfB n d
      · rfl
      · exact absurd ((vfB_iff n d).1 hb) hv
    rw [e]
    have : Nat.gcd n.natAbs d.natAbs ≠ 1 := fun h => hv ⟨h1, h2, h3, h4, h⟩
    simp; omega

set_option maxRecDepth 100000 in
set_option maxHeartbeats 1600000 in
theorem valid_in (n d : Int) (h1 : 1 ≤ d) (h2 : d ≤ 1000000000) (h3 : -1000000000 ≤ n) (h4 : n ≤ 1000000000) (w : World) :
    Calls Try.prog 20 #[.agg #[.int .i64 n, .int .i64 d]] w fun e w' => e = .returned (.bool (vfB n d)) ∧ Below w.heap.size w w' := by
  have HV := Lib.hid (vf_gcd h1 h2 h3 h4)
  obtain ⟨b, hb⟩ : ∃ b, b = vfB n d := ⟨_, rfl⟩
  rw [← hb]
  have HBB := Lib.hid hb
  clear hb
  go_enter Try.func20, Try.ntmps20
  go_wp2_with fail
  go_quiet (first
    | (go_at_call 31; exact Calls.quiet_of_same (size_same _ (by omega) (by omega) _))
    | (go_at_call 30; exact Calls.quiet_of (gcd_any n.natAbs d.natAbs (by omega) (by omega) _)))
  go_wp2
  go_ret
  exact ⟨by rw [HBB.out, ← HV.out]; rfl, below_drewN ((Below.refl _ _).alloc (Nat.le_refl _) _) _⟩

set_option maxRecDepth 100000 in
set_option maxHeartbeats 1600000 in
theorem valid_out (n d : Int) (h : d < 1 ∨ (1 ≤ d ∧ 1000000000 < d) ∨ (1 ≤ d ∧ d ≤ 1000000000 ∧ n < -1000000000) ∨ (1 ≤ d ∧ d ≤ 1000000000 ∧ -1000000000 ≤ n ∧ 1000000000 < n)) (w : World) :
    Calls Try.prog 20 #[.agg #[.int .i64 n, .int .i64 d]] w fun e w' => e = .returned (.bool false) ∧ Below w.heap.size w w' := by
  rcases h with h | ⟨h1, h⟩ | ⟨h1, h2, h⟩ | ⟨h1, h2, h3, h⟩
  all_goals
    go_enter Try.func20, Try.ntmps20
    go_wp2
    go_ret
    exact ⟨rfl, (Below.refl _ _).alloc (Nat.le_refl _) _⟩

theorem valid_any (n d : Int) (w : World) :
    Calls Try.prog 20 #[.agg #[.int .i64 n, .int .i64 d]] w fun e w' => e = .returned (.bool (vfB n d)) ∧ Below w.heap.size w w' := by
  by_cases h : 1 ≤ d ∧ d ≤ 1000000000 ∧ -1000000000 ≤ n ∧ n ≤ 1000000000
  · exact valid_in n d h.1 h.2.1 h.2.2.1 h.2.2.2 w
  · have e : vfB n d = false := by
      cases hb : vfB n d
      · rfl
      · have hv := (vfB_iff n d).1 hb; exact absurd ⟨hv.d1, hv.d2, hv.n1, hv.n2⟩ h
    rw [e]
    exact valid_out n d (vf_range h) w

end Go.Proofs.Ytpghhfobaionkaa

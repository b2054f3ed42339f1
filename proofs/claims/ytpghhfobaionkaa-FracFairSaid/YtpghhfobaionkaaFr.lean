/- The program's (ratio).frac. -/
import Derived.Test.YtpghhfobaionkaaGcd
namespace Go.Proofs.Ytpghhfobaionkaa
open Go.RowKit

theorem qof_mk {n d : Int} : qof n d = mkQ (decide (n < 0) != decide (d < 0)) n.natAbs d.natAbs := by
  unfold qof mkQ
  have e : (n : Rat) / (d : Rat) = Rat.divInt n d := (Rat.divInt_eq_div n d).symm
  rw [e, ← Rat.divInt_ofNat]
  by_cases hn : n < 0 <;> by_cases hd : d < 0
  · rw [decide_eq_true hn, decide_eq_true hd, if_neg (by decide), ← Rat.neg_divInt_neg]; congr 1 <;> omega
  · rw [decide_eq_true hn, decide_eq_false hd, if_pos (by decide)]; congr 1 <;> omega
  · rw [decide_eq_false hn, decide_eq_true hd, if_pos (by decide), ← Rat.neg_divInt_neg]; congr 1 <;> omega
  · rw [decide_eq_false hn, decide_eq_false hd, if_neg (by decide)]; congr 1 <;> omega

theorem qof_parts {n d : Int} (hd : d ≠ 0) : (qof n d).num.natAbs = n.natAbs / Nat.gcd n.natAbs d.natAbs ∧ (qof n d).den = d.natAbs / Nat.gcd n.natAbs d.natAbs := by
  rw [qof_mk]; exact mkQ_natAbs _ _ _ (by omega)

theorem qof_sign {n d : Int} (hd : d ≠ 0) : (qof n d).num = if (decide (n < 0) != decide (d < 0)) = true then -((qof n d).num.natAbs : Int) else ((qof n d).num.natAbs : Int) := by
  by_cases h0 : n = 0
  · subst h0
    have e : qof 0 d = 0 := by unfold qof; simp [Rat.div_def, Rat.zero_mul]
    rw [e]; simp
  · have h := mkQ_neg (decide (n < 0) != decide (d < 0)) n.natAbs d.natAbs (by omega) (by omega)
    rw [← qof_mk] at h
    exact (natAbs_of_neg h).symm

theorem size_var (n x : Int) (hx : x = (n.natAbs : Int)) (h1 : -9223372036854775808 ≤ n) (h2 : n ≤ 9223372036854775807) (w : World) :
    Calls Try.prog 31 #[.int .i64 n] w fun e w' => e = .returned (.int .u64 x) ∧ w' = w := by
  rw [hx]; exact size_same n h1 h2 w

theorem gcd_var (a b : Nat) (x y g : Int) (hx : x = (a : Int)) (hy : y = (b : Int)) (hg : g = (Nat.gcd a b : Int)) (ha : x ≤ 18446744073709551615) (hb : y ≤ 18446744073709551615) (w : World) :
    Calls Try.prog 30 #[.int .u64 x, .int .u64 y] w fun e w' => e = .returned (.int .u64 g) ∧ ∃ m, w' = w.drewN m := by
  subst hx hy hg; exact gcd_any a b ha hb w

set_option maxRecDepth 100000 in
set_option maxHeartbeats 3200000 in
theorem rfrac_yes (n d : Int) (h1 : -9223372036854775808 ≤ n) (h2 : n ≤ 9223372036854775807) (h3 : -9223372036854775808 ≤ d) (h4 : d ≤ 9223372036854775807) (h0 : d ≠ 0) (hr : Rep (qof n d)) (w : World) :
    Calls Try.prog 33 #[.agg #[.int .i64 n, .int .i64 d]] w fun e w' => e = .returned (.tuple #[.agg #[.int .i64 (qof n d).num, .int .i64 (qof n d).den], .int .i64 0]) ∧ Below w.heap.size w w' := by
  obtain ⟨x, hx⟩ : ∃ x : Int, x = (n.natAbs : Int) := ⟨_, rfl⟩
  obtain ⟨y, hy⟩ : ∃ x : Int, x = (d.natAbs : Int) := ⟨_, rfl⟩
  obtain ⟨g, hg⟩ : ∃ x : Int, x = (Nat.gcd n.natAbs d.natAbs : Int) := ⟨_, rfl⟩
  have hp := qof_parts (n := n) h0
  have hgp : 0 < Nat.gcd n.natAbs d.natAbs := Nat.gcd_pos_of_pos_right _ (by omega)
  have hxg : x / g = ((qof n d).num.natAbs : Int) := by rw [hp.1, hx, hg, ← Int.natCast_ediv]
  have hyg : y / g = ((qof n d).den : Int) := by rw [hp.2, hy, hg, ← Int.natCast_ediv]
  have hsg := qof_sign (n := n) h0
  rw [← hxg] at hsg
  rw [← hyg, hsg]
  have hb1 : x / g ≤ 1000000000 := by have := hr.n; omega
  have hb2 : y / g ≤ 1000000000 := by have := hr.d; omega
  have hb3 : 0 ≤ x / g := by omega
  have hb4 : 0 ≤ y / g := by omega
  have hx0 : 0 ≤ x := by omega
  have hx1 : x ≤ 9223372036854775808 := by omega
  have hy0 : 0 ≤ y := by omega
  have hy1 : y ≤ 9223372036854775808 := by omega
  have hg0 : 1 ≤ g := by omega
  have hgz : (g == 0) = false := by simp; omega
  have HXY := Lib.hid (And.intro hx (And.intro hy hg))
  have HH := Lib.hid (And.intro h1 (And.intro h2 (And.intro h3 h4)))
  clear hx hy hg hp hgp hxg hyg hsg hr h1 h2 h3 h4 h0
  by_cases hn : n < 0 <;> by_cases hd : d < 0
  · rw [decide_eq_true hn, decide_eq_true hd, if_neg (by decide)]
    have hnb := decide_eq_true hn
    have hdb := decide_eq_true hd
    go_enter Try.func33, Try.ntmps33
    go_wp2_with fail
    go_quiet (first
      | (go_at_call 31; with_reducible exact Calls.quiet_of_same (size_var n x HXY.out.1 HH.out.1 HH.out.2.1 _))
      | (go_at_call 31; with_reducible exact Calls.quiet_of_same (size_var d y HXY.out.2.1 HH.out.2.2.1 HH.out.2.2.2 _)))
    go_wp2_with fail
    refine (gcd_var n.natAbs d.natAbs x y g HXY.out.1 HXY.out.2.1 HXY.out.2.2 (by omega) (by omega) _).mono ?_
    rintro e w1 ⟨rfl, m, rfl⟩
    go_wp2
    go_quiet (fail)
    go_wp2
    refine bodyPost_ret (v := .tuple #[.agg #[.int .i64 (x / g), .int .i64 (y / g)], .int .i64 0]) (by simp [results, Try.results33, go_sem]) rfl ⟨rfl, ?_⟩
    repeat (first | exact Below.refl _ _ | refine below_drewN ?_ _ | refine Below.setCell ?_ (by simp) _ | refine Below.alloc ?_ (by simp [World.setCell]; try omega) _)
  · rw [decide_eq_true hn, decide_eq_false hd, if_pos (by decide)]
    have hnb := decide_eq_true hn
    have hdb := decide_eq_false hd
    go_enter Try.func33, Try.ntmps33
    go_wp2_with fail
    go_quiet (first
      | (go_at_call 31; with_reducible exact Calls.quiet_of_same (size_var n x HXY.out.1 HH.out.1 HH.out.2.1 _))
      | (go_at_call 31; with_reducible exact Calls.quiet_of_same (size_var d y HXY.out.2.1 HH.out.2.2.1 HH.out.2.2.2 _)))
    go_wp2_with fail
    refine (gcd_var n.natAbs d.natAbs x y g HXY.out.1 HXY.out.2.1 HXY.out.2.2 (by omega) (by omega) _).mono ?_
    rintro e w1 ⟨rfl, m, rfl⟩
    go_wp2
    go_quiet (fail)
    go_wp2
    refine bodyPost_ret (v := .tuple #[.agg #[.int .i64 (-(x / g)), .int .i64 (y / g)], .int .i64 0]) (by simp [results, Try.results33, go_sem]) rfl ⟨rfl, ?_⟩
    repeat (first | exact Below.refl _ _ | refine below_drewN ?_ _ | refine Below.setCell ?_ (by simp) _ | refine Below.alloc ?_ (by simp [World.setCell]; try omega) _)
  · rw [decide_eq_false hn, decide_eq_true hd, if_pos (by decide)]
    have hnb := decide_eq_false hn
    have hdb := decide_eq_true hd
    go_enter Try.func33, Try.ntmps33
    go_wp2_with fail
    go_quiet (first
      | (go_at_call 31; with_reducible exact Calls.quiet_of_same (size_var n x HXY.out.1 HH.out.1 HH.out.2.1 _))
      | (go_at_call 31; with_reducible exact Calls.quiet_of_same (size_var d y HXY.out.2.1 HH.out.2.2.1 HH.out.2.2.2 _)))
    go_wp2_with fail
    refine (gcd_var n.natAbs d.natAbs x y g HXY.out.1 HXY.out.2.1 HXY.out.2.2 (by omega) (by omega) _).mono ?_
    rintro e w1 ⟨rfl, m, rfl⟩
    go_wp2
    go_quiet (fail)
    go_wp2
    refine bodyPost_ret (v := .tuple #[.agg #[.int .i64 (-(x / g)), .int .i64 (y / g)], .int .i64 0]) (by simp [results, Try.results33, go_sem]) rfl ⟨rfl, ?_⟩
    repeat (first | exact Below.refl _ _ | refine below_drewN ?_ _ | refine Below.setCell ?_ (by simp) _ | refine Below.alloc ?_ (by simp [World.setCell]; try omega) _)
  · rw [decide_eq_false hn, decide_eq_false hd, if_neg (by decide)]
    have hnb := decide_eq_false hn
    have hdb := decide_eq_false hd
    go_enter Try.func33, Try.ntmps33
    go_wp2_with fail
    go_quiet (first
      | (go_at_call 31; with_reducible exact Calls.quiet_of_same (size_var n x HXY.out.1 HH.out.1 HH.out.2.1 _))
      | (go_at_call 31; with_reducible exact Calls.quiet_of_same (size_var d y HXY.out.2.1 HH.out.2.2.1 HH.out.2.2.2 _)))
    go_wp2_with fail
    refine (gcd_var n.natAbs d.natAbs x y g HXY.out.1 HXY.out.2.1 HXY.out.2.2 (by omega) (by omega) _).mono ?_
    rintro e w1 ⟨rfl, m, rfl⟩
    go_wp2
    go_quiet (fail)
    go_wp2
    refine bodyPost_ret (v := .tuple #[.agg #[.int .i64 (x / g), .int .i64 (y / g)], .int .i64 0]) (by simp [results, Try.results33, go_sem]) rfl ⟨rfl, ?_⟩
    repeat (first | exact Below.refl _ _ | refine below_drewN ?_ _ | refine Below.setCell ?_ (by simp) _ | refine Below.alloc ?_ (by simp [World.setCell]; try omega) _)

set_option maxRecDepth 100000 in
set_option maxHeartbeats 3200000 in
theorem rfrac_no (n d : Int) (h1 : -9223372036854775808 ≤ n) (h2 : n ≤ 9223372036854775807) (h3 : -9223372036854775808 ≤ d) (h4 : d ≤ 9223372036854775807) (h0 : d ≠ 0) (hr : ¬ Rep (qof n d)) (w : World) :
    Calls Try.prog 33 #[.agg #[.int .i64 n, .int .i64 d]] w fun e w' => e = .returned (.tuple #[.agg #[.int .i64 0, .int .i64 0], .int .i64 5]) ∧ Below w.heap.size w w' := by
  obtain ⟨x, hx⟩ : ∃ x : Int, x = (n.natAbs : Int) := ⟨_, rfl⟩
  obtain ⟨y, hy⟩ : ∃ x : Int, x = (d.natAbs : Int) := ⟨_, rfl⟩
  obtain ⟨g, hg⟩ : ∃ x : Int, x = (Nat.gcd n.natAbs d.natAbs : Int) := ⟨_, rfl⟩
  have hp := qof_parts (n := n) h0
  have hgp : 0 < Nat.gcd n.natAbs d.natAbs := Nat.gcd_pos_of_pos_right _ (by omega)
  have hxg : x / g = ((qof n d).num.natAbs : Int) := by rw [hp.1, hx, hg, ← Int.natCast_ediv]
  have hyg : y / g = ((qof n d).den : Int) := by rw [hp.2, hy, hg, ← Int.natCast_ediv]
  have hx0 : 0 ≤ x := by omega
  have hx1 : x ≤ 9223372036854775808 := by omega
  have hy0 : 0 ≤ y := by omega
  have hy1 : y ≤ 9223372036854775808 := by omega
  have hg0 : 1 ≤ g := by omega
  have hgz : (g == 0) = false := by simp; omega
  have hb3 : 0 ≤ x / g := by omega
  have hb4 : 0 ≤ y / g := by omega
  have hb5 : x / g ≤ 9223372036854775808 := by have := Int.ediv_le_self (a := x) g hx0; omega
  have hb6 : y / g ≤ 9223372036854775808 := by have := Int.ediv_le_self (a := y) g hy0; omega
  have hno : 1000000000 < x / g ∨ (x / g ≤ 1000000000 ∧ 1000000000 < y / g) := by
    have : ¬ ((qof n d).num.natAbs ≤ 1000000000 ∧ (qof n d).den ≤ 1000000000) := fun h => hr ⟨h.1, h.2⟩
    omega
  have HXY := Lib.hid (And.intro hx (And.intro hy hg))
  have HH := Lib.hid (And.intro h1 (And.intro h2 (And.intro h3 h4)))
  clear hx hy hg hp hgp hxg hyg hr h1 h2 h3 h4 h0
  rcases hno with hb1 | ⟨hb1, hb2⟩
  all_goals
    go_enter Try.func33, Try.ntmps33
    go_wp2_with fail
    go_quiet (first
      | (go_at_call 31; with_reducible exact Calls.quiet_of_same (size_var n x HXY.out.1 HH.out.1 HH.out.2.1 _))
      | (go_at_call 31; with_reducible exact Calls.quiet_of_same (size_var d y HXY.out.2.1 HH.out.2.2.1 HH.out.2.2.2 _)))
    go_wp2_with fail
    refine (gcd_var n.natAbs d.natAbs x y g HXY.out.1 HXY.out.2.1 HXY.out.2.2 (by omega) (by omega) _).mono ?_
    rintro e w1 ⟨rfl, m, rfl⟩
    go_wp2
    go_quiet (fail)
    go_wp2
    refine bodyPost_ret (v := .tuple #[.agg #[.int .i64 0, .int .i64 0], .int .i64 5]) (by simp [results, Try.results33, go_sem]) rfl ⟨rfl, ?_⟩
    repeat (first | exact Below.refl _ _ | refine below_drewN ?_ _ | refine Below.setCell ?_ (by simp) _ | refine Below.alloc ?_ (by simp; try omega) _)

end Go.Proofs.Ytpghhfobaionkaa

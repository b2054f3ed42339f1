/- The reference's small, Frac, answer. -/
import Derived.Test.YtpghhfobaionkaaQE
namespace Go.Proofs.Ytpghhfobaionkaa
open Go.RowKit

theorem digs_gt2 {n : Nat} (h : 2 < (digs n).length) : 18446744073709551615 < n := by
  have e : Bse ^ 2 = 18446744073709551616 := by decide
  rcases Nat.lt_or_ge n (Bse ^ 2) with h1 | h1
  · have := digs_length_le_iff.2 h1; omega
  · omega

set_option maxRecDepth 100000 in
theorem small_yes (v : Value) (n : Nat) (hn : n ≤ 1000000000) (w : World) (h : IsNat w v n) :
    Calls Try.prog 44 #[v] w fun e w' => e = .returned (.tuple #[.int .i64 (n : Int), .bool true]) ∧ w = w' := by
  obtain ⟨a, cap, rfl⟩ := IsDig.len h
  have hl := digs_len2 (n := n) (by omega)
  have HH := Lib.hid h
  have HN : Hid (n < 18446744073709551616) := Lib.hid (by omega)
  obtain ⟨z, hz⟩ : ∃ z : Int, z = (n : Int) := ⟨_, rfl⟩
  have hz0 : 0 ≤ z := by omega
  have hz1 : z ≤ 1000000000 := by omega
  have HZ := Lib.hid hz
  clear h hn hz
  revert HH hl
  generalize (digs n).length = k
  intro hl HH
  have hl2 : (k : Int) ≤ 2 := by omega
  clear hl
  go_enter Try.func44, Try.ntmps44
  go_wp2_with fail
  refine (short_any _ n HN.out w HH.out).mono ?_
  rintro e w' ⟨rfl, rfl⟩
  rw [← HZ.out]
  go_wp2
  go_ret2
  exact ⟨by rw [← HZ.out]; rfl, rfl⟩

/-- A number that is too great for a fraction's part: whatever 'small' says, it is refused. -/
def SmallNo (w : World) (e : Ending) (w' : World) : Prop := ∃ (x : Int) (b : Bool), e = .returned (.tuple #[.int .i64 x, .bool b]) ∧ (b = true → 1000000000 < x ∧ x ≤ 9223372036854775807) ∧ w = w'

set_option maxRecDepth 100000 in
theorem small_no (v : Value) (n : Nat) (hn : 1000000000 < n) (w : World) (h : IsNat w v n) :
    Calls Try.prog 44 #[v] w (SmallNo w) := by
  obtain ⟨a, cap, rfl⟩ := IsDig.len h
  have HH := Lib.hid h
  have HGT := Lib.hid (digs_gt2 (n := n))
  have HL2 : Hid ((digs n).length ≤ 2 → n < 18446744073709551616) := Lib.hid (fun h => by have := digs_length_le_iff.1 h; exact Nat.lt_of_lt_of_eq this (by decide))
  clear h
  revert HH HGT HL2
  generalize (digs n).length = k
  intro HH HGT HL2
  by_cases hk : 2 < k
  · have hk2 : (2 : Int) < (k : Int) := by omega
    clear hk hn
    go_enter Try.func44, Try.ntmps44
    go_wp2
    go_ret2
    exact ⟨0, false, rfl, by simp, rfl⟩
  · have hk2 : (k : Int) ≤ 2 := by omega
    have hn64 := HL2.out (by omega)
    obtain ⟨z, hz⟩ : ∃ z : Int, z = (n : Int) := ⟨_, rfl⟩
    have hz0 : 1000000000 < z := by omega
    have HN := Lib.hid hn64
    have HZ := Lib.hid hz
    have hz1 : z ≤ 18446744073709551615 := by omega
    clear hk hn hn64 hz
    by_cases hb : 4611686018427387904 < z
    · go_enter Try.func44, Try.ntmps44
      go_wp2_with fail
      refine (short_any _ n HN.out w HH.out).mono ?_
      rintro e w' ⟨rfl, rfl⟩
      rw [← HZ.out]
      go_wp2
      go_ret2
      exact ⟨0, false, rfl, by simp, rfl⟩
    · go_enter Try.func44, Try.ntmps44
      go_wp2_with fail
      refine (short_any _ n HN.out w HH.out).mono ?_
      rintro e w' ⟨rfl, rfl⟩
      rw [← HZ.out]
      go_wp2
      go_ret2
      exact ⟨z, true, rfl, fun _ => ⟨hz0, by omega⟩, rfl⟩

/-- A rational number that a fraction can hold. -/
structure Rep (q : Rat) : Prop where
  n : q.num.natAbs ≤ 1000000000
  d : q.den ≤ 1000000000

set_option maxRecDepth 100000 in
set_option maxHeartbeats 1600000 in
theorem frac_yes (x : Value) (q : Rat) (w : World) (h : IsQ w x q) (hr : Rep q) :
    Calls Try.prog 34 #[x] w fun e w' => e = .returned (.tuple #[.agg #[.int .i64 q.num, .int .i64 q.den], .bool true]) ∧ Below w.heap.size w w' := by
  obtain ⟨a1, a2, n1, n2, c1, c2, rfl, hx1, hx2⟩ := h
  generalize hpn : decide (q < 0) = pn
  have HN := Lib.hid hpn
  have HX := Lib.hid (And.intro hx1 hx2)
  have HR := Lib.hid hr
  obtain ⟨z1, hz1⟩ : ∃ z : Int, z = (q.num.natAbs : Int) := ⟨_, rfl⟩
  obtain ⟨z2, hz2⟩ : ∃ z : Int, z = (q.den : Int) := ⟨_, rfl⟩
  have hb1 : z1 ≤ 1000000000 := by have := hr.n; omega
  have hb2 : z2 ≤ 1000000000 := by have := hr.d; omega
  have hb3 : 0 ≤ z1 := by omega
  have hb4 : 0 ≤ z2 := by omega
  have HZ := Lib.hid (And.intro hz1 hz2)
  have HS0 := Lib.hid (Below2 w (.cells #[.bool pn, .slice a1 n1 c1, .slice a2 n2 c2] 52) (.cells #[.int .i64 0, .int .i64 0] 24))
  have HNUM : Hid ((if pn then -z1 else z1) = q.num) := Lib.hid (by rw [hz1]; exact natAbs_of_neg hpn)
  clear hx1 hx2 hpn hr hz1 hz2
  cases pn
  all_goals
    go_enter Try.func34, Try.ntmps34
    go_wp2_with fail
    refine (small_yes _ q.num.natAbs HR.out.n _ (HX.out.1.below HS0.out)).mono ?_
    rintro e w' ⟨rfl, rfl⟩
    rw [← HZ.out.1]
    go_wp2_with fail
    refine (small_yes _ q.den HR.out.d _ (HX.out.2.below HS0.out)).mono ?_
    rintro e w' ⟨rfl, rfl⟩
    rw [← HZ.out.2]
    go_wp2
    refine bodyPost_ret (v := .tuple #[.agg #[.int .i64 q.num, .int .i64 q.den], .bool true]) (by rw [← HNUM.out, ← HZ.out.2]; simp [results, Try.results34, go_sem]) rfl ⟨rfl, Below2 _ _ _⟩

set_option maxRecDepth 100000 in
set_option maxHeartbeats 3200000 in
theorem frac_no (x : Value) (q : Rat) (w : World) (h : IsQ w x q) (hr : ¬ Rep q) :
    Calls Try.prog 34 #[x] w fun e w' => e = .returned (.tuple #[.agg #[.int .i64 0, .int .i64 0], .bool false]) ∧ Below w.heap.size w w' := by
  obtain ⟨a1, a2, n1, n2, c1, c2, rfl, hx1, hx2⟩ := h
  generalize hpn : decide (q < 0) = pn
  have HX := Lib.hid (And.intro hx1 hx2)
  have HS0 := Lib.hid (Below2 w (.cells #[.bool pn, .slice a1 n1 c1, .slice a2 n2 c2] 52) (.cells #[.int .i64 0, .int .i64 0] 24))
  clear hx1 hx2 hpn
  by_cases hn : q.num.natAbs ≤ 1000000000
  · have hd : 1000000000 < q.den := by
      rcases Nat.lt_or_ge 1000000000 q.den with h | h
      · exact h
      · exact absurd ⟨hn, h⟩ hr
    have HND := Lib.hid (And.intro hn hd)
    obtain ⟨z1, hz1⟩ : ∃ z : Int, z = (q.num.natAbs : Int) := ⟨_, rfl⟩
    have hb1 : z1 ≤ 1000000000 := by omega
    have hb3 : 0 ≤ z1 := by omega
    have HZ := Lib.hid hz1
    clear hn hd hz1 hr
    go_enter Try.func34, Try.ntmps34
    go_wp2_with fail
    refine (small_yes _ q.num.natAbs HND.out.1 _ (HX.out.1.below HS0.out)).mono ?_
    rintro e w' ⟨rfl, rfl⟩
    rw [← HZ.out]
    go_wp2_with fail
    refine (small_no _ q.den HND.out.2 _ (HX.out.2.below HS0.out)).mono ?_
    rintro e w' ⟨x2, b2, rfl, hb, rfl⟩
    cases b2
    · clear hb
      go_wp2
      refine bodyPost_ret (v := .tuple #[.agg #[.int .i64 0, .int .i64 0], .bool false]) (by simp [results, Try.results34, go_sem]) rfl ⟨rfl, Below2 _ _ _⟩
    · obtain ⟨hb5, hb6⟩ := hb rfl
      clear hb
      go_wp2
      refine bodyPost_ret (v := .tuple #[.agg #[.int .i64 0, .int .i64 0], .bool false]) (by simp [results, Try.results34, go_sem]) rfl ⟨rfl, Below2 _ _ _⟩
  · have HN := Lib.hid (show 1000000000 < q.num.natAbs by omega)
    clear hn hr
    by_cases hd : q.den ≤ 1000000000
    · have HD := Lib.hid hd
      obtain ⟨z2, hz2⟩ : ∃ z : Int, z = (q.den : Int) := ⟨_, rfl⟩
      have HZ := Lib.hid hz2
      have hb2 : z2 ≤ 1000000000 := by omega
      have hb3 : 0 ≤ z2 := by omega
      clear hd hz2
      go_enter Try.func34, Try.ntmps34
      go_wp2_with fail
      refine (small_no _ q.num.natAbs HN.out _ (HX.out.1.below HS0.out)).mono ?_
      rintro e w' ⟨x1, b1, rfl, hb, rfl⟩
      go_wp2_with fail
      refine (small_yes _ q.den HD.out _ (HX.out.2.below HS0.out)).mono ?_
      rintro e w' ⟨rfl, rfl⟩
      rw [← HZ.out]
      cases b1
      · clear hb
        go_wp2
        refine bodyPost_ret (v := .tuple #[.agg #[.int .i64 0, .int .i64 0], .bool false]) (by simp [results, Try.results34, go_sem]) rfl ⟨rfl, Below2 _ _ _⟩
      · obtain ⟨hb5, hb6⟩ := hb rfl
        clear hb
        go_wp2
        refine bodyPost_ret (v := .tuple #[.agg #[.int .i64 0, .int .i64 0], .bool false]) (by simp [results, Try.results34, go_sem]) rfl ⟨rfl, Below2 _ _ _⟩
    · have HD := Lib.hid (show 1000000000 < q.den by omega)
      clear hd
      go_enter Try.func34, Try.ntmps34
      go_wp2_with fail
      refine (small_no _ q.num.natAbs HN.out _ (HX.out.1.below HS0.out)).mono ?_
      rintro e w' ⟨x1, b1, rfl, hb, rfl⟩
      go_wp2_with fail
      refine (small_no _ q.den HD.out _ (HX.out.2.below HS0.out)).mono ?_
      rintro e w' ⟨x2, b2, rfl, hb2, rfl⟩
      cases b1
      · clear hb hb2
        go_wp2
        refine bodyPost_ret (v := .tuple #[.agg #[.int .i64 0, .int .i64 0], .bool false]) (by simp [results, Try.results34, go_sem]) rfl ⟨rfl, Below2 _ _ _⟩
      · obtain ⟨hb5, hb6⟩ := hb rfl
        clear hb hb2
        cases b2
        all_goals
          go_wp2
          refine bodyPost_ret (v := .tuple #[.agg #[.int .i64 0, .int .i64 0], .bool false]) (by simp [results, Try.results34, go_sem]) rfl ⟨rfl, Below2 _ _ _⟩

end Go.Proofs.Ytpghhfobaionkaa

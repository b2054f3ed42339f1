/- Comparisons of the program: cmp.Compare, sign, Mul64, (ratio).compare. -/
import Derived.Test.YtjnfgjaiahnfgaaNew
import Derived.Shelf.Bits.Mul64
namespace Go.Proofs.Ytjnfgjaiahnfgaa
open Go.RowKit

def cmpI (a b : Int) : Int := if a < b then -1 else if b < a then 1 else 0
theorem cmpI_lt {a b : Int} (h : a < b) : cmpI a b = -1 := by unfold cmpI; rw [if_pos h]
theorem cmpI_gt {a b : Int} (h : b < a) : cmpI a b = 1 := by unfold cmpI; rw [if_neg (by omega), if_pos h]
theorem cmpI_eq {a b : Int} (h : a = b) : cmpI a b = 0 := by unfold cmpI; rw [if_neg (by omega), if_neg (by omega)]
theorem cmpI_cases (a b : Int) : (a < b ∧ cmpI a b = -1) ∨ (b < a ∧ cmpI a b = 1) ∨ (a = b ∧ cmpI a b = 0) := by
  rcases Int.lt_trichotomy a b with h | h | h
  · exact .inl ⟨h, cmpI_lt h⟩
  · exact .inr (.inr ⟨h, cmpI_eq h⟩)
  · exact .inr (.inl ⟨h, cmpI_gt h⟩)

set_option maxRecDepth 100000 in
theorem compare_int (a b : Int) (w : World) :
    Calls Try.prog 88 #[.int .i64 a, .int .i64 b] w fun e w' => e = .returned (.int .i64 (cmpI a b)) ∧ w' = w := by
  rcases cmpI_cases a b with ⟨h, e⟩ | ⟨h, e⟩ | ⟨h, e⟩
  · rw [e]; clear e
    have h1 : (a != a) = false := by simp
    have h2 : (b != b) = false := by simp
    go_enter Try.func88, Try.ntmps88
    go_wp2
    go_ret
    exact ⟨rfl, rfl⟩
  · rw [e]; clear e
    have h1 : (a != a) = false := by simp
    have h2 : (b != b) = false := by simp
    have h3 : ¬ a < b := by omega
    go_enter Try.func88, Try.ntmps88
    go_wp2
    go_ret
    exact ⟨rfl, rfl⟩
  · rw [e]; clear e
    subst h
    have h1 : (a != a) = false := by simp
    have h3 : ¬ a < a := by omega
    go_enter Try.func88, Try.ntmps88
    go_wp2
    go_ret
    exact ⟨rfl, rfl⟩

set_option maxRecDepth 100000 in
theorem compare_u64 (a b : Int) (w : World) :
    Calls Try.prog 91 #[.int .u64 a, .int .u64 b] w fun e w' => e = .returned (.int .i64 (cmpI a b)) ∧ w' = w := by
  rcases cmpI_cases a b with ⟨h, e⟩ | ⟨h, e⟩ | ⟨h, e⟩
  · rw [e]; clear e
    have h1 : (a != a) = false := by simp
    have h2 : (b != b) = false := by simp
    go_enter Try.func91, Try.ntmps91
    go_wp2
    go_ret
    exact ⟨rfl, rfl⟩
  · rw [e]; clear e
    have h1 : (a != a) = false := by simp
    have h2 : (b != b) = false := by simp
    have h3 : ¬ a < b := by omega
    go_enter Try.func91, Try.ntmps91
    go_wp2
    go_ret
    exact ⟨rfl, rfl⟩
  · rw [e]; clear e
    subst h
    have h1 : (a != a) = false := by simp
    have h3 : ¬ a < a := by omega
    go_enter Try.func91, Try.ntmps91
    go_wp2
    go_ret
    exact ⟨rfl, rfl⟩

theorem sign_p (n : Int) (w : World) :
    Calls Try.prog 89 #[.int .i64 n] w fun e w' => e = .returned (.int .i64 (cmpI n 0)) ∧ w' = w := by
  obtain ⟨c, hc⟩ : ∃ c, c = cmpI n 0 := ⟨_, rfl⟩
  rw [← hc]
  have HC := Lib.hid hc
  clear hc
  go_enter Try.func89, Try.ntmps89
  go_wp2_with fail
  refine (compare_int n 0 w).mono ?_
  rintro e w' ⟨rfl, rfl⟩
  rw [← HC.out]
  go_wp2
  go_ret
  exact ⟨rfl, rfl⟩

set_option maxRecDepth 100000 in
set_option maxHeartbeats 1000000 in
theorem mul64_any (x y : Nat) (hx : x < 18446744073709551616) (hy : y < 18446744073709551616) (w : World) :
    Calls Try.prog 90 #[.int .u64 x, .int .u64 y] w fun e w' => e = .returned (.tuple #[.int .u64 ((x * y / 18446744073709551616 : Nat) : Int), .int .u64 ((x * y % 18446744073709551616 : Nat) : Int)]) ∧ w' = w := by
  obtain ⟨bd, bt, bw, hhi⟩ := Lib.mul64_hi x y hx hy
  have ba := Lib.half_mul_le (a := x / 4294967296) (b := y / 4294967296) (by omega) (by omega)
  have bb := Lib.half_mul_le (a := x / 4294967296) (b := y % 4294967296) (by omega) (by omega)
  have bc := Lib.half_mul_le (a := x % 4294967296) (b := y / 4294967296) (by omega) (by omega)
  have ba' : x / 4294967296 * (y / 4294967296) < 18446744073709551616 := by omega
  have bb' : x / 4294967296 * (y % 4294967296) < 18446744073709551616 := by omega
  have bc' : x % 4294967296 * (y / 4294967296) < 18446744073709551616 := by omega
  have HF := Lib.hid (And.intro bd (And.intro bt (And.intro bw (And.intro hhi (And.intro ba (And.intro bb (And.intro bc (And.intro ba' (And.intro bb' bc')))))))))
  have HX := Lib.hid (And.intro hx hy)
  clear bd bt bw hhi ba bb bc ba' bb' bc' hx hy
  go_enter Try.func90, Try.ntmps90
  go_wp2
  obtain ⟨bd, bt, bw, hhi, ba, bb, bc, ba', bb', bc'⟩ := HF.out
  obtain ⟨hx, hy⟩ := HX.out
  have btot : x * y / 18446744073709551616 < 18446744073709551616 := by
    have : x * y ≤ 18446744073709551615 * 18446744073709551615 := Nat.mul_le_mul (by omega) (by omega)
    omega
  have bh : x / 4294967296 * (y / 4294967296) + (x / 4294967296 * (y % 4294967296) + x % 4294967296 * (y % 4294967296) / 4294967296) / 4294967296 + (((x / 4294967296 * (y % 4294967296) + x % 4294967296 * (y % 4294967296) / 4294967296) % 4294967296 + x % 4294967296 * (y / 4294967296)) / 4294967296) < 18446744073709551616 := by rw [hhi]; exact btot
  have bh1 : x / 4294967296 * (y / 4294967296) + (x / 4294967296 * (y % 4294967296) + x % 4294967296 * (y % 4294967296) / 4294967296) / 4294967296 < 18446744073709551616 := by omega
  simp only [Mul64.maskN x hx, Mul64.maskN y hy, Mul64.divN, Mul64.mulN, Mul64.addN, Mul64.wrapN _ bd, Mul64.wrapN _ bb', Mul64.wrapN _ bt, Mul64.maskN _ bt, Mul64.wrapN _ bc', Mul64.wrapN _ bw, Mul64.wrapN _ ba', Mul64.wrapN _ bh1, Mul64.wrapN _ bh, Mul64.wrapM]
  rw [hhi]
  go_ret2
  exact ⟨rfl, rfl⟩

/-- Comparison of two fractions by their cross products. -/
theorem ordQ_cross {n1 d1 n2 d2 : Int} (h1 : 0 < d1) (h2 : 0 < d2) : ordQ (qof n1 d1) (qof n2 d2) = cmpI (n1 * d2) (n2 * d1) := by
  have e : ∀ {a b c d : Int}, 0 < b → 0 < d → (qof a b < qof c d ↔ a * d < c * b) := fun {a b c d} hb hd => by
    unfold qof
    have hb' : (0 : Rat) < (b : Rat) := by exact_mod_cast hb
    have hd' : (0 : Rat) < (d : Rat) := by exact_mod_cast hd
    have k1 : (a : Rat) / (b : Rat) * ((b : Rat) * (d : Rat)) = ((a * d : Int) : Rat) := by rw [Rat.intCast_mul]; grind
    have k2 : (c : Rat) / (d : Rat) * ((b : Rat) * (d : Rat)) = ((c * b : Int) : Rat) := by rw [Rat.intCast_mul]; grind
    rw [← Rat.mul_lt_mul_right (Rat.mul_pos hb' hd'), k1, k2]
    exact Rat.intCast_lt_intCast
  unfold ordQ cmpI
  simp only [e h1 h2, e h2 h1]

theorem cmp_sign {n1 d1 n2 d2 : Int} (h1 : 0 < d1) (h2 : 0 < d2) (h : cmpI (cmpI n1 0) (cmpI n2 0) ≠ 0) : cmpI (n1 * d2) (n2 * d1) = cmpI (cmpI n1 0) (cmpI n2 0) := by
  rcases cmpI_cases n1 0 with ⟨a1, a2⟩ | ⟨a1, a2⟩ | ⟨a1, a2⟩ <;> rcases cmpI_cases n2 0 with ⟨b1, b2⟩ | ⟨b1, b2⟩ | ⟨b1, b2⟩ <;> rw [a2, b2] at h ⊢
  · exact absurd rfl h
  · exact cmpI_lt (Int.lt_trans (Int.mul_neg_of_neg_of_pos a1 h2) (Int.mul_pos b1 h1))
  · subst b1; rw [Int.zero_mul]; exact cmpI_lt (Int.mul_neg_of_neg_of_pos a1 h2)
  · exact cmpI_gt (Int.lt_trans (Int.mul_neg_of_neg_of_pos b1 h1) (Int.mul_pos a1 h2))
  · exact absurd rfl h
  · subst b1; rw [Int.zero_mul]; exact cmpI_gt (Int.mul_pos a1 h2)
  · subst a1; rw [Int.zero_mul]; exact cmpI_gt (Int.mul_neg_of_neg_of_pos b1 h1)
  · subst a1; rw [Int.zero_mul]; exact cmpI_lt (Int.mul_pos b1 h1)
  · exact absurd rfl h

theorem cmpI_neg (a b : Int) : cmpI (-a) (-b) = cmpI b a := by unfold cmpI; simp only [Int.neg_lt_neg_iff]
theorem cmpI_swap (a b : Int) : cmpI b a = -cmpI a b := by
  rcases cmpI_cases a b with ⟨h, e⟩ | ⟨h, e⟩ | ⟨h, e⟩
  · rw [e, cmpI_gt h]; rfl
  · rw [e, cmpI_lt h]
  · rw [e, cmpI_eq h.symm]; rfl

theorem cmp_abs {n1 d1 n2 d2 : Int} (h1 : 0 < d1) (h2 : 0 < d2) (h : cmpI (cmpI n1 0) (cmpI n2 0) = 0) :
    cmpI (n1 * d2) (n2 * d1) = cmpI ((n1.natAbs * d2.natAbs : Nat) : Int) ((n2.natAbs * d1.natAbs : Nat) : Int) * cmpI n1 0 := by
  have k1 : ((d1.natAbs : Nat) : Int) = d1 := by omega
  have k2 : ((d2.natAbs : Nat) : Int) = d2 := by omega
  rw [Int.natCast_mul, Int.natCast_mul, k1, k2]
  rcases cmpI_cases n1 0 with ⟨a1, a2⟩ | ⟨a1, a2⟩ | ⟨a1, a2⟩ <;> rcases cmpI_cases n2 0 with ⟨b1, b2⟩ | ⟨b1, b2⟩ | ⟨b1, b2⟩ <;> rw [a2, b2] at h
  · rw [a2, show ((n1.natAbs : Nat) : Int) = -n1 by omega, show ((n2.natAbs : Nat) : Int) = -n2 by omega, Int.neg_mul, Int.neg_mul, cmpI_neg, cmpI_swap]; omega
  · exact absurd h (by decide)
  · exact absurd h (by decide)
  · exact absurd h (by decide)
  · rw [a2, show ((n1.natAbs : Nat) : Int) = n1 by omega, show ((n2.natAbs : Nat) : Int) = n2 by omega, Int.mul_one]
  · exact absurd h (by decide)
  · exact absurd h (by decide)
  · exact absurd h (by decide)
  · rw [a2, a1, b1, Int.zero_mul, Int.zero_mul, cmpI_eq rfl, Int.mul_zero]

theorem cmp_hi {R S : Nat} (h : cmpI ((R / 18446744073709551616 : Nat) : Int) ((S / 18446744073709551616 : Nat) : Int) ≠ 0) : cmpI (R : Int) (S : Int) = cmpI ((R / 18446744073709551616 : Nat) : Int) ((S / 18446744073709551616 : Nat) : Int) := by
  rcases cmpI_cases ((R / 18446744073709551616 : Nat) : Int) ((S / 18446744073709551616 : Nat) : Int) with ⟨a, e⟩ | ⟨a, e⟩ | ⟨a, e⟩
  · rw [e, cmpI_lt (by omega)]
  · rw [e, cmpI_gt (by omega)]
  · exact absurd e h
theorem cmp_lo {R S : Nat} (h : cmpI ((R / 18446744073709551616 : Nat) : Int) ((S / 18446744073709551616 : Nat) : Int) = 0) : cmpI (R : Int) (S : Int) = cmpI ((R % 18446744073709551616 : Nat) : Int) ((S % 18446744073709551616 : Nat) : Int) := by
  have hq : R / 18446744073709551616 = S / 18446744073709551616 := by
    rcases cmpI_cases ((R / 18446744073709551616 : Nat) : Int) ((S / 18446744073709551616 : Nat) : Int) with ⟨a, e⟩ | ⟨a, e⟩ | ⟨a, e⟩
    · rw [e] at h; exact absurd h (by decide)
    · rw [e] at h; exact absurd h (by decide)
    · omega
  rcases cmpI_cases ((R % 18446744073709551616 : Nat) : Int) ((S % 18446744073709551616 : Nat) : Int) with ⟨a, e⟩ | ⟨a, e⟩ | ⟨a, e⟩
  · rw [e, cmpI_lt (by omega)]
  · rw [e, cmpI_gt (by omega)]
  · rw [e, cmpI_eq (by omega)]

theorem cmpI_bd (a b : Int) : -1 ≤ cmpI a b ∧ cmpI a b ≤ 1 := by rcases cmpI_cases a b with ⟨_, e⟩ | ⟨_, e⟩ | ⟨_, e⟩ <;> rw [e] <;> omega

theorem quiet_add_same {P : Program} {f : FuncId} {args : Array Value} {w : World} {a n : Nat} {v : Value}
    (h : Calls P f args (w.drewN (a + n)) fun e w' => e = .returned v ∧ w' = w.drewN (a + n)) :
    Calls P f args (w.drewN (a + n)) fun e w'' => e = .returned v ∧ ∃ m, w'' = w.drewN (a + m) :=
  h.mono fun _ _ ⟨he, hm⟩ => ⟨he, n, hm⟩

theorem sign_var (n s : Int) (hs : s = cmpI n 0) (w : World) : Calls Try.prog 89 #[.int .i64 n] w fun e w' => e = .returned (.int .i64 s) ∧ w' = w := by rw [hs]; exact sign_p n w
theorem cmpi_var (a b c : Int) (hc : c = cmpI a b) (w : World) : Calls Try.prog 88 #[.int .i64 a, .int .i64 b] w fun e w' => e = .returned (.int .i64 c) ∧ w' = w := by rw [hc]; exact compare_int a b w
theorem cmpu_var (a b c : Int) (hc : c = cmpI a b) (w : World) : Calls Try.prog 91 #[.int .u64 a, .int .u64 b] w fun e w' => e = .returned (.int .i64 c) ∧ w = w' := by rw [hc]; exact (compare_u64 a b w).mono fun _ _ h => ⟨h.1, h.2.symm⟩
theorem mul64_var (a b : Nat) (x y h l : Int) (hx : x = (a : Int)) (hy : y = (b : Int)) (hh : h = ((a * b / 18446744073709551616 : Nat) : Int)) (hl : l = ((a * b % 18446744073709551616 : Nat) : Int)) (h1 : a < 18446744073709551616) (h2 : b < 18446744073709551616) (w : World) :
    Calls Try.prog 90 #[.int .u64 x, .int .u64 y] w fun e w' => e = .returned (.tuple #[.int .u64 h, .int .u64 l]) ∧ w' = w := by
  subst hx hy hh hl; exact mul64_any a b h1 h2 w

set_option maxRecDepth 100000 in
set_option maxHeartbeats 3200000 in
theorem compare_r (n1 d1 n2 d2 : Int) (h1 : -9223372036854775808 ≤ n1 ∧ n1 ≤ 9223372036854775807) (h2 : 0 < d1 ∧ d1 ≤ 9223372036854775807) (h3 : -9223372036854775808 ≤ n2 ∧ n2 ≤ 9223372036854775807) (h4 : 0 < d2 ∧ d2 ≤ 9223372036854775807) (w : World) :
    Calls Try.prog 64 #[.agg #[.int .i64 n1, .int .i64 d1], .agg #[.int .i64 n2, .int .i64 d2]] w fun e w' => ∃ r, e = .returned (.int .i64 r) ∧ Hid (r = ordQ (qof n1 d1) (qof n2 d2)) ∧ Below w.heap.size w w' := by
  obtain ⟨s1, hs1⟩ : ∃ c, c = cmpI n1 0 := ⟨_, rfl⟩
  obtain ⟨s2, hs2⟩ : ∃ c, c = cmpI n2 0 := ⟨_, rfl⟩
  obtain ⟨c, hc⟩ : ∃ c, c = cmpI s1 s2 := ⟨_, rfl⟩
  have HB0 := Lib.hid (Below2 w (.cells #[.int .i64 n1, .int .i64 d1] 67) (.cells #[.int .i64 n2, .int .i64 d2] 67))
  have HV := Lib.hid (ordQ_cross (n1 := n1) (n2 := n2) h2.1 h4.1)
  have HS := Lib.hid (And.intro hs1 (And.intro hs2 hc))
  by_cases hc0 : c = 0
  · have hcb : (c != 0) = false := by simpa using hc0
    have habs := cmp_abs (n1 := n1) (n2 := n2) h2.1 h4.1 (by rw [← hs1, ← hs2, ← hc]; exact hc0)
    obtain ⟨x1, hx1⟩ : ∃ x : Int, x = (n1.natAbs : Int) := ⟨_, rfl⟩
    obtain ⟨x2, hx2⟩ : ∃ x : Int, x = (n2.natAbs : Int) := ⟨_, rfl⟩
    obtain ⟨y1, hy1⟩ : ∃ x : Int, x = (d1.natAbs : Int) := ⟨_, rfl⟩
    obtain ⟨y2, hy2⟩ : ∃ x : Int, x = (d2.natAbs : Int) := ⟨_, rfl⟩
    obtain ⟨rh, hrh⟩ : ∃ x : Int, x = ((n1.natAbs * d2.natAbs / 18446744073709551616 : Nat) : Int) := ⟨_, rfl⟩
    obtain ⟨rl, hrl⟩ : ∃ x : Int, x = ((n1.natAbs * d2.natAbs % 18446744073709551616 : Nat) : Int) := ⟨_, rfl⟩
    obtain ⟨sh, hsh⟩ : ∃ x : Int, x = ((n2.natAbs * d1.natAbs / 18446744073709551616 : Nat) : Int) := ⟨_, rfl⟩
    obtain ⟨sl, hsl⟩ : ∃ x : Int, x = ((n2.natAbs * d1.natAbs % 18446744073709551616 : Nat) : Int) := ⟨_, rfl⟩
    obtain ⟨e1, he1⟩ : ∃ x : Int, x = cmpI rh sh := ⟨_, rfl⟩
    obtain ⟨e2, he2⟩ : ∃ x : Int, x = cmpI rl sl := ⟨_, rfl⟩
    have bs1 := cmpI_bd n1 0
    have be1 := cmpI_bd rh sh
    have be2 := cmpI_bd rl sl
    rw [← hs1] at bs1
    rw [← he1] at be1
    rw [← he2] at be2
    have hp1 : -1 ≤ e1 * s1 ∧ e1 * s1 ≤ 1 := by
      obtain ⟨a1, a2⟩ := bs1; obtain ⟨b1, b2⟩ := be1
      have k1 : e1 = -1 ∨ e1 = 0 ∨ e1 = 1 := by omega
      rcases k1 with k | k | k <;> subst k <;> omega
    have hp2 : -1 ≤ e2 * s1 ∧ e2 * s1 ≤ 1 := by
      obtain ⟨a1, a2⟩ := bs1; obtain ⟨b1, b2⟩ := be2
      have k1 : e2 = -1 ∨ e2 = 0 ∨ e2 = 1 := by omega
      rcases k1 with k | k | k <;> subst k <;> omega
    obtain ⟨hp1a, hp1b⟩ := hp1
    obtain ⟨hp2a, hp2b⟩ := hp2
    have HN := Lib.hid (And.intro (show n1.natAbs < 18446744073709551616 by omega) (And.intro (show n2.natAbs < 18446744073709551616 by omega) (And.intro (show d1.natAbs < 18446744073709551616 by omega) (show d2.natAbs < 18446744073709551616 by omega))))
    have HX := Lib.hid (And.intro hx1 (And.intro hx2 (And.intro hy1 hy2)))
    have HM := Lib.hid (And.intro hrh (And.intro hrl (And.intro hsh hsl)))
    have HE := Lib.hid (And.intro he1 he2)
    have HR := Lib.hid (And.intro h1 (And.intro h2 (And.intro h3 h4)))
    have HABS := Lib.hid habs
    have HD : Hid (-9223372036854775808 ≤ d1 ∧ -9223372036854775808 ≤ d2) := Lib.hid (by omega)
    clear hs1 hs2 hc hc0 habs hx1 hx2 hy1 hy2 hrh hrl hsh hsl he1 he2 bs1 be1 be2 h1 h2 h3 h4
    by_cases hz : e1 = 0
    · have hzb : (e1 == 0) = true := by simpa using hz
      have HFIN : Hid (e2 * s1 = ordQ (qof n1 d1) (qof n2 d2)) := Lib.hid (by
        rw [HV.out, HABS.out, cmp_lo (by rw [← HM.out.1, ← HM.out.2.2.1, ← HE.out.1]; exact hz), ← HM.out.2.1, ← HM.out.2.2.2, ← HE.out.2, ← HS.out.1])
      clear hz
      go_enter Try.func64, Try.ntmps64
      go_wp2_with fail
      go_quiet (first
        | (go_at_call 89; with_reducible exact Calls.quiet_of_same (sign_var n1 s1 HS.out.1 _))
        | (go_at_call 89; with_reducible exact Calls.quiet_of_same (sign_var n2 s2 HS.out.2.1 _))
        | (go_at_call 88; with_reducible exact Calls.quiet_of_same (cmpi_var s1 s2 c HS.out.2.2 _)))
      go_wp2_with fail
      go_quiet (first
        | (go_at_call 57; with_reducible exact quiet_add_same (size_var n1 x1 HX.out.1 HR.out.1.1 HR.out.1.2 _))
        | (go_at_call 57; with_reducible exact quiet_add_same (size_var d2 y2 HX.out.2.2.2 HD.out.2 HR.out.2.2.2.2 _))
        | (go_at_call 90; with_reducible exact quiet_add_same (mul64_var n1.natAbs d2.natAbs x1 y2 rh rl HX.out.1 HX.out.2.2.2 HM.out.1 HM.out.2.1 HN.out.1 HN.out.2.2.2 _)))
      go_wp2_with fail
      go_quiet (first
        | (go_at_call 57; with_reducible exact quiet_add_same (size_var n2 x2 HX.out.2.1 HR.out.2.2.1.1 HR.out.2.2.1.2 _))
        | (go_at_call 57; with_reducible exact quiet_add_same (size_var d1 y1 HX.out.2.2.1 HD.out.1 HR.out.2.1.2 _))
        | (go_at_call 90; with_reducible exact quiet_add_same (mul64_var n2.natAbs d1.natAbs x2 y1 sh sl HX.out.2.1 HX.out.2.2.1 HM.out.2.2.1 HM.out.2.2.2 HN.out.2.1 HN.out.2.2.1 _)))
      go_wp2_with fail
      refine (cmpu_var rh sh e1 HE.out.1 _).mono ?_
      rintro e w' ⟨rfl, rfl⟩
      go_wp2_with fail
      refine (cmpu_var rl sl e2 HE.out.2 _).mono ?_
      rintro e w' ⟨rfl, rfl⟩
      go_wp2_with fail
      refine (sign_var n1 s1 HS.out.1 _).mono ?_
      rintro e w' ⟨rfl, rfl⟩
      go_wp2
      go_ret
      refine ⟨_, rfl, HFIN, ?_⟩
      exact below_drewN HB0.out _
    · have hzb : (e1 == 0) = false := by simpa using hz
      have HFIN : Hid (e1 * s1 = ordQ (qof n1 d1) (qof n2 d2)) := Lib.hid (by
        rw [HV.out, HABS.out, cmp_hi (by rw [← HM.out.1, ← HM.out.2.2.1, ← HE.out.1]; exact hz), ← HM.out.1, ← HM.out.2.2.1, ← HE.out.1, ← HS.out.1])
      clear hz
      go_enter Try.func64, Try.ntmps64
      go_wp2_with fail
      go_quiet (first
        | (go_at_call 89; with_reducible exact Calls.quiet_of_same (sign_var n1 s1 HS.out.1 _))
        | (go_at_call 89; with_reducible exact Calls.quiet_of_same (sign_var n2 s2 HS.out.2.1 _))
        | (go_at_call 88; with_reducible exact Calls.quiet_of_same (cmpi_var s1 s2 c HS.out.2.2 _)))
      go_wp2_with fail
      go_quiet (first
        | (go_at_call 57; with_reducible exact quiet_add_same (size_var n1 x1 HX.out.1 HR.out.1.1 HR.out.1.2 _))
        | (go_at_call 57; with_reducible exact quiet_add_same (size_var d2 y2 HX.out.2.2.2 HD.out.2 HR.out.2.2.2.2 _))
        | (go_at_call 90; with_reducible exact quiet_add_same (mul64_var n1.natAbs d2.natAbs x1 y2 rh rl HX.out.1 HX.out.2.2.2 HM.out.1 HM.out.2.1 HN.out.1 HN.out.2.2.2 _)))
      go_wp2_with fail
      go_quiet (first
        | (go_at_call 57; with_reducible exact quiet_add_same (size_var n2 x2 HX.out.2.1 HR.out.2.2.1.1 HR.out.2.2.1.2 _))
        | (go_at_call 57; with_reducible exact quiet_add_same (size_var d1 y1 HX.out.2.2.1 HD.out.1 HR.out.2.1.2 _))
        | (go_at_call 90; with_reducible exact quiet_add_same (mul64_var n2.natAbs d1.natAbs x2 y1 sh sl HX.out.2.1 HX.out.2.2.1 HM.out.2.2.1 HM.out.2.2.2 HN.out.2.1 HN.out.2.2.1 _)))
      go_wp2_with fail
      refine (cmpu_var rh sh e1 HE.out.1 _).mono ?_
      rintro e w' ⟨rfl, rfl⟩
      go_wp2_with fail
      refine (sign_var n1 s1 HS.out.1 _).mono ?_
      rintro e w' ⟨rfl, rfl⟩
      go_wp2
      go_ret
      refine ⟨_, rfl, HFIN, ?_⟩
      exact below_drewN HB0.out _
  · have hcb : (c != 0) = true := by simpa using hc0
    have HFIN : Hid (c = ordQ (qof n1 d1) (qof n2 d2)) := Lib.hid (by
      rw [HV.out, cmp_sign h2.1 h4.1 (by rw [← hs1, ← hs2, ← hc]; exact hc0), ← hs1, ← hs2, ← hc])
    clear hs1 hs2 hc hc0 h1 h2 h3 h4
    go_enter Try.func64, Try.ntmps64
    go_wp2_with fail
    go_quiet (first
      | (go_at_call 89; with_reducible exact Calls.quiet_of_same (sign_var n1 s1 HS.out.1 _))
      | (go_at_call 89; with_reducible exact Calls.quiet_of_same (sign_var n2 s2 HS.out.2.1 _))
      | (go_at_call 88; with_reducible exact Calls.quiet_of_same (cmpi_var s1 s2 c HS.out.2.2 _)))
    go_wp2
    go_ret
    exact ⟨_, rfl, HFIN, below_drewN HB0.out _⟩

end Go.Proofs.Ytjnfgjaiahnfgaa

/- The reference's divided and divisor. -/
import Derived.Test.YtpghhfobaionkaaNatB
import Derived.Test.YtpghhfobaionkaaNatC
import Derived.Test.YtpghhfobaionkaaNatD
import Derived.BigRegion
import Derived.Deep.LoopGhost
namespace Go.Proofs.Ytpghhfobaionkaa
open Go.RowKit

theorem digs_len_dbl {x n : Nat} (h : x < 2 * n) : (digs x).length ≤ (digs n).length + 1 := by
  rw [digs_length_le_iff]
  have h1 := lt_pow_digs n
  rw [Nat.pow_succ]
  have h2 : Bse ^ (digs n).length * 2 ≤ Bse ^ (digs n).length * Bse := Nat.mul_le_mul_left _ (by decide)
  omega

theorem div_two_pow (m s : Nat) : m / 2 ^ s = 2 * (m / 2 ^ (s + 1)) + m / 2 ^ s % 2 := by
  rw [Nat.pow_succ, ← Nat.div_div_eq_div_mul]; omega

/-- One round of the long division: M' = 2 M + c. -/
theorem long_step {M c n : Nat} (hn : n ≠ 0) (hc : c < 2) : (2 * M + c) % n = (if n ≤ 2 * (M % n) + c then 2 * (M % n) + c - n else 2 * (M % n) + c) ∧ (2 * M + c) / n = 2 * (M / n) + (if n ≤ 2 * (M % n) + c then 1 else 0) := by
  have h1 : n * (M / n) + M % n = M := Nat.div_add_mod M n
  have h2 : M % n < n := Nat.mod_lt _ (by omega)
  have h3 : 2 * M + c = 2 * (M % n) + c + n * (2 * (M / n)) := by
    have : n * (2 * (M / n)) = 2 * (n * (M / n)) := by grind
    omega
  rw [h3, Nat.add_mul_mod_self_left, Nat.add_mul_div_left _ _ (by omega)]
  by_cases h : n ≤ 2 * (M % n) + c
  · rw [if_pos h, if_pos h]
    have e : 2 * (M % n) + c = (2 * (M % n) + c - n) + n := by omega
    refine ⟨?_, ?_⟩
    · rw [e, Nat.add_mod_right, Nat.mod_eq_of_lt (by omega)]; omega
    · rw [e, Nat.add_div_right _ (by omega), Nat.div_eq_of_lt (by omega)]; omega
  · rw [if_neg h, if_neg h]
    exact ⟨Nat.mod_eq_of_lt (by omega), by rw [Nat.div_eq_of_lt (by omega)]; omega⟩

/-- The digit with bit s. -/
theorem val_get (l : List Nat) (hl : ∀ d ∈ l, d < Bse) (j : Nat) : l.getD j 0 = val l / Bse ^ j % Bse := by
  by_cases h : j < l.length
  · have e := val_take_drop l j (by omega)
    have h1 : val (l.take j) < Bse ^ j := by
      have := val_lt (l := l.take j) (fun d hd => hl d (List.mem_of_mem_take hd))
      rwa [List.length_take, Nat.min_eq_left (by omega)] at this
    rw [e, Nat.add_mul_div_left _ _ (Nat.pow_pos Bse_pos), Nat.div_eq_of_lt h1, Nat.zero_add, List.drop_eq_getElem_cons h, val, Nat.add_mul_mod_self_left, getD_in l j h, Nat.mod_eq_of_lt (hl _ (List.getElem_mem h))]
  · have h1 := val_lt hl
    have h2 : Bse ^ l.length ≤ Bse ^ j := Nat.pow_le_pow_right Bse_pos (by omega)
    rw [Nat.div_eq_of_lt (by omega), getD_out l j (by omega)]; rfl

theorem digit_bit (l : List Nat) (hl : ∀ d ∈ l, d < Bse) (s : Nat) : l.getD (s / 32) 0 / 2 ^ (s % 32) % 2 = val l / 2 ^ s % 2 := by
  rw [val_get l hl, Bse_pow, show Bse = 2 ^ 32 from rfl]
  have e : val l / 2 ^ s = val l / 2 ^ (32 * (s / 32)) / 2 ^ (s % 32) := by
    rw [Nat.div_div_eq_div_mul, ← Nat.pow_add]; congr 2; omega
  rw [e]
  generalize val l / 2 ^ (32 * (s / 32)) = x
  have hs : s % 32 < 32 := Nat.mod_lt _ (by decide)
  rw [show (2 : Nat) ^ 32 = 2 ^ (s % 32) * 2 ^ (32 - s % 32) by rw [← Nat.pow_add]; congr 1; omega]
  rw [Nat.mod_mul_right_div_self]
  exact Nat.mod_mod_of_dvd _ ⟨2 ^ (32 - s % 32 - 1), by rw [← Nat.pow_succ']; congr 1; omega⟩

/-- Setting bit s where all bits up to s are clear. -/
theorem digit_or (l : List Nat) (hl : ∀ d ∈ l, d < Bse) (s K : Nat) (hv : val l = K * 2 ^ (s + 1)) :
    l.getD (s / 32) 0 ||| 2 ^ (s % 32) = l.getD (s / 32) 0 + 2 ^ (s % 32) ∧ l.getD (s / 32) 0 + 2 ^ (s % 32) < Bse := by
  have hs : s % 32 < 32 := Nat.mod_lt _ (by decide)
  have e : l.getD (s / 32) 0 = 2 ^ (s % 32 + 1) * (K % 2 ^ (32 - (s % 32 + 1))) := by
    rw [val_get l hl, Bse_pow, hv, show Bse = 2 ^ 32 from rfl]
    have e1 : K * 2 ^ (s + 1) / 2 ^ (32 * (s / 32)) = K * 2 ^ (s % 32 + 1) := by
      rw [show s + 1 = (s % 32 + 1) + 32 * (s / 32) by omega, Nat.pow_add, ← Nat.mul_assoc, Nat.mul_div_cancel _ (Nat.pow_pos (by decide))]
    rw [e1, Nat.mul_comm K, show (2 : Nat) ^ 32 = 2 ^ (s % 32 + 1) * 2 ^ (32 - (s % 32 + 1)) by rw [← Nat.pow_add]; congr 1; omega, Nat.mul_mod_mul_left]
  have hp : (2 : Nat) ^ (s % 32) < 2 ^ (s % 32 + 1) := Nat.pow_lt_pow_right (by decide) (by omega)
  refine ⟨?_, ?_⟩
  · rw [e, ← Nat.two_pow_add_eq_or_of_lt hp]
  · rw [e]
    have h1 : K % 2 ^ (32 - (s % 32 + 1)) + 1 ≤ 2 ^ (32 - (s % 32 + 1)) := Nat.mod_lt _ (Nat.pow_pos (by decide))
    have h2 := Nat.mul_le_mul_left (2 ^ (s % 32 + 1)) h1
    rw [← Nat.pow_add, show s % 32 + 1 + (32 - (s % 32 + 1)) = 32 by omega, Nat.mul_add, Nat.mul_one] at h2
    show _ < 2 ^ 32
    omega

theorem bit_test (x : Int) (d s : Nat) (hx : x = (d : Int)) (hd : d < Bse) : bits BinOp.and IntKind.u32 (x / 2 ^ s) 1 = ((d / 2 ^ s % 2 : Nat) : Int) := by
  have e : x / 2 ^ s = ((d / 2 ^ s : Nat) : Int) := by rw [hx]; simp
  have h1 : d / 2 ^ s < 2 ^ 32 := Nat.lt_of_le_of_lt (Nat.div_le_self _ _) hd
  rw [e]
  have h := (bits_nat .u32 32 (by decide) (fun n h0 h1 => by rw [IntKind.wrap_u32]; omega) (d / 2 ^ s) 1 h1 (by decide)).1
  rw [Nat.and_one_is_mod] at h
  exact h

theorem bit_set (x : Int) (d s : Nat) (hx : x = (d : Int)) (hd : d < Bse) (hs : s < 32) : bits BinOp.or IntKind.u32 x (2 ^ s) = ((d ||| 2 ^ s : Nat) : Int) := by
  rw [hx]
  have hp : (2 : Nat) ^ s < 2 ^ 32 := Nat.pow_lt_pow_right (by decide) hs
  have h := (bits_nat .u32 32 (by decide) (fun n h0 h1 => by rw [IntKind.wrap_u32]; omega) d (2 ^ s) hd hp).2
  rw [← h]; simp

theorem two_pow_wrap (s : Nat) (hs : s < 32) : (2 : Int) ^ s % 4294967296 = 2 ^ s := by
  have h1 : (2 : Nat) ^ s < 2 ^ 32 := Nat.pow_lt_pow_right (by decide) hs
  have e : (2 : Int) ^ s = ((2 ^ s : Nat) : Int) := by simp
  rw [e]
  generalize (2 : Nat) ^ s = p at h1
  omega

theorem dbl0 (a p : Nat) : a * (p * 2) = (2 * a + 0) * p := by grind
theorem dbl1 (a p : Nat) : a * (p * 2) + p = (2 * a + 1) * p := by grind

theorem set_val {Q : List Nat} {s K : Nat} (hqs : s / 32 < Q.length) (hv : val Q = K * 2 ^ (s + 1)) : val (Q.set (s / 32) (Q.getD (s / 32) 0 + 2 ^ (s % 32))) = (2 * K + 1) * 2 ^ s := by
  have h := val_set Q (s / 32) (Q.getD (s / 32) 0 + 2 ^ (s % 32)) hqs
  have e : Bse ^ (s / 32) * 2 ^ (s % 32) = 2 ^ s := by rw [Bse_pow, ← Nat.pow_add]; congr 1; omega
  rw [Nat.mul_add, e, hv, Nat.pow_succ] at h
  rw [← dbl1]
  omega

theorem cmpN_ge {a b : Nat} (h : b ≤ a) : 0 ≤ cmpN a b := by unfold cmpN; rw [if_neg (by omega)]; split <;> omega
theorem cmpN_lt {a b : Nat} (h : a < b) : cmpN a b < 0 := by unfold cmpN; rw [if_pos h]; omega

set_option maxRecDepth 100000 in
set_option maxHeartbeats 1600000 in
theorem divided_long (a b : Option Addr) (cap cap2 : Nat) (l r : List Nat) (m n : Nat) (hn0 : n ≠ 0) (hlen : 2 < l.length ∨ 2 < r.length) (w : World) (hl : digs m = l) (hr : digs n = r) (h : IsNat w (.slice a l.length cap) m) (g : IsNat w (.slice b r.length cap2) n) (hlm : (l.length : Int) ≤ 100000000) (hln : (r.length : Int) ≤ 100000000) :
    Calls Try.prog 47 #[.slice a l.length cap, .slice b r.length cap2] w fun e w' => ∃ z1 z2, e = .returned (.tuple #[z1, z2]) ∧ IsNat w' z1 (m / n) ∧ IsNat w' z2 (m % n) ∧ Below w.heap.size w w' := by
  have hdm := Lib.hid (digs_lt m)
  have HLR := Lib.hid (And.intro hl hr)
  have HG := Lib.hid g
  have HH := Lib.hid h
  clear hl hr h g
  have hmk := run_make_u32 l.length (by omega) w
  have hrow0 := HasRow.made w l.length
  have hB0 : Below w.heap.size w (w.alloc (zeroRow l.length)) := (Below.refl _ _).alloc (Nat.le_refl _) _
  have HZ := Lib.hid (And.intro hrow0 hB0)
  clear hrow0 hB0
  have h0 : 2 < l.length ∨ (l.length ≤ 2 ∧ 2 < r.length) := by omega
  clear hlen
  rcases h0 with htest | ⟨htest0, htest⟩
  all_goals
    go_enter Try.func47, Try.ntmps47
    go_wp2_with fail
    go_loopw [7, 8] (fun rv i wr => ∃ (ii : Int) (Q : List Nat), -1 ≤ ii ∧ ii < 32 * l.length ∧ i = .int .i64 ii ∧ Hid (Q.length = l.length) ∧ Hid (∀ d ∈ Q, d < Bse) ∧ Hid (HasRow wr w.heap.size Q) ∧ Hid (IsNat wr rv (m / 2 ^ (ii + 1).toNat % n)) ∧ Hid (∀ k, rv.ownBlock = some k → w.heap.size < k) ∧
        Hid (val Q = m / 2 ^ (ii + 1).toNat / n * 2 ^ (ii + 1).toNat) ∧ Hid (Below w.heap.size w wr)) (fun _ i _ => (intOf i + 1).toNat)
    case atStart =>
      have e : m / 2 ^ (32 * (l.length : Int) - 1 + 1).toNat = 0 := by
        rw [show (32 * (l.length : Int) - 1 + 1).toNat = 32 * l.length by omega, ← Bse_pow, ← HLR.out.1]
        exact Nat.div_eq_of_lt (lt_pow_digs m)
      refine ⟨32 * (l.length : Int) - 1, _, by omega, by omega, rfl, Lib.hid List.length_replicate, Lib.hid (by simp [Bse]), Lib.hid HZ.out.1, ?_, Lib.hid (fun k hk => by cases hk), ?_, Lib.hid HZ.out.2⟩
      · unfold Hid; rw [e, Nat.zero_mod]; exact IsNat.zero _
      · unfold Hid; rw [e, Nat.zero_div, Nat.zero_mul]; exact val_zeros _
    case round =>
      obtain ⟨ii, Q, hi0, hi1, rfl, HQ1, HQ2, HROW, HR, HF, HV, HB⟩ := hrel
      by_cases hneg : ii < 0
      · have hv := HV.out
        have hr := HR.out
        rw [show (ii + 1).toNat = 0 by omega, Nat.pow_zero, Nat.div_one] at hv hr
        rw [Nat.mul_one] at hv
        have HV2 := Lib.hid hv
        have HR2 := Lib.hid hr
        clear hv hr HV HR
        go_wp2_with fail
        refine (trimmed_n _ Q _ _ HQ1.out.symm HQ2.out wr (by have h := IsDig.of_row HROW.out (by have := HQ1.out; unfold maxLen; omega); rw [HQ1.out] at h ⊢; exact h)).mono ?_
        rintro e w1 ⟨kz, rfl, hz, rfl⟩
        go_wp2
        go_ret2
        exact ⟨_, _, rfl, by rw [← HV2.out]; exact hz, HR2.out, HB.out⟩
      · obtain ⟨s, rfl⟩ := Int.eq_ofNat_of_zero_le (show 0 ≤ ii by omega)
        have hsl : s / 32 < l.length := by omega
        have hi2 : (s : Int) / 32 < (l.length : Int) := by omega
        have hi3 : 0 ≤ (s : Int) / 32 := by omega
        have hi4 : ((s : Int) / 32).toNat = s / 32 := by omega
        have hm0 : 0 ≤ (s : Int) % 32 := by omega
        have hm1 : (s : Int) % 32 < 32 := by omega
        have hrn : m / 2 ^ (s + 1) % n < n := Nat.mod_lt _ (by omega)
        have hlen1 : (digs (m / 2 ^ (s + 1) % n)).length ≤ r.length := by
          rw [← HLR.out.2]; exact digs_length_mono (by omega)
        have HR2 := HR.out
        rw [show ((s : Int) + 1).toNat = s + 1 by omega] at HR2
        have HR3 := Lib.hid HR2
        clear HR HR2
        have HLEN := Lib.hid hlen1
        clear hlen1 hrn
        go_wp2_with fail
        refine (plus_any _ _ _ _ wr HR3.out HR3.out (by have := HLEN.out; omega) (by have := HLEN.out; omega)).mono ?_
        rintro e w1 ⟨v1, rfl, hz1, hf1, hb1'⟩
        have hAll := IsDig.open_some (HH.out)
        rw [HLR.out.1] at hAll
        obtain ⟨_, hcap1, hcap2, h3⟩ := hAll
        obtain ⟨ga, hae, hga, hca⟩ := h3.resolve_left (fun h => by rw [h] at hsl; exact absurd hsl (Nat.not_lt_zero _))
        subst hae
        have HB1 : Hid (Below w.heap.size w w1) := Lib.hid (HB.out.trans (hb1'.mono HB.out.size))
        have hDL : ∀ d ∈ l, d < Bse := by rw [← HLR.out.1]; exact hdm.out
        obtain ⟨x, hx0, hx1, hcA, HXV⟩ := dig_at hDL hsl HB1.out hga (hca (s / 32) hsl)
        have hM : m / 2 ^ s = 2 * (m / 2 ^ (s + 1)) + m / 2 ^ s % 2 := div_two_pow m s
        have hbv := bit_test x (l.getD (s / 32) 0) (s % 32) HXV.out (getD_lt hDL _)
        have hdb := digit_bit l hDL s
        rw [← HLR.out.1, val_digs, HLR.out.1] at hdb
        rw [hdb] at hbv
        have HM := Lib.hid hM
        clear hM hdb hca h3
        obtain ⟨R2, HR2⟩ : ∃ R2, Hid (R2 = 2 * (m / 2 ^ (s + 1) % n) + m / 2 ^ s % 2) := ⟨_, rfl⟩
        have HLEN2 : Hid ((digs R2).length ≤ r.length + 1) := Lib.hid (by
          have h1 : m / 2 ^ (s + 1) % n < n := Nat.mod_lt _ (by omega)
          have h2 := HR2.out
          rw [← HLR.out.2]; exact digs_len_dbl (by omega))
        by_cases hbit : m / 2 ^ s % 2 = 1
        · have hb1 : (bits BinOp.and IntKind.u32 (x / 2 ^ (s % 32)) 1 == 1) = true := by rw [hbv, hbit]; rfl
          have hrv : R2 = m / 2 ^ (s + 1) % n + m / 2 ^ (s + 1) % n + 1 := by have h := HR2.out; omega
          have HRV := Lib.hid hrv
          have HZ1 := Lib.hid (And.intro hz1 (And.intro hf1 hb1'))
          clear hz1 hf1 hb1' hbv hDL hbit hrv
          go_wp2_with fail
          refine (plus_any _ _ _ _ _ (HZ1.out.1.below ((Below.refl _ _).alloc (Nat.le_refl _) _)) (one_nat w1) (by
            have h1 := HLEN2.out
            have h2 := HRV.out
            have h3 := digs_length_mono (show m / 2 ^ (s + 1) % n + m / 2 ^ (s + 1) % n ≤ R2 by omega)
            omega) (by have h1 := digs_len2 (n := 1) (by decide); omega)).mono ?_
          rintro e w2 ⟨v2, rfl, hz2, hf2, hb2⟩
          have hba : Below w1.heap.size w1 w2 := ((Below.refl w1.heap.size w1).alloc (Nat.le_refl _) _).trans (hb2.mono (by simp))
          have HZ2 : Hid (IsNat w2 v2 R2 ∧ ∀ k, v2.ownBlock = some k → w.heap.size < k) := Lib.hid ⟨by rw [HRV.out]; exact hz2, fun k hk => Nat.lt_of_lt_of_le (HROW.out.below HZ1.out.2.2).lt (by have := hf2 k hk; simp at this; omega)⟩
          have HROW2 : Hid (HasRow w2 w.heap.size Q) := Lib.hid ((HROW.out.below HZ1.out.2.2).below hba)
          have HB2 : Hid (Below w.heap.size w w2) := Lib.hid (HB1.out.trans (hba.mono HB1.out.size))
          clear hz2 hf2 hb2 hba
          -- the rest
          have HN2 : Hid (IsNat w2 (.slice b r.length cap2) n) := Lib.hid (HG.out.below (HB2.out))
          by_cases hge : n ≤ R2
          · have hcmp := cmpN_ge hge
            go_wp2_with fail
            refine (compare_any _ _ _ _ w2 HZ2.out.1 HN2.out).mono ?_
            rintro e w3 ⟨rfl, q3, rfl⟩
            go_wp2_with fail
            refine (less_any _ _ _ _ (w2.drewN q3) (HZ2.out.1.below (below_drewN (Below.refl _ _) _)) (HN2.out.below (below_drewN (Below.refl _ _) _)) hge (by have := HLEN2.out; omega)).mono ?_
            rintro e w4 ⟨v4, rfl, hz4, hf4, hb4⟩
            have HB4 : Hid (Below w.heap.size w w4) := Lib.hid (HB2.out.trans ((below_drewN (Below.refl _ _) q3).trans (hb4.mono HB2.out.size)))
            have HROW4 : Hid (HasRow w4 w.heap.size Q) := Lib.hid ((HROW2.out.below (below_drewN (Below.refl _ _) q3)).below hb4)
            have hqs : s / 32 < Q.length := by have := HQ1.out; omega
            have hzc := HROW4.out.cell (s / 32) hqs
            have hzb := HQ2.out _ (List.getElem_mem hqs)
            have hfz := HROW4.out.frozen (s / 32)
            obtain ⟨z, hz0, hz1', hcZ, HZV⟩ : ∃ z : Int, 0 ≤ z ∧ z ≤ 4294967295 ∧ w4.cell? ⟨w.heap.size, s / 32, none⟩ = some (.int .u32 z) ∧ Hid (z = (Q.getD (s / 32) 0 : Int)) :=
              ⟨(Q[s / 32] : Int), by omega, by unfold Bse at hzb; omega, hzc, Lib.hid (by rw [getD_in Q _ hqs])⟩
            have hf5 : ∀ k, v4.ownBlock = some k → w.heap.size < k := fun k hk => Nat.lt_of_lt_of_le (HROW2.out.lt) (hf4 k hk)
            have HZ4 := Lib.hid (And.intro hz4 hf5)
            have hvQ := HV.out
            rw [show ((s : Int) + 1).toNat = s + 1 by omega] at hvQ
            obtain ⟨ho1, ho2⟩ := digit_or Q HQ2.out s _ hvQ
            have HST : Hid (bits BinOp.or IntKind.u32 z (2 ^ (s % 32) % 4294967296) = ((Q.getD (s / 32) 0 + 2 ^ (s % 32) : Nat) : Int)) := Lib.hid (by rw [two_pow_wrap _ (Nat.mod_lt _ (by decide)), bit_set z _ _ HZV.out (getD_lt HQ2.out _) (Nat.mod_lt _ (by decide)), ho1])
            have HO2 := Lib.hid ho2
            have HVQ := Lib.hid hvQ
            have hls := long_step (M := m / 2 ^ (s + 1)) (c := m / 2 ^ s % 2) hn0 (Nat.mod_lt _ (by decide))
            rw [← HM.out, ← HR2.out, if_pos hge, if_pos hge] at hls
            have HROW5 : Hid (HasRow (w4.setCell ⟨w.heap.size, s / 32, none⟩ (.int .u32 (bits BinOp.or IntKind.u32 z (2 ^ (s % 32) % 4294967296)))).drew w.heap.size (Q.set (s / 32) (Q.getD (s / 32) 0 + 2 ^ (s % 32)))) := by
              have h := HROW4.out.set (s / 32) (Q.getD (s / 32) 0 + 2 ^ (s % 32))
              rw [← HST.out] at h
              exact h
            have HR5 : Hid (IsNat (w4.setCell ⟨w.heap.size, s / 32, none⟩ (.int .u32 (bits BinOp.or IntKind.u32 z (2 ^ (s % 32) % 4294967296)))).drew v4 (m / 2 ^ ((s : Int) - 1 + 1).toNat % n)) := Lib.hid (by
              rw [show ((s : Int) - 1 + 1).toNat = s by omega, hls.1]
              exact (IsDig.set_other HZ4.out.1 _ _ (fun k hk => Nat.ne_of_gt (HZ4.out.2 k hk))).below ((Below.refl _ _).drew))
            have HV5 : Hid (val (Q.set (s / 32) (Q.getD (s / 32) 0 + 2 ^ (s % 32))) = m / 2 ^ ((s : Int) - 1 + 1).toNat / n * 2 ^ ((s : Int) - 1 + 1).toNat) := Lib.hid (by
              rw [show ((s : Int) - 1 + 1).toNat = s by omega, hls.2]
              exact set_val hqs HVQ.out)
            have HB5 : Hid (Below w.heap.size w (w4.setCell ⟨w.heap.size, s / 32, none⟩ (.int .u32 (bits BinOp.or IntKind.u32 z (2 ^ (s % 32) % 4294967296)))).drew) := Lib.hid ((HB4.out.setCell (Nat.le_refl _) _).drew)
            have HQ15 : Hid ((Q.set (s / 32) (Q.getD (s / 32) 0 + 2 ^ (s % 32))).length = l.length) := Lib.hid (by rw [List.length_set]; exact HQ1.out)
            have HQ25 : Hid (∀ d ∈ Q.set (s / 32) (Q.getD (s / 32) 0 + 2 ^ (s % 32)), d < Bse) := Lib.hid (set_lt HQ2.out ho2 _)
            have HF5 := Lib.hid hf5
            clear hzc hzb hz4 hf4 hb4 hf5 ho1 ho2 hvQ hls
            go_wp2
            go_region
            go_wp2
            go_roundw
            case rel => exact ⟨(s : Int) - 1, _, by omega, by omega, rfl, HQ15, HQ25, HROW5, HR5, HF5, HV5, HB5⟩
            case measure => simp [intOf]
          · have hcmp := cmpN_lt (Nat.lt_of_not_le hge)
            go_wp2_with fail
            refine (compare_any _ _ _ _ w2 HZ2.out.1 HN2.out).mono ?_
            rintro e w3 ⟨rfl, q3, rfl⟩
            have hls := long_step (M := m / 2 ^ (s + 1)) (c := m / 2 ^ s % 2) hn0 (Nat.mod_lt _ (by decide))
            rw [← HM.out, ← HR2.out, if_neg hge, if_neg hge] at hls
            have HR4 : Hid (IsNat (w2.drewN q3) v2 (m / 2 ^ ((s : Int) - 1 + 1).toNat % n)) := Lib.hid (by rw [show ((s : Int) - 1 + 1).toNat = s by omega, hls.1]; exact HZ2.out.1.below (below_drewN (Below.refl _ _) _))
            have HV4 : Hid (val Q = m / 2 ^ ((s : Int) - 1 + 1).toNat / n * 2 ^ ((s : Int) - 1 + 1).toNat) := Lib.hid (by
              have hvQ := HV.out
              rw [show ((s : Int) + 1).toNat = s + 1 by omega] at hvQ
              rw [show ((s : Int) - 1 + 1).toNat = s by omega, hls.2, hvQ, Nat.pow_succ]
              exact dbl0 _ _)
            clear hls
            go_wp2
            go_roundw
            case rel => exact ⟨(s : Int) - 1, Q, by omega, by omega, rfl, HQ1, HQ2, Lib.hid (HROW2.out.below (below_drewN (Below.refl _ _) q3)), HR4, Lib.hid HZ2.out.2, HV4, Lib.hid (below_drewN HB2.out q3)⟩
            case measure => simp [intOf]
        · have hb1 : (bits BinOp.and IntKind.u32 (x / 2 ^ (s % 32)) 1 == 1) = false := by rw [hbv, show m / 2 ^ s % 2 = 0 by omega]; rfl
          have HZ2 : Hid (IsNat w1 v1 R2 ∧ ∀ k, v1.ownBlock = some k → w.heap.size < k) := Lib.hid ⟨by have h := HR2.out; rw [show R2 = m / 2 ^ (s + 1) % n + m / 2 ^ (s + 1) % n by omega]; exact hz1, fun k hk => Nat.lt_of_lt_of_le HROW.out.lt (hf1 k hk)⟩
          have HROW2 : Hid (HasRow w1 w.heap.size Q) := Lib.hid (HROW.out.below hb1')
          have HB2 : Hid (Below w.heap.size w w1) := HB1
          clear hz1 hf1 hb1' hbv hDL hbit
          -- the rest
          have HN2 : Hid (IsNat w1 (.slice b r.length cap2) n) := Lib.hid (HG.out.below (HB2.out))
          by_cases hge : n ≤ R2
          · have hcmp := cmpN_ge hge
            go_wp2_with fail
            refine (compare_any _ _ _ _ w1 HZ2.out.1 HN2.out).mono ?_
            rintro e w3 ⟨rfl, q3, rfl⟩
            go_wp2_with fail
            refine (less_any _ _ _ _ (w1.drewN q3) (HZ2.out.1.below (below_drewN (Below.refl _ _) _)) (HN2.out.below (below_drewN (Below.refl _ _) _)) hge (by have := HLEN2.out; omega)).mono ?_
            rintro e w4 ⟨v4, rfl, hz4, hf4, hb4⟩
            have HB4 : Hid (Below w.heap.size w w4) := Lib.hid (HB2.out.trans ((below_drewN (Below.refl _ _) q3).trans (hb4.mono HB2.out.size)))
            have HROW4 : Hid (HasRow w4 w.heap.size Q) := Lib.hid ((HROW2.out.below (below_drewN (Below.refl _ _) q3)).below hb4)
            have hqs : s / 32 < Q.length := by have := HQ1.out; omega
            have hzc := HROW4.out.cell (s / 32) hqs
            have hzb := HQ2.out _ (List.getElem_mem hqs)
            have hfz := HROW4.out.frozen (s / 32)
            obtain ⟨z, hz0, hz1', hcZ, HZV⟩ : ∃ z : Int, 0 ≤ z ∧ z ≤ 4294967295 ∧ w4.cell? ⟨w.heap.size, s / 32, none⟩ = some (.int .u32 z) ∧ Hid (z = (Q.getD (s / 32) 0 : Int)) :=
              ⟨(Q[s / 32] : Int), by omega, by unfold Bse at hzb; omega, hzc, Lib.hid (by rw [getD_in Q _ hqs])⟩
            have hf5 : ∀ k, v4.ownBlock = some k → w.heap.size < k := fun k hk => Nat.lt_of_lt_of_le (HROW2.out.lt) (hf4 k hk)
            have HZ4 := Lib.hid (And.intro hz4 hf5)
            have hvQ := HV.out
            rw [show ((s : Int) + 1).toNat = s + 1 by omega] at hvQ
            obtain ⟨ho1, ho2⟩ := digit_or Q HQ2.out s _ hvQ
            have HST : Hid (bits BinOp.or IntKind.u32 z (2 ^ (s % 32) % 4294967296) = ((Q.getD (s / 32) 0 + 2 ^ (s % 32) : Nat) : Int)) := Lib.hid (by rw [two_pow_wrap _ (Nat.mod_lt _ (by decide)), bit_set z _ _ HZV.out (getD_lt HQ2.out _) (Nat.mod_lt _ (by decide)), ho1])
            have HO2 := Lib.hid ho2
            have HVQ := Lib.hid hvQ
            have hls := long_step (M := m / 2 ^ (s + 1)) (c := m / 2 ^ s % 2) hn0 (Nat.mod_lt _ (by decide))
            rw [← HM.out, ← HR2.out, if_pos hge, if_pos hge] at hls
            have HROW5 : Hid (HasRow (w4.setCell ⟨w.heap.size, s / 32, none⟩ (.int .u32 (bits BinOp.or IntKind.u32 z (2 ^ (s % 32) % 4294967296)))).drew w.heap.size (Q.set (s / 32) (Q.getD (s / 32) 0 + 2 ^ (s % 32)))) := by
              have h := HROW4.out.set (s / 32) (Q.getD (s / 32) 0 + 2 ^ (s % 32))
              rw [← HST.out] at h
              exact h
            have HR5 : Hid (IsNat (w4.setCell ⟨w.heap.size, s / 32, none⟩ (.int .u32 (bits BinOp.or IntKind.u32 z (2 ^ (s % 32) % 4294967296)))).drew v4 (m / 2 ^ ((s : Int) - 1 + 1).toNat % n)) := Lib.hid (by
              rw [show ((s : Int) - 1 + 1).toNat = s by omega, hls.1]
              exact (IsDig.set_other HZ4.out.1 _ _ (fun k hk => Nat.ne_of_gt (HZ4.out.2 k hk))).below ((Below.refl _ _).drew))
            have HV5 : Hid (val (Q.set (s / 32) (Q.getD (s / 32) 0 + 2 ^ (s % 32))) = m / 2 ^ ((s : Int) - 1 + 1).toNat / n * 2 ^ ((s : Int) - 1 + 1).toNat) := Lib.hid (by
              rw [show ((s : Int) - 1 + 1).toNat = s by omega, hls.2]
              exact set_val hqs HVQ.out)
            have HB5 : Hid (Below w.heap.size w (w4.setCell ⟨w.heap.size, s / 32, none⟩ (.int .u32 (bits BinOp.or IntKind.u32 z (2 ^ (s % 32) % 4294967296)))).drew) := Lib.hid ((HB4.out.setCell (Nat.le_refl _) _).drew)
            have HQ15 : Hid ((Q.set (s / 32) (Q.getD (s / 32) 0 + 2 ^ (s % 32))).length = l.length) := Lib.hid (by rw [List.length_set]; exact HQ1.out)
            have HQ25 : Hid (∀ d ∈ Q.set (s / 32) (Q.getD (s / 32) 0 + 2 ^ (s % 32)), d < Bse) := Lib.hid (set_lt HQ2.out ho2 _)
            have HF5 := Lib.hid hf5
            clear hzc hzb hz4 hf4 hb4 hf5 ho1 ho2 hvQ hls
            go_wp2
            go_region
            go_wp2
            go_roundw
            case rel => exact ⟨(s : Int) - 1, _, by omega, by omega, rfl, HQ15, HQ25, HROW5, HR5, HF5, HV5, HB5⟩
            case measure => simp [intOf]
          · have hcmp := cmpN_lt (Nat.lt_of_not_le hge)
            go_wp2_with fail
            refine (compare_any _ _ _ _ w1 HZ2.out.1 HN2.out).mono ?_
            rintro e w3 ⟨rfl, q3, rfl⟩
            have hls := long_step (M := m / 2 ^ (s + 1)) (c := m / 2 ^ s % 2) hn0 (Nat.mod_lt _ (by decide))
            rw [← HM.out, ← HR2.out, if_neg hge, if_neg hge] at hls
            have HR4 : Hid (IsNat (w1.drewN q3) v1 (m / 2 ^ ((s : Int) - 1 + 1).toNat % n)) := Lib.hid (by rw [show ((s : Int) - 1 + 1).toNat = s by omega, hls.1]; exact HZ2.out.1.below (below_drewN (Below.refl _ _) _))
            have HV4 : Hid (val Q = m / 2 ^ ((s : Int) - 1 + 1).toNat / n * 2 ^ ((s : Int) - 1 + 1).toNat) := Lib.hid (by
              have hvQ := HV.out
              rw [show ((s : Int) + 1).toNat = s + 1 by omega] at hvQ
              rw [show ((s : Int) - 1 + 1).toNat = s by omega, hls.2, hvQ, Nat.pow_succ]
              exact dbl0 _ _)
            clear hls
            go_wp2
            go_roundw
            case rel => exact ⟨(s : Int) - 1, Q, by omega, by omega, rfl, HQ1, HQ2, Lib.hid (HROW2.out.below (below_drewN (Below.refl _ _) q3)), HR4, Lib.hid HZ2.out.2, HV4, Lib.hid (below_drewN HB2.out q3)⟩
            case measure => simp [intOf]

set_option maxRecDepth 100000 in
set_option maxHeartbeats 800000 in
theorem divided_short (a b : Option Addr) (cap cap2 la lb : Nat) (m n : Nat) (hn0 : n ≠ 0) (hm : m < 18446744073709551616) (hn : n < 18446744073709551616) (hla : la ≤ 2) (hlb : lb ≤ 2) (w : World) (h : IsNat w (.slice a la cap) m) (g : IsNat w (.slice b lb cap2) n) :
    Calls Try.prog 47 #[.slice a la cap, .slice b lb cap2] w fun e w' => ∃ z1 z2, e = .returned (.tuple #[z1, z2]) ∧ IsNat w' z1 (m / n) ∧ IsNat w' z2 (m % n) ∧ Below w.heap.size w w' := by
  have HH := Lib.hid (And.intro h g)
  have HM := Lib.hid (And.intro hm hn)
  have h1 : (la : Int) ≤ 2 := by omega
  have h2 : (lb : Int) ≤ 2 := by omega
  have hne : ((n : Int) == 0) = false := by simp; omega
  have HQ : Hid (m / n ≤ m ∧ m % n < n) := Lib.hid ⟨Nat.div_le_self _ _, Nat.mod_lt _ (by omega)⟩
  have HW1 : Hid (IntKind.u64.wrap ((m : Int) / (n : Int)) = ((m / n : Nat) : Int)) := Lib.hid (by
    rw [← Int.natCast_ediv, IntKind.wrap_u64]
    have := HQ.out.1
    generalize m / n = q at this
    omega)
  have HW3 : Hid (((m : Int) % (n : Int)) = ((m % n : Nat) : Int)) := Lib.hid (by rw [Int.natCast_emod])
  have HNB : Hid (((m / n : Nat) : Int) ≤ 18446744073709551615 ∧ ((m % n : Nat) : Int) ≤ 18446744073709551615) := Lib.hid (by
    have h1 := HQ.out.1
    have h2 := HQ.out.2
    generalize m / n = q at h1 ⊢
    generalize m % n = q2 at h2 ⊢
    omega)
  clear h g hm hn hla hlb
  go_enter Try.func47, Try.ntmps47
  go_wp2_with fail
  refine (short_any _ m HM.out.1 w HH.out.1).mono ?_
  rintro e w' ⟨rfl, rfl⟩
  go_wp2_with fail
  refine (short_any _ n HM.out.2 w HH.out.2).mono ?_
  rintro e w' ⟨rfl, rfl⟩
  go_wp2_with fail
  rw [HW1.out]
  refine (natural_any _ (Int.natCast_nonneg _) HNB.out.1 w).mono ?_
  rintro e w1 ⟨v1, rfl, hz1, hown1, hb1⟩
  have HZ1 := Lib.hid (And.intro hz1 hb1)
  clear hz1 hown1 hb1
  go_wp2_with fail
  refine (short_any _ m HM.out.1 w1 (HH.out.1.below HZ1.out.2)).mono ?_
  rintro e w' ⟨rfl, rfl⟩
  go_wp2_with fail
  refine (short_any _ n HM.out.2 w1 (HH.out.2.below HZ1.out.2)).mono ?_
  rintro e w' ⟨rfl, rfl⟩
  go_wp2_with fail
  rw [HW3.out]
  refine (natural_any _ (Int.natCast_nonneg _) HNB.out.2 w1).mono ?_
  rintro e w2 ⟨v2, rfl, hz2, hown2, hb2⟩
  go_wp2
  go_ret2
  rw [Int.toNat_natCast] at hz2
  have hz1 := HZ1.out.1
  rw [Int.toNat_natCast] at hz1
  exact ⟨_, _, rfl, hz1.below hb2, hz2, HZ1.out.2.trans (hb2.mono HZ1.out.2.size)⟩

theorem divided_any (v u : Value) (m n : Nat) (hn0 : n ≠ 0) (w : World) (h : IsNat w v m) (g : IsNat w u n) (hlm : ((digs m).length : Int) ≤ 100000000) (hln : ((digs n).length : Int) ≤ 100000000) :
    Calls Try.prog 47 #[v, u] w fun e w' => ∃ z1 z2, e = .returned (.tuple #[z1, z2]) ∧ IsNat w' z1 (m / n) ∧ IsNat w' z2 (m % n) ∧ Below w.heap.size w w' := by
  obtain ⟨a, cap, rfl⟩ := IsDig.len h
  obtain ⟨b, cap2, rfl⟩ := IsDig.len g
  by_cases hc : (digs m).length ≤ 2 ∧ (digs n).length ≤ 2
  · have e : Bse ^ 2 = 18446744073709551616 := by decide
    exact divided_short a b cap cap2 _ _ m n hn0 (by rw [← e]; exact digs_length_le_iff.1 hc.1) (by rw [← e]; exact digs_length_le_iff.1 hc.2) hc.1 hc.2 w h g
  · exact divided_long a b cap cap2 _ _ m n hn0 (by omega) w rfl rfl h g hlm hln

theorem isNat_len {w : World} {a : Option Addr} {n cap m : Nat} (h : IsNat w (.slice a n cap) m) : n = (digs m).length := by
  obtain ⟨a', cap', hv, _⟩ := h
  simp only [Value.slice.injEq] at hv
  exact hv.2.1

set_option maxRecDepth 100000 in
set_option maxHeartbeats 800000 in
theorem divisor_any (v u : Value) (m n : Nat) (w : World) (h : IsNat w v m) (g : IsNat w u n) (hlm : ((digs m).length : Int) ≤ 100000000) (hln : ((digs n).length : Int) ≤ 100000000) :
    Calls Try.prog 46 #[v, u] w fun e w' => ∃ z, e = .returned z ∧ IsNat w' z (Nat.gcd m n) ∧ Below w.heap.size w w' := by
  have HH := Lib.hid (And.intro h (And.intro g (And.intro hlm hln)))
  clear h g hlm hln
  go_enter Try.func46, Try.ntmps46
  go_wp2
  go_loopg [0, 1] n (fun gk x y wr => ∃ (p la lb ca cb : Nat) (a b : Option Addr), x = .slice a la ca ∧ y = .slice b lb cb ∧ Hid (IsNat wr (.slice a la ca) p) ∧ Hid (IsNat wr (.slice b lb cb) gk) ∧ Hid (((digs p).length : Int) ≤ 100000000 ∧ ((digs gk).length : Int) ≤ 100000000) ∧ Hid (Nat.gcd p gk = Nat.gcd m n) ∧ Hid (Below w.heap.size w wr))
  case atStart =>
    obtain ⟨h, g, hlm, hln⟩ := HH.out
    obtain ⟨a, ca, hv⟩ := IsDig.len h
    obtain ⟨b, cb, hu⟩ := IsDig.len g
    exact ⟨m, _, _, ca, cb, a, b, hv, hu, Lib.hid (hv ▸ h), Lib.hid (hu ▸ g), Lib.hid ⟨hlm, hln⟩, Lib.hid rfl, Lib.hid (Below.refl _ _)⟩
  case round =>
    obtain ⟨p, la, lb, ca, cb, a, b, rfl, rfl, H1, H2, HL, HGC, HB⟩ := hrel
    have hlb := isNat_len H2.out
    by_cases h0 : gk = 0
    · have hz : lb = 0 := by rw [hlb, h0, digs_zero]; rfl
      have HG0 := Lib.hid h0
      clear hlb h0
      subst hz
      go_wp2
      go_ret
      exact ⟨_, rfl, by have h := HGC.out; rw [HG0.out, Nat.gcd_zero_right] at h; rw [← h]; exact H1.out, HB.out⟩
    · have hz : (0 : Int) < (lb : Int) := by have := digs_length_pos.2 h0; omega
      have hmod : p % gk < gk := Nat.mod_lt _ (by omega)
      have HM := Lib.hid hmod
      have H0 := Lib.hid h0
      clear hlb h0 hmod
      go_wp2_with fail
      refine (divided_any _ _ p gk H0.out wr H1.out H2.out HL.out.1 HL.out.2).mono ?_
      rintro e w1 ⟨z1, z2, rfl, hz1, hz2, hb1⟩
      obtain ⟨a2, c2, hv2⟩ := IsDig.len hz2
      rw [hv2] at hz2
      have HV2 := Lib.hid hv2
      have HZ2 := Lib.hid (And.intro hz2 hb1)
      clear hz1 hz2 hb1 hv2
      go_wp2
      go_roundg (p % gk)
      case measure => exact HM.out
      case rel => exact ⟨gk, lb, _, cb, c2, b, a2, rfl, HV2.out, Lib.hid (H2.out.below HZ2.out.2), Lib.hid HZ2.out.1, Lib.hid ⟨HL.out.2, by have := HL.out.2; have := digs_length_mono (Nat.le_of_lt HM.out); omega⟩, Lib.hid (by rw [← HGC.out, Nat.gcd_comm gk (p % gk), ← Nat.gcd_rec, Nat.gcd_comm]), Lib.hid (HB.out.trans (HZ2.out.2.mono HB.out.size))⟩

end Go.Proofs.Ytpghhfobaionkaa

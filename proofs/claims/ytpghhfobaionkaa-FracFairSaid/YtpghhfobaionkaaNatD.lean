/- The reference's times. -/
import Derived.Test.YtpghhfobaionkaaNatA
namespace Go.Proofs.Ytpghhfobaionkaa
open Go.RowKit

theorem val_set (l : List Nat) (j x : Nat) (h : j < l.length) : val (l.set j x) + Bse ^ j * l.getD j 0 = val l + Bse ^ j * x := by
  have hs : j < (l.set j x).length := by rw [List.length_set]; exact h
  have e1 := val_take_drop (l.set j x) (j + 1) (by omega)
  have e2 := val_take_drop l (j + 1) (by omega)
  rw [val_take_succ _ _ hs] at e1
  rw [val_take_succ _ _ h] at e2
  have e3 : (l.set j x).take j = l.take j := by rw [List.take_set_of_le (Nat.le_refl _)]
  have e4 : (l.set j x).drop (j + 1) = l.drop (j + 1) := by rw [List.drop_set_of_lt (by omega)]
  rw [e3, e4, List.getElem_set_self] at e1
  rw [getD_in l j h]
  omega

theorem set_lt {l : List Nat} (h : ∀ d ∈ l, d < Bse) {x : Nat} (hx : x < Bse) (j : Nat) : ∀ d ∈ l.set j x, d < Bse := by
  intro d hd
  rcases List.mem_or_eq_of_mem_set hd with h1 | h1
  · exact h d h1
  · subst h1; exact hx

theorem getD_set_ne (l : List Nat) (i j x : Nat) (h : i ≠ j) : (l.set i x).getD j 0 = l.getD j 0 := by
  simp [List.getD, h]

/-- One step of the inner loop. A: what was there; X: the digit by which is multiplied. -/
theorem times_step {l rb : List Nat} {p k c x t : Nat} {A X : Nat} (hp : p < l.length) (hinv : val l + c * Bse ^ p = A + X * val (rb.take k)) (hX : X = x * Bse ^ (p - k)) (hk : k ≤ p) (ht : t = c + (l.getD p 0 + x * rb.getD k 0)) :
    val (l.set p (t % Bse)) + t / Bse * Bse ^ (p + 1) = A + X * val (rb.take (k + 1)) := by
  have h1 := val_set l p (t % Bse) hp
  have h2 : Bse ^ p * (t % Bse) + Bse ^ p * Bse * (t / Bse) = Bse ^ p * t := by
    rw [Nat.mul_assoc, ← Nat.mul_add, Nat.mod_add_div]
  have h3 : Bse ^ p * t = Bse ^ p * c + Bse ^ p * l.getD p 0 + Bse ^ p * (x * rb.getD k 0) := by rw [ht, Nat.mul_add, Nat.mul_add]; omega
  have h4 : X * (Bse ^ k * rb.getD k 0) = Bse ^ p * (x * rb.getD k 0) := by
    rw [hX, show Bse ^ p = Bse ^ (p - k) * Bse ^ k by rw [← Nat.pow_add]; congr 1; omega]
    grind
  have h5 : t / Bse * Bse ^ (p + 1) = Bse ^ p * Bse * (t / Bse) := by rw [Nat.pow_succ, Nat.mul_comm]
  have h6 : c * Bse ^ p = Bse ^ p * c := Nat.mul_comm _ _
  rw [val_take_getD, Nat.mul_add, h4, h5]
  omega

theorem val_zeros (n : Nat) : val (List.replicate n 0) = 0 := by
  induction n with
  | zero => rfl
  | succ n ih => rw [List.replicate_succ, val, ih]; rfl

theorem getD_zeros (n j : Nat) : (List.replicate n 0).getD j 0 = 0 := by simp [List.getD, List.getElem?_replicate]; split <;> rfl

set_option maxRecDepth 100000 in
set_option maxHeartbeats 1600000 in
theorem times_any (v u : Value) (m n : Nat) (w : World) (h : IsNat w v m) (g : IsNat w u n) (hlm : ((digs m).length : Int) ≤ 1000000000) (hln : ((digs n).length : Int) ≤ 1000000000) :
    Calls Try.prog 35 #[v, u] w fun e w' => ∃ z, e = .returned z ∧ IsNat w' z (m * n) ∧ (∀ k, z.ownBlock = some k → w.heap.size ≤ k) ∧ Below w.heap.size w w' := by
  obtain ⟨a, cap, rfl⟩ := IsDig.len h
  obtain ⟨b, cap2, rfl⟩ := IsDig.len g
  obtain ⟨_, h1, h2, h3⟩ := IsDig.open_some h
  obtain ⟨_, g1, g2, g3⟩ := IsDig.open_some g
  have hdm := digs_lt m
  have hdn := digs_lt n
  have hvm := Lib.hid (val_digs m)
  have hvn := Lib.hid (val_digs n)
  revert h g h1 g1 h2 g2 h3 g3 hdm hdn hvm hvn hlm hln
  generalize digs m = l
  generalize digs n = r
  intro hlm hln h g h1 h2 h3 g1 g2 g3 hdm hdn hvm hvn
  clear h g h1 h2 g1 g2
  have HDM := Lib.hid hdm
  have HDN := Lib.hid hdn
  have H3 := Lib.hid h3
  have G3 := Lib.hid g3
  clear hdm hdn h3 g3
  have hmk := run_make_u32 (l.length + r.length + 1) (by omega) w
  simp only [Int.natCast_add, Int.natCast_one] at hmk
  have hrow0 := HasRow.made w (l.length + r.length + 1)
  have hB0 : Below w.heap.size w (w.alloc (zeroRow (l.length + r.length + 1))) := (Below.refl _ _).alloc (Nat.le_refl _) _
  have HZ : Hid (∃ L : List Nat, L.length = l.length + r.length + 1 ∧ (∀ d ∈ L, d < Bse) ∧ HasRow (w.alloc (zeroRow (l.length + r.length + 1))) w.heap.size L ∧ val L = 0 ∧ ∀ j, L.getD j 0 = 0) := Lib.hid ⟨_, List.length_replicate, by simp [Bse], hrow0, val_zeros _, getD_zeros _⟩
  have HB0 := Lib.hid hB0
  clear hrow0 hB0
  go_enter Try.func35, Try.ntmps35
  go_wp2
  go_loopw [20] (fun i wr => ∃ (k : Nat) (L : List Nat), k ≤ l.length ∧ i = .int .i64 k ∧ Hid (L.length = l.length + r.length + 1) ∧ Hid (∀ d ∈ L, d < Bse) ∧ HasRow wr w.heap.size L ∧ Hid (val L = val (l.take k) * n) ∧ Hid (∀ j, k + r.length ≤ j → L.getD j 0 = 0) ∧ Hid (Below w.heap.size w wr)) (fun i _ => l.length - (intOf i).toNat)
  case atStart =>
    obtain ⟨L, q1, q2, q3, q4, q5⟩ := HZ.out
    exact ⟨0, L, Nat.zero_le _, rfl, q1, q2, q3, by unfold Hid; rw [q4, List.take_zero]; simp [val], fun j _ => q5 j, HB0.out⟩
  case round =>
    obtain ⟨k, L, hk, rfl, HL1, HL2, hrow, HV, HT, HB⟩ := hrel
    by_cases hA : k < l.length
    · obtain ⟨ga, hae, hga, hca⟩ := H3.out.resolve_left (fun h => by rw [h] at hA; exact absurd hA (Nat.not_lt_zero _))
      subst hae
      obtain ⟨x, hx0, hx1, hcA, HXV⟩ := dig_at HDM.out hA HB.out hga (hca k hA)
      clear hca
      have HROW := Lib.hid hrow
      clear hrow
      go_wp2
      obtain ⟨wo, rfl⟩ : ∃ wo : World, wo = wr := ⟨_, rfl⟩
      go_loopw [8, 27] (fun c i wr => ∃ (q : Nat) (ci : Int) (L : List Nat), q ≤ r.length ∧ i = .int .i64 q ∧ c = .int .u64 ci ∧ 0 ≤ ci ∧ ci ≤ 4294967295 ∧ Hid (L.length = l.length + r.length + 1) ∧ Hid (∀ d ∈ L, d < Bse) ∧ Hid (HasRow wr w.heap.size L) ∧
        Hid (val L + ci.toNat * Bse ^ (k + q) = val (l.take k) * n + (l.getD k 0 * Bse ^ k) * val (r.take q)) ∧ Hid (∀ j, k + r.length ≤ j → L.getD j 0 = 0) ∧ Hid (Below w.heap.size w wr)) (fun _ i _ => r.length - (intOf i).toNat)
      case atStart => exact ⟨0, 0, L, Nat.zero_le _, rfl, rfl, by omega, by omega, HL1, HL2, HROW, by unfold Hid; rw [HV.out, List.take_zero]; simp [val], HT, HB⟩
      case round =>
        clear HL1 HL2 HROW HV HT HB
        obtain ⟨q, c, L, hq, rfl, rfl, hc0, hc1, HL1, HL2, HROW, HV, HT, HB⟩ := hrel
        by_cases hB1 : q < r.length
        · obtain ⟨gb, hbe, hgb, hcb⟩ := G3.out.resolve_left (fun h => by rw [h] at hB1; exact absurd hB1 (Nat.not_lt_zero _))
          subst hbe
          obtain ⟨y, hy0, hy1, hcB, HYV⟩ := dig_at HDN.out hB1 HB.out hgb (hcb q hB1)
          clear hcb
          have hkL : k + q < L.length := by have := HL1.out; omega
          have hzc := HROW.out.cell (k + q) hkL
          have hfz := HROW.out.frozen (k + q)
          have hzb := HL2.out _ (List.getElem_mem hkL)
          obtain ⟨z, hz0, hz1, hcZ, HZV⟩ : ∃ z : Int, 0 ≤ z ∧ z ≤ 4294967295 ∧ wr.cell? ⟨w.heap.size, k + q, none⟩ = some (.int .u32 z) ∧ Hid (z = (L.getD (k + q) 0 : Int)) :=
            ⟨(L[k + q] : Int), by omega, by unfold Bse at hzb; omega, hzc, Lib.hid (by rw [getD_in L _ hkL])⟩
          clear hzc hzb
          have hp0 : 0 ≤ x * y := Int.mul_nonneg hx0 hy0
          have hp1 : x * y ≤ 18446744065119617025 := by
            have h1 : x * y ≤ 4294967295 * y := Int.mul_le_mul_of_nonneg_right hx1 hy0
            omega
          have hkq : ((k : Int) + (q : Int)).toNat = k + q := by omega
          have hT0 : 0 ≤ c + (z + x * y) := by omega
          have hT1 : c + (z + x * y) ≤ 18446744073709551615 := by omega
          have HWR : Hid (IntKind.u32.wrap (c + (z + x * y)) = (((c + (z + x * y)).toNat % Bse : Nat) : Int)) := Lib.hid (by rw [IntKind.wrap_u32]; unfold Bse; omega)
          have HROW2 : Hid (HasRow (wr.setCell ⟨w.heap.size, k + q, none⟩ (.int .u32 (IntKind.u32.wrap (c + (z + x * y))))) w.heap.size (L.set (k + q) ((c + (z + x * y)).toNat % Bse))) := by
            unfold Hid; rw [HWR.out]; exact HROW.out.set _ _
          have HL12 : Hid ((L.set (k + q) ((c + (z + x * y)).toNat % Bse)).length = l.length + r.length + 1) := by unfold Hid; rw [List.length_set]; exact HL1.out
          have HL22 : Hid (∀ d ∈ L.set (k + q) ((c + (z + x * y)).toNat % Bse), d < Bse) := Lib.hid (set_lt HL2.out (Nat.mod_lt _ Bse_pos) _)
          have HT2 : Hid (∀ j, k + r.length ≤ j → (L.set (k + q) ((c + (z + x * y)).toNat % Bse)).getD j 0 = 0) := Lib.hid (fun j hj => by rw [getD_set_ne _ _ _ _ (by omega)]; exact HT.out j hj)
          have HB2 : Hid (Below w.heap.size w (wr.setCell ⟨w.heap.size, k + q, none⟩ (.int .u32 (IntKind.u32.wrap (c + (z + x * y)))))) := Lib.hid (HB.out.setCell (Nat.le_refl _) _)
          have HV2 : Hid (val (L.set (k + q) ((c + (z + x * y)).toNat % Bse)) + ((c + (z + x * y)) / 4294967296).toNat * Bse ^ (k + (q + 1)) = val (l.take k) * n + (l.getD k 0 * Bse ^ k) * val (r.take (q + 1))) := by
            have e1 : ((c + (z + x * y)) / 4294967296).toNat = (c + (z + x * y)).toNat / Bse := by unfold Bse; omega
            have e2 : (c + (z + x * y)).toNat = c.toNat + (L.getD (k + q) 0 + l.getD k 0 * r.getD q 0) := by
              have a1 := HXV.out; have a2 := HYV.out; have a3 := HZV.out
              have a4 : x * y = ((l.getD k 0 * r.getD q 0 : Nat) : Int) := by rw [a1, a2, Int.natCast_mul]
              omega
            unfold Hid
            rw [e1]
            exact times_step hkL HV.out (x := l.getD k 0) (by rw [show k + q - q = k by omega]) (by omega) e2
          clear HROW HL1 HL2 HT HB HV
          go_wp2
          go_roundw
          case rel => exact ⟨q + 1, _, _, by omega, by go_num, rfl, by omega, by omega, HL12, HL22, HROW2, HV2, HT2, HB2⟩
          case measure => simp [intOf]; omega
        · have hql : q = r.length := by omega
          have hkL : k + r.length < L.length := by have := HL1.out; omega
          have hfz := HROW.out.frozen (k + r.length)
          have hzc := HROW.out.cell (k + r.length) hkL
          obtain ⟨z, hcZ⟩ : ∃ z : Int, wr.cell? ⟨w.heap.size, k + r.length, none⟩ = some (.int .u32 z) := ⟨_, hzc⟩
          clear hzc
          have hkq : ((k : Int) + (r.length : Int)).toNat = k + r.length := by omega
          have HWR : Hid (c = ((c.toNat : Nat) : Int)) := Lib.hid (by omega)
          have HROW2 : Hid (HasRow (wr.setCell ⟨w.heap.size, k + r.length, none⟩ (.int .u32 c)) w.heap.size (L.set (k + r.length) c.toNat)) := by
            have h := HROW.out.set (k + r.length) c.toNat
            rw [← HWR.out] at h
            exact h
          have HL12 : Hid ((L.set (k + r.length) c.toNat).length = l.length + r.length + 1) := by unfold Hid; rw [List.length_set]; exact HL1.out
          have HL22 : Hid (∀ d ∈ L.set (k + r.length) c.toNat, d < Bse) := Lib.hid (set_lt HL2.out (by unfold Bse; omega) _)
          have HT2 : Hid (∀ j, (k + 1) + r.length ≤ j → (L.set (k + r.length) c.toNat).getD j 0 = 0) := Lib.hid (fun j hj => by rw [getD_set_ne _ _ _ _ (by omega)]; exact HT.out j (by omega))
          have HB2 : Hid (Below w.heap.size w (wr.setCell ⟨w.heap.size, k + r.length, none⟩ (.int .u32 c))) := Lib.hid (HB.out.setCell (Nat.le_refl _) _)
          have HV2 : Hid (val (L.set (k + r.length) c.toNat) = val (l.take (k + 1)) * n) := by
            have e1 := val_set L (k + r.length) c.toNat hkL
            rw [HT.out _ (Nat.le_refl _)] at e1
            have e2 := HV.out
            rw [hql, List.take_length, hvn.out] at e2
            unfold Hid
            rw [val_take_getD, Nat.add_mul]
            have e3 : Bse ^ k * l.getD k 0 * n = l.getD k 0 * Bse ^ k * n := by rw [Nat.mul_comm (Bse ^ k)]
            have e4 : Bse ^ (k + r.length) * c.toNat = c.toNat * Bse ^ (k + r.length) := Nat.mul_comm _ _
            omega
          clear HROW HL1 HL2 HT HB HV hql
          go_wp2
          go_roundw
          case rel => exact ⟨k + 1, _, by omega, by go_num, HL12, HL22, HROW2.out, HV2, HT2, HB2⟩
          case measure => simp [intOf]; omega
    · have hkl : k = l.length := by omega
      have hdig := IsDig.of_row hrow (by have := HL1.out; unfold maxLen; omega)
      have HKL := Lib.hid hkl
      clear hkl
      have HD := Lib.hid hdig
      clear hdig
      go_wp2_with fail
      refine (trimmed_n _ L _ _ HL1.out.symm HL2.out wr (by have := HD.out; rw [HL1.out] at this; rw [HL1.out]; exact this)).mono ?_
      rintro e w1 ⟨kz, rfl, hz, rfl⟩
      go_wp2
      go_ret
      have hv := HV.out
      rw [HKL.out, List.take_length, hvm.out] at hv
      exact ⟨_, rfl, by rw [← hv]; exact hz, fun j hj => by simp [Value.ownBlock] at hj; omega, HB.out⟩

end Go.Proofs.Ytpghhfobaionkaa

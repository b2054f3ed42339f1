/- The reference's Share without an error. -/
import Derived.Test.YtpghhfobaionkaaSsO
namespace Go.Proofs.Ytpghhfobaionkaa
open Go.RowKit

/-- Has the position got one already? -/
def mrkB (f : Nat → Int) (k p : Nat) : Bool := mrk f k p == 1
theorem mrkB_step {f : Nat → Int} {k : Nat} (hr : 0 ≤ f k) : ∀ p, (if p = (f k).toNat then true else mrkB f k p) = mrkB f (k + 1) p := fun p => by
  unfold mrkB
  by_cases e : p = (f k).toNat
  · rw [if_pos e, mrk_self (by omega)]; rfl
  · rw [if_neg e, mrk_other (by omega)]

/-- How the reference's Share ends, given the order of the positions. -/
def RshP (n : Int) (zs : List Int) (f : Nat → Int) (L : Nat) (w : World) (e : Ending) (w' : World) : Prop :=
  ∃ g : Nat, e = .returned (.tuple #[.slice (some ⟨g, 0, none⟩) zs.length zs.length, .int .i64 0]) ∧ Hid (w.heap.size ≤ g ∧ w'.heap[g]? = some (.cells (arrC zs.length (shr n zs.sum zs f L)) 3 (0, 0))) ∧ Below w.heap.size w w'

set_option maxRecDepth 100000 in
set_option maxHeartbeats 12800000 in
theorem rshare_ok (a : Option Addr) (cap : Nat) (zs : List Int) (n : Int) (f : Nat → Int) (L : Nat) (hz : shrE n zs = 0) (hE : Enum (keyOf n zs.sum zs) zs.length f) (hL : lft n zs.sum zs = L) (hLN : L ≤ zs.length) (w : World) (h : IntS w a zs) :
    Calls Try.prog 10 #[.int .i64 n, .slice a zs.length cap] w (RshP n zs f L w) := by
  obtain ⟨hlen, n0, n1, hw, hs0⟩ := shrE_ok hz
  obtain ⟨a0, a1⟩ := sum_pos hw hlen hs0
  obtain ⟨all, hall⟩ : ∃ all, all = zs.sum := ⟨_, rfl⟩
  rw [← hall] at a0 a1 hE hL
  have HQ := Lib.hid (fun k => quo_bd (n := n) (all := all) (zs := zs) n0 n1 a0 (fun z hz => ⟨(wz hw z hz).1, by rw [hall]; exact mem_le_sum (fun z hz => (wz hw z hz).1) z hz⟩) k)
  have HLF := Lib.hid hL
  have HE := Lib.hid hE
  obtain ⟨N, hN⟩ : ∃ N, N = zs.length := ⟨_, rfl⟩
  have HN := Lib.hid hN
  have hl : (N : Int) ≤ 64 := by omega
  have hL2 : L ≤ N := by omega
  have hmk := run_make_ints N (by omega) w
  have hmk2 := run_make_bools N (by omega) (w.alloc (.cells (arrC N fun _ => 0) 3))
  have HF := Lib.hid h
  have HWZ := Lib.hid (wz hw)
  have hz0 : (all == 0) = false := by simp; omega
  have hz1 : all ≠ 0 := by omega
  have HALL := Lib.hid hall
  have HS0 := Lib.hid (St2.start w N (fun _ => 0) (fun _ => false) 3 4)
  have HB0 : Hid (Below w.heap.size w ((w.alloc (.cells (arrC N fun _ => 0) 3)).alloc (.cells (arrB N fun _ => false) 4))) := Lib.hid (((Below.refl _ _).alloc (Nat.le_refl _) _).alloc (by simp) _)
  rw [← hN]
  clear hz h hall hs0 hw hN hlen hL hLN hE
  go_enter Try.func10, Try.ntmps10
  go_wp2_with fail
  go_loop [6, 28] (fun t i => ∃ (k : Nat) (s : Int), k ≤ N ∧ t = .int .i64 s ∧ i = .int .i64 k ∧ 0 ≤ s ∧ s ≤ 1000000000 * k ∧ Hid ((zs.take k).sum = s)) (fun _ i => N - (intOf i).toNat)
  case atStart => exact ⟨0, 0, Nat.zero_le _, rfl, rfl, by omega, by omega, Lib.hid rfl⟩
  case round =>
    obtain ⟨k, s, hk, rfl, rfl, hs1, hs2, HA⟩ := hrel
    by_cases hlt : k < N
    · have hkz : k < zs.length := by rw [← HN.out]; exact hlt
      obtain ⟨g, off, rfl, hg, hc⟩ := HF.out.at_ hkz
      have hzb := HWZ.out _ (List.getElem_mem hkz)
      obtain ⟨x, hx⟩ : ∃ n, n = zs[k] := ⟨_, rfl⟩
      rw [← hx] at hc hzb
      obtain ⟨x0, x1⟩ := hzb
      have HA' : Hid ((zs.take (k + 1)).sum = s + x) := Lib.hid (by rw [sum_take hkz, HA.out, ← hx])
      clear hx hkz
      have hk0 : (0 : Int) ≤ (k : Int) := by omega
      have hx0 : ¬ x < 0 := by omega
      have hx1 : ¬ 1000000000 < x := by omega
      go_wp2
      go_round
      case rel => exact ⟨k + 1, s + x, by omega, rfl, by go_num, by omega, by omega, HA'⟩
      case measure => simp [intOf]; omega
    · obtain rfl : k = N := by omega
      have hsa : s = all := by
        have hA := HA.out
        rw [HN.out, List.take_length] at hA
        rw [← hA, HALL.out]
      subst hsa
      clear HA hs1 hs2
      go_wp2_with fail
      generalize hwa : (w.alloc (.cells (arrC k fun _ => 0) 3)).alloc (.cells (arrB k fun _ => false) 4) = wa at *
      clear hmk hmk2 hwa
      go_loopw [11, 53] (fun x i wr => ∃ (q : Nat) (left : Int), q ≤ k ∧ x = .int .i64 left ∧ i = .int .i64 q ∧ -100000000000 ≤ left - 1000000000 * (k - q) ∧ left ≤ 1000000000 ∧ Hid (left = n - sumR q (quo n s zs)) ∧ Hid (St2 wa w.heap.size (w.heap.size + 1) k 3 4 (fun p => if p < q then quo n s zs p else 0) (fun _ => false) wr)) (fun _ i _ => k - (intOf i).toNat)
      case atStart => exact ⟨0, n, Nat.zero_le _, rfl, rfl, by omega, n1, Lib.hid (by simp [sumR]), Lib.hid (HS0.out.congr (fun k _ => by rw [if_neg (by omega)]) fun _ _ => rfl)⟩
      case round =>
        obtain ⟨q, left, hq, rfl, rfl, hb1, hb2, HLE, HV⟩ := hrel
        by_cases hlt : q < k
        · have hlt' : (q : Int) < k := by omega
          have hkz : q < zs.length := by rw [← HN.out]; exact hlt
          obtain ⟨b, off, rfl, hbl, hc⟩ := HF.out.at_ hkz
          have hne : b ≠ w.heap.size := by omega
          have hne2 : b ≠ w.heap.size + 1 := by omega
          have hc2 : wr.cell? ⟨b, off + q, none⟩ = some (.int .i64 zs[q]) := by
            rw [HV.out.ocell hne hne2]; exact (HB0.out.cell (p := ⟨b, off + q, none⟩) hbl).trans hc
          obtain ⟨z, hzk⟩ : ∃ z, z = zs[q] := ⟨_, rfl⟩
          have hzb := HWZ.out _ (List.getElem_mem hkz)
          rw [← hzk] at hc2 hzb
          obtain ⟨z0, z1⟩ := hzb
          have m0 : 0 ≤ n * z := Int.mul_nonneg n0 z0
          have m1 : n * z ≤ 1000000000000000000 := by have := Int.mul_le_mul n1 z1 z0 (by omega); simpa using this
          obtain ⟨y, hy⟩ : ∃ y, n * z / s = y := ⟨_, rfl⟩
          have hqq : quo n s zs q = y := by
            unfold quo
            rw [List.getD_eq_getElem?_getD, List.getElem?_eq_getElem hkz, ← hy, hzk]; rfl
          have hq0 := (HQ.out q).1
          have hq1 := (HQ.out q).2
          rw [hqq] at hq0 hq1
          have hw1 : IntKind.i64.wrap (n * z) = n * z := IntWalk.i64_in _ (by omega)
          have htd : (n * z).tdiv s = y := by rw [Int.tdiv_eq_ediv_of_nonneg m0]; exact hy
          have HQK := Lib.hid hqq
          have c1 := HV.out.cell (i := q) hlt
          have z3 := HV.out.frozen q
          have hk0 : (0 : Int) ≤ (q : Int) := by omega
          have HV' := Lib.hid ((HV.out.set q y).congr (f' := fun p => if p < q + 1 then quo n s zs p else 0) (v' := fun _ => false) (fun p _ => by
            by_cases e : p = q
            · rw [if_pos e, if_pos (by omega), e, HQK.out]
            · rw [if_neg e]
              by_cases h1 : p < q
              · rw [if_pos h1, if_pos (by omega)]
              · rw [if_neg h1, if_neg (by omega)]) fun _ _ => rfl)
          have HLE' : Hid (left - y = n - sumR (q + 1) (quo n s zs)) := Lib.hid (by simp only [sumR]; rw [HQK.out, HLE.out]; omega)
          have d1 := HV'.out.cell (i := q) hlt
          simp only [Nat.lt_succ_self, if_true, HQK.out] at d1
          clear hzk hy hqq hc hkz
          go_wp2_with fail
          go_roundw
          case rel => exact ⟨q + 1, left - y, by omega, rfl, by go_num, by omega, by omega, HLE', HV'⟩
          case measure => simp [intOf]; omega
        · obtain rfl : q = k := by omega
          have hll : left = L := by
            rw [HLE.out, ← HLF.out]; unfold lft; rw [← HN.out]
          subst hll
          have HG : Hid (St2 wa w.heap.size (w.heap.size + 1) q 3 4 (shr n s zs f 0) (mrkB f 0) wr) := Lib.hid (HV.out.congr (fun p hp => by rw [if_pos hp, shr_start]) fun p _ => rfl)
          clear HV HLE hb1 hb2
          go_wp2_with fail
          obtain ⟨wo, hwo⟩ : ∃ wo : World, wo = wr := ⟨_, rfl⟩
          clear hwo
          go_loopw [74] (fun i wr => ∃ j : Nat, j ≤ L ∧ i = .int .i64 j ∧ Hid (St2 wa w.heap.size (w.heap.size + 1) q 3 4 (shr n s zs f j) (mrkB f j) wr)) (fun i _ => L - (intOf i).toNat)
          case atStart => exact ⟨0, Nat.zero_le _, rfl, HG⟩
          case round =>
            obtain ⟨j, hj, rfl, HU⟩ := hrel
            by_cases hjl : j < L
            · have hjl' : (j : Int) < L := by omega
              have hjk : j < q := by omega
              go_wp2_with fail
              go_loopw [14, 78] (fun x i wr' => ∃ (p : Nat) (b : Int), p ≤ q ∧ -1 ≤ b ∧ b < q ∧ x = .int .i64 b ∧ i = .int .i64 p ∧ Hid (BstR n s zs f j p b) ∧ Hid (St2 wa w.heap.size (w.heap.size + 1) q 3 4 (shr n s zs f j) (mrkB f j) wr')) (fun _ i _ => q - (intOf i).toNat)
              case atStart => exact ⟨0, -1, Nat.zero_le _, by omega, by omega, rfl, rfl, Lib.hid (BstR.start _ _ _ _ _), HU⟩
              case round =>
                obtain ⟨p, b, hp, hb0, hb1, rfl, rfl, HB, HX⟩ := hrel
                by_cases hpq : p < q
                · have hpq' : (p : Int) < q := by omega
                  have hpz : p < zs.length := by rw [← HN.out]; exact hpq
                  obtain ⟨ab, off, rfl, hbl, hc⟩ := HF.out.at_ hpz
                  have hne : ab ≠ w.heap.size := by omega
                  have hne2 : ab ≠ w.heap.size + 1 := by omega
                  have HCW : Hid (∀ (i : Nat) (hi : i < zs.length), wr.cell? ⟨ab, off + i, none⟩ = some (.int .i64 zs[i])) := Lib.hid (fun i hi => by
                    rw [HX.out.ocell hne hne2]
                    obtain ⟨ab', off', he, hbl', hc'⟩ := HF.out.at_ hi
                    simp only [Option.some.injEq, Addr.mk.injEq, and_true] at he
                    obtain ⟨rfl, rfl⟩ := he
                    exact (HB0.out.cell (p := ⟨ab, off + i, none⟩) hbl').trans hc')
                  have c1 := HCW.out p hpz
                  have hub := HWZ.out _ (List.getElem_mem hpz)
                  obtain ⟨u, hu⟩ : ∃ u, u = zs[p] := ⟨_, rfl⟩
                  rw [← hu] at c1 hub
                  have hk0 : (0 : Int) ≤ (p : Int) := by omega
                  have hpp : (p : Int) < q := hpq'
                  have c2 := HX.out.cell2 (i := p) hpq
                  cases hg : mrkB f j p
                  · have hm0 : mrk f j p = 0 := by
                      rcases mrk_01 f j p with h0 | h1
                      · exact h0
                      · unfold mrkB at hg; rw [h1] at hg; cases hg
                    rw [hg] at c2
                    have HM0 := Lib.hid hm0
                    by_cases hbn : b < 0
                    · have hbd : decide (b < 0) = true := by simpa using hbn
                      have HB' : Hid (BstR n s zs f j (p + 1) p) := Lib.hid (HB.out.take HM0.out (.inl hbn))
                      clear hm0 hg hu hub hc
                      go_wp2_with fail
                      go_quiet (fail)
                      go_wp2
                      go_roundw
                      case rel => exact ⟨p + 1, p, by omega, by omega, by omega, rfl, by go_num, HB', Lib.hid (HX.out.drewN _)⟩
                      case measure => simp [intOf]; omega
                    · have hbd : decide (b < 0) = false := by simpa using hbn
                      have hbz : b.toNat < zs.length := by rw [← HN.out]; omega
                      have c3 := HCW.out b.toNat hbz
                      have hvb := HWZ.out _ (List.getElem_mem hbz)
                      obtain ⟨v, hv⟩ : ∃ v, v = zs[b.toNat] := ⟨_, rfl⟩
                      rw [← hv] at c3 hvb
                      have m0 : 0 ≤ n * u := Int.mul_nonneg n0 hub.1
                      have m1 : n * u ≤ 1000000000000000000 := by have := Int.mul_le_mul n1 hub.2 hub.1 (by omega); simpa using this
                      have m2 : 0 ≤ n * v := Int.mul_nonneg n0 hvb.1
                      have m3 : n * v ≤ 1000000000000000000 := by have := Int.mul_le_mul n1 hvb.2 hvb.1 (by omega); simpa using this
                      obtain ⟨kp, hkp⟩ : ∃ k, (n * u) % s = k := ⟨_, rfl⟩
                      obtain ⟨kb, hkb⟩ : ∃ k, (n * v) % s = k := ⟨_, rfl⟩
                      have hqp : keyOf n s zs p = kp := by
                        unfold keyOf; rw [Int.toNat_natCast, List.getD_eq_getElem?_getD, List.getElem?_eq_getElem hpz, ← hkp, hu]; rfl
                      have hqb : keyOf n s zs b = kb := by
                        unfold keyOf; rw [List.getD_eq_getElem?_getD, List.getElem?_eq_getElem hbz, ← hkb, hv]; rfl
                      have HK := Lib.hid (And.intro hqp hqb)
                      have w1 : IntKind.i64.wrap (n * u) = n * u := IntWalk.i64_in _ (by omega)
                      have w2 : IntKind.i64.wrap (n * v) = n * v := IntWalk.i64_in _ (by omega)
                      have t1 : (n * u).tmod s = kp := by rw [Int.tmod_eq_emod_of_nonneg m0]; exact hkp
                      have t2 : (n * v).tmod s = kb := by rw [Int.tmod_eq_emod_of_nonneg m2]; exact hkb
                      have hb2 : 0 ≤ b := by omega
                      clear hkp hkb hqp hqb hm0 hg hu hv hub hvb hc hbz hpz
                      by_cases hlt3 : kb < kp
                      · have hd3 : decide (kb < kp) = true := by simpa using hlt3
                        have HB' : Hid (BstR n s zs f j (p + 1) p) := Lib.hid (HB.out.take HM0.out (.inr (by rw [HK.out.1, HK.out.2]; exact hlt3)))
                        go_wp2_with fail
                        go_quiet (fail)
                        go_wp2
                        go_roundw
                        case rel => exact ⟨p + 1, p, by omega, by omega, by omega, rfl, by go_num, HB', Lib.hid (HX.out.drewN _)⟩
                        case measure => simp [intOf]; omega
                      · have hd3 : decide (kb < kp) = false := by simpa using hlt3
                        have HB' : Hid (BstR n s zs f j (p + 1) b) := Lib.hid (HB.out.keep hbn (by rw [HK.out.1, HK.out.2]; exact hlt3))
                        go_wp2_with fail
                        go_quiet (fail)
                        go_wp2
                        go_roundw
                        case rel => exact ⟨p + 1, b, by omega, by omega, hb1, rfl, by go_num, HB', Lib.hid (HX.out.drewN _)⟩
                        case measure => simp [intOf]; omega
                  · have hm1 : mrk f j p = 1 := by
                      rcases mrk_01 f j p with h0 | h1
                      · unfold mrkB at hg; rw [h0] at hg; cases hg
                      · exact h1
                    rw [hg] at c2
                    have HB' : Hid (BstR n s zs f j (p + 1) b) := Lib.hid (HB.out.skip hm1)
                    clear hm1 hg hu hub hc hpz
                    go_wp2_with fail
                    go_quiet (fail)
                    go_wp2
                    go_roundw
                    case rel => exact ⟨p + 1, b, by omega, hb0, hb1, rfl, by go_num, HB', Lib.hid (HX.out.drewN _)⟩
                    case measure => simp [intOf]; omega
                · obtain rfl : p = q := by omega
                  have hbf : b = f j := by
                    have hB := HB.out
                    rw [HN.out] at hB
                    exact hB.done (by exact HE.out) (by rw [← HN.out]; exact hjk)
                  have hr := (by exact HE.out : Enum (keyOf n s zs) zs.length f).range (k := j) (by rw [← HN.out]; exact hjk)
                  rw [← HN.out, ← hbf] at hr
                  obtain ⟨r0, r1⟩ := hr
                  have HBF := Lib.hid hbf
                  have c1 := HX.out.cell (i := b.toNat) (by omega)
                  have z1 := HX.out.frozen b.toNat
                  have z2 := HX.out.frozen2 b.toNat
                  have c4 := HX.out.cell2 (i := b.toNat) (by omega)
                  have b1 := HQ.out b.toNat
                  have b2 := mrk_01 f j b.toNat
                  have b3 : 0 ≤ shr n s zs f j b.toNat ∧ shr n s zs f j b.toNat ≤ 1000000001 := by unfold shr; omega
                  obtain ⟨v, hv⟩ : ∃ v, v = shr n s zs f j b.toNat := ⟨_, rfl⟩
                  rw [← hv] at c1 b3
                  obtain ⟨b4, b5⟩ := b3
                  have HY := HX.out.set2 b.toNat true
                  have c5 := HY.cell (i := b.toNat) (by omega)
                  rw [← hv] at c5
                  have z5 := HY.frozen b.toNat
                  have HU' : Hid (St2 wa w.heap.size (w.heap.size + 1) p 3 4 (shr n s zs f (j + 1)) (mrkB f (j + 1)) ((wr.setCell ⟨w.heap.size + 1, b.toNat, none⟩ (.bool true)).setCell ⟨w.heap.size, b.toNat, none⟩ (.int .i64 (v + 1)))) := Lib.hid ((HY.set b.toNat (v + 1)).congr (fun i _ => by
                    rw [hv, HBF.out]
                    exact shr_step (by exact HE.out) (by rw [← HN.out]; exact hjk) i) fun i _ => by rw [HBF.out]; exact mrkB_step (by rw [← HBF.out]; exact r0) i)
                  have hj0 : (0 : Int) ≤ (j : Int) := by omega
                  clear hv b1 b2 HY hbf
                  go_wp2
                  go_roundw
                  case rel => exact ⟨j + 1, by omega, by go_num, HU'⟩
                  case measure => simp [intOf]; omega
            · obtain rfl : j = L := by omega
              have HFIN : Hid ((w.heap.size ≤ w.heap.size ∧ wr.heap[w.heap.size]? = some (.cells (arrC zs.length (shr n zs.sum zs f j)) 3 (0, 0))) ∧ Below w.heap.size w wr) := Lib.hid (by
                rw [← HALL.out, ← HN.out]
                exact ⟨⟨Nat.le_refl _, HU.out.arr⟩, HU.out.below HB0.out (Nat.le_refl _) (by omega)⟩)
              go_wp2
              go_ret2
              refine ⟨w.heap.size, ?_, Lib.hid HFIN.out.1, HFIN.out.2⟩
              rw [← HN.out]
              rfl

end Go.Proofs.Ytpghhfobaionkaa

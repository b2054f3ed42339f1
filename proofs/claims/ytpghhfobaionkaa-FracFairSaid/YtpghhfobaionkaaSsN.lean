/- The program's Share without an error. -/
import Derived.Test.YtpghhfobaionkaaSsM
namespace Go.Proofs.Ytpghhfobaionkaa
open Go.RowKit

theorem wz {zs : List Int} (hw : wB zs 1000000000 = true) : ∀ z ∈ zs, 0 ≤ z ∧ z ≤ 1000000000 := fun z hz => wB_iff.1 hw z hz

theorem mem_le_sum {zs : List Int} (h : ∀ z ∈ zs, 0 ≤ z) : ∀ z ∈ zs, z ≤ zs.sum := by
  induction zs with
  | nil => intro z hz; cases hz
  | cons a t ih =>
    intro z hz
    have ht : 0 ≤ t.sum := by
      have : ∀ l : List Int, (∀ z ∈ l, 0 ≤ z) → 0 ≤ l.sum := by
        intro l
        induction l with
        | nil => intro _; exact Int.le_refl _
        | cons b u ih2 => intro hl; rw [List.sum_cons]; have := hl b (by simp); have := ih2 fun z hz => hl z (by simp [hz]); omega
      exact this t fun z hz => h z (by simp [hz])
    rw [List.sum_cons]
    rcases List.mem_cons.1 hz with rfl | hz
    · omega
    · have := ih (fun z hz => h z (by simp [hz])) z hz
      have := h a (by simp)
      omega

set_option maxRecDepth 100000 in
set_option maxHeartbeats 6400000 in
theorem share_ok (a : Option Addr) (cap : Nat) (zs : List Int) (n : Int) (hz : shrE n zs = 0) (w : World) (h : IntS w a zs) :
    Calls Try.prog 9 #[.int .i64 n, .slice a zs.length cap] w (ShrP n zs w) := by
  obtain ⟨hlen, n0, n1, hw, hs0⟩ := shrE_ok hz
  obtain ⟨a0, a1⟩ := sum_pos hw hlen hs0
  obtain ⟨all, hall⟩ : ∃ all, all = zs.sum := ⟨_, rfl⟩
  rw [← hall] at a0 a1
  have HQ := Lib.hid (fun k => quo_bd (n := n) (all := all) (zs := zs) n0 n1 a0 (fun z hz => ⟨(wz hw z hz).1, by rw [hall]; exact mem_le_sum (fun z hz => (wz hw z hz).1) z hz⟩) k)
  have hb := lft_bd (n := n) (zs := zs) hall.symm a0
  obtain ⟨L, hL⟩ : ∃ L : Nat, lft n all zs = L := ⟨(lft n all zs).toNat, by omega⟩
  have hLN : L ≤ zs.length := by omega
  have HLF := Lib.hid hL
  obtain ⟨N, hN⟩ : ∃ N, N = zs.length := ⟨_, rfl⟩
  have HN := Lib.hid hN
  have hl : (N : Int) ≤ 64 := by omega
  have hL2 : L ≤ N := by omega
  have hmk := run_make_ints N (by omega) w
  have HF := Lib.hid h
  have HWZ := Lib.hid (wz hw)
  have HW : Hid (Calls Try.prog 17 #[.slice a N cap, .int .i64 1000000000] w fun e w'' => e = .returned (.bool true) ∧ w = w'') := Lib.hid (by rw [← hw, hN]; exact areWeights_any a cap zs 1000000000 (by omega) w h)
  have HT : Hid (Calls Try.prog 18 #[.slice a N cap] w fun e w'' => e = .returned (.int .i64 all) ∧ w = w'') := Lib.hid (by rw [hall, hN]; exact total_any a cap zs 1000000000 (by omega) (by decide) (by omega) hw w h)
  have HR : Hid (∀ w', IntS w' a zs → Calls Try.prog 19 #[.int .i64 n, .slice a N cap, .int .i64 all] w' (RemP n all zs w')) := Lib.hid (fun w' h' => by rw [hN]; exact byRem_any a cap zs n all (wz hw) hlen n0 n1 a0 (by omega) w' h')
  have hz0 : (all == 0) = false := by simp; omega
  have hz1 : all ≠ 0 := by omega
  have HALL := Lib.hid hall
  have HS0 := Lib.hid (St.start w N (fun _ => 0) 3)
  have HB0 : Hid (Below w.heap.size w (w.alloc (.cells (arrC N fun _ => 0) 3))) := Lib.hid ((Below.refl _ _).alloc (Nat.le_refl _) _)
  rw [← hN]
  clear hz h hall hs0 hw hN hlen hb hL hLN
  go_enter Try.func9, Try.ntmps9
  go_wp2_with fail
  refine HW.out.mono ?_
  rintro e w1 ⟨rfl, rfl⟩
  go_wp2_with fail
  refine HT.out.mono ?_
  rintro e w1 ⟨rfl, rfl⟩
  clear HW HT
  go_wp2_with fail
  generalize hwa : w.alloc (.cells (arrC N fun _ => 0) 3) = wa at *
  clear hmk hwa
  go_loopw [8, 37] (fun x i wr => ∃ (k : Nat) (left : Int), k ≤ N ∧ x = .int .i64 left ∧ i = .int .i64 k ∧ -100000000000 ≤ left - 1000000000 * (N - k) ∧ left ≤ 1000000000 ∧ Hid (left = n - sumR k (quo n all zs)) ∧ Hid (St wa w.heap.size N 3 (fun p => if p < k then quo n all zs p else 0) wr)) (fun _ i _ => N - (intOf i).toNat)
  case atStart => exact ⟨0, n, Nat.zero_le _, rfl, rfl, by omega, n1, Lib.hid (by simp [sumR]), Lib.hid (HS0.out.congr fun k _ => by rw [if_neg (by omega)])⟩
  case round =>
    obtain ⟨k, left, hk, rfl, rfl, hb1, hb2, HLE, HV⟩ := hrel
    by_cases hlt : k < N
    · have hlt' : (k : Int) < N := by omega
      have hkz : k < zs.length := by rw [← HN.out]; exact hlt
      obtain ⟨b, off, rfl, hbl, hc⟩ := HF.out.at_ hkz
      have hne : b ≠ w.heap.size := by omega
      have hc2 : wr.cell? ⟨b, off + k, none⟩ = some (.int .i64 zs[k]) := by
        rw [HV.out.ocell hne]; exact (HB0.out.cell (p := ⟨b, off + k, none⟩) hbl).trans hc
      obtain ⟨z, hzk⟩ : ∃ z, z = zs[k] := ⟨_, rfl⟩
      have hzb := HWZ.out _ (List.getElem_mem hkz)
      rw [← hzk] at hc2 hzb
      obtain ⟨z0, z1⟩ := hzb
      have m0 : 0 ≤ n * z := Int.mul_nonneg n0 z0
      have m1 : n * z ≤ 1000000000000000000 := by have := Int.mul_le_mul n1 z1 z0 (by omega); simpa using this
      obtain ⟨q, hq⟩ : ∃ q, n * z / all = q := ⟨_, rfl⟩
      have hqq : quo n all zs k = q := by
        unfold quo
        rw [List.getD_eq_getElem?_getD, List.getElem?_eq_getElem hkz, ← hq, hzk]; rfl
      have hq0 := (HQ.out k).1
      have hq1 := (HQ.out k).2
      rw [hqq] at hq0 hq1
      have hw1 : IntKind.i64.wrap (n * z) = n * z := IntWalk.i64_in _ (by omega)
      have htd : (n * z).tdiv all = q := by rw [Int.tdiv_eq_ediv_of_nonneg m0]; exact hq
      have HQK := Lib.hid hqq
      have c1 := HV.out.cell (i := k) hlt
      have z3 := HV.out.frozen k
      have hk0 : (0 : Int) ≤ (k : Int) := by omega
      have HV' := Lib.hid ((HV.out.set k q).congr (f' := fun p => if p < k + 1 then quo n all zs p else 0) fun p _ => by
        by_cases e : p = k
        · rw [if_pos e, if_pos (by omega), e, HQK.out]
        · rw [if_neg e]
          by_cases h1 : p < k
          · rw [if_pos h1, if_pos (by omega)]
          · rw [if_neg h1, if_neg (by omega)])
      have HLE' : Hid (left - q = n - sumR (k + 1) (quo n all zs)) := Lib.hid (by simp only [sumR]; rw [HQK.out, HLE.out]; omega)
      have d1 := HV'.out.cell (i := k) hlt
      simp only [Nat.lt_succ_self, if_true, HQK.out] at d1
      clear hzk hq hqq hc hkz
      go_wp2_with fail
      go_roundw
      case rel => exact ⟨k + 1, left - q, by omega, rfl, by go_num, by omega, by omega, HLE', HV'⟩
      case measure => simp [intOf]; omega
    · obtain rfl : k = N := by omega
      have hll : left = L := by
        rw [HLE.out, ← HLF.out]; unfold lft; rw [← HN.out]
      subst hll
      have HG : Hid (St wa w.heap.size k 3 (quo n all zs) wr) := Lib.hid (HV.out.congr fun p hp => by rw [if_pos hp])
      have HBR := Lib.hid (St.below HB0.out (Nat.le_refl _) HV.out)
      clear HV HLE hb1 hb2
      go_wp2_with fail
      refine (HR.out _ (HF.out.below HBR.out)).mono ?_
      rintro e w2 ⟨g2, f, rfl, HE, HG2, hb⟩
      rw [← HN.out] at HE HG2 ⊢
      have HB2 := Lib.hid hb
      clear hb
      have HS2 : Hid (St w2 w.heap.size k 3 (shr n all zs f 0) w2) := Lib.hid (by
        have e1 : w2.heap[w.heap.size]? = some (.cells (arrC k (quo n all zs)) 3 (0, 0)) := (HB2.out.block _ HG.out.lt).trans HG.out.arr
        exact (St.congr ⟨rfl, rfl, rfl, rfl, e1, fun _ _ => rfl⟩ fun p _ => (shr_start n all zs f p).symm))
      have hg2 : g2 ≠ w.heap.size := by have := HG.out.lt; have := HG2.out.1; omega
      have HARR : Hid (w2.heap[g2]? = some (.cells (arrC k f) 3 (0, 0))) := Lib.hid HG2.out.2
      have HBW := Lib.hid (HBR.out.trans (HB2.out.mono HBR.out.size))
      go_wp2_with fail
      go_loopw [64] (fun i wr => ∃ j : Nat, j ≤ L ∧ i = .int .i64 j ∧ Hid (St w2 w.heap.size k 3 (shr n all zs f j) wr)) (fun i _ => L - (intOf i).toNat)
      case atStart => exact ⟨0, Nat.zero_le _, rfl, HS2⟩
      case round =>
        obtain ⟨j, hj, rfl, HU⟩ := hrel
        by_cases hjl : j < L
        · have hjl' : (j : Int) < L := by omega
          have hjk : j < k := by omega
          have hr := HE.out.range hjk
          have c1 : wr.cell? ⟨g2, j, none⟩ = some (.int .i64 (f j)) := by
            rw [HU.out.ocell hg2]
            simp only [World.cell?]; rw [HARR.out]; exact arrC_get hjk
          have c2 := HU.out.cell (i := (f j).toNat) (by omega)
          have z2 := HU.out.frozen (f j).toNat
          have b1 := (HQ.out (f j).toNat)
          have b2 := mrk_01 f j (f j).toNat
          have b3 : 0 ≤ shr n all zs f j (f j).toNat ∧ shr n all zs f j (f j).toNat ≤ 1000000001 := by unfold shr; omega
          obtain ⟨v, hv⟩ : ∃ v, v = shr n all zs f j (f j).toNat := ⟨_, rfl⟩
          rw [← hv] at c2 b3
          obtain ⟨b4, b5⟩ := b3
          obtain ⟨r0, r1⟩ := hr
          have HU' : Hid (St w2 w.heap.size k 3 (shr n all zs f (j + 1)) (wr.setCell ⟨w.heap.size, (f j).toNat, none⟩ (.int .i64 (v + 1)))) := Lib.hid ((HU.out.set (f j).toNat (v + 1)).congr fun p _ => by
            rw [hv]
            exact shr_step (by have := HE.out; rw [HN.out] at this; exact this) (by rw [← HN.out]; exact hjk) p)
          have hj0 : (0 : Int) ≤ (j : Int) := by omega
          clear hv b1 b2
          go_wp2
          go_roundw
          case rel => exact ⟨j + 1, by omega, by go_num, HU'⟩
          case measure => simp [intOf]; omega
        · obtain rfl : j = L := by omega
          have HFIN : Hid ((Enum (keyOf n zs.sum zs) zs.length f ∧ lft n zs.sum zs = j ∧ j ≤ zs.length) ∧ (w.heap.size ≤ w.heap.size ∧ wr.heap[w.heap.size]? = some (.cells (arrC zs.length (shr n zs.sum zs f j)) 3 (0, 0))) ∧ Below w.heap.size w wr) := Lib.hid (by
            rw [← HALL.out, ← HN.out]
            exact ⟨⟨HE.out, HLF.out, hL2⟩, ⟨Nat.le_refl _, HU.out.arr⟩, St.below HBW.out (Nat.le_refl _) HU.out⟩)
          go_wp2
          go_ret2
          refine ⟨w.heap.size, j, f, ?_, Lib.hid HFIN.out.1, Lib.hid HFIN.out.2.1, HFIN.out.2.2⟩
          rw [← HN.out]
          rfl

end Go.Proofs.Ytpghhfobaionkaa

/- Pairs: pairs, the preferences of two gloves. -/
import Derived.Test.YtchhadkmemckbaaPbH
namespace Go.Proofs.Ytchhadkmemckbaa
open Go.RowKit
set_option linter.unusedSimpArgs false
set_option linter.unusedVariables false

set_option maxRecDepth 100000 in
set_option maxHeartbeats 3200000 in
theorem tPairs_any (p L R : Nat) (hL : L ≤ 100) (hR : R ≤ 100) (C : Nat → Nat → Int) (w : World) (h : TabC w p L R C) :
    Calls Try.prog 70 #[.pointer (some ⟨p, 0, none⟩)] w fun e w' => ∃ a c, e = .returned (.slice a (pal (fun i j => C i j != -1) R L).length c) ∧ PtS w' a (pal (fun i j => C i j != -1) R L) ∧ Below w.heap.size w w' := by
  obtain ⟨i0, hi, hz0, hz1, hz2⟩ := info_parts infoPt
  have HI0 := Lib.hid (And.intro hi (And.intro hz0 (And.intro hz1 hz2)))
  clear hi hz0 hz1 hz2
  have HT := Lib.hid h
  obtain ⟨G, hG⟩ : ∃ G : Nat → Nat → Bool, G = fun i j => C i j != -1 := ⟨_, rfl⟩
  rw [← hG]
  have HG := Lib.hid (fun i j => congrFun (congrFun hG i) j)
  have HS : Hid (PTV w (.slice none 0 0) (pal G R 0) w) := Lib.hid (PTV.start w)
  clear h hG
  go_enter Try.func70, Try.ntmps70
  have e0 := HT.out.c0
  have lt0 := HT.out.lt
  go_wp2_with fail
  clear e0 lt0
  go_loopg [3, 10] L (fun gk v x wr => ∃ k : Nat, k + gk = L ∧ x = .int .i64 k ∧ Hid (PTV w v (pal G R k) wr))
  case atStart => exact ⟨0, by omega, rfl, HS⟩
  case round =>
    obtain ⟨k, hk, rfl, HI⟩ := hrel
    by_cases hlt : k < L
    · obtain ⟨gk', rfl⟩ : ∃ m, gk = m + 1 := ⟨gk - 1, by omega⟩
      have hlt' : (k : Int) < L := by omega
      have hk0 : (0 : Int) ≤ k := by omega
      have HTW := Lib.hid (HT.out.below HI.out.b)
      have e1 := HTW.out.c1
      have lt1 := HTW.out.lt
      have HIS : Hid (PTV w u3 (pal G R k ++ prw G k 0) wr) := Lib.hid (by rw [show prw G k 0 = [] from rfl, List.append_nil]; exact HI.out)
      go_wp2_with fail
      clear e1 lt1 HTW HI
      go_loopg [3, 17] R (fun gl v x wr => ∃ j : Nat, j + gl = R ∧ x = .int .i64 j ∧ Hid (PTV w v (pal G R k ++ prw G k j) wr))
      case atStart => exact ⟨0, by omega, rfl, HIS⟩
      case round =>
        obtain ⟨j, hj, rfl, HJ⟩ := hrel
        by_cases hjt : j < R
        · obtain ⟨gl', rfl⟩ : ∃ m, gk = m + 1 := ⟨gk - 1, by omega⟩
          have hjt' : (j : Int) < R := by omega
          have hj0 : (0 : Int) ≤ j := by omega
          have HAL := Lib.hid (allows_any p L R hL hR C k j hlt hjt wr (HT.out.below HJ.out.b))
          obtain ⟨g, hg⟩ : ∃ g, g = (C k j != -1) := ⟨_, rfl⟩
          rw [← hg] at HAL
          have HGG : Hid (G k j = g) := Lib.hid (by rw [HG.out k j, hg])
          clear hg
          obtain ⟨l, hl⟩ : ∃ l, l = pal G R k ++ prw G k j := ⟨_, rfl⟩
          have HLN : Hid (prw G k (j + 1) = if g then prw G k j ++ [(k, j)] else prw G k j) := Lib.hid (by rw [prw, HGG.out])
          have HLL := Lib.hid hl
          have hlen : l.length ≤ 20000 := by
            have h1 := pal_len G R k
            have h2 := prw_len G k j
            have h3 : k * R ≤ 100 * 100 := Nat.mul_le_mul (by omega) hR
            rw [hl, List.length_append]
            omega
          rw [← hl] at HJ
          clear hl
          go_wp2_with fail
          refine HAL.out.mono ?_
          rintro e w1 ⟨rfl, hb1⟩
          have HJ1 := Lib.hid (HJ.out.step hb1)
          clear hb1 HAL HJ
          cases g with
          | false =>
            have HN : Hid (PTV w u3 (pal G R k ++ prw G k (j + 1)) w1) := Lib.hid (by
              rw [HLN.out, if_neg (by simp), ← HLL.out]; exact HJ1.out)
            clear HJ1 HLN
            go_wp2
            go_roundg gl'
            case measure => exact Nat.lt_succ_self _
            case rel => exact ⟨j + 1, by omega, by go_num, HN⟩
          | true =>
            have hown := HJ1.out.own
            obtain ⟨n, hn⟩ : ∃ n, n = l.length := ⟨_, rfl⟩
            rw [← hn] at hown hlen
            have hbs := HJ1.out.b.size
            have HPU : Hid (∀ v' w2, w2.ownsRow w.heap.size 65 2 v' (n + 1) (p2Vals l ++ [.int .i64 k, .int .i64 j]) → (w1.alloc (.cells #[.int .i64 k, .int .i64 j] 65)).grownBy w2 u3.ownBlock → PTV w v' (pal G R k ++ prw G k (j + 1)) w2) := Lib.hid (fun v' w2 ho hg => by
              rw [HLN.out, if_pos rfl, ← List.append_assoc, ← HLL.out]
              refine (HJ1.out.step ((Below.refl _ _).alloc (Nat.le_refl _) _)).push (r := (k, j)) ?_ hg
              rw [← hn]
              exact ho)
            clear HLN hn HLL
            go_wp2_with (at_builtin; refine wpList_append_own _ rfl _ _ 60 rfl w.heap.size 65 i0 (.agg #[.int .i64 0, .int .i64 0]) 2 16 uPts HI0.out.1 HI0.out.2.1 HI0.out.2.2.1 HI0.out.2.2.2 rfl (by decide) u3 n _ rfl (hown.alloc _) ⟨w1.heap.size, 0, none⟩ 1 1 [.int .i64 k, .int .i64 j] rfl rfl (p2cell_new _ _ _ _) (by intro u hu; simp at hu; rcases hu with rfl | rfl <;> rfl) (by unfold maxLen; omega) (by omega) (by simp; omega) ?_)
            intro v' w6 hown6 hgrow6 hnil6
            have HN := Lib.hid (HPU.out v' w6 hown6 hgrow6)
            clear hown6 hgrow6 hown hnil6 HPU hbs HJ1
            go_wp2
            go_roundg gl'
            case measure => exact Nat.lt_succ_self _
            case rel => exact ⟨j + 1, by omega, by go_num, HN⟩
        · obtain ⟨rfl, rfl⟩ : gk = 0 ∧ j = R := by omega
          have HN : Hid (PTV w u3 (pal G j (k + 1)) wr) := HJ
          go_wp2
          go_roundg gk'
          case measure => exact Nat.lt_succ_self _
          case rel => exact ⟨k + 1, by omega, by go_num, HN⟩
    · obtain ⟨rfl, rfl⟩ : gk = 0 ∧ k = L := by omega
      obtain ⟨a', c', rfl, hps⟩ := HI.out.pts
      have HE := Lib.hid (And.intro hps HI.out.b)
      clear hps HI
      go_wp2
      go_ret
      exact ⟨a', c', rfl, HE.out.1, HE.out.2⟩

set_option maxRecDepth 100000 in
theorem isBefore_any (x i y k : Int) (w : World) : Calls Try.prog 92 #[.int .i64 x, .int .i64 i, .int .i64 y, .int .i64 k] w fun e w' => e = .returned (.bool (decide (x < y) || (x == y && decide (i < k)))) ∧ w' = w := by
  go_enter Try.func92, Try.ntmps92
  by_cases h1 : x < y
  · have t1 : decide (x < y) = true := decide_eq_true h1
    rw [t1, Bool.true_or]
    go_wp2
    go_ret
    exact ⟨rfl, rfl⟩
  · have t1 : decide (x < y) = false := decide_eq_false h1
    rw [t1, Bool.false_or]
    by_cases h2 : x = y
    · have t2 : (x == y) = true := by simpa using h2
      rw [t2, Bool.true_and]
      go_wp2
      go_ret
      exact ⟨rfl, rfl⟩
    · have t2 : (x == y) = false := by simpa using h2
      rw [t2, Bool.false_and]
      go_wp2
      go_ret
      exact ⟨rfl, rfl⟩

set_option maxRecDepth 100000 in
theorem leftPrefers_any (p L R : Nat) (hL : L ≤ 100) (hR : R ≤ 100) (C : Nat → Nat → Int) (i j : Nat) (k : Int) (hi : i < L) (hj : j < R) (hk : k = -1 ∨ (0 ≤ k ∧ k < R)) (w : World) (h : TabC w p L R C) :
    Calls Try.prog 76 #[.pointer (some ⟨p, 0, none⟩), .int .i64 i, .int .i64 j, .int .i64 k] w fun e w' => e = .returned (.bool (pfr (C i) j k)) ∧ Below w.heap.size w w' := by
  rcases hk with rfl | ⟨h0, h1⟩
  · have e : pfr (C i) j (-1) = true := by unfold pfr; simp
    rw [e]
    have HD := Lib.hid (fun nq => below_drewN (Below.refl w.heap.size w) nq)
    clear h e
    go_enter Try.func76, Try.ntmps76
    go_wp2_with fail
    go_quiet (fail)
    go_wp2
    go_ret
    exact ⟨rfl, HD.out _⟩
  · obtain ⟨m, rfl⟩ := Int.eq_ofNat_of_zero_le h0
    have e : pfr (C i) j (m : Int) = (decide (C i j < C i m) || (C i j == C i m && decide (j < m))) := by
      unfold pfr
      rw [Int.toNat_natCast, beq_eq_false_iff_ne.2 (show (m : Int) ≠ -1 by omega), Bool.false_or]
      simp only [Int.ofNat_lt]
    rw [e]
    obtain ⟨x, cap, c2, hr⟩ := h.c2
    obtain ⟨B, mi, rfl, l1, d1, l2, hd⟩ := hr i hi
    have d2 := hd j hj
    have d3 := hd m (by omega)
    have lt := h.lt
    have hi' : (i : Int) < L := by omega
    have hj' : (j : Int) < R := by omega
    have hi0 : (0 : Int) ≤ i := by omega
    have hj0 : (0 : Int) ≤ j := by omega
    have t0 : ((m : Int) == -1) = false := by simp
    obtain ⟨c, hc⟩ : ∃ c, c = C i j := ⟨_, rfl⟩
    obtain ⟨c', hc'⟩ : ∃ c', c' = C i m := ⟨_, rfl⟩
    rw [← hc] at d2 ⊢
    rw [← hc'] at d3 ⊢
    have HD := Lib.hid (fun nq => below_drewN (Below.refl w.heap.size w) nq)
    have HB := Lib.hid (fun w => isBefore_any c j c' m w)
    clear hr hd h hc hc' e
    go_enter Try.func76, Try.ntmps76
    go_wp2_with fail
    go_quiet ((go_at_call 92; exact Calls.quiet_of_same (HB.out _)))
    go_wp2
    go_ret
    exact ⟨rfl, HD.out _⟩

set_option maxRecDepth 100000 in
theorem rightPrefers_any (p L R : Nat) (hL : L ≤ 100) (hR : R ≤ 100) (C : Nat → Nat → Int) (i j : Nat) (k : Int) (hi : i < L) (hj : j < R) (hk : k = -1 ∨ (0 ≤ k ∧ k < L)) (w : World) (h : TabC w p L R C) :
    Calls Try.prog 77 #[.pointer (some ⟨p, 0, none⟩), .int .i64 j, .int .i64 i, .int .i64 k] w fun e w' => e = .returned (.bool (pfr (fun a => C a j) i k)) ∧ Below w.heap.size w w' := by
  rcases hk with rfl | ⟨h0, h1⟩
  · have e : pfr (fun a => C a j) i (-1) = true := by unfold pfr; simp
    rw [e]
    have HD := Lib.hid (fun nq => below_drewN (Below.refl w.heap.size w) nq)
    clear h e
    go_enter Try.func77, Try.ntmps77
    go_wp2_with fail
    go_quiet (fail)
    go_wp2
    go_ret
    exact ⟨rfl, HD.out _⟩
  · obtain ⟨m, rfl⟩ := Int.eq_ofNat_of_zero_le h0
    have e : pfr (fun a => C a j) i (m : Int) = (decide (C i j < C m j) || (C i j == C m j && decide (i < m))) := by
      unfold pfr
      rw [Int.toNat_natCast, beq_eq_false_iff_ne.2 (show (m : Int) ≠ -1 by omega), Bool.false_or]
      simp only [Int.ofNat_lt]
    rw [e]
    obtain ⟨x, cap, c2, hr⟩ := h.c2
    obtain ⟨B, mi, rfl, l1, d1, l2, hd⟩ := hr i hi
    obtain ⟨B', mm, hB, l1', d1', l2', hd'⟩ := hr m (by omega)
    simp only [Option.some.injEq, Addr.mk.injEq, and_true] at hB
    obtain rfl := hB
    have d2 := hd j hj
    have d3 := hd' j hj
    have lt := h.lt
    have hi' : (i : Int) < L := by omega
    have hj' : (j : Int) < R := by omega
    have hi0 : (0 : Int) ≤ i := by omega
    have hj0 : (0 : Int) ≤ j := by omega
    have t0 : ((m : Int) == -1) = false := by simp
    obtain ⟨c, hc⟩ : ∃ c, c = C i j := ⟨_, rfl⟩
    obtain ⟨c', hc'⟩ : ∃ c', c' = C m j := ⟨_, rfl⟩
    rw [← hc] at d2 ⊢
    rw [← hc'] at d3 ⊢
    have HD := Lib.hid (fun nq => below_drewN (Below.refl w.heap.size w) nq)
    have HB := Lib.hid (fun w => isBefore_any c i c' m w)
    clear hr hd hd' h hc hc' e l1'
    go_enter Try.func77, Try.ntmps77
    go_wp2_with fail
    go_quiet ((go_at_call 92; exact Calls.quiet_of_same (HB.out _)))
    go_wp2
    go_ret
    exact ⟨rfl, HD.out _⟩

end Go.Proofs.Ytchhadkmemckbaa

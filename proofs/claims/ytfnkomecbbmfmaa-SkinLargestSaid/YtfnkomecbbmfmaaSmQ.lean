/- Skins: the reference's Largest. -/
import Derived.Test.YtfnkomecbbmfmaaSmO
import Derived.Test.YtfnkomecbbmfmaaSmK
namespace Go.Proofs.Ytfnkomecbbmfmaa
open Go.RowKit

/-- The memory of the reference's Largest: its result, the sums, the best one. -/
structure RL (w : World) (nb pb W H : Nat) (U : Int → Int → Bool) (x y n k : Nat) (wr : World) : Prop where
  m : Mem w [(pb, #[.int .i64 x, .int .i64 y, .int .i64 n, .int .i64 k], 39), (w.heap.size, #[.int .i64 0, .int .i64 0, .int .i64 0, .int .i64 0], 39)] wr
  s : SumM wr nb W H U
  ne : nb < pb
section
variable {w wr w2 : World} {nb pb W H : Nat} {U : Int → Int → Bool} {x y n k : Nat}
theorem RL.step (h : RL w nb pb W H U x y n k wr) (hb : Below wr.heap.size wr w2) : RL w nb pb W H U x y n k w2 := ⟨h.m.step hb, h.s.below hb, h.ne⟩
theorem RL.cr (h : RL w nb pb W H U x y n k wr) : wr.cell? ⟨pb, 0, none⟩ = some (.int .i64 x) ∧ wr.cell? ⟨pb, 1, none⟩ = some (.int .i64 y) ∧ wr.cell? ⟨pb, 2, none⟩ = some (.int .i64 n) ∧ wr.cell? ⟨pb, 3, none⟩ = some (.int .i64 k) := ⟨h.m.cell 0, h.m.cell 1, h.m.cell 2, h.m.cell 3⟩
theorem RL.put (h : RL w nb pb W H U x y n k wr) (a b c d : Nat) : RL w nb pb W H U a b c d ((((wr.setCell ⟨pb, 0, none⟩ (.int .i64 a)).setCell ⟨pb, 1, none⟩ (.int .i64 b)).setCell ⟨pb, 2, none⟩ (.int .i64 c)).setCell ⟨pb, 3, none⟩ (.int .i64 d)) := by
  have hm := (((h.m.set0 0 (.int .i64 a)).set0 1 (.int .i64 b)).set0 2 (.int .i64 c)).set0 3 (.int .i64 d)
  refine ⟨hm, ?_, h.ne⟩
  have hne := h.ne
  refine ⟨by have := h.s.1; simpa [World.setCell] using this, fun k hk => ?_⟩
  have hb : ((((wr.setCell ⟨pb, 0, none⟩ (.int .i64 a)).setCell ⟨pb, 1, none⟩ (.int .i64 b)).setCell ⟨pb, 2, none⟩ (.int .i64 c)).setCell ⟨pb, 3, none⟩ (.int .i64 d)).heap[nb]? = wr.heap[nb]? := by
    rw [Below.heap_setCell _ _ _ _ (by show nb ≠ pb; omega), Below.heap_setCell _ _ _ _ (by show nb ≠ pb; omega), Below.heap_setCell _ _ _ _ (by show nb ≠ pb; omega), Below.heap_setCell _ _ _ _ (by show nb ≠ pb; omega)]
  rw [World.cell?_of_block (w := wr) (a := ⟨nb, k, none⟩) hb]
  exact h.s.2 k hk
end

set_option maxRecDepth 100000 in
set_option maxHeartbeats 1600000 in
theorem rLargest_no (a : Option Addr) (cap : Nat) (ss : List ByteArray) (hl : (ss.length : Int) ≤ 9223372036854775807) (hz : ∀ s ∈ ss, s.size ≤ 9223372036854775807) (g : Int) (hn : ¬ (skB ss = true ∧ 1 ≤ g ∧ g ≤ 9)) (sq : Bool) (w : World) (h : StrS w a ss) :
    Calls Try.prog 48 #[.slice a ss.length cap, .int .i64 g, .bool sq] w fun e w' => e = .returned (.tuple #[.agg #[.int .i64 0, .int .i64 0, .int .i64 0, .int .i64 0], .int .i64 2]) ∧ Below w.heap.size w w' := by
  have HM := Lib.hid ((Mem.nil w).alloc #[.int .i64 0, .int .i64 0, .int .i64 0, .int .i64 0] 39)
  have HG : Hid (Calls Try.prog 22 #[.slice a ss.length cap, .int .i64 g] (w.alloc (.cells #[.int .i64 0, .int .i64 0, .int .i64 0, .int .i64 0] 39)) fun e w'' => e = .returned (.bool false) ∧ (w.alloc (.cells #[.int .i64 0, .int .i64 0, .int .i64 0, .int .i64 0] 39)) = w'') := Lib.hid (by
    have := rGood_any a cap ss hl hz g _ (h.below HM.out.b)
    rw [show (skB ss && (decide (1 ≤ g) && decide (g ≤ 9))) = false by
      rw [Bool.eq_false_iff]; intro e; simp at e; exact hn e] at this
    exact this)
  clear h hn hl hz
  go_enter Try.func48, Try.ntmps48
  go_wp2_with fail
  refine HG.out.mono ?_
  rintro e w1 ⟨rfl, rfl⟩
  go_wp2
  refine bodyPost_ret (v := .tuple #[.agg #[.int .i64 0, .int .i64 0, .int .i64 0, .int .i64 0], .int .i64 2]) (by simp [results, Try.results48, go_sem]) rfl ⟨rfl, ?_⟩
  exact HM.out.b


set_option maxRecDepth 100000 in
set_option maxHeartbeats 6400000 in
theorem rLargest_L (a : Option Addr) (cap : Nat) (ss : List ByteArray) (hs : skB ss = true) (g : Int) (h1 : 1 ≤ g) (h9 : g ≤ 9) (w : World) (h : StrS w a ss) :
    Calls Try.prog 48 #[.slice a ss.length cap, .int .i64 g, .bool false] w fun e w' => ∃ p q r s : Nat, ∃ E : Int, e = .returned (.tuple #[.agg #[.int .i64 p, .int .i64 q, .int .i64 r, .int .i64 s], .int .i64 E]) ∧ Below w.heap.size w w' ∧ bestTo false (usB ss g) (wid ss) ss.length ss.length 0 1 1 p q r s ∧ ((r = 0 ∧ E = 7) ∨ (r ≠ 0 ∧ E = 0)) := by
  obtain ⟨⟨hl1, hl2⟩, ⟨hw1, hw2⟩, hrw⟩ := skB_iff.1 hs
  have hl := sk_long hs
  have HMM := Lib.hid ((Mem.nil w).alloc #[.int .i64 0, .int .i64 0, .int .i64 0, .int .i64 0] 39)
  have HG : Hid (Calls Try.prog 22 #[.slice a ss.length cap, .int .i64 g] (w.alloc (.cells #[.int .i64 0, .int .i64 0, .int .i64 0, .int .i64 0] 39)) fun e w'' => e = .returned (.bool true) ∧ (w.alloc (.cells #[.int .i64 0, .int .i64 0, .int .i64 0, .int .i64 0] 39)) = w'') := Lib.hid (by
    have := rGood_any a cap ss hl.1 hl.2 g _ (h.below HMM.out.b)
    rw [show (skB ss && (decide (1 ≤ g) && decide (g ≤ 9))) = true by rw [hs]; simp [h1, h9]] at this
    exact this)
  have hS := rSums_any a cap ss hs g _ (h.below HMM.out.b)
  simp only [World.size_alloc] at hS
  obtain ⟨b, off, rfl, hb0, hc0⟩ := h.at_ (k := 0) (by omega)
  obtain ⟨s0, hs0⟩ : ∃ s, s = ss[0] := ⟨_, rfl⟩
  have hz0 : s0.size = wid ss := by rw [hs0]; exact (hrw 0 (by omega)).1
  rw [← hs0, Nat.add_zero] at hc0
  obtain ⟨W, hW⟩ : ∃ W, W = wid ss := ⟨_, rfl⟩
  obtain ⟨H, hH⟩ : ∃ H, H = ss.length := ⟨_, rfl⟩
  obtain ⟨U, hU⟩ : ∃ U, U = usB ss g := ⟨_, rfl⟩
  obtain ⟨N, hN⟩ : ∃ N, N = (W + 1) * (H + 1) := ⟨_, rfl⟩
  have hzI : (s0.size : Int) = W := by rw [hz0, hW]
  rw [← hU, ← hW, ← hH] at hS
  have HSM : Hid (∀ w' : World, CT (w.alloc (.cells #[.int .i64 0, .int .i64 0, .int .i64 0, .int .i64 0] 39)) (w.heap.size + 1) ((W + 1) * (H + 1)) 3 (fun k => tab U (k % (W + 1)) (k / (W + 1))) w' → RL w (w.heap.size + 1) w'.heap.size W H U 0 0 0 0 (w'.alloc (.cells #[.int .i64 0, .int .i64 0, .int .i64 0, .int .i64 0] 39))) := Lib.hid (fun w' hc => by
    have h2 : Below w'.heap.size w' (w'.alloc (.cells #[.int .i64 0, .int .i64 0, .int .i64 0, .int .i64 0] 39)) := (Below.refl _ _).alloc (Nat.le_refl _) _
    exact ⟨(HMM.out.step hc.b).alloc _ _, (SumM.of hc).below h2, hc.lt⟩)
  rw [← hN] at hS HSM
  have HS := Lib.hid hS
  have HFI : Hid (∀ nb w' X Y n m, 1 ≤ n → 1 ≤ m → X + n ≤ W → Y + m ≤ H → SumM w' nb W H U → Calls Try.prog 89 #[.slice (some ⟨nb, 0, none⟩) N N, .int .i64 W, .int .i64 H, .agg #[.int .i64 (X : Nat), .int .i64 (Y : Nat), .int .i64 (n : Nat), .int .i64 (m : Nat)]] w' fun e w'' => e = .returned (.bool (fullB U X Y n m)) ∧ Below w'.heap.size w' w'') := Lib.hid (fun nb w' X Y n m i1 i2 i3 i4 hm => by
    rw [hN]
    exact rFull_in nb W H (by omega) (by omega) U X Y n m i1 i2 i3 i4 w' hm)
  rw [← hU, ← hW, ← hH]
  rw [← hH] at HG
  have hW48 : W ≤ 48 := by omega
  have hH48 : H ≤ 48 := by omega
  have hH0 : (0 : Int) < H := by omega
  have hHn : 0 < H := by omega
  have hW48' : (W : Int) ≤ 48 := by omega
  have hH48' : (H : Int) ≤ 48 := by omega
  have HBZ : Hid (∀ a b c d, bestTo false U W H H 0 1 1 a b c d → c = 0 → a = 0 ∧ b = 0 ∧ d = 0) := Lib.hid (fun a b c d hb hc => by
    rcases hb with ⟨h1, h2, -, h4, -⟩ | ⟨hf, -⟩
    · exact ⟨h1, h2, h4⟩
    · have := hf.1; omega)
  clear hs h hl hrw hs0 hz0 hW hH hU hN hS hl1 hl2 hw1 hw2 h1 h9
  go_enter Try.func48, Try.ntmps48
  go_wp2_with fail
  refine HG.out.mono ?_
  rintro e w1 ⟨rfl, rfl⟩
  go_wp2_with fail
  refine HS.out.mono ?_
  rintro e w2 ⟨rfl, hct⟩
  have HR0 := Lib.hid (HSM.out w2 hct)
  obtain ⟨pb, hpb⟩ : ∃ pb, pb = w2.heap.size := ⟨_, rfl⟩
  have HPB : Hid (∃ z, z = w2.heap.size) := Lib.hid ⟨_, rfl⟩
  clear hct
  clear hpb pb
  obtain ⟨nb, hnb⟩ : ∃ nb, nb = w.heap.size + 1 := ⟨_, rfl⟩
  go_wp2
  rw [← hnb] at HR0
  rw [← hnb]
  clear hnb
  go_loopg [34] H (fun gk i wr => ∃ y : Nat, y + gk = H ∧ i = .int .i64 y ∧ Hid (∃ p q r s, RL w nb w2.heap.size W H U p q r s wr ∧ bestTo false U W H y 0 1 1 p q r s))
  case atStart => exact ⟨0, by omega, rfl, Lib.hid ⟨_, _, _, _, HR0.out, bestTo_start _ _ _ _⟩⟩
  case round =>
    obtain ⟨y, hy, rfl, HI⟩ := hrel
    by_cases hlt : y < H
    · obtain ⟨gk', rfl⟩ : ∃ m, gk = m + 1 := ⟨gk - 1, by omega⟩
      have hlt' : (y : Int) < H := by omega
      have hy0 : (0 : Int) ≤ y := by omega
      go_wp2
      go_loopg [38] W (fun gj i wr => ∃ x : Nat, x + gj = W ∧ i = .int .i64 x ∧ Hid (∃ p q r s, RL w nb w2.heap.size W H U p q r s wr ∧ bestTo false U W H y x 1 1 p q r s))
      case atStart => exact ⟨0, by omega, rfl, HI⟩
      case round =>
        obtain ⟨x, hx, rfl, HI2⟩ := hrel
        by_cases hlx : x < W
        · obtain ⟨gj', rfl⟩ : ∃ m, gk = m + 1 := ⟨gk - 1, by omega⟩
          have hlx' : (x : Int) < W := by omega
          have hx0 : (0 : Int) ≤ x := by omega
          go_wp2
          go_loopg [14] (W - x) (fun gn i wr => ∃ n : Nat, x + n + gn = W + 1 ∧ 1 ≤ n ∧ i = .int .i64 n ∧ Hid (∃ p q r s, RL w nb w2.heap.size W H U p q r s wr ∧ bestTo false U W H y x n 1 p q r s))
          case atStart => exact ⟨1, by omega, Nat.le_refl _, rfl, HI2⟩
          case round =>
            obtain ⟨n, hn, hn1, rfl, HI3⟩ := hrel
            by_cases hln : x + n ≤ W
            · obtain ⟨gn', rfl⟩ : ∃ m, gk = m + 1 := ⟨gk - 1, by omega⟩
              have hln' : (x : Int) + n ≤ W := by omega
              go_wp2
              go_loopg [15] (H - y) (fun gm i wr => ∃ m : Nat, y + m + gm = H + 1 ∧ 1 ≤ m ∧ i = .int .i64 m ∧ Hid (∃ p q r s, RL w nb w2.heap.size W H U p q r s wr ∧ bestTo false U W H y x n m p q r s))
              case atStart => exact ⟨1, by omega, Nat.le_refl _, rfl, HI3⟩
              case round =>
                obtain ⟨m, hm, hm1, rfl, HI4⟩ := hrel
                by_cases hlm : y + m ≤ H
                · obtain ⟨gm', rfl⟩ : ∃ m, gk = m + 1 := ⟨gk - 1, by omega⟩
                  have hlm' : (y : Int) + m ≤ H := by omega
                  obtain ⟨bx, bY, bn, bm, hrl, hbt⟩ := HI4.out
                  have HRL := Lib.hid hrl
                  have HBT := Lib.hid hbt
                  obtain ⟨bb1, bb2, bb3, bb4⟩ := bestTo_le hbt hW48 hH48
                  have HRL1 := Lib.hid (hrl.step ((Below.refl wr.heap.size wr).alloc (Nat.le_refl _) (.cells #[.int .i64 x, .int .i64 y, .int .i64 n, .int .i64 m] 39)))
                  have HN1 : Hid ((wr.alloc (.cells #[.int .i64 x, .int .i64 y, .int .i64 n, .int .i64 m] 39)).heap[wr.heap.size]? = some (.cells #[.int .i64 x, .int .i64 y, .int .i64 n, .int .i64 m] 39 (0, 0))) := Lib.hid (heap_alloc_new _ _)
                  have HCF := Lib.hid (HFI.out nb _ x y n m hn1 hm1 hln hlm HRL1.out.s)
                  have hFB := fullB_iff (U := U) hn1 hm1 hln hlm
                  obtain ⟨fb, hfb⟩ : ∃ fb, fb = fullB U x y n m := ⟨_, rfl⟩
                  rw [← hfb] at HCF hFB
                  have HFB := Lib.hid hFB
                  clear hrl hbt hfb hFB
                  cases fb with
                  | false =>
                    go_wp2_with fail
                    refine HCF.out.mono ?_
                    rintro e w3 ⟨rfl, hb3⟩
                    have HR : Hid (∃ p q r s, RL w nb w2.heap.size W H U p q r s w3 ∧ bestTo false U W H y x n (m + 1) p q r s) := Lib.hid ⟨_, _, _, _, HRL1.out.step hb3, bestTo_keep HBT.out (fun _ hf => absurd (HFB.out.2 hf) (by simp))⟩
                    clear hb3
                    go_wp2
                    go_roundg gm'
                    case measure => exact Nat.lt_succ_self _
                    case rel => exact ⟨m + 1, by omega, by omega, by go_num, HR⟩
                  | true =>
                    go_wp2_with fail
                    refine HCF.out.mono ?_
                    rintro e w3 ⟨rfl, hb3⟩
                    have hrl3 := HRL1.out.step hb3
                    have HN3 := (hb3.block _ (block_lt HN1.out)).trans HN1.out
                    obtain ⟨c0, c1, c2, c3⟩ := hrl3.cr
                    have lr := hrl3.m.head_lt
                    have f0 := hrl3.m.frozen 0
                    have f1 := hrl3.m.frozen 1
                    have f2 := hrl3.m.frozen 2
                    have f3 := hrl3.m.frozen 3
                    obtain ⟨k0, k1, k2, k3⟩ := block_4 HN3
                    have lk := block_lt HN3
                    have HRL3 := Lib.hid hrl3
                    have hfull := HFB.out.1 (by first | rfl | trivial)
                    have HFU := Lib.hid hfull
                    obtain ⟨A, hA⟩ : ∃ A, A = n * m := ⟨_, rfl⟩
                    obtain ⟨B, hB⟩ : ∃ B, B = bn * bm := ⟨_, rfl⟩
                    have bA : A ≤ 48 * 48 := by rw [hA]; exact Nat.mul_le_mul (by omega) (by omega)
                    have bB : B ≤ 48 * 48 := by rw [hB]; exact Nat.mul_le_mul bb3 bb4
                    have v1 : IntKind.i64.wrap ((n : Int) * (m : Int)) = (A : Int) := by rw [show (n : Int) * (m : Int) = (A : Int) by rw [hA]; simp]; exact IntWalk.i64_in _ (by omega)
                    have v2 : IntKind.i64.wrap ((bn : Int) * (bm : Int)) = (B : Int) := by rw [show (bn : Int) * (bm : Int) = (B : Int) by rw [hB]; simp]; exact IntWalk.i64_in _ (by omega)
                    have HAB := Lib.hid (And.intro hA hB)
                    have HTK : Hid ((B < A ∨ (A = B ∧ y = bY ∧ x = bx ∧ bn < n)) → (∃ p q r s, RL w nb w2.heap.size W H U p q r s ((((w3.setCell ⟨w2.heap.size, 0, none⟩ (.int .i64 x)).setCell ⟨w2.heap.size, 1, none⟩ (.int .i64 y)).setCell ⟨w2.heap.size, 2, none⟩ (.int .i64 n)).setCell ⟨w2.heap.size, 3, none⟩ (.int .i64 m)) ∧ bestTo false U W H y x n (m + 1) p q r s)) := Lib.hid (fun hc => ⟨x, y, n, m, HRL3.out.put x y n m, bestTo_take HBT.out (by intro e; cases e) HFU.out (by rw [← HAB.out.1, ← HAB.out.2]; exact hc)⟩)
                    have HKP : Hid (¬ (B < A ∨ (A = B ∧ y = bY ∧ x = bx ∧ bn < n)) → (∃ p q r s, RL w nb w2.heap.size W H U p q r s w3 ∧ bestTo false U W H y x n (m + 1) p q r s)) := Lib.hid (fun hc => ⟨_, _, _, _, HRL3.out, bestTo_keep HBT.out (fun _ _ => by rw [← HAB.out.1, ← HAB.out.2]; exact hc)⟩)
                    clear hb3 hrl3 HN3 hfull hA hB
                    rcases Nat.lt_trichotomy A B with hAB | hAB | hAB
                    · have HR := Lib.hid (HKP.out (by omega))
                      have e0 : ((A : Int) == (B : Int)) = false := by rw [beq_eq_false_iff_ne]; omega
                      have e1 : ¬ (B : Int) < A := by omega
                      clear hAB
                      go_wp2
                      go_roundg gm'
                      case measure => exact Nat.lt_succ_self _
                      case rel => exact ⟨m + 1, by omega, by omega, by go_num, HR⟩
                    · by_cases hyy : y = bY
                      · by_cases hxx : x = bx
                        · by_cases hnn : bn < n
                          · have HR := Lib.hid (HTK.out (.inr ⟨hAB, hyy, hxx, hnn⟩))
                            have e0 : ((A : Int) == (B : Int)) = true := by rw [hAB]; simp
                            have e1 : ¬ (B : Int) < A := by omega
                            have e2 : ((y : Int) == (bY : Int)) = true := by rw [hyy]; simp
                            have e3 : ((x : Int) == (bx : Int)) = true := by rw [hxx]; simp
                            have e4 : (bn : Int) < n := by omega
                            clear hAB hyy hxx
                            go_wp2
                            go_roundg gm'
                            case measure => exact Nat.lt_succ_self _
                            case rel => exact ⟨m + 1, by omega, by omega, by go_num, HR⟩
                          · have HR := Lib.hid (HKP.out (by omega))
                            have e0 : ((A : Int) == (B : Int)) = true := by rw [hAB]; simp
                            have e1 : ¬ (B : Int) < A := by omega
                            have e2 : ((y : Int) == (bY : Int)) = true := by rw [hyy]; simp
                            have e3 : ((x : Int) == (bx : Int)) = true := by rw [hxx]; simp
                            have e4 : ¬ (bn : Int) < n := by omega
                            clear hAB hyy hxx
                            go_wp2
                            go_roundg gm'
                            case measure => exact Nat.lt_succ_self _
                            case rel => exact ⟨m + 1, by omega, by omega, by go_num, HR⟩
                        · have HR := Lib.hid (HKP.out (by omega))
                          have e0 : ((A : Int) == (B : Int)) = true := by rw [hAB]; simp
                          have e1 : ¬ (B : Int) < A := by omega
                          have e2 : ((y : Int) == (bY : Int)) = true := by rw [hyy]; simp
                          have e3 : ((x : Int) == (bx : Int)) = false := by rw [beq_eq_false_iff_ne]; omega
                          clear hAB hyy hxx
                          go_wp2
                          go_roundg gm'
                          case measure => exact Nat.lt_succ_self _
                          case rel => exact ⟨m + 1, by omega, by omega, by go_num, HR⟩
                      · have HR := Lib.hid (HKP.out (by omega))
                        have e0 : ((A : Int) == (B : Int)) = true := by rw [hAB]; simp
                        have e1 : ¬ (B : Int) < A := by omega
                        have e2 : ((y : Int) == (bY : Int)) = false := by rw [beq_eq_false_iff_ne]; omega
                        clear hAB hyy
                        go_wp2
                        go_roundg gm'
                        case measure => exact Nat.lt_succ_self _
                        case rel => exact ⟨m + 1, by omega, by omega, by go_num, HR⟩
                    · have HR := Lib.hid (HTK.out (.inl hAB))
                      have e0 : ((A : Int) == (B : Int)) = false := by rw [beq_eq_false_iff_ne]; omega
                      have e1 : (B : Int) < A := by omega
                      clear hAB
                      go_wp2
                      go_roundg gm'
                      case measure => exact Nat.lt_succ_self _
                      case rel => exact ⟨m + 1, by omega, by omega, by go_num, HR⟩
                · have HR : Hid (∃ p q r s, RL w nb w2.heap.size W H U p q r s wr ∧ bestTo false U W H y x (n + 1) 1 p q r s) := Lib.hid (by
                    obtain ⟨p, q, r, s, k1, k2⟩ := HI4.out
                    exact ⟨p, q, r, s, k1, bestTo_wide k2 hm1 (by omega)⟩)
                  have hlm' : ¬ (y : Int) + m ≤ H := by omega
                  go_wp2
                  go_roundg gn'
                  case measure => exact Nat.lt_succ_self _
                  case rel => exact ⟨n + 1, by omega, by omega, by go_num, HR⟩
            · have HR : Hid (∃ p q r s, RL w nb w2.heap.size W H U p q r s wr ∧ bestTo false U W H y (x + 1) 1 1 p q r s) := Lib.hid (by
                obtain ⟨p, q, r, s, k1, k2⟩ := HI3.out
                exact ⟨p, q, r, s, k1, bestTo_skip k2 (fun n' m' hnn hf => by have := hf.2.2.1; omega)⟩)
              have hln' : ¬ (x : Int) + n ≤ W := by omega
              go_wp2
              go_roundg gj'
              case measure => exact Nat.lt_succ_self _
              case rel => exact ⟨x + 1, by omega, by go_num, HR⟩
        · obtain rfl : x = W := by omega
          have HR : Hid (∃ p q r s, RL w nb w2.heap.size x H U p q r s wr ∧ bestTo false U x H (y + 1) 0 1 1 p q r s) := Lib.hid (by
            obtain ⟨p, q, r, s, k1, k2⟩ := HI2.out
            exact ⟨p, q, r, s, k1, bestTo_row k2⟩)
          have hlx' : ¬ (x : Int) < x := by omega
          go_wp2
          go_roundg gk'
          case measure => exact Nat.lt_succ_self _
          case rel => exact ⟨y + 1, by omega, by go_num, HR⟩
    · obtain rfl : y = H := by omega
      have hlt' : ¬ (y : Int) < y := by omega
      obtain ⟨p, q, r, s, hrl, hbt⟩ := HI.out
      have HRL := Lib.hid hrl
      have HBT := Lib.hid hbt
      obtain ⟨c0, c1, c2, c3⟩ := hrl.cr
      have lr := hrl.m.head_lt
      have z0 := hrl.m.tail.cell 0
      have z1 := hrl.m.tail.cell 1
      have z2 := hrl.m.tail.cell 2
      have z3 := hrl.m.tail.cell 3
      have f0 := hrl.m.tail.frozen 0
      have f1 := hrl.m.tail.frozen 1
      have f2 := hrl.m.tail.frozen 2
      have f3 := hrl.m.tail.frozen 3
      have zl := hrl.m.tail.head_lt
      simp at z0 z1 z2 z3
      clear hrl hbt
      by_cases hc : r = 0
      · obtain ⟨rfl, rfl, rfl⟩ := HBZ.out _ _ _ _ HBT.out hc
        subst hc
        go_wp2
        refine bodyPost_ret (v := .tuple #[.agg #[.int .i64 0, .int .i64 0, .int .i64 0, .int .i64 0], .int .i64 7]) (by simp [results, Try.results48, go_sem, z0, z1, z2, z3]) rfl ⟨0, 0, 0, 0, 7, rfl, ?_, HBT.out, .inl ⟨rfl, rfl⟩⟩
        exact (((HRL.out.m.b.setCell (Nat.le_refl _) _).setCell (Nat.le_refl _) _).setCell (Nat.le_refl _) _).setCell (Nat.le_refl _) _
      · have hc0 : ((r : Int) == 0) = false := by rw [beq_eq_false_iff_ne]; omega
        have HC := Lib.hid hc
        clear hc
        go_wp2
        refine bodyPost_ret (v := .tuple #[.agg #[.int .i64 p, .int .i64 q, .int .i64 r, .int .i64 s], .int .i64 0]) (by simp [results, Try.results48, go_sem, z0, z1, z2, z3]) rfl ⟨p, q, r, s, 0, rfl, ?_, HBT.out, .inr ⟨HC.out, rfl⟩⟩
        exact (((HRL.out.m.b.setCell (Nat.le_refl _) _).setCell (Nat.le_refl _) _).setCell (Nat.le_refl _) _).setCell (Nat.le_refl _) _


set_option maxRecDepth 100000 in
set_option maxHeartbeats 6400000 in
theorem rLargest_S (a : Option Addr) (cap : Nat) (ss : List ByteArray) (hs : skB ss = true) (g : Int) (h1 : 1 ≤ g) (h9 : g ≤ 9) (w : World) (h : StrS w a ss) :
    Calls Try.prog 48 #[.slice a ss.length cap, .int .i64 g, .bool true] w fun e w' => ∃ p q r s : Nat, ∃ E : Int, e = .returned (.tuple #[.agg #[.int .i64 p, .int .i64 q, .int .i64 r, .int .i64 s], .int .i64 E]) ∧ Below w.heap.size w w' ∧ bestTo true (usB ss g) (wid ss) ss.length ss.length 0 1 1 p q r s ∧ ((r = 0 ∧ E = 7) ∨ (r ≠ 0 ∧ E = 0)) := by
  obtain ⟨⟨hl1, hl2⟩, ⟨hw1, hw2⟩, hrw⟩ := skB_iff.1 hs
  have hl := sk_long hs
  have HMM := Lib.hid ((Mem.nil w).alloc #[.int .i64 0, .int .i64 0, .int .i64 0, .int .i64 0] 39)
  have HG : Hid (Calls Try.prog 22 #[.slice a ss.length cap, .int .i64 g] (w.alloc (.cells #[.int .i64 0, .int .i64 0, .int .i64 0, .int .i64 0] 39)) fun e w'' => e = .returned (.bool true) ∧ (w.alloc (.cells #[.int .i64 0, .int .i64 0, .int .i64 0, .int .i64 0] 39)) = w'') := Lib.hid (by
    have := rGood_any a cap ss hl.1 hl.2 g _ (h.below HMM.out.b)
    rw [show (skB ss && (decide (1 ≤ g) && decide (g ≤ 9))) = true by rw [hs]; simp [h1, h9]] at this
    exact this)
  have hS := rSums_any a cap ss hs g _ (h.below HMM.out.b)
  simp only [World.size_alloc] at hS
  obtain ⟨b, off, rfl, hb0, hc0⟩ := h.at_ (k := 0) (by omega)
  obtain ⟨s0, hs0⟩ : ∃ s, s = ss[0] := ⟨_, rfl⟩
  have hz0 : s0.size = wid ss := by rw [hs0]; exact (hrw 0 (by omega)).1
  rw [← hs0, Nat.add_zero] at hc0
  obtain ⟨W, hW⟩ : ∃ W, W = wid ss := ⟨_, rfl⟩
  obtain ⟨H, hH⟩ : ∃ H, H = ss.length := ⟨_, rfl⟩
  obtain ⟨U, hU⟩ : ∃ U, U = usB ss g := ⟨_, rfl⟩
  obtain ⟨N, hN⟩ : ∃ N, N = (W + 1) * (H + 1) := ⟨_, rfl⟩
  have hzI : (s0.size : Int) = W := by rw [hz0, hW]
  rw [← hU, ← hW, ← hH] at hS
  have HSM : Hid (∀ w' : World, CT (w.alloc (.cells #[.int .i64 0, .int .i64 0, .int .i64 0, .int .i64 0] 39)) (w.heap.size + 1) ((W + 1) * (H + 1)) 3 (fun k => tab U (k % (W + 1)) (k / (W + 1))) w' → RL w (w.heap.size + 1) w'.heap.size W H U 0 0 0 0 (w'.alloc (.cells #[.int .i64 0, .int .i64 0, .int .i64 0, .int .i64 0] 39))) := Lib.hid (fun w' hc => by
    have h2 : Below w'.heap.size w' (w'.alloc (.cells #[.int .i64 0, .int .i64 0, .int .i64 0, .int .i64 0] 39)) := (Below.refl _ _).alloc (Nat.le_refl _) _
    exact ⟨(HMM.out.step hc.b).alloc _ _, (SumM.of hc).below h2, hc.lt⟩)
  rw [← hN] at hS HSM
  have HS := Lib.hid hS
  have HFI : Hid (∀ nb w' X Y n m, 1 ≤ n → 1 ≤ m → X + n ≤ W → Y + m ≤ H → SumM w' nb W H U → Calls Try.prog 89 #[.slice (some ⟨nb, 0, none⟩) N N, .int .i64 W, .int .i64 H, .agg #[.int .i64 (X : Nat), .int .i64 (Y : Nat), .int .i64 (n : Nat), .int .i64 (m : Nat)]] w' fun e w'' => e = .returned (.bool (fullB U X Y n m)) ∧ Below w'.heap.size w' w'') := Lib.hid (fun nb w' X Y n m i1 i2 i3 i4 hm => by
    rw [hN]
    exact rFull_in nb W H (by omega) (by omega) U X Y n m i1 i2 i3 i4 w' hm)
  rw [← hU, ← hW, ← hH]
  rw [← hH] at HG
  have hW48 : W ≤ 48 := by omega
  have hH48 : H ≤ 48 := by omega
  have hH0 : (0 : Int) < H := by omega
  have hHn : 0 < H := by omega
  have hW48' : (W : Int) ≤ 48 := by omega
  have hH48' : (H : Int) ≤ 48 := by omega
  have HBZ : Hid (∀ a b c d, bestTo true U W H H 0 1 1 a b c d → c = 0 → a = 0 ∧ b = 0 ∧ d = 0) := Lib.hid (fun a b c d hb hc => by
    rcases hb with ⟨h1, h2, -, h4, -⟩ | ⟨hf, -⟩
    · exact ⟨h1, h2, h4⟩
    · have := hf.1; omega)
  clear hs h hl hrw hs0 hz0 hW hH hU hN hS hl1 hl2 hw1 hw2 h1 h9
  go_enter Try.func48, Try.ntmps48
  go_wp2_with fail
  refine HG.out.mono ?_
  rintro e w1 ⟨rfl, rfl⟩
  go_wp2_with fail
  refine HS.out.mono ?_
  rintro e w2 ⟨rfl, hct⟩
  have HR0 := Lib.hid (HSM.out w2 hct)
  obtain ⟨pb, hpb⟩ : ∃ pb, pb = w2.heap.size := ⟨_, rfl⟩
  have HPB : Hid (∃ z, z = w2.heap.size) := Lib.hid ⟨_, rfl⟩
  clear hct
  clear hpb pb
  obtain ⟨nb, hnb⟩ : ∃ nb, nb = w.heap.size + 1 := ⟨_, rfl⟩
  go_wp2
  rw [← hnb] at HR0
  rw [← hnb]
  clear hnb
  go_loopg [34] H (fun gk i wr => ∃ y : Nat, y + gk = H ∧ i = .int .i64 y ∧ Hid (∃ p q r s, RL w nb w2.heap.size W H U p q r s wr ∧ bestTo true U W H y 0 1 1 p q r s))
  case atStart => exact ⟨0, by omega, rfl, Lib.hid ⟨_, _, _, _, HR0.out, bestTo_start _ _ _ _⟩⟩
  case round =>
    obtain ⟨y, hy, rfl, HI⟩ := hrel
    by_cases hlt : y < H
    · obtain ⟨gk', rfl⟩ : ∃ m, gk = m + 1 := ⟨gk - 1, by omega⟩
      have hlt' : (y : Int) < H := by omega
      have hy0 : (0 : Int) ≤ y := by omega
      go_wp2
      go_loopg [38] W (fun gj i wr => ∃ x : Nat, x + gj = W ∧ i = .int .i64 x ∧ Hid (∃ p q r s, RL w nb w2.heap.size W H U p q r s wr ∧ bestTo true U W H y x 1 1 p q r s))
      case atStart => exact ⟨0, by omega, rfl, HI⟩
      case round =>
        obtain ⟨x, hx, rfl, HI2⟩ := hrel
        by_cases hlx : x < W
        · obtain ⟨gj', rfl⟩ : ∃ m, gk = m + 1 := ⟨gk - 1, by omega⟩
          have hlx' : (x : Int) < W := by omega
          have hx0 : (0 : Int) ≤ x := by omega
          go_wp2
          go_loopg [14] (W - x) (fun gn i wr => ∃ n : Nat, x + n + gn = W + 1 ∧ 1 ≤ n ∧ i = .int .i64 n ∧ Hid (∃ p q r s, RL w nb w2.heap.size W H U p q r s wr ∧ bestTo true U W H y x n 1 p q r s))
          case atStart => exact ⟨1, by omega, Nat.le_refl _, rfl, HI2⟩
          case round =>
            obtain ⟨n, hn, hn1, rfl, HI3⟩ := hrel
            by_cases hln : x + n ≤ W
            · obtain ⟨gn', rfl⟩ : ∃ m, gk = m + 1 := ⟨gk - 1, by omega⟩
              have hln' : (x : Int) + n ≤ W := by omega
              go_wp2
              go_loopg [15] (H - y) (fun gm i wr => ∃ m : Nat, y + m + gm = H + 1 ∧ 1 ≤ m ∧ i = .int .i64 m ∧ Hid (∃ p q r s, RL w nb w2.heap.size W H U p q r s wr ∧ bestTo true U W H y x n m p q r s))
              case atStart => exact ⟨1, by omega, Nat.le_refl _, rfl, HI3⟩
              case round =>
                obtain ⟨m, hm, hm1, rfl, HI4⟩ := hrel
                by_cases hlm : y + m ≤ H
                · obtain ⟨gm', rfl⟩ : ∃ m, gk = m + 1 := ⟨gk - 1, by omega⟩
                  have hlm' : (y : Int) + m ≤ H := by omega
                  obtain ⟨bx, bY, bn, bm, hrl, hbt⟩ := HI4.out
                  have HRL := Lib.hid hrl
                  have HBT := Lib.hid hbt
                  obtain ⟨bb1, bb2, bb3, bb4⟩ := bestTo_le hbt hW48 hH48
                  have HRL1 := Lib.hid (hrl.step ((Below.refl wr.heap.size wr).alloc (Nat.le_refl _) (.cells #[.int .i64 x, .int .i64 y, .int .i64 n, .int .i64 m] 39)))
                  have HN1 : Hid ((wr.alloc (.cells #[.int .i64 x, .int .i64 y, .int .i64 n, .int .i64 m] 39)).heap[wr.heap.size]? = some (.cells #[.int .i64 x, .int .i64 y, .int .i64 n, .int .i64 m] 39 (0, 0))) := Lib.hid (heap_alloc_new _ _)
                  have HCF := Lib.hid (HFI.out nb _ x y n m hn1 hm1 hln hlm HRL1.out.s)
                  have hFB := fullB_iff (U := U) hn1 hm1 hln hlm
                  obtain ⟨fb, hfb⟩ : ∃ fb, fb = fullB U x y n m := ⟨_, rfl⟩
                  rw [← hfb] at HCF hFB
                  have HFB := Lib.hid hFB
                  clear hrl hbt hfb hFB
                  by_cases hnm : n = m
                  · have e00 : ((n : Int) != (m : Int)) = false := by rw [hnm]; simp
                    have HNM := Lib.hid hnm
                    clear hnm
                    cases fb with
                    | false =>
                      go_wp2_with fail
                      refine HCF.out.mono ?_
                      rintro e w3 ⟨rfl, hb3⟩
                      have HR : Hid (∃ p q r s, RL w nb w2.heap.size W H U p q r s w3 ∧ bestTo true U W H y x n (m + 1) p q r s) := Lib.hid ⟨_, _, _, _, HRL1.out.step hb3, bestTo_keep HBT.out (fun _ hf => absurd (HFB.out.2 hf) (by simp))⟩
                      clear hb3
                      go_wp2
                      go_roundg gm'
                      case measure => exact Nat.lt_succ_self _
                      case rel => exact ⟨m + 1, by omega, by omega, by go_num, HR⟩
                    | true =>
                      go_wp2_with fail
                      refine HCF.out.mono ?_
                      rintro e w3 ⟨rfl, hb3⟩
                      have hrl3 := HRL1.out.step hb3
                      have HN3 := (hb3.block _ (block_lt HN1.out)).trans HN1.out
                      obtain ⟨c0, c1, c2, c3⟩ := hrl3.cr
                      have lr := hrl3.m.head_lt
                      have f0 := hrl3.m.frozen 0
                      have f1 := hrl3.m.frozen 1
                      have f2 := hrl3.m.frozen 2
                      have f3 := hrl3.m.frozen 3
                      obtain ⟨k0, k1, k2, k3⟩ := block_4 HN3
                      have lk := block_lt HN3
                      have HRL3 := Lib.hid hrl3
                      have hfull := HFB.out.1 (by first | rfl | trivial)
                      have HFU := Lib.hid hfull
                      obtain ⟨A, hA⟩ : ∃ A, A = n * m := ⟨_, rfl⟩
                      obtain ⟨B, hB⟩ : ∃ B, B = bn * bm := ⟨_, rfl⟩
                      have bA : A ≤ 48 * 48 := by rw [hA]; exact Nat.mul_le_mul (by omega) (by omega)
                      have bB : B ≤ 48 * 48 := by rw [hB]; exact Nat.mul_le_mul bb3 bb4
                      have v1 : IntKind.i64.wrap ((n : Int) * (m : Int)) = (A : Int) := by rw [show (n : Int) * (m : Int) = (A : Int) by rw [hA]; simp]; exact IntWalk.i64_in _ (by omega)
                      have v2 : IntKind.i64.wrap ((bn : Int) * (bm : Int)) = (B : Int) := by rw [show (bn : Int) * (bm : Int) = (B : Int) by rw [hB]; simp]; exact IntWalk.i64_in _ (by omega)
                      have HAB := Lib.hid (And.intro hA hB)
                      have HTK : Hid ((B < A ∨ (A = B ∧ y = bY ∧ x = bx ∧ bn < n)) → (∃ p q r s, RL w nb w2.heap.size W H U p q r s ((((w3.setCell ⟨w2.heap.size, 0, none⟩ (.int .i64 x)).setCell ⟨w2.heap.size, 1, none⟩ (.int .i64 y)).setCell ⟨w2.heap.size, 2, none⟩ (.int .i64 n)).setCell ⟨w2.heap.size, 3, none⟩ (.int .i64 m)) ∧ bestTo true U W H y x n (m + 1) p q r s)) := Lib.hid (fun hc => ⟨x, y, n, m, HRL3.out.put x y n m, bestTo_take HBT.out (fun _ => HNM.out) HFU.out (by rw [← HAB.out.1, ← HAB.out.2]; exact hc)⟩)
                      have HKP : Hid (¬ (B < A ∨ (A = B ∧ y = bY ∧ x = bx ∧ bn < n)) → (∃ p q r s, RL w nb w2.heap.size W H U p q r s w3 ∧ bestTo true U W H y x n (m + 1) p q r s)) := Lib.hid (fun hc => ⟨_, _, _, _, HRL3.out, bestTo_keep HBT.out (fun _ _ => by rw [← HAB.out.1, ← HAB.out.2]; exact hc)⟩)
                      clear hb3 hrl3 HN3 hfull hA hB
                      rcases Nat.lt_trichotomy A B with hAB | hAB | hAB
                      · have HR := Lib.hid (HKP.out (by omega))
                        have e0 : ((A : Int) == (B : Int)) = false := by rw [beq_eq_false_iff_ne]; omega
                        have e1 : ¬ (B : Int) < A := by omega
                        clear hAB
                        go_wp2
                        go_roundg gm'
                        case measure => exact Nat.lt_succ_self _
                        case rel => exact ⟨m + 1, by omega, by omega, by go_num, HR⟩
                      · by_cases hyy : y = bY
                        · by_cases hxx : x = bx
                          · by_cases hnn : bn < n
                            · have HR := Lib.hid (HTK.out (.inr ⟨hAB, hyy, hxx, hnn⟩))
                              have e0 : ((A : Int) == (B : Int)) = true := by rw [hAB]; simp
                              have e1 : ¬ (B : Int) < A := by omega
                              have e2 : ((y : Int) == (bY : Int)) = true := by rw [hyy]; simp
                              have e3 : ((x : Int) == (bx : Int)) = true := by rw [hxx]; simp
                              have e4 : (bn : Int) < n := by omega
                              clear hAB hyy hxx
                              go_wp2
                              go_roundg gm'
                              case measure => exact Nat.lt_succ_self _
                              case rel => exact ⟨m + 1, by omega, by omega, by go_num, HR⟩
                            · have HR := Lib.hid (HKP.out (by omega))
                              have e0 : ((A : Int) == (B : Int)) = true := by rw [hAB]; simp
                              have e1 : ¬ (B : Int) < A := by omega
                              have e2 : ((y : Int) == (bY : Int)) = true := by rw [hyy]; simp
                              have e3 : ((x : Int) == (bx : Int)) = true := by rw [hxx]; simp
                              have e4 : ¬ (bn : Int) < n := by omega
                              clear hAB hyy hxx
                              go_wp2
                              go_roundg gm'
                              case measure => exact Nat.lt_succ_self _
                              case rel => exact ⟨m + 1, by omega, by omega, by go_num, HR⟩
                          · have HR := Lib.hid (HKP.out (by omega))
                            have e0 : ((A : Int) == (B : Int)) = true := by rw [hAB]; simp
                            have e1 : ¬ (B : Int) < A := by omega
                            have e2 : ((y : Int) == (bY : Int)) = true := by rw [hyy]; simp
                            have e3 : ((x : Int) == (bx : Int)) = false := by rw [beq_eq_false_iff_ne]; omega
                            clear hAB hyy hxx
                            go_wp2
                            go_roundg gm'
                            case measure => exact Nat.lt_succ_self _
                            case rel => exact ⟨m + 1, by omega, by omega, by go_num, HR⟩
                        · have HR := Lib.hid (HKP.out (by omega))
                          have e0 : ((A : Int) == (B : Int)) = true := by rw [hAB]; simp
                          have e1 : ¬ (B : Int) < A := by omega
                          have e2 : ((y : Int) == (bY : Int)) = false := by rw [beq_eq_false_iff_ne]; omega
                          clear hAB hyy
                          go_wp2
                          go_roundg gm'
                          case measure => exact Nat.lt_succ_self _
                          case rel => exact ⟨m + 1, by omega, by omega, by go_num, HR⟩
                      · have HR := Lib.hid (HTK.out (.inl hAB))
                        have e0 : ((A : Int) == (B : Int)) = false := by rw [beq_eq_false_iff_ne]; omega
                        have e1 : (B : Int) < A := by omega
                        clear hAB
                        go_wp2
                        go_roundg gm'
                        case measure => exact Nat.lt_succ_self _
                        case rel => exact ⟨m + 1, by omega, by omega, by go_num, HR⟩
                  · have HR : Hid (∃ p q r s, RL w nb w2.heap.size W H U p q r s (wr.alloc (.cells #[.int .i64 x, .int .i64 y, .int .i64 n, .int .i64 m] 39)) ∧ bestTo true U W H y x n (m + 1) p q r s) := Lib.hid ⟨_, _, _, _, HRL1.out, bestTo_keep HBT.out (fun hk _ => absurd (hk rfl) hnm)⟩
                    have e0 : ((n : Int) != (m : Int)) = true := by rw [bne_iff_ne]; omega
                    clear hnm
                    go_wp2
                    go_roundg gm'
                    case measure => exact Nat.lt_succ_self _
                    case rel => exact ⟨m + 1, by omega, by omega, by go_num, HR⟩
                · have HR : Hid (∃ p q r s, RL w nb w2.heap.size W H U p q r s wr ∧ bestTo true U W H y x (n + 1) 1 p q r s) := Lib.hid (by
                    obtain ⟨p, q, r, s, k1, k2⟩ := HI4.out
                    exact ⟨p, q, r, s, k1, bestTo_wide k2 hm1 (by omega)⟩)
                  have hlm' : ¬ (y : Int) + m ≤ H := by omega
                  go_wp2
                  go_roundg gn'
                  case measure => exact Nat.lt_succ_self _
                  case rel => exact ⟨n + 1, by omega, by omega, by go_num, HR⟩
            · have HR : Hid (∃ p q r s, RL w nb w2.heap.size W H U p q r s wr ∧ bestTo true U W H y (x + 1) 1 1 p q r s) := Lib.hid (by
                obtain ⟨p, q, r, s, k1, k2⟩ := HI3.out
                exact ⟨p, q, r, s, k1, bestTo_skip k2 (fun n' m' hnn hf => by have := hf.2.2.1; omega)⟩)
              have hln' : ¬ (x : Int) + n ≤ W := by omega
              go_wp2
              go_roundg gj'
              case measure => exact Nat.lt_succ_self _
              case rel => exact ⟨x + 1, by omega, by go_num, HR⟩
        · obtain rfl : x = W := by omega
          have HR : Hid (∃ p q r s, RL w nb w2.heap.size x H U p q r s wr ∧ bestTo true U x H (y + 1) 0 1 1 p q r s) := Lib.hid (by
            obtain ⟨p, q, r, s, k1, k2⟩ := HI2.out
            exact ⟨p, q, r, s, k1, bestTo_row k2⟩)
          have hlx' : ¬ (x : Int) < x := by omega
          go_wp2
          go_roundg gk'
          case measure => exact Nat.lt_succ_self _
          case rel => exact ⟨y + 1, by omega, by go_num, HR⟩
    · obtain rfl : y = H := by omega
      have hlt' : ¬ (y : Int) < y := by omega
      obtain ⟨p, q, r, s, hrl, hbt⟩ := HI.out
      have HRL := Lib.hid hrl
      have HBT := Lib.hid hbt
      obtain ⟨c0, c1, c2, c3⟩ := hrl.cr
      have lr := hrl.m.head_lt
      have z0 := hrl.m.tail.cell 0
      have z1 := hrl.m.tail.cell 1
      have z2 := hrl.m.tail.cell 2
      have z3 := hrl.m.tail.cell 3
      have f0 := hrl.m.tail.frozen 0
      have f1 := hrl.m.tail.frozen 1
      have f2 := hrl.m.tail.frozen 2
      have f3 := hrl.m.tail.frozen 3
      have zl := hrl.m.tail.head_lt
      simp at z0 z1 z2 z3
      clear hrl hbt
      by_cases hc : r = 0
      · obtain ⟨rfl, rfl, rfl⟩ := HBZ.out _ _ _ _ HBT.out hc
        subst hc
        go_wp2
        refine bodyPost_ret (v := .tuple #[.agg #[.int .i64 0, .int .i64 0, .int .i64 0, .int .i64 0], .int .i64 7]) (by simp [results, Try.results48, go_sem, z0, z1, z2, z3]) rfl ⟨0, 0, 0, 0, 7, rfl, ?_, HBT.out, .inl ⟨rfl, rfl⟩⟩
        exact (((HRL.out.m.b.setCell (Nat.le_refl _) _).setCell (Nat.le_refl _) _).setCell (Nat.le_refl _) _).setCell (Nat.le_refl _) _
      · have hc0 : ((r : Int) == 0) = false := by rw [beq_eq_false_iff_ne]; omega
        have HC := Lib.hid hc
        clear hc
        go_wp2
        refine bodyPost_ret (v := .tuple #[.agg #[.int .i64 p, .int .i64 q, .int .i64 r, .int .i64 s], .int .i64 0]) (by simp [results, Try.results48, go_sem, z0, z1, z2, z3]) rfl ⟨p, q, r, s, 0, rfl, ?_, HBT.out, .inr ⟨HC.out, rfl⟩⟩
        exact (((HRL.out.m.b.setCell (Nat.le_refl _) _).setCell (Nat.le_refl _) _).setCell (Nat.le_refl _) _).setCell (Nat.le_refl _) _


end Go.Proofs.Ytfnkomecbbmfmaa

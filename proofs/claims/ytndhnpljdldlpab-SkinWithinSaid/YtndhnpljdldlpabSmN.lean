/- Skins: the reference's Sums. -/
import Derived.Test.YtndhnpljdldlpabSmE
import Derived.Test.YtndhnpljdldlpabSmD
import Derived.BigQuiet
namespace Go.Proofs.Ytndhnpljdldlpab
open Go.RowKit

theorem CT.congrN {w0 wr : World} {n N : Nat} {T : TypeId} {f f' : Nat → Int} (h : CT w0 n N T f wr) (e : ∀ k, k < N → f k = f' k) : CT w0 n N T f' wr := ⟨h.b, h.le, by rw [h.arr, cA_eqs e]⟩
theorem CT.new (w : World) (N : Nat) (T : TypeId) : CT w w.heap.size N T (fun _ => 0) (w.alloc (.cells (cA N fun _ => 0) T)) := ⟨(Below.refl _ _).alloc (Nat.le_refl _) _, Nat.le_refl _, heap_alloc_new _ _⟩

theorem place_iff {K k a b : Nat} (hb : b < K) : k = a * K + b ↔ k / K = a ∧ k % K = b := by
  constructor
  · rintro rfl
    have hK : 0 < K := by omega
    rw [Nat.add_comm, Nat.add_mul_div_right _ _ hK, Nat.add_mul_mod_self_right, Nat.div_eq_of_lt hb, Nat.mod_eq_of_lt hb]
    exact ⟨by omega, rfl⟩
  · rintro ⟨rfl, rfl⟩
    have := Nat.div_add_mod k K
    rw [Nat.mul_comm] at this
    omega

set_option maxRecDepth 100000 in
set_option maxHeartbeats 3200000 in
theorem rSums_any (a : Option Addr) (cap : Nat) (ss : List ByteArray) (hs : skB ss = true) (g : Int) (w : World) (h : StrS w a ss) :
    Calls Try.prog 36 #[.slice a ss.length cap, .int .i64 g] w fun e w' => e = .returned (.slice (some ⟨w.heap.size, 0, none⟩) ((wid ss + 1) * (ss.length + 1)) ((wid ss + 1) * (ss.length + 1))) ∧ CT w w.heap.size ((wid ss + 1) * (ss.length + 1)) 3 (fun k => tab (usB ss g) (k % (wid ss + 1)) (k / (wid ss + 1))) w' := by
  obtain ⟨⟨hl1, hl2⟩, ⟨hw1, hw2⟩, hrw⟩ := skB_iff.1 hs
  have HGR : Hid (∀ w' (x y : Nat), Below w.heap.size w w' → ∃ z : Int, z = grd ss x y ∧ 0 ≤ z ∧ z ≤ 9 ∧ Calls Try.prog 22 #[.slice a ss.length cap, .int .i64 x, .int .i64 y] w' fun e w'' => e = .returned (.int .i64 z) ∧ w' = w'') := Lib.hid (fun w' x y hb =>
    ⟨_, rfl, (grd_le9 hs x y).1, (grd_le9 hs x y).2, rGrade_any a cap ss hs x y w' (h.below hb)⟩)
  obtain ⟨b, off, rfl, hb0, hc0⟩ := h.at_ (k := 0) (by omega)
  obtain ⟨s0, hs0⟩ : ∃ s, s = ss[0] := ⟨_, rfl⟩
  have hz0 : s0.size = wid ss := by rw [hs0]; exact (hrw 0 (by omega)).1
  rw [← hs0, Nat.add_zero] at hc0
  obtain ⟨W, hW⟩ : ∃ W, W = wid ss := ⟨_, rfl⟩
  obtain ⟨H, hH⟩ : ∃ H, H = ss.length := ⟨_, rfl⟩
  have hus : ∀ (x y : Nat), usB ss g x y = decide (g ≤ grd ss x y) := fun x y => rfl
  obtain ⟨U, hU⟩ : ∃ U, U = usB ss g := ⟨_, rfl⟩
  have HUS : Hid (∀ (x y : Nat), U x y = decide (g ≤ grd ss x y)) := Lib.hid (fun x y => by rw [hU]; rfl)
  rw [← hU, ← hW, ← hH]
  rw [← hH] at HGR hl1 hl2
  rw [← hW] at hw1 hw2
  have hzI : (s0.size : Int) = W := by rw [hz0, hW]
  obtain ⟨K, hK⟩ : ∃ K, K = W + 1 := ⟨_, rfl⟩
  obtain ⟨L, hL⟩ : ∃ L, L = H + 1 := ⟨_, rfl⟩
  obtain ⟨N, hN⟩ : ∃ N, N = K * L := ⟨_, rfl⟩
  rw [← hK, ← hL, ← hN]
  have hK49 : K ≤ 49 := by omega
  have hL49 : L ≤ 49 := by omega
  have hN2401 : N ≤ 49 * 49 := by rw [hN]; exact Nat.mul_le_mul hK49 hL49
  have v1 : IntKind.i64.wrap ((W : Int) + 1) = (K : Int) := by rw [IntWalk.i64_in _ (by omega)]; omega
  have v2 : IntKind.i64.wrap ((H : Int) + 1) = (L : Int) := by rw [IntWalk.i64_in _ (by omega)]; omega
  have v3 : IntKind.i64.wrap ((K : Int) * (L : Int)) = (N : Int) := by rw [show (K : Int) * (L : Int) = (N : Int) by rw [hN]; simp]; exact IntWalk.i64_in _ (by omega)
  have hmk := sk_makeInts N (by omega) w
  have hN0 : (0 : Int) ≤ N := by omega
  have hH0 : (0 : Int) < H := by omega
  have hHn : 0 < H := by omega
  have hH48 : (H : Int) ≤ 48 := by omega
  have hW48 : (W : Int) ≤ 48 := by omega
  have hKp : 0 < K := by omega
  have HF := Lib.hid (And.intro hK (And.intro hL hN))
  have HC0 : Hid (CT w w.heap.size N 3 (fun k => tabTo U 0 0 (k / K) (k % K)) (w.alloc (.cells (cA N fun _ => 0) 3))) := Lib.hid ((CT.new w N _).congr (by funext k; rw [tabTo_zero]))
  clear hs h hrw hs0 hz0 hW hH hU hus hK hL hN
  go_enter Try.func36, Try.ntmps36
  go_wp2
  clear hmk v2 v3
  go_loopg [8] H (fun gk i wr => ∃ yy : Nat, yy + gk = H + 1 ∧ 1 ≤ yy ∧ i = .int .i64 yy ∧ Hid (CT w w.heap.size N 3 (fun k => tabTo U (yy - 1) 0 (k / K) (k % K)) wr))
  case atStart => exact ⟨1, by omega, Nat.le_refl _, rfl, HC0⟩
  case round =>
    obtain ⟨yy, hy, hy1, rfl, HI⟩ := hrel
    by_cases hlt : yy ≤ H
    · obtain ⟨gk', rfl⟩ : ∃ m, gk = m + 1 := ⟨gk - 1, by omega⟩
      have hlt' : (yy : Int) ≤ H := by omega
      obtain ⟨cy, hcy⟩ : ∃ cy, cy = yy - 1 := ⟨_, rfl⟩
      have u1 : IntKind.i64.wrap ((yy : Int) - 1) = (cy : Int) := by rw [IntWalk.i64_in _ (by omega)]; omega
      have hcyH : cy < H := by omega
      have HCY : Hid (yy = cy + 1) := Lib.hid (by omega)
      obtain ⟨m0, hm0⟩ : ∃ m, m = cy * K := ⟨_, rfl⟩
      obtain ⟨m1, hm1⟩ : ∃ m, m = yy * K := ⟨_, rfl⟩
      have hm01 : m1 = m0 + K := by rw [hm1, hm0, HCY.out, Nat.add_mul]; omega
      have hm1N : m1 + K ≤ N := by
        rw [hm1, HF.out.2.2, Nat.mul_comm K L]
        have : (yy + 1) * K ≤ L * K := Nat.mul_le_mul_right K (by have := HF.out.2.1; omega)
        rw [Nat.add_mul] at this
        omega
      have u2 : IntKind.i64.wrap ((cy : Int) * (K : Int)) = (m0 : Int) := by rw [show (cy : Int) * (K : Int) = (m0 : Int) by rw [hm0]; simp]; exact IntWalk.i64_in _ (by omega)
      have u3 : IntKind.i64.wrap ((yy : Int) * (K : Int)) = (m1 : Int) := by rw [show (yy : Int) * (K : Int) = (m1 : Int) by rw [hm1]; simp]; exact IntWalk.i64_in _ (by omega)
      have HM := Lib.hid (And.intro hm0 (And.intro hm1 hm01))
      have HI1 : Hid (CT w w.heap.size N 3 (fun k => tabTo U cy (1 - 1) (k / K) (k % K)) wr) := Lib.hid (by rw [hcy]; exact HI.out)
      clear hcy hm0 hm1 hm01
      go_wp2
      go_loopg [9] W (fun gj i wr => ∃ xx : Nat, xx + gj = W + 1 ∧ 1 ≤ xx ∧ i = .int .i64 xx ∧ Hid (CT w w.heap.size N 3 (fun k => tabTo U cy (xx - 1) (k / K) (k % K)) wr))
      case atStart => exact ⟨1, by omega, Nat.le_refl _, rfl, HI1⟩
      case round =>
        obtain ⟨xx, hx, hx1, rfl, HI2⟩ := hrel
        by_cases hlx : xx ≤ W
        · obtain ⟨gj', rfl⟩ : ∃ m, gk = m + 1 := ⟨gk - 1, by omega⟩
          have hlx' : (xx : Int) ≤ W := by omega
          obtain ⟨cx, hcx⟩ : ∃ cx, cx = xx - 1 := ⟨_, rfl⟩
          have hcxx : xx = cx + 1 := by omega
          have hKW := HF.out.1
          obtain ⟨hm0, hm1, hm01⟩ := HM.out
          have hcyy := HCY.out
          have t1 : IntKind.i64.wrap ((xx : Int) - 1) = (cx : Int) := by rw [IntWalk.i64_in _ (by omega)]; omega
          obtain ⟨i1, hi1⟩ : ∃ i, i = m0 + xx := ⟨_, rfl⟩
          obtain ⟨i2, hi2⟩ : ∃ i, i = m1 + xx := ⟨_, rfl⟩
          obtain ⟨i3, hi3⟩ : ∃ i, i = m1 + cx := ⟨_, rfl⟩
          obtain ⟨i4, hi4⟩ : ∃ i, i = m0 + cx := ⟨_, rfl⟩
          have t2 : IntKind.i64.wrap ((m0 : Int) + xx) = (i1 : Int) := by rw [IntWalk.i64_in _ (by omega)]; omega
          have t3 : IntKind.i64.wrap ((m1 : Int) + xx) = (i2 : Int) := by rw [IntWalk.i64_in _ (by omega)]; omega
          have t4 : IntKind.i64.wrap ((i2 : Int) - 1) = (i3 : Int) := by rw [IntWalk.i64_in _ (by omega)]; omega
          have t5 : IntKind.i64.wrap ((i1 : Int) - 1) = (i4 : Int) := by rw [IntWalk.i64_in _ (by omega)]; omega
          have d1 := HI2.out.cell (i := i1) (by omega)
          have d2 := HI2.out.cell (i := i2) (by omega)
          have d3 := HI2.out.cell (i := i3) (by omega)
          have d4 := HI2.out.cell (i := i4) (by omega)
          have d6 := HI2.out.lt
          have p1 := (place_iff (K := K) (k := i1) (a := cy) (b := cx + 1) (by omega)).1 (by omega)
          have p2 := (place_iff (K := K) (k := i2) (a := cy + 1) (b := cx + 1) (by omega)).1 (by rw [← hcyy]; omega)
          have p3 := (place_iff (K := K) (k := i3) (a := cy + 1) (b := cx) (by omega)).1 (by rw [← hcyy]; omega)
          have p4 := (place_iff (K := K) (k := i4) (a := cy) (b := cx) (by omega)).1 (by omega)
          rw [← hcx, p1.1, p1.2] at d1
          rw [← hcx] at d2
          rw [← hcx, p3.1, p3.2] at d3
          rw [← hcx, p4.1, p4.2] at d4
          have q1 := tabTo_bounds U W H cy cx cy (cx + 1) (by omega) (by omega) (by omega) (by omega)
          have q3 := tabTo_bounds U W H cy cx (cy + 1) cx (by omega) (by omega) (by omega) (by omega)
          have q4 := tabTo_bounds U W H cy cx cy cx (by omega) (by omega) (by omega) (by omega)
          obtain ⟨f1, hf1⟩ : ∃ f, f = tabTo U cy cx cy (cx + 1) := ⟨_, rfl⟩
          obtain ⟨f3, hf3⟩ : ∃ f, f = tabTo U cy cx (cy + 1) cx := ⟨_, rfl⟩
          obtain ⟨f4, hf4⟩ : ∃ f, f = tabTo U cy cx cy cx := ⟨_, rfl⟩
          rw [← hf1] at d1 q1
          rw [← hf3] at d3 q3
          rw [← hf4] at d4 q4
          obtain ⟨f2, hf2⟩ : ∃ f, f = tabTo U cy cx (i2 / K) (i2 % K) := ⟨_, rfl⟩
          rw [← hf2] at d2
          have t6 : IntKind.i64.wrap (f1 + f3) = f1 + f3 := IntWalk.i64_in _ (by omega)
          obtain ⟨v, hv⟩ : ∃ v, v = f1 + f3 - f4 := ⟨_, rfl⟩
          have t7 : IntKind.i64.wrap (f1 + f3 - f4) = v := by rw [hv]; exact IntWalk.i64_in _ (by omega)
          have t8 : IntKind.i64.wrap (v + 1) = v + 1 := IntWalk.i64_in _ (by omega)
          have hvb : -2304 ≤ v ∧ v ≤ 4608 := by omega
          obtain ⟨hvb1, hvb2⟩ := hvb
          have j1 : (i1 : Int) < N := by omega
          have j2 : (i2 : Int) < N := by omega
          have j3 : (i3 : Int) < N := by omega
          have j4 : (i4 : Int) < N := by omega
          have j5 : i1 < N := by omega
          have j6 : i2 < N := by omega
          have j7 : i3 < N := by omega
          have j8 : i4 < N := by omega
          have HNX : Hid (∀ (w6 : World) (z : Int), CT w w.heap.size N 3 (fun k => tabTo U cy cx (k / K) (k % K)) w6 → z = v + bz (U cx cy) → CT w w.heap.size N 3 (fun k => tabTo U cy (xx + 1 - 1) (k / K) (k % K)) (w6.setCell ⟨w.heap.size, i2, none⟩ (.int .i64 z))) := Lib.hid (fun w6 z hc hz => by
            refine (hc.set i2 z).congr ?_
            funext k
            have hpi := place_iff (K := K) (k := k) (a := cy + 1) (b := cx + 1) (by omega)
            rw [show xx + 1 - 1 = cx + 1 by omega, ← tabTo_next]
            unfold tabStep
            by_cases e : k = i2
            · rw [if_pos e, if_pos (hpi.1 (by rw [e, hi2, hm1, hcyy, hcxx])), ← hf1, ← hf3, ← hf4, hz, hv]
              omega
            · rw [if_neg e, if_neg (fun e2 => e (by rw [hpi.2 e2, hi2, hm1, hcyy, hcxx]))])
          have HI3 : Hid (∀ nq, CT w w.heap.size N 3 (fun k => tabTo U cy cx (k / K) (k % K)) (wr.drewN nq)) := Lib.hid (fun nq => by
            rw [hcx]; exact HI2.out.step (below_drewN (Below.refl _ _) nq))
          have hcx48 : cx ≤ 48 := by omega
          have hcy48 : cy ≤ 48 := by omega
          have HUC := Lib.hid (HUS.out cx cy)
          clear hcx hcxx hKW hm0 hm1 hm01 hcyy hi1 hi2 hi3 hi4 p1 p2 p3 p4 hf1 hf2 hf3 hf4 hv q1 q3 q4
          go_wp2_with fail
          go_quiet (fail)
          rename_i nq Kk ak
          obtain ⟨wq, hwq⟩ : ∃ wq, wq = wr.drewN nq := ⟨_, rfl⟩
          have HI4 : Hid (CT w w.heap.size N 3 (fun k => tabTo U cy cx (k / K) (k % K)) wq) := Lib.hid (by rw [hwq]; exact HI3.out nq)
          rw [← hwq]
          obtain ⟨z, hz, hz0, hz9, hcall⟩ := HGR.out wq cx cy HI4.out.b
          have HCL := Lib.hid hcall
          have e2 := HI4.out.cell (i := i2) j6
          have e3 := HI4.out.frozen i2
          have e4 := HI4.out.lt
          have hbz := HUC.out
          rw [← hz] at hbz
          have HBZ := Lib.hid hbz
          clear hz hcall hbz hwq d1 d2 d3 d4 d6
          by_cases hgz : g ≤ z
          · have HN := Lib.hid (HNX.out wq (v + 1) HI4.out (by rw [HBZ.out, bz, if_pos (by simpa using hgz)]; rfl))
            go_wp2_with fail
            refine HCL.out.mono ?_
            rintro e w3 ⟨rfl, rfl⟩
            go_wp2
            go_roundg gj'
            case measure => exact Nat.lt_succ_self _
            case rel => exact ⟨xx + 1, by omega, by omega, by go_num, HN⟩
          · have HN := Lib.hid (HNX.out wq v HI4.out (by rw [HBZ.out, bz, if_neg (by simpa using hgz)]; simp))
            go_wp2_with fail
            refine HCL.out.mono ?_
            rintro e w3 ⟨rfl, rfl⟩
            go_wp2
            go_roundg gj'
            case measure => exact Nat.lt_succ_self _
            case rel => exact ⟨xx + 1, by omega, by omega, by go_num, HN⟩
        · obtain rfl : xx = W + 1 := by omega
          have HR : Hid (CT w w.heap.size N 3 (fun k => tabTo U (yy + 1 - 1) 0 (k / K) (k % K)) wr) := Lib.hid (HI2.out.congr (by
            funext k
            have hkW := HF.out.1
            have := Nat.mod_lt k hKp
            rw [show W + 1 - 1 = W by omega, show yy + 1 - 1 = cy + 1 by have := HCY.out; omega]
            exact tabTo_row U W cy (k / K) (k % K) (by omega)))
          have hlx' : ¬ ((W + 1 : Nat) : Int) ≤ W := by omega
          obtain ⟨xx, hxx⟩ : ∃ xx, xx = W + 1 := ⟨_, rfl⟩
          rw [← hxx] at hlx'
          rw [← hxx]
          clear hxx
          go_wp2
          go_roundg gk'
          case measure => exact Nat.lt_succ_self _
          case rel => exact ⟨yy + 1, by omega, by omega, by go_num, HR⟩
    · obtain ⟨L2, hL2⟩ : ∃ l, l = yy := ⟨_, rfl⟩
      have hlt' : ¬ (yy : Int) ≤ H := by omega
      have HE : Hid (CT w w.heap.size N 3 (fun k => tab U (k % K) (k / K)) wr) := Lib.hid (HI.out.congrN (fun k hk => by
        rw [show yy - 1 = H by omega]
        refine tabTo_done U H _ _ ?_
        have hkN : k < L * K := by rw [Nat.mul_comm, ← HF.out.2.2]; exact hk
        have := (Nat.div_lt_iff_lt_mul hKp).2 hkN
        have := HF.out.2.1
        omega))
      clear hL2
      go_wp2
      go_ret
      exact ⟨rfl, HE.out⟩

end Go.Proofs.Ytndhnpljdldlpab

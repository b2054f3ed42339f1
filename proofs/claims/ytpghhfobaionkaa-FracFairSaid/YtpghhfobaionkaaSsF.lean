/- Sorting in place: merging. -/
import Derived.Test.YtpghhfobaionkaaSsE
namespace Go.Proofs.Ytpghhfobaionkaa
open Go.RowKit

/-- How a merge ends. -/
def MrgP (g a b : Nat) (n all : Int) (ws : List Int) (T : TypeId) (f : Nat → Int) (w : World) (e : Ending) (w' : World) : Prop :=
  e = .returned (.tuple #[]) ∧ ∃ f', Hid (Pm ws.length a b f f' ∧ Srt (keyOf n all ws) a b f') ∧ St w g ws.length T f' w'

set_option maxRecDepth 100000 in
set_option maxHeartbeats 3200000 in
theorem merge_left (g C a m b b3 b4 b5 : Nat) (av : Option Addr) (cap : Nat) (n all : Int) (ws : List Int) (T : TypeId) (ham : m = a + 1) (hmb : m < b) (hb : b ≤ ws.length) (f : Nat → Int) (hI : InR ws.length f) (hs : Srt (keyOf n all ws) m b f) (hl : Lft a m b f) (w : World) (h : St w g ws.length T f w) (hcap : Cap w g b3 b4 b5 av cap n all ws) :
    Calls Try.prog 50 #[.slice (some ⟨g, 0, none⟩) ws.length C, .int .i64 a, .int .i64 m, .int .i64 b, cmpV 28 b3 b4 b5] w (MrgP g a b n all ws T f w) := by
  have H := Lib.hid h
  have HC := Lib.hid hcap
  have HI := Lib.hid hI
  have HS := Lib.hid (And.intro hs hl)
  have HAM := Lib.hid ham
  have hlen : (ws.length : Int) ≤ 64 := by have := hcap.len; omega
  have hm1 : ((m : Int) - a == 1) = true := by rw [beq_iff_eq]; omega
  have hma : a < m := by omega
  clear h hcap hI hs hl ham
  unfold cmpV
  go_enter Try.func50, Try.ntmps50
  go_wp2
  go_loopw [10, 11] (fun x y wr => ∃ (i j : Nat), m ≤ i ∧ i ≤ j ∧ j ≤ b ∧ x = .int .i64 i ∧ y = .int .i64 j ∧ Hid ((i = m ∨ keyOf n all ws (f a) < keyOf n all ws (f (i - 1))) ∧ (j = b ∨ keyOf n all ws (f j) ≤ keyOf n all ws (f a))) ∧ Hid (St w g ws.length T f wr)) (fun x y _ => (intOf y).toNat - (intOf x).toNat)
  case atStart => exact ⟨m, b, Nat.le_refl _, by omega, Nat.le_refl _, rfl, rfl, Lib.hid ⟨.inl rfl, .inl rfl⟩, H⟩
  case round =>
    obtain ⟨i, j, hi, hij, hj, rfl, rfl, HB, HV⟩ := hrel
    by_cases hlt : i < j
    · have hlt' : (i : Int) < j := by omega
      obtain ⟨x, hx⟩ : ∃ x : Nat, x = (i + j) / 2 := ⟨_, rfl⟩
      have hxi : i ≤ x := by omega
      have hxj : x < j := by omega
      have ex : ((i : Int) + j) / 2 = (x : Int) := by omega
      clear hx
      have c1 := HV.out.cell (i := x) (by omega)
      have c2 := HV.out.cell (i := a) (by omega)
      have r1 := HI.out x (by omega)
      have r2 := HI.out a (by omega)
      have t1 : (x : Int) < ws.length := by omega
      have t2 : (a : Int) < ws.length := by omega
      obtain ⟨k, hk⟩ : ∃ k, cmp3 (keyOf n all ws (f a)) (keyOf n all ws (f x)) = k := ⟨_, rfl⟩
      have HK := Lib.hid (Lib.hid hk)
      have HC2 := Lib.hid (HC.out.st HV.out)
      have hks := cmp3_neg (a := keyOf n all ws (f a)) (b := keyOf n all ws (f x))
      rw [hk] at hks
      clear hk
      by_cases hneg : k < 0
      · have HB' : Hid ((x + 1 = m ∨ keyOf n all ws (f a) < keyOf n all ws (f (x + 1 - 1))) ∧ (j = b ∨ keyOf n all ws (f j) ≤ keyOf n all ws (f a))) := Lib.hid ⟨.inr (by rw [Nat.add_sub_cancel]; exact hks.1 hneg), HB.out.2⟩
        clear hks
        go_wp2_with fail
        go_quiet ((go_at_call 28; exact Calls.quiet_of (cmp_c g b3 b4 b5 av cap n all ws (f x) (f a) k r1.1 r1.2 r2.1 r2.2 _ (HC2.out.st (HV.out.self.drewN _)) HK.out)))
        clear ex c1 c2 r1 r2
        go_wp2
        go_roundw
        case rel => exact ⟨x + 1, j, by omega, by omega, hj, by go_num, rfl, HB', Lib.hid (HV.out.drewN _)⟩
        case measure => simp [intOf]; omega
      · have HB' : Hid ((i = m ∨ keyOf n all ws (f a) < keyOf n all ws (f (i - 1))) ∧ (x = b ∨ keyOf n all ws (f x) ≤ keyOf n all ws (f a))) := Lib.hid ⟨HB.out.1, .inr (Int.not_lt.1 fun h => hneg (hks.2 h))⟩
        clear hks
        go_wp2_with fail
        go_quiet ((go_at_call 28; exact Calls.quiet_of (cmp_c g b3 b4 b5 av cap n all ws (f x) (f a) k r1.1 r1.2 r2.1 r2.2 _ (HC2.out.st (HV.out.self.drewN _)) HK.out)))
        clear ex c1 c2 r1 r2
        go_wp2
        go_roundw
        case rel => exact ⟨i, x, hi, by omega, by omega, rfl, rfl, HB', Lib.hid (HV.out.drewN _)⟩
        case measure => simp [intOf]; omega
    · obtain rfl : i = j := by omega
      have HF : Hid (Pm ws.length a b f (movR f a (i - 1)) ∧ Srt (keyOf n all ws) a b (movR f a (i - 1))) := Lib.hid ⟨movR_pm _ f (by omega) (by omega) hb, one_left HAM.out HS.out.1 HS.out.2 hi hj HB.out.1 (HB.out.2.imp id Int.not_lt.2)⟩
      have e1 : (i : Int) - 1 = ((i - 1 : Nat) : Int) := by omega
      have HM0 : Hid (St w g ws.length T (movR f a a) wr) := Lib.hid (HV.out.congr fun k _ => (movR_start f a k).symm)
      go_wp2
      go_loopw [13] (fun x wr' => ∃ k : Nat, a ≤ k ∧ k ≤ i - 1 ∧ x = .int .i64 k ∧ Hid (St w g ws.length T (movR f a k) wr')) (fun x _ => i - (intOf x).toNat)
      case atStart => exact ⟨a, Nat.le_refl _, by omega, rfl, HM0⟩
      case round =>
        obtain ⟨k, hk1, hk2, rfl, HV2⟩ := hrel
        by_cases hlt2 : k < i - 1
        · have hlt3 : (k : Int) < ((i - 1 : Nat) : Int) := by omega
          have c1 := HV2.out.cell (i := k) (by omega)
          have c2 := HV2.out.cell (i := k + 1) (by omega)
          have z1 := HV2.out.frozen k
          have z2 := HV2.out.frozen (k + 1)
          have t1 : ((k : Int) + 1).toNat = k + 1 := by omega
          have t2 : (0 : Int) ≤ (k : Int) + 1 := by omega
          have t3 : (k : Int) + 1 < ws.length := by omega
          have t4 : (k : Int) < ws.length := by omega
          have w1 : IntKind.i64.wrap ((k : Int) + 1) = (k : Int) + 1 := IntWalk.i64_in _ (by omega)
          go_wp2_with fail
          go_region
          have HV3 := Lib.hid ((HV2.out.drew.swap k (k + 1)).congr fun p _ => movR_step f hk1 p)
          clear c1 c2 z1 z2 t1 t2 t3 t4 w1
          go_wp2
          go_roundw
          case rel => exact ⟨k + 1, by omega, by omega, by go_num, HV3⟩
          case measure => simp [intOf]; omega
        · obtain rfl : k = i - 1 := by omega
          go_wp2
          first | go_end0 | refine bodyPost_ret (results_none rfl _ _ _) rfl ?_
          exact ⟨rfl, _, HF, HV2.out⟩

set_option maxRecDepth 100000 in
set_option maxHeartbeats 3200000 in
theorem merge_right (g C a m b b3 b4 b5 : Nat) (av : Option Addr) (cap : Nat) (n all : Int) (ws : List Int) (T : TypeId) (ham : a + 1 < m) (hmb : b = m + 1) (hb : b ≤ ws.length) (f : Nat → Int) (hI : InR ws.length f) (hs : Srt (keyOf n all ws) a m f) (hl : Lft a m b f) (w : World) (h : St w g ws.length T f w) (hcap : Cap w g b3 b4 b5 av cap n all ws) :
    Calls Try.prog 50 #[.slice (some ⟨g, 0, none⟩) ws.length C, .int .i64 a, .int .i64 m, .int .i64 b, cmpV 28 b3 b4 b5] w (MrgP g a b n all ws T f w) := by
  have H := Lib.hid h
  have HC := Lib.hid hcap
  have HI := Lib.hid hI
  have HS := Lib.hid (And.intro hs hl)
  have HAM := Lib.hid hmb
  have hlen : (ws.length : Int) ≤ 64 := by have := hcap.len; omega
  have hm1 : ((m : Int) - a == 1) = false := by rw [beq_eq_false_iff_ne]; omega
  have hm2 : ((b : Int) - m == 1) = true := by rw [beq_iff_eq]; omega
  have hma : a < m := by omega
  have hmb' : m < b := by omega
  clear h hcap hI hs hl hmb
  unfold cmpV
  go_enter Try.func50, Try.ntmps50
  go_wp2
  go_loopw [14, 15] (fun x y wr => ∃ (i j : Nat), a ≤ i ∧ i ≤ j ∧ j ≤ m ∧ x = .int .i64 i ∧ y = .int .i64 j ∧ Hid ((i = a ∨ keyOf n all ws (f m) ≤ keyOf n all ws (f (i - 1))) ∧ (j = m ∨ keyOf n all ws (f j) < keyOf n all ws (f m))) ∧ Hid (St w g ws.length T f wr)) (fun x y _ => (intOf y).toNat - (intOf x).toNat)
  case atStart => exact ⟨a, m, Nat.le_refl _, by omega, Nat.le_refl _, rfl, rfl, Lib.hid ⟨.inl rfl, .inl rfl⟩, H⟩
  case round =>
    obtain ⟨i, j, hi, hij, hj, rfl, rfl, HB, HV⟩ := hrel
    by_cases hlt : i < j
    · have hlt' : (i : Int) < j := by omega
      obtain ⟨x, hx⟩ : ∃ x : Nat, x = (i + j) / 2 := ⟨_, rfl⟩
      have hxi : i ≤ x := by omega
      have hxj : x < j := by omega
      have ex : ((i : Int) + j) / 2 = (x : Int) := by omega
      clear hx
      have c1 := HV.out.cell (i := x) (by omega)
      have c2 := HV.out.cell (i := m) (by omega)
      have r1 := HI.out x (by omega)
      have r2 := HI.out m (by omega)
      have t1 : (x : Int) < ws.length := by omega
      have t2 : (m : Int) < ws.length := by omega
      obtain ⟨k, hk⟩ : ∃ k, cmp3 (keyOf n all ws (f x)) (keyOf n all ws (f m)) = k := ⟨_, rfl⟩
      have HK := Lib.hid (Lib.hid hk)
      have HC2 := Lib.hid (HC.out.st HV.out)
      have hks := cmp3_neg (a := keyOf n all ws (f x)) (b := keyOf n all ws (f m))
      rw [hk] at hks
      clear hk
      by_cases hneg : k < 0
      · have hd : decide (k < 0) = true := by simpa using hneg
        have HB' : Hid ((i = a ∨ keyOf n all ws (f m) ≤ keyOf n all ws (f (i - 1))) ∧ (x = m ∨ keyOf n all ws (f x) < keyOf n all ws (f m))) := Lib.hid ⟨HB.out.1, .inr (hks.1 hneg)⟩
        clear hks
        go_wp2_with fail
        go_quiet ((go_at_call 28; exact Calls.quiet_of (cmp_c g b3 b4 b5 av cap n all ws (f m) (f x) k r2.1 r2.2 r1.1 r1.2 _ (HC2.out.st (HV.out.self.drewN _)) HK.out)))
        clear ex c1 c2 r1 r2
        go_wp2
        go_roundw
        case rel => exact ⟨i, x, hi, by omega, by omega, rfl, rfl, HB', Lib.hid (HV.out.drewN _)⟩
        case measure => simp [intOf]; omega
      · have hd : decide (k < 0) = false := by simpa using hneg
        have HB' : Hid ((x + 1 = a ∨ keyOf n all ws (f m) ≤ keyOf n all ws (f (x + 1 - 1))) ∧ (j = m ∨ keyOf n all ws (f j) < keyOf n all ws (f m))) := Lib.hid ⟨.inr (by rw [Nat.add_sub_cancel]; exact Int.not_lt.1 fun h => hneg (hks.2 h)), HB.out.2⟩
        clear hks
        go_wp2_with fail
        go_quiet ((go_at_call 28; exact Calls.quiet_of (cmp_c g b3 b4 b5 av cap n all ws (f m) (f x) k r2.1 r2.2 r1.1 r1.2 _ (HC2.out.st (HV.out.self.drewN _)) HK.out)))
        clear ex c1 c2 r1 r2
        go_wp2
        go_roundw
        case rel => exact ⟨x + 1, j, by omega, by omega, hj, by go_num, rfl, HB', Lib.hid (HV.out.drewN _)⟩
        case measure => simp [intOf]; omega
    · obtain rfl : i = j := by omega
      have HF : Hid (Pm ws.length a b f (movL f m i) ∧ Srt (keyOf n all ws) a b (movL f m i)) := Lib.hid ⟨movL_pm _ f (by omega) hb (m - i) i (by omega) hi, one_right HAM.out HS.out.1 HS.out.2 hi hj (HB.out.1.imp id Int.not_lt.2) HB.out.2⟩
      have HM0 : Hid (St w g ws.length T (movL f m m) wr) := Lib.hid (HV.out.congr fun k _ => (movL_start f m k).symm)
      go_wp2
      go_loopw [17] (fun x wr' => ∃ k : Nat, i ≤ k ∧ k ≤ m ∧ x = .int .i64 k ∧ Hid (St w g ws.length T (movL f m k) wr')) (fun x _ => (intOf x).toNat)
      case atStart => exact ⟨m, hj, Nat.le_refl _, rfl, HM0⟩
      case round =>
        obtain ⟨k, hk1, hk2, rfl, HV2⟩ := hrel
        by_cases hlt2 : i < k
        · have hlt3 : (i : Int) < (k : Int) := by omega
          have c1 := HV2.out.cell (i := k) (by omega)
          have c2 := HV2.out.cell (i := k - 1) (by omega)
          have z1 := HV2.out.frozen k
          have z2 := HV2.out.frozen (k - 1)
          have t1 : ((k : Int) - 1).toNat = k - 1 := by omega
          have t2 : (0 : Int) ≤ (k : Int) - 1 := by omega
          have t3 : (k : Int) - 1 < ws.length := by omega
          have t4 : (k : Int) < ws.length := by omega
          have w1 : IntKind.i64.wrap ((k : Int) - 1) = (k : Int) - 1 := IntWalk.i64_in _ (by omega)
          go_wp2_with fail
          go_region
          have HV3 := Lib.hid ((HV2.out.drew.swap k (k - 1)).congr fun p _ => movL_step f hk2 (by omega) p)
          clear c1 c2 z1 z2 t1 t2 t3 t4 w1
          go_wp2
          go_roundw
          case rel => exact ⟨k - 1, by omega, by omega, by rw [show ((k - 1 : Nat) : Int) = (k : Int) - 1 by omega], HV3⟩
          case measure => simp [intOf]; omega
        · obtain rfl : i = k := by omega
          go_wp2
          first | go_end0 | refine bodyPost_ret (results_none rfl _ _ _) rfl ?_
          exact ⟨rfl, _, HF, HV2.out⟩

end Go.Proofs.Ytpghhfobaionkaa

/- Sorting in place: merging, by induction on the length. -/
import Derived.Deep.DeepCutAuto
import Derived.Test.YtpghhfobaionkaaSsF
namespace Go.Proofs.Ytpghhfobaionkaa
open Go.RowKit

/-- Merging ranges of at most sz elements. -/
def MrgIH (g C b3 b4 b5 : Nat) (av : Option Addr) (cap : Nat) (n all : Int) (ws : List Int) (T : TypeId) (sz : Nat) : Prop := ∀ (a m b : Nat) (f : Nat → Int) (w : World), b - a ≤ sz → a < m → m < b → b ≤ ws.length → InR ws.length f → Srt (keyOf n all ws) a m f → Srt (keyOf n all ws) m b f → Lft a m b f → St w g ws.length T f w → Cap w g b3 b4 b5 av cap n all ws →
    Calls Try.prog 50 #[.slice (some ⟨g, 0, none⟩) ws.length C, .int .i64 a, .int .i64 m, .int .i64 b, cmpV 28 b3 b4 b5] w (MrgP g a b n all ws T f w)

set_option maxRecDepth 100000 in
set_option maxHeartbeats 12800000 in
theorem merge_hi (g C b3 b4 b5 : Nat) (av : Option Addr) (cap : Nat) (n all : Int) (ws : List Int) (T : TypeId) (sz a m b mid : Nat) (f : Nat → Int) (w : World) (HIH : Hid (MrgIH g C b3 b4 b5 av cap n all ws T sz)) (hsz : b - a ≤ sz + 1) (hmid2 : mid = (a + b) / 2) (hmm : mid < m) (hmm1 : a + 2 ≤ m) (hmm2 : m + 2 ≤ b) (hb : b ≤ ws.length) (hI : InR ws.length f) (hl : Srt (keyOf n all ws) a m f) (hr : Srt (keyOf n all ws) m b f) (hlf : Lft a m b f) (h : St w g ws.length T f w) (hcap : Cap w g b3 b4 b5 av cap n all ws) :
    Calls Try.prog 50 #[.slice (some ⟨g, 0, none⟩) ws.length C, .int .i64 a, .int .i64 m, .int .i64 b, cmpV 28 b3 b4 b5] w (MrgP g a b n all ws T f w) := by
  have H := Lib.hid h
  have HC := Lib.hid hcap
  have HI := Lib.hid hI
  have HS := Lib.hid (And.intro hl (And.intro hr hlf))
  have hlen : (ws.length : Int) ≤ 64 := by have := hcap.len; omega
  have g1 : ((m : Int) - a == 1) = false := by rw [beq_eq_false_iff_ne]; omega
  have g2 : ((b : Int) - m == 1) = false := by rw [beq_eq_false_iff_ne]; omega
  have emid : ((a : Int) + b) / 2 = (mid : Int) := by omega
  have hmid : a < mid ∧ mid < b := by omega
  have hab1 : a < m := by omega
  have hab2 : m < b := by omega
  have hb1 : 2 * mid ≤ a + b := by omega
  have hb2 : a + b ≤ 2 * mid + 1 := by omega
  clear h hcap hI hl hr hlf hmid2
  unfold cmpV at *
  go_enter Try.func50, Try.ntmps50
  have hmm' : (mid : Int) < m := by omega
  obtain ⟨s0, hs0⟩ : ∃ s0 : Nat, s0 = mid + m - b := ⟨_, rfl⟩
  have es0 : (mid : Int) + m - b = (s0 : Int) := by omega
  have k1 : a ≤ s0 := by omega
  have k2 : s0 ≤ mid := by omega
  have k3 : s0 + b = mid + m := by omega
  clear hs0
  go_wp2_with fail
  go_loopw [20, 21] (fun x y wr => ∃ (st r : Nat), s0 ≤ st ∧ st ≤ r ∧ r ≤ mid ∧ x = .int .i64 st ∧ y = .int .i64 r ∧ Hid ((st = s0 ∨ keyOf n all ws (f (mid + m - st)) ≤ keyOf n all ws (f (st - 1))) ∧ (r = mid ∨ keyOf n all ws (f r) < keyOf n all ws (f (mid + m - r - 1)))) ∧ Hid (St w g ws.length T f wr)) (fun x y _ => (intOf y).toNat - (intOf x).toNat)
  case atStart => exact ⟨s0, mid, Nat.le_refl _, by omega, Nat.le_refl _, rfl, rfl, Lib.hid ⟨.inl rfl, .inl rfl⟩, H⟩
  case round =>
    obtain ⟨st, r, hi, hij, hj, rfl, rfl, HB, HV⟩ := hrel
    by_cases hlt : st < r
    · have hlt' : (st : Int) < r := by omega
      obtain ⟨x, hx⟩ : ∃ x : Nat, x = (st + r) / 2 := ⟨_, rfl⟩
      have hxi : st ≤ x := by omega
      have hxj : x < r := by omega
      have ex : ((st : Int) + r) / 2 = (x : Int) := by omega
      clear hx
      obtain ⟨y, hy⟩ : ∃ y : Nat, y = mid + m - 1 - x := ⟨_, rfl⟩
      have ey : (mid : Int) + m - 1 - x = (y : Int) := by omega
      have hy1 : y < ws.length := by omega
      have hy2 : mid + m - (x + 1) = y := by omega
      have hy3 : mid + m - x - 1 = y := by omega
      have HY := Lib.hid (And.intro hy2 hy3)
      clear hy hy2 hy3
      have c1 := HV.out.cell (i := y) (by omega)
      have c2 := HV.out.cell (i := x) (by omega)
      have r1 := HI.out y (by omega)
      have r2 := HI.out x (by omega)
      have t1 : (x : Int) < ws.length := by omega
      have t2 : (y : Int) < ws.length := by omega
      obtain ⟨k, hk⟩ : ∃ k, cmp3 (keyOf n all ws (f x)) (keyOf n all ws (f y)) = k := ⟨_, rfl⟩
      have HK := Lib.hid (Lib.hid hk)
      have HC2 := Lib.hid (HC.out.st HV.out)
      have hks := cmp3_neg (a := keyOf n all ws (f x)) (b := keyOf n all ws (f y))
      rw [hk] at hks
      clear hk
      by_cases hneg : k < 0
      · have hd : decide (k < 0) = true := by simpa using hneg
        have HB' : Hid ((st = s0 ∨ keyOf n all ws (f (mid + m - st)) ≤ keyOf n all ws (f (st - 1))) ∧ (x = mid ∨ keyOf n all ws (f x) < keyOf n all ws (f (mid + m - x - 1)))) := Lib.hid ⟨HB.out.1, .inr (by rw [HY.out.2]; exact hks.1 hneg)⟩
        clear hks
        go_wp2_with fail
        go_quiet ((go_at_call 28; exact Calls.quiet_of (cmp_c g b3 b4 b5 av cap n all ws (f y) (f x) k r1.1 r1.2 r2.1 r2.2 _ (HC2.out.st (HV.out.self.drewN _)) HK.out)))
        clear ex ey c1 c2 r1 r2
        go_wp2
        go_roundw
        case rel => exact ⟨st, x, hi, by omega, by omega, rfl, rfl, HB', Lib.hid (HV.out.drewN _)⟩
        case measure => simp [intOf]; omega
      · have hd : decide (k < 0) = false := by simpa using hneg
        have HB' : Hid ((x + 1 = s0 ∨ keyOf n all ws (f (mid + m - (x + 1))) ≤ keyOf n all ws (f (x + 1 - 1))) ∧ (r = mid ∨ keyOf n all ws (f r) < keyOf n all ws (f (mid + m - r - 1)))) := Lib.hid ⟨.inr (by rw [Nat.add_sub_cancel, HY.out.1]; exact Int.not_lt.1 fun h => hneg (hks.2 h)), HB.out.2⟩
        clear hks
        go_wp2_with fail
        go_quiet ((go_at_call 28; exact Calls.quiet_of (cmp_c g b3 b4 b5 av cap n all ws (f y) (f x) k r1.1 r1.2 r2.1 r2.2 _ (HC2.out.st (HV.out.self.drewN _)) HK.out)))
        clear ex ey c1 c2 r1 r2
        go_wp2
        go_roundw
        case rel => exact ⟨x + 1, r, by omega, by omega, hj, by go_num, rfl, HB', Lib.hid (HV.out.drewN _)⟩
        case measure => simp [intOf]; omega
    · obtain rfl : st = r := by omega
      have HCA : Hid (CutAt (keyOf n all ws) a m b mid st f) := Lib.hid ⟨by omega, by omega, by omega, by omega, fun p1 p2 => Int.not_lt.2 (HB.out.1.resolve_left (by omega)), fun p1 p2 => HB.out.2.resolve_left (by omega)⟩
      have sa := HCA.out.sa
      have sm := HCA.out.sm
      have sb := HCA.out.sb
      have sd := HCA.out.sd
      obtain ⟨en, hen⟩ : ∃ en : Nat, en = mid + m - st := ⟨_, rfl⟩
      have een : (mid : Int) + m - st = (en : Int) := by omega
      have HEN := Lib.hid hen
      have hen1 : mid ≤ en := by omega
      have hen2 : en ≤ b := by omega
      clear hi hij hj HB hen
      go_upto_region 39 with fail
      go_cut [185] (fun sx wx => ∃ q : Bool, sx = .bool q ∧ Hid (q = decide (st < m ∧ m < en)) ∧ Hid (St w g ws.length T f wx))
      case first => as_aux_lemma =>
        by_cases p1 : st < m
        · by_cases p2 : m < en
          · have HQ : Hid (true = decide (st < m ∧ m < en)) := Lib.hid (decide_eq_true ⟨p1, p2⟩).symm
            have i1 : ((st : Int) < m) := by omega
            have i2 : ((m : Int) < en) := by omega
            go_wp2_with fail
            go_meet
            exact ⟨_, rfl, HQ, HV⟩
          · have HQ : Hid (false = decide (st < m ∧ m < en)) := Lib.hid (decide_eq_false fun h => p2 h.2).symm
            have i1 : ((st : Int) < m) := by omega
            have i2 : ¬ ((m : Int) < en) := by omega
            go_wp2_with fail
            go_meet
            exact ⟨_, rfl, HQ, HV⟩
        · have HQ : Hid (false = decide (st < m ∧ m < en)) := Lib.hid (decide_eq_false fun h => p1 h.1).symm
          have i1 : ¬ ((st : Int) < m) := by omega
          go_wp2_with fail
          go_meet
          exact ⟨_, rfl, HQ, HV⟩
      case rest => as_aux_lemma =>
      obtain ⟨q1, rfl, HQ1, HV1⟩ := hcut
      go_upto_if 185 with fail
      go_cut [] (fun wx => ∃ d : Nat → Int, Hid (Halves ws.length (keyOf n all ws) a m b mid st f d) ∧ Hid (St w g ws.length T d wx))
      case first => as_aux_lemma =>
        cases q1
        · have HH := Lib.hid (HCA.out.same (N := ws.length) hab1 hab2 hmid HS.out.1 HS.out.2.1 HS.out.2.2 (by rw [← HEN.out]; exact of_decide_eq_false HQ1.out.symm))
          go_wp2_with fail
          go_meet
          exact ⟨f, HH, HV1⟩
        · have hq := of_decide_eq_true HQ1.out.symm
          have HQ := Lib.hid hq
          clear hq
          go_wp2_with fail
          refine (rotate_any g ws.length C st m en T _ HQ.out.1 HQ.out.2 (by omega) (by omega) f _ HV1.out.self).mono ?_
          rintro e w1 ⟨rfl, d, HR, hW1⟩
          have HH := Lib.hid (HCA.out.rot (N := ws.length) hab1 hab2 hmid HS.out.1 HS.out.2.1 HS.out.2.2 HQ.out.1 (by rw [← HEN.out]; exact HQ.out.2) (by rw [← HEN.out]; exact HR.out))
          have HD := Lib.hid (HV1.out.trans hW1)
          clear hW1
          go_wp2_with fail
          go_meet
          exact ⟨d, HH, HD⟩
      case rest => as_aux_lemma =>
      obtain ⟨d, HH, HD⟩ := hcut
      clear HV1 HQ1
      have HDI : Hid (InR ws.length d) := Lib.hid (HI.out.pm HH.out.pm hb)
      go_upto_region 41 with fail
      go_cut [199] (fun sx wx => ∃ q : Bool, sx = .bool q ∧ Hid (q = decide (a < st ∧ st < mid)) ∧ Hid (St w g ws.length T d wx))
      case first => as_aux_lemma =>
        by_cases p1 : a < st
        · by_cases p2 : st < mid
          · have HQ : Hid (true = decide (a < st ∧ st < mid)) := Lib.hid (decide_eq_true ⟨p1, p2⟩).symm
            have i1 : ((a : Int) < st) := by omega
            have i2 : ((st : Int) < mid) := by omega
            go_wp2_with fail
            go_meet
            exact ⟨_, rfl, HQ, HD⟩
          · have HQ : Hid (false = decide (a < st ∧ st < mid)) := Lib.hid (decide_eq_false fun h => p2 h.2).symm
            have i1 : ((a : Int) < st) := by omega
            have i2 : ¬ ((st : Int) < mid) := by omega
            go_wp2_with fail
            go_meet
            exact ⟨_, rfl, HQ, HD⟩
        · have HQ : Hid (false = decide (a < st ∧ st < mid)) := Lib.hid (decide_eq_false fun h => p1 h.1).symm
          have i1 : ¬ ((a : Int) < st) := by omega
          go_wp2_with fail
          go_meet
          exact ⟨_, rfl, HQ, HD⟩
      case rest => as_aux_lemma =>
      obtain ⟨q2, rfl, HQ2, HD2⟩ := hcut
      go_upto_if 199 with fail
      go_cut [] (fun wx => ∃ d1 : Nat → Int, Hid (Pm ws.length a mid d d1 ∧ Srt (keyOf n all ws) a mid d1) ∧ Hid (St w g ws.length T d1 wx))
      case first => as_aux_lemma =>
        cases q2
        · have HH1 := Lib.hid (And.intro (Pm.refl ws.length a mid d) (HH.out.left HCA.out (of_decide_eq_false HQ2.out.symm)))
          go_wp2_with fail
          go_meet
          exact ⟨d, HH1, HD2⟩
        · have HQ := Lib.hid (of_decide_eq_true HQ2.out.symm)
          go_wp2_with fail
          refine (HIH.out a st mid d _ (by omega) HQ.out.1 HQ.out.2 (by omega) HDI.out HH.out.s1 HH.out.s2 HH.out.f1 HD2.out.self (HC.out.st HD2.out)).mono ?_
          rintro e w1 ⟨rfl, d1, HR, hW1⟩
          have HD3 := Lib.hid (HD2.out.trans hW1)
          clear hW1
          go_wp2_with fail
          go_meet
          exact ⟨d1, HR, HD3⟩
      case rest => as_aux_lemma =>
      obtain ⟨d1, HH1, HD3⟩ := hcut
      clear HD2 HQ2 HD
      have HDI1 : Hid (InR ws.length d1) := Lib.hid (HDI.out.pm HH1.out.1 (by omega))
      go_upto_region 43 with fail
      go_cut [213] (fun sx wx => ∃ q : Bool, sx = .bool q ∧ Hid (q = decide (mid < en ∧ en < b)) ∧ Hid (St w g ws.length T d1 wx))
      case first => as_aux_lemma =>
        by_cases p1 : mid < en
        · by_cases p2 : en < b
          · have HQ : Hid (true = decide (mid < en ∧ en < b)) := Lib.hid (decide_eq_true ⟨p1, p2⟩).symm
            have i1 : ((mid : Int) < en) := by omega
            have i2 : ((en : Int) < b) := by omega
            go_wp2_with fail
            go_meet
            exact ⟨_, rfl, HQ, HD3⟩
          · have HQ : Hid (false = decide (mid < en ∧ en < b)) := Lib.hid (decide_eq_false fun h => p2 h.2).symm
            have i1 : ((mid : Int) < en) := by omega
            have i2 : ¬ ((en : Int) < b) := by omega
            go_wp2_with fail
            go_meet
            exact ⟨_, rfl, HQ, HD3⟩
        · have HQ : Hid (false = decide (mid < en ∧ en < b)) := Lib.hid (decide_eq_false fun h => p1 h.1).symm
          have i1 : ¬ ((mid : Int) < en) := by omega
          go_wp2_with fail
          go_meet
          exact ⟨_, rfl, HQ, HD3⟩
      case rest => as_aux_lemma =>
      obtain ⟨q3, rfl, HQ3, HD4⟩ := hcut
      cases q3
      · have HF := Lib.hid (HH.out.join hmid HH1.out.1 HH1.out.2 (Pm.refl ws.length mid b d1) ((HH.out.right HCA.out (by rw [← HEN.out]; exact of_decide_eq_false HQ3.out.symm)).congr fun k q r => HH1.out.1.out k (by omega)))
        go_wp2
        go_end0
        exact ⟨rfl, d1, HF, HD4.out⟩
      · have HQ := Lib.hid (of_decide_eq_true HQ3.out.symm)
        go_wp2_with fail
        refine (HIH.out mid en b d1 _ (by omega) HQ.out.1 HQ.out.2 hb HDI1.out ?_ ?_ ?_ HD4.out.self (HC.out.st HD4.out)).mono ?_
        · have := HH.out.s3; rw [← HEN.out] at this; exact this.congr fun k q r => HH1.out.1.out k (by omega)
        · have := HH.out.s4; rw [← HEN.out] at this; exact this.congr fun k q r => HH1.out.1.out k (by omega)
        · have := HH.out.f2
          rw [← HEN.out] at this
          intro i j p q r s
          rw [HH1.out.1.out i (by omega), HH1.out.1.out j (by omega)]
          exact this i j p q r s
        rintro e w1 ⟨rfl, d2, HR, hW1⟩
        have HF := Lib.hid (HH.out.join hmid HH1.out.1 HH1.out.2 HR.out.1 HR.out.2)
        have HD5 := Lib.hid (HD4.out.trans hW1)
        clear hW1
        go_wp2
        go_end0
        exact ⟨rfl, d2, HF, HD5.out⟩


end Go.Proofs.Ytpghhfobaionkaa

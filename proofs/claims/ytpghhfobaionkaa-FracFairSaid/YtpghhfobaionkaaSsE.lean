/- Sorting in place: insertion. -/
import Derived.Test.YtpghhfobaionkaaSsD
namespace Go.Proofs.Ytpghhfobaionkaa
open Go.RowKit

/-- All numbers of the slice are positions of the weights. -/
def InR (N : Nat) (f : Nat → Int) : Prop := ∀ k, k < N → 0 ≤ f k ∧ f k < N

theorem InR.pm {N a b : Nat} {f f' : Nat → Int} (h : InR N f) (p : Pm N a b f f') (hb : b ≤ N) : InR N f' := fun k hk => by
  by_cases hab : a ≤ k ∧ k < b
  · obtain ⟨k', h1, h2, e⟩ := p.img k hab.1 hab.2
    rw [e]; exact h k' (by omega)
  · rw [p.out k hab]; exact h k hk

/-- The range from i on as it was; the range up to i holds what it held. -/
structure InsR (N : Nat) (key : Int → Int) (a b i : Nat) (f c : Nat → Int) : Prop where
  pm : Pm N a i f c
  srt : Srt key a i c

set_option maxRecDepth 100000 in
set_option maxHeartbeats 3200000 in
theorem insertion_any (g C a b b3 b4 b5 : Nat) (av : Option Addr) (cap : Nat) (n all : Int) (ws : List Int) (T : TypeId) (hab : a ≤ b) (hb : b ≤ ws.length) (f : Nat → Int) (hI : InR ws.length f) (hinc : ∀ i j, a ≤ i → i < j → j < b → f i < f j) (w : World) (h : St w g ws.length T f w) (hcap : Cap w g b3 b4 b5 av cap n all ws) :
    Calls Try.prog 49 #[.slice (some ⟨g, 0, none⟩) ws.length C, .int .i64 a, .int .i64 b, cmpV 28 b3 b4 b5] w fun e w' => e = .returned (.tuple #[]) ∧ ∃ f', Hid (Pm ws.length a b f f' ∧ Srt (keyOf n all ws) a b f') ∧ St w g ws.length T f' w' := by
  have H := Lib.hid h
  have HC := Lib.hid hcap
  have HI := Lib.hid hI
  have HINC := Lib.hid hinc
  have hlen : (ws.length : Int) ≤ 64 := by have := hcap.len; omega
  have hs0 : Hid (InsR ws.length (keyOf n all ws) a b (a + 1) f f) := Lib.hid ⟨Pm.refl _ _ _ _, fun i j _ _ _ => by omega⟩
  clear h hcap hI hinc
  unfold cmpV
  go_enter Try.func49, Try.ntmps49
  go_wp2
  go_loopw [8] (fun x wr => ∃ (i : Nat) (c : Nat → Int), a + 1 ≤ i ∧ (i ≤ b ∨ i = a + 1) ∧ x = .int .i64 i ∧ Hid (i = a + 1 → c = f) ∧ Hid (InsR ws.length (keyOf n all ws) a b i f c) ∧ Hid (St w g ws.length T c wr)) (fun x _ => b + 1 - (intOf x).toNat)
  case atStart => exact ⟨a + 1, f, Nat.le_refl _, .inr rfl, by go_num, Lib.hid (fun _ => rfl), hs0, H⟩
  case round =>
    obtain ⟨i, c, hai, hib, rfl, HSF, HR, HW⟩ := hrel
    by_cases hlt : i < b
    · have hlt' : (i : Int) < b := by omega
      go_wp2_with fail
      obtain ⟨wo, hwo⟩ : ∃ wo : World, wo = wr := ⟨_, rfl⟩
      go_loopw [9] (fun y wr' => ∃ (j : Nat) (d : Nat → Int), a ≤ j ∧ j ≤ i ∧ y = .int .i64 j ∧ Hid (Pm ws.length a (i + 1) f d) ∧ Hid (Ins (keyOf n all ws) a i j d) ∧ Hid (St w g ws.length T d wr')) (fun y _ => (intOf y).toNat)
      case atStart =>
        refine ⟨i, c, by omega, Nat.le_refl _, rfl, Lib.hid (HR.out.pm.mono (Nat.le_refl _) (by omega)), Lib.hid (Ins.start HR.out.srt fun p h1 h2 => ?_), HW⟩
        obtain ⟨k', q1, q2, e⟩ := HR.out.pm.img p h1 h2
        rw [e, HR.out.pm.out i (by omega)]
        exact HINC.out k' i q1 q2 hlt
      case round =>
        obtain ⟨j, d, haj, hji, rfl, HP, HN, HV⟩ := hrel
        have HID : Hid (InR ws.length d) := Lib.hid (HI.out.pm HP.out (by omega))
        by_cases hja : a < j
        · have hja' : (a : Int) < j := by omega
          have c1 := HV.out.cell (i := j) (by omega)
          have c2 := HV.out.cell (i := j - 1) (by omega)
          have z1 := HV.out.frozen j
          have z2 := HV.out.frozen (j - 1)
          have r1 := HID.out j (by omega)
          have r2 := HID.out (j - 1) (by omega)
          have t1 : ((j : Int) - 1).toNat = j - 1 := by omega
          have t2 : (0 : Int) ≤ (j : Int) - 1 := by omega
          have t3 : (j : Int) - 1 < ws.length := by omega
          have t4 : (j : Int) < ws.length := by omega
          have w1 : IntKind.i64.wrap ((j : Int) - 1) = (j : Int) - 1 := IntWalk.i64_in _ (by omega)
          obtain ⟨k, hk⟩ : ∃ k, cmp3 (keyOf n all ws (d (j - 1))) (keyOf n all ws (d j)) = k := ⟨_, rfl⟩
          have HK := Lib.hid (Lib.hid hk)
          have HC2 := Lib.hid (HC.out.st HV.out)
          have hks := cmp3_neg (a := keyOf n all ws (d (j - 1))) (b := keyOf n all ws (d j))
          rw [hk] at hks
          clear hk
          by_cases hneg : k < 0
          · have HST := Lib.hid (HN.out.step hja hji (hks.1 hneg))
            have HPM := Lib.hid (HP.out.trans (Pm.swap d (i := j) (j := j - 1) ⟨by omega, by omega⟩ ⟨by omega, by omega⟩ (by omega)))
            clear hks
            go_wp2_with fail
            go_quiet ((go_at_call 28; exact Calls.quiet_of (cmp_c g b3 b4 b5 av cap n all ws (d j) (d (j - 1)) k r1.1 r1.2 r2.1 r2.2 _ (HC2.out.st (HV.out.self.drewN _)) HK.out)))
            go_wp2_with fail
            go_region
            have HV3 : ∀ q, Hid (St w g ws.length T (swp d j (j - 1)) (((wr.drewN q).setCell ⟨g, j, none⟩ (.int .i64 (d (j - 1)))).setCell ⟨g, j - 1, none⟩ (.int .i64 (d j)))) := fun q => Lib.hid ((HV.out.drewN q).swap j (j - 1))
            clear c1 c2 z1 z2 r1 r2 w1
            go_wp2
            go_roundw
            case rel => exact ⟨j - 1, _, by omega, by omega, by rw [show ((j - 1 : Nat) : Int) = (j : Int) - 1 by omega], HPM, HST, HV3 _⟩
            case measure => simp [intOf]; omega
          · have hge : ¬ k < 0 := hneg
            have HF : Hid (InsR ws.length (keyOf n all ws) a b (i + 1) f d) := Lib.hid ⟨HP.out, HN.out.done (.inr ⟨hja, fun h => hneg (hks.2 h)⟩) hji⟩
            clear hks
            go_wp2_with fail
            go_quiet ((go_at_call 28; exact Calls.quiet_of (cmp_c g b3 b4 b5 av cap n all ws (d j) (d (j - 1)) k r1.1 r1.2 r2.1 r2.2 _ (HC2.out.st (HV.out.self.drewN _)) HK.out)))
            go_wp2
            go_roundw
            case rel => exact ⟨i + 1, d, by omega, .inl (by omega), by go_num, Lib.hid (by omega), HF, Lib.hid (HV.out.drewN _)⟩
            case measure => simp [intOf]; omega
        · have hja' : ¬ (a : Int) < j := by omega
          have hdec : decide ((a : Int) < j) = false := by simpa using hja'
          have HF : Hid (InsR ws.length (keyOf n all ws) a b (i + 1) f d) := Lib.hid ⟨HP.out, HN.out.done (.inl (by omega)) hji⟩
          go_wp2_with fail
          go_quiet (fail)
          go_wp2
          go_roundw
          case rel => exact ⟨i + 1, d, by omega, .inl (by omega), by go_num, Lib.hid (by omega), HF, Lib.hid (HV.out.drewN _)⟩
          case measure => simp [intOf]; omega
    · have HF : Hid (Pm ws.length a b f c ∧ Srt (keyOf n all ws) a b c) := Lib.hid (by
        rcases hib with h | h
        · obtain rfl : i = b := by omega
          exact ⟨HR.out.pm, HR.out.srt⟩
        · rw [HSF.out h]
          exact ⟨Pm.refl _ _ _ _, fun p q _ _ _ => by omega⟩)
      go_wp2
      go_end0
      exact ⟨rfl, c, HF, HW.out⟩

end Go.Proofs.Ytpghhfobaionkaa

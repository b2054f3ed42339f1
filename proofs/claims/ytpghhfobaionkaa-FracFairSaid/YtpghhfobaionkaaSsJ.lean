/- Sorting in place: the stable sort of the positions. -/
import Derived.Test.YtpghhfobaionkaaSsH
import Derived.Test.YtpghhfobaionkaaSsI
namespace Go.Proofs.Ytpghhfobaionkaa
open Go.RowKit

theorem InR.id {N : Nat} {c : Nat → Int} (h : Pm N 0 N (fun k => (k : Int)) c) : InR N c := InR.pm (f := fun k => (k : Int)) (fun k hk => by simp only; omega) h (Nat.le_refl _)

/-- How a part of the sort ends. -/
def PrtP (g a b N : Nat) (n all : Int) (ws : List Int) (T : TypeId) (f : Nat → Int) (w : World) (e : Ending) (w' : World) : Prop :=
  e = .returned (.tuple #[]) ∧ ∃ f', Hid (Pm N a b f f' ∧ Srt (keyOf n all ws) a b f') ∧ St w g N T f' w'

theorem insertion_n (g C a b b3 b4 b5 N : Nat) (av : Option Addr) (cap : Nat) (n all : Int) (ws : List Int) (T : TypeId) (hN : Hid (N = ws.length)) (hab : a ≤ b) (hb : b ≤ N) (f : Nat → Int) (hI : InR N f) (hinc : ∀ i j, a ≤ i → i < j → j < b → f i < f j) (w : World) (h : St w g N T f w) (hcap : Cap w g b3 b4 b5 av cap n all ws) :
    Calls Try.prog 49 #[.slice (some ⟨g, 0, none⟩) N C, .int .i64 a, .int .i64 b, cmpV 28 b3 b4 b5] w (PrtP g a b N n all ws T f w) := by
  have e := hN.out
  clear hN
  subst e
  exact insertion_any g C a b b3 b4 b5 av cap n all ws T hab hb f hI hinc w h hcap

theorem merge_n (g C a m b b3 b4 b5 N : Nat) (av : Option Addr) (cap : Nat) (n all : Int) (ws : List Int) (T : TypeId) (hN : Hid (N = ws.length)) (ham : a < m) (hmb : m < b) (hb : b ≤ N) (f : Nat → Int) (hI : InR N f) (hs : Srt (keyOf n all ws) a m f ∧ Srt (keyOf n all ws) m b f ∧ Lft a m b f) (w : World) (h : St w g N T f w) (hcap : Cap w g b3 b4 b5 av cap n all ws) :
    Calls Try.prog 50 #[.slice (some ⟨g, 0, none⟩) N C, .int .i64 a, .int .i64 m, .int .i64 b, cmpV 28 b3 b4 b5] w (PrtP g a b N n all ws T f w) := by
  have e := hN.out
  clear hN
  subst e
  exact merge_any g C b3 b4 b5 av cap n all ws T (b - a) a m b f w (Nat.le_refl _) ham hmb hb hI hs.1 hs.2.1 hs.2.2 h hcap

/-- How the sort ends. -/
def StbP (g : Nat) (n all : Int) (ws : List Int) (T : TypeId) (w : World) (e : Ending) (w' : World) : Prop :=
  e = .returned (.tuple #[]) ∧ ∃ f', Hid (Enum (keyOf n all ws) ws.length f') ∧ St w g ws.length T f' w'

/-- Where the outer loop stands. -/
def BsR (key : Int → Int) (N : Nat) (bs : Int) (c : Nat → Int) : Prop := (bs = 20 ∧ BlkA key 20 N c) ∨ (bs = 40 ∧ 20 < N ∧ BlkA key 40 N c) ∨ (bs = 80 ∧ 40 < N ∧ Srt key 0 N c)

set_option maxRecDepth 100000 in
set_option maxHeartbeats 6400000 in
theorem stable_any (g C b3 b4 b5 : Nat) (av : Option Addr) (cap : Nat) (n all : Int) (ws : List Int) (T : TypeId) (w : World) (h : St w g ws.length T (fun k => k) w) (hcap : Cap w g b3 b4 b5 av cap n all ws) :
    Calls Try.prog 42 #[.slice (some ⟨g, 0, none⟩) ws.length C, .int .i64 ws.length, cmpV 28 b3 b4 b5] w (StbP g n all ws T w) := by
  obtain ⟨N, hN⟩ : ∃ N, N = ws.length := ⟨_, rfl⟩
  have H := Lib.hid h
  have HC := Lib.hid hcap
  have hlen : (N : Int) ≤ 64 := by have := hcap.len; omega
  have HB0 : Hid (Blk (keyOf n all ws) 20 N 0 (fun k => (k : Int)) ∧ Pm N 0 N (fun k => (k : Int)) (fun k => (k : Int))) := Lib.hid ⟨Blk.start _ _, Pm.refl _ _ _ _⟩
  rw [← hN] at H ⊢
  have HN := Lib.hid hN
  clear h hcap hN
  go_enter Try.func42, Try.ntmps42
  go_wp2_with fail
  go_loopw [7, 8] (fun x y wr => ∃ (e e2 : Nat) (c : Nat → Int), e2 = e + 20 ∧ e ≤ N ∧ e % 20 = 0 ∧ x = .int .i64 e ∧ y = .int .i64 e2 ∧ Hid (Blk (keyOf n all ws) 20 N e c ∧ Pm N 0 N (fun k => (k : Int)) c) ∧ Hid (St w g N T c wr)) (fun x _ _ => N + 20 - (intOf x).toNat)
  case atStart => exact ⟨0, 20, _, rfl, Nat.zero_le _, rfl, rfl, rfl, HB0, H⟩
  case round =>
    obtain ⟨e, e2, c, he2, heN, hem, rfl, rfl, HB, HV⟩ := hrel
    have HE2 := Lib.hid he2
    have HEM := Lib.hid hem
    have hb0 : e ≤ e2 := by omega
    by_cases hlt : e2 ≤ N
    · have hlt' : (e2 : Int) ≤ N := by omega
      obtain ⟨e3, h3⟩ : ∃ e3 : Nat, e3 = e2 + 20 := ⟨_, rfl⟩
      have HE3 := Lib.hid h3
      have hee : (e2 : Int) + 20 = (e3 : Int) := by omega
      have hms : e < e2 := by omega
      clear he2 hem h3
      go_wp2_with fail
      refine (insertion_n g C e e2 b3 b4 b5 N av cap n all ws T HN (by omega) hlt c (InR.id HB.out.2) (HB.out.1.inc hlt) _ HV.out.self (HC.out.st HV.out)).mono ?_
      rintro er w1 ⟨rfl, d, HR, hW1⟩
      have HB' : Hid (Blk (keyOf n all ws) 20 N e2 d ∧ Pm N 0 N (fun k => (k : Int)) d) := Lib.hid ⟨HB.out.1.step HEM.out (by have := HE2.out; omega) hb0 hlt HR.out.1 HR.out.2, HB.out.2.trans (HR.out.1.mono (Nat.zero_le _) hlt)⟩
      have HV' := Lib.hid (HV.out.trans hW1)
      clear hW1
      go_wp2
      go_roundw
      case rel => exact ⟨e2, e3, d, HE3.out, hlt, by have := HE2.out; have := HEM.out; omega, rfl, rfl, HB', HV'⟩
      case measure => simp [intOf]; omega
    · have hge : ¬ (e2 : Int) ≤ N := by omega
      clear he2 hem
      go_wp2_with fail
      refine (insertion_n g C e N b3 b4 b5 N av cap n all ws T HN heN (Nat.le_refl _) c (InR.id HB.out.2) (HB.out.1.inc (Nat.le_refl _)) _ HV.out.self (HC.out.st HV.out)).mono ?_
      rintro er w1 ⟨rfl, d, HR, hW1⟩
      have HB' : Hid (BsR (keyOf n all ws) N 20 d ∧ Pm N 0 N (fun k => (k : Int)) d) := Lib.hid ⟨.inl ⟨rfl, HB.out.1.step HEM.out (by have := HE2.out; omega) heN (Nat.le_refl _) HR.out.1 HR.out.2⟩, HB.out.2.trans (HR.out.1.mono (Nat.zero_le _) (Nat.le_refl _))⟩
      have HV' := Lib.hid (HV.out.trans hW1)
      clear hW1 HV HB HR hge hlt HEM HE2 hb0 heN
      go_wp2_with fail
      go_loopw [6] (fun x wr => ∃ (bs : Int) (c : Nat → Int), x = .int .i64 bs ∧ Hid (BsR (keyOf n all ws) N bs c ∧ Pm N 0 N (fun k => (k : Int)) c) ∧ Hid (St w g N T c wr)) (fun x _ => 200 - (intOf x).toNat)
      case atStart => exact ⟨20, d, rfl, HB', HV'⟩
      case round =>
        obtain ⟨bs, c, rfl, HB, HV⟩ := hrel
        rcases HB.out.1 with ⟨hbs, hA⟩ | ⟨hbs, h20, hA⟩ | ⟨hbs, h40, hA⟩
        · subst hbs
          by_cases h20 : 20 < N
          · have h20' : (20 : Int) < N := by omega
            have HM0 := Lib.hid (And.intro (Mx.start hA) HB.out.2)
            clear hA
            go_wp2_with fail
            go_loopw [7, 8] (fun x y wr' => ∃ (e e2 : Nat) (c' : Nat → Int), e2 = e + 40 ∧ e ≤ N ∧ e % 40 = 0 ∧ x = .int .i64 e ∧ y = .int .i64 e2 ∧ Hid (Mx (keyOf n all ws) N e c' ∧ Pm N 0 N (fun k => (k : Int)) c') ∧ Hid (St w g N T c' wr')) (fun x _ _ => N + 40 - (intOf x).toNat)
            case atStart => exact ⟨0, 40, c, rfl, Nat.zero_le _, rfl, rfl, rfl, HM0, HV⟩
            case round =>
              obtain ⟨e, e2, c', he2, heN, hem, rfl, rfl, HM, HW⟩ := hrel
              have HE2 := Lib.hid he2
              have HEM := Lib.hid hem
              obtain ⟨em, h3⟩ : ∃ em : Nat, em = e + 20 := ⟨_, rfl⟩
              have HE3 := Lib.hid h3
              have hee : (e : Int) + 20 = (em : Int) := by omega
              have hms : e < em := by omega
              have hms2 : em < e2 := by omega
              by_cases hlt : e2 ≤ N
              · have hlt' : (e2 : Int) ≤ N := by omega
                obtain ⟨e4, h4⟩ : ∃ e4 : Nat, e4 = e2 + 40 := ⟨_, rfl⟩
                have HE4 := Lib.hid h4
                have he4 : (e2 : Int) + 40 = (e4 : Int) := by omega
                have hpre := HM.out.1.pre hem (b := e2) (by omega) (by omega) hlt
                rw [← h3] at hpre
                have HPRE := Lib.hid hpre
                clear he2 hem h3 h4 hpre
                go_wp2_with fail
                refine (merge_n g C e em e2 b3 b4 b5 N av cap n all ws T HN hms hms2 hlt c' (InR.id HM.out.2) HPRE.out _ HW.out.self (HC.out.st HW.out)).mono ?_
                rintro er w2 ⟨rfl, d, HR, hW1⟩
                have HM' : Hid (Mx (keyOf n all ws) N e2 d ∧ Pm N 0 N (fun k => (k : Int)) d) := Lib.hid ⟨HM.out.1.step HEM.out (by have := HE2.out; omega) (by have := HE2.out; omega) hlt (.inl HE2.out) HR.out.1 HR.out.2, HM.out.2.trans (HR.out.1.mono (Nat.zero_le _) hlt)⟩
                have HW' := Lib.hid (HW.out.trans hW1)
                clear hW1
                go_wp2
                go_roundw
                case rel => exact ⟨e2, e4, d, HE4.out, hlt, by have := HE2.out; have := HEM.out; omega, rfl, rfl, HM', HW'⟩
                case measure => simp [intOf]; omega
              · have hge : ¬ (e2 : Int) ≤ N := by omega
                by_cases hm : em < N
                · have hm' : (em : Int) < N := by omega
                  have hpre := HM.out.1.pre hem (b := N) (by omega) (by omega) (Nat.le_refl _)
                  rw [← h3] at hpre
                  have HPRE := Lib.hid hpre
                  clear he2 hem h3 hpre
                  go_wp2_with fail
                  refine (merge_n g C e em N b3 b4 b5 N av cap n all ws T HN hms hm (Nat.le_refl _) c' (InR.id HM.out.2) HPRE.out _ HW.out.self (HC.out.st HW.out)).mono ?_
                  rintro er w2 ⟨rfl, d, HR, hW1⟩
                  have HB' : Hid (BsR (keyOf n all ws) N 40 d ∧ Pm N 0 N (fun k => (k : Int)) d) := Lib.hid ⟨.inr (.inl ⟨rfl, h20, (HM.out.1.step HEM.out (by have := HE3.out; omega) (by have := HE2.out; omega) (Nat.le_refl _) (.inr rfl) HR.out.1 HR.out.2).full⟩), HM.out.2.trans (HR.out.1.mono (Nat.zero_le _) (Nat.le_refl _))⟩
                  have HW' := Lib.hid (HW.out.trans hW1)
                  clear hW1
                  go_wp2
                  go_roundw
                  case rel => exact ⟨40, d, rfl, HB', HW'⟩
                  case measure => simp [intOf]
                · have hm' : ¬ (em : Int) < N := by omega
                  have HB' : Hid (BsR (keyOf n all ws) N 40 c' ∧ Pm N 0 N (fun k => (k : Int)) c') := Lib.hid ⟨.inr (.inl ⟨rfl, h20, HM.out.1.done hem heN (by omega)⟩), HM.out.2⟩
                  clear he2 hem h3
                  go_wp2
                  go_roundw
                  case rel => exact ⟨40, c', rfl, HB', HW⟩
                  case measure => simp [intOf]
          · have h20' : ¬ (20 : Int) < N := by omega
            have HF : Hid (Enum (keyOf n all ws) N c) := Lib.hid ⟨hA.one20 (by omega), HB.out.2⟩
            clear hA
            go_wp2
            go_end0
            exact ⟨rfl, c, by rw [← HN.out]; exact HF, by rw [← HN.out]; exact HV.out⟩
        · subst hbs
          by_cases h40 : 40 < N
          · have h40' : (40 : Int) < N := by omega
            have h80 : ¬ (80 : Int) ≤ N := by omega
            have HPRE := Lib.hid (hA.pre40 h40 (by omega) (Nat.le_refl N))
            clear hA
            go_wp2_with fail
            go_loopw [7, 8] (fun x y wr' => x = .int .i64 0 ∧ y = .int .i64 80 ∧ Hid (St w g N T c wr')) (fun _ _ _ => 0)
            case atStart => exact ⟨rfl, rfl, HV⟩
            case round =>
              obtain ⟨rfl, rfl, HW⟩ := hrel
              go_wp2_with fail
              refine (merge_n g C 0 40 N b3 b4 b5 N av cap n all ws T HN (by omega) h40 (Nat.le_refl _) c (InR.id HB.out.2) HPRE.out _ HW.out.self (HC.out.st HW.out)).mono ?_
              rintro er w2 ⟨rfl, d, HR, hW1⟩
              have HB' : Hid (BsR (keyOf n all ws) N 80 d ∧ Pm N 0 N (fun k => (k : Int)) d) := Lib.hid ⟨.inr (.inr ⟨rfl, h40, HR.out.2⟩), HB.out.2.trans HR.out.1⟩
              have HW' := Lib.hid (HW.out.trans hW1)
              clear hW1
              go_wp2
              go_roundw
              case rel => exact ⟨80, d, rfl, HB', HW'⟩
              case measure => simp [intOf]
          · have h40' : ¬ (40 : Int) < N := by omega
            have HF : Hid (Enum (keyOf n all ws) N c) := Lib.hid ⟨hA.one40 (by omega), HB.out.2⟩
            clear hA
            go_wp2
            go_end0
            exact ⟨rfl, c, by rw [← HN.out]; exact HF, by rw [← HN.out]; exact HV.out⟩
        · subst hbs
          have h80 : ¬ (80 : Int) < N := by omega
          have HF : Hid (Enum (keyOf n all ws) N c) := Lib.hid ⟨hA, HB.out.2⟩
          clear hA
          go_wp2
          go_end0
          exact ⟨rfl, c, by rw [← HN.out]; exact HF, by rw [← HN.out]; exact HV.out⟩

end Go.Proofs.Ytpghhfobaionkaa

/- Skins: Clone of strings, Turn. -/
import Derived.Test.YtfnkomecbbmfmaaSlD
namespace Go.Proofs.Ytfnkomecbbmfmaa
open Go.RowKit

set_option maxRecDepth 100000 in
set_option maxHeartbeats 1600000 in
theorem clone_any (a : Option Addr) (cap : Nat) (ss : List ByteArray) (hp : 0 < ss.length) (hl : ss.length ≤ 48) (w : World) (h : StrS w a ss) :
    Calls Try.prog 46 #[.slice a ss.length cap] w fun e w' => ∃ a' c', e = .returned (.slice a' ss.length c') ∧ StrS w' a' ss ∧ Below w.heap.size w w' := by
  obtain ⟨i0, hi, hz0, hz1, hz2⟩ := info_parts sk_infoStr
  have HI0 := Lib.hid (And.intro hi (And.intro hz0 (And.intro hz1 hz2)))
  clear hi hz0 hz1 hz2
  obtain ⟨b, off, rfl, hb, -⟩ := h.at_ hp
  have HC : Hid (∀ j (hj : j < ss.length), w.cell? ⟨b, off + j, none⟩ = some (.string ss[j])) := Lib.hid (fun j hj => by
    obtain ⟨b', off', he, -, hc⟩ := h.at_ hj
    simp only [Option.some.injEq, Addr.mk.injEq, and_true] at he
    obtain ⟨rfl, rfl⟩ := he
    exact hc)
  obtain ⟨L, hL⟩ : ∃ L, L = ss.length := ⟨_, rfl⟩
  have HL := Lib.hid hL
  rw [← hL] at hl ⊢
  have heq : ∀ w', (binOp .eql 22 (.slice (some ⟨b, off, none⟩) L cap) (.slice none 0 0)).run Try.prog w' = .ok (.bool false) w' := fun _ => by kernel_rfl
  have HB := Lib.hid hb
  have HOV : Hid (∀ v' w6, w6.ownsRow w.heap.size 9 1 v' L (ss.map Value.string) → (w.alloc (.cells #[] 9)).grownBy w6 (Value.slice (some ⟨w.heap.size, 0, none⟩) 0 0).ownBlock → OV w 9 v' (ss.map Value.string) w6) := Lib.hid (fun v' w6 ho hg => by
    refine ⟨⟨hg.os, hg.tape, hg.output, Nat.le_trans (by simp) hg.size, fun i hi => ?_⟩, ?_⟩
    · exact (hg.block i (by simp; omega) (fun e => by simp [Value.ownBlock] at e; omega)).trans (((Below.refl w.heap.size w).alloc (Nat.le_refl _) (.cells #[] 9)).block i hi)
    · rw [List.length_map, ← hL]
      exact ho)
  have hown : (w.alloc (.cells #[] 9)).ownsRow w.heap.size 9 1 (.slice (some ⟨w.heap.size, 0, none⟩) 0 0) 0 [] := ⟨by simp, .inr ⟨w.heap.size, 0, _, rfl, Nat.le_refl _, heap_alloc_new _ _, Nat.le_refl _, by unfold maxLen; omega, by simp, by simp⟩⟩
  have hnews : ∀ (j : Nat) (u : Value), (ss.map Value.string)[j]? = some u → (w.alloc (.cells #[] 9)).cell? ((⟨b, off, none⟩ : Addr).add j) = some u := fun j u hu => by
    rw [List.getElem?_map] at hu
    rcases Nat.lt_or_ge j ss.length with hj | hj
    · rw [List.getElem?_eq_getElem hj] at hu
      simp only [Option.map_some, Option.some.injEq] at hu
      rw [add_off, ((Below.refl w.heap.size w).alloc (Nat.le_refl _) (.cells #[] 9)).cell (p := ⟨b, off + j, none⟩) hb, HC.out j hj, hu]
    · rw [List.getElem?_eq_none hj] at hu
      simp at hu
  have hone : ∀ u ∈ ss.map Value.string, u.oneCell' = true := fun u hu => by
    obtain ⟨s, -, rfl⟩ := List.mem_map.1 hu
    rfl
  have HN := Lib.hid (And.intro hown (And.intro hnews hone))
  clear h hp hb hown hnews hone hL
  go_enter Try.func46, Try.ntmps46
  go_wp2_with (at_builtin; refine wpList_append_own _ rfl _ _ 22 rfl w.heap.size 9 i0 (.string ByteArray.empty) 1 16 Try.underlying22 HI0.out.1 HI0.out.2.1 HI0.out.2.2.1 HI0.out.2.2.2 rfl (by decide) (.slice (some ⟨w.heap.size, 0, none⟩) 0 0) 0 [] rfl HN.out.1 ⟨b, off, none⟩ L cap (ss.map Value.string) rfl (by rw [List.length_map, HL.out]; omega) HN.out.2.1 HN.out.2.2 (by unfold maxLen; omega) (by omega) (by simp) ?_)
  intro v' w6 hown6 hgrow6 hnil6
  have hov := HOV.out v' w6 hown6 hgrow6
  obtain ⟨a', c', rfl, hs⟩ := hov.strs
  have HE := Lib.hid (And.intro hs hov.b)
  clear hown6 hgrow6 hnil6 hov hs
  go_wp2
  go_ret
  exact ⟨a', c', by rw [HL.out]; rfl, HE.out.1, HE.out.2⟩

theorem turns_num (k : Int) : ∃ m K : Nat, k.tmod 4 + 4 = (m : Int) ∧ (m : Int).tmod 4 = (K : Int) ∧ m ≤ 7 ∧ K ≤ 3 := by
  have h1 := Int.tmod_lt_of_pos k (show (0 : Int) < 4 by omega)
  have h2 := Int.lt_tmod_of_pos k (show (0 : Int) < 4 by omega)
  obtain ⟨m, hm⟩ := Int.eq_ofNat_of_zero_le (show 0 ≤ k.tmod 4 + 4 by omega)
  refine ⟨m, m % 4, hm, ?_, by omega, by omega⟩
  rw [Int.tmod_eq_emod_of_nonneg (by omega)]
  omega

set_option maxRecDepth 100000 in
set_option maxHeartbeats 1600000 in
theorem turn_yes (a : Option Addr) (cap : Nat) (ss : List ByteArray) (hs : skB ss = true) (k : Int) (w : World) (h : StrS w a ss) :
    Calls Try.prog 27 #[.slice a ss.length cap, .int .i64 k] w fun e w' => ∃ a' c', e = .returned (.tuple #[.slice a' (rotN ss ((k.tmod 4 + 4).tmod 4).toNat).length c', .int .i64 0]) ∧ StrS w' a' (rotN ss ((k.tmod 4 + 4).tmod 4).toNat) ∧ Below w.heap.size w w' := by
  have HV : Hid (Calls Try.prog 17 #[.slice a ss.length cap] w fun e w'' => e = .returned (.bool true) ∧ w = w'') := Lib.hid (by
    rw [← hs]; exact skValid_any a cap ss (sk_long hs).1 (sk_long hs).2 w h)
  obtain ⟨⟨hl1, hl2⟩, ⟨hw1, hw2⟩, -⟩ := skB_iff.1 hs
  have HC := Lib.hid (clone_any a cap ss (by omega) hl2 w h)
  have HQ := Lib.hid (fun (a' : Option Addr) (c' r : Nat) (w' : World) (h : StrS w' a' (rotN ss r)) => quarter_any a' c' (rotN ss r) (rotN_sk hs r) w' h)
  obtain ⟨m, K, hm, hK, hm7, hK3⟩ := turns_num k
  rw [hm, hK, Int.toNat_natCast]
  have hw1 : IntKind.i64.wrap (k.tmod 4 + 4) = (m : Int) := by rw [hm]; exact IntWalk.i64_in _ (by omega)
  have HW1 := Lib.hid hm
  clear hs h hm hm7
  go_enter Try.func27, Try.ntmps27
  go_wp2_with fail
  refine HV.out.mono ?_
  rintro e w1 ⟨rfl, rfl⟩
  go_wp2_with fail
  refine HC.out.mono ?_
  rintro e w1 ⟨a', c', rfl, hst, hb⟩
  have HS0 : Hid (StrS w1 a' (rotN ss 0) ∧ Below w.heap.size w w1) := Lib.hid ⟨hst, hb⟩
  clear hst hb
  go_wp2
  go_loopg [6, 16] K (fun gk v i wr => ∃ r : Nat, r + gk = K ∧ i = .int .i64 r ∧ ∃ a' c', v = .slice a' (rotN ss r).length c' ∧ Hid (StrS wr a' (rotN ss r) ∧ Below w.heap.size w wr))
  case atStart => exact ⟨0, by omega, rfl, a', c', rfl, HS0⟩
  case round =>
    obtain ⟨r, hr, rfl, a2, c2, rfl, HS⟩ := hrel
    by_cases hlt : r < K
    · obtain ⟨gk', rfl⟩ : ∃ m, gk = m + 1 := ⟨gk - 1, by omega⟩
      have hlt' : (r : Int) < K := by omega
      go_wp2_with fail
      refine (HQ.out a2 c2 r _ HS.out.1).mono ?_
      rintro e w2 ⟨n, rfl, hst, hb⟩
      have HN : Hid (StrS w2 (some ⟨n, 0, none⟩) (rotN ss (r + 1)) ∧ Below w.heap.size w w2) := Lib.hid ⟨hst, HS.out.2.trans (hb.mono HS.out.2.size)⟩
      clear hst hb
      go_wp2
      go_roundg gk'
      case measure => exact Nat.lt_succ_self _
      case rel => exact ⟨r + 1, by omega, by go_num, _, _, rfl, HN⟩
    · obtain rfl : r = K := by omega
      go_wp2
      go_ret2
      exact ⟨a2, c2, rfl, HS.out.1, HS.out.2⟩

set_option maxRecDepth 100000 in
theorem turn_no (a : Option Addr) (cap : Nat) (ss : List ByteArray) (hs : skB ss = false) (hl : (ss.length : Int) ≤ 9223372036854775807) (hz : ∀ s ∈ ss, s.size ≤ 9223372036854775807) (k : Value) (w : World) (h : StrS w a ss) :
    Calls Try.prog 27 #[.slice a ss.length cap, k] w fun e w' => e = .returned (.tuple #[.slice none 0 0, .int .i64 2]) ∧ w = w' := by
  have HV : Hid (Calls Try.prog 17 #[.slice a ss.length cap] w fun e w'' => e = .returned (.bool false) ∧ w = w'') := Lib.hid (by
    rw [← hs]; exact skValid_any a cap ss hl hz w h)
  clear hs h
  go_enter Try.func27, Try.ntmps27
  go_wp2_with fail
  refine HV.out.mono ?_
  rintro e w1 ⟨rfl, rfl⟩
  go_wp2
  go_ret2
  exact ⟨rfl, rfl⟩

end Go.Proofs.Ytfnkomecbbmfmaa

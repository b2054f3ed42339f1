/- Skins: Erode, Dilate, Open of the reference. -/
import Derived.Test.YtfnkomecbbmfmaaSlU
namespace Go.Proofs.Ytfnkomecbbmfmaa
open Go.RowKit

set_option maxRecDepth 100000 in
set_option maxHeartbeats 1600000 in
theorem rErE_yes (a : Option Addr) (cap : Nat) (ss : List ByteArray) (hs : skB ss = true) (k : Nat) (hk : k ≤ 48) (w : World) (h : StrS w a ss) :
    Calls Try.prog 39 #[.slice a ss.length cap, .int .i64 k] w fun e w' => ∃ a' c', e = .returned (.tuple #[.slice a' (spB true ss k).length c', .int .i64 0]) ∧ StrS w' a' (spB true ss k) ∧ Below w.heap.size w w' := by
  have HV : Hid (Calls Try.prog 18 #[.slice a ss.length cap] w fun e w'' => e = .returned (.bool true) ∧ w = w'') := Lib.hid (by
    rw [← hs]; exact rValid_any a cap ss (sk_long hs).1 (sk_long hs).2 w h)
  have H1 := Lib.hid (morphedE a cap ss hs k hk w h)
  have hk1 : ¬ ((k : Int) < 0) := by omega
  have hk2 : ¬ ((48 : Int) < k) := by omega
  clear hs h hk
  go_enter Try.func39, Try.ntmps39
  go_wp2_with fail
  refine HV.out.mono ?_
  rintro e w1 ⟨rfl, rfl⟩
  go_wp2_with fail
  refine H1.out.mono ?_
  rintro e w2 ⟨a', c', rfl, hst, hb⟩
  have HE := Lib.hid (And.intro hst hb)
  clear hst hb
  go_wp2
  go_ret2
  exact ⟨_, _, rfl, HE.out.1, HE.out.2⟩

set_option maxRecDepth 100000 in
set_option maxHeartbeats 1600000 in
theorem rErE_no (a : Option Addr) (cap : Nat) (ss : List ByteArray) (hl : (ss.length : Int) ≤ 9223372036854775807) (hz : ∀ s ∈ ss, s.size ≤ 9223372036854775807) (k : Int) (hn : skB ss = false ∨ k < 0 ∨ 48 < k) (w : World) (h : StrS w a ss) :
    Calls Try.prog 39 #[.slice a ss.length cap, .int .i64 k] w fun e w' => e = .returned (.tuple #[.slice none 0 0, .int .i64 2]) ∧ w = w' := by
  cases hs : skB ss with
  | false =>
    have HV : Hid (Calls Try.prog 18 #[.slice a ss.length cap] w fun e w'' => e = .returned (.bool false) ∧ w = w'') := Lib.hid (by
      rw [← hs]; exact rValid_any a cap ss hl hz w h)
    clear hs h hn
    go_enter Try.func39, Try.ntmps39
    go_wp2_with fail
    refine HV.out.mono ?_
    rintro e w1 ⟨rfl, rfl⟩
    go_wp2
    go_ret2
    exact ⟨rfl, rfl⟩
  | true =>
    have HV : Hid (Calls Try.prog 18 #[.slice a ss.length cap] w fun e w'' => e = .returned (.bool true) ∧ w = w'') := Lib.hid (by
      rw [← hs]; exact rValid_any a cap ss hl hz w h)
    have hn2 : k < 0 ∨ (¬ k < 0 ∧ 48 < k) := by
      rcases hn with h1 | h1 | h1
      · rw [hs] at h1; cases h1
      · exact .inl h1
      · exact .inr ⟨by omega, h1⟩
    clear hs h hn
    rcases hn2 with hn3 | ⟨hn3, hn4⟩
    all_goals
      go_enter Try.func39, Try.ntmps39
      go_wp2_with fail
      refine HV.out.mono ?_
      rintro e w1 ⟨rfl, rfl⟩
      go_wp2
      go_ret2
      exact ⟨rfl, rfl⟩

set_option maxRecDepth 100000 in
set_option maxHeartbeats 1600000 in
theorem rErD_yes (a : Option Addr) (cap : Nat) (ss : List ByteArray) (hs : skB ss = true) (k : Nat) (hk : k ≤ 48) (w : World) (h : StrS w a ss) :
    Calls Try.prog 41 #[.slice a ss.length cap, .int .i64 k] w fun e w' => ∃ a' c', e = .returned (.tuple #[.slice a' (spB false ss k).length c', .int .i64 0]) ∧ StrS w' a' (spB false ss k) ∧ Below w.heap.size w w' := by
  have HV : Hid (Calls Try.prog 18 #[.slice a ss.length cap] w fun e w'' => e = .returned (.bool true) ∧ w = w'') := Lib.hid (by
    rw [← hs]; exact rValid_any a cap ss (sk_long hs).1 (sk_long hs).2 w h)
  have H1 := Lib.hid (morphedD a cap ss hs k hk w h)
  have hk1 : ¬ ((k : Int) < 0) := by omega
  have hk2 : ¬ ((48 : Int) < k) := by omega
  clear hs h hk
  go_enter Try.func41, Try.ntmps41
  go_wp2_with fail
  refine HV.out.mono ?_
  rintro e w1 ⟨rfl, rfl⟩
  go_wp2_with fail
  refine H1.out.mono ?_
  rintro e w2 ⟨a', c', rfl, hst, hb⟩
  have HE := Lib.hid (And.intro hst hb)
  clear hst hb
  go_wp2
  go_ret2
  exact ⟨_, _, rfl, HE.out.1, HE.out.2⟩

set_option maxRecDepth 100000 in
set_option maxHeartbeats 1600000 in
theorem rErD_no (a : Option Addr) (cap : Nat) (ss : List ByteArray) (hl : (ss.length : Int) ≤ 9223372036854775807) (hz : ∀ s ∈ ss, s.size ≤ 9223372036854775807) (k : Int) (hn : skB ss = false ∨ k < 0 ∨ 48 < k) (w : World) (h : StrS w a ss) :
    Calls Try.prog 41 #[.slice a ss.length cap, .int .i64 k] w fun e w' => e = .returned (.tuple #[.slice none 0 0, .int .i64 2]) ∧ w = w' := by
  cases hs : skB ss with
  | false =>
    have HV : Hid (Calls Try.prog 18 #[.slice a ss.length cap] w fun e w'' => e = .returned (.bool false) ∧ w = w'') := Lib.hid (by
      rw [← hs]; exact rValid_any a cap ss hl hz w h)
    clear hs h hn
    go_enter Try.func41, Try.ntmps41
    go_wp2_with fail
    refine HV.out.mono ?_
    rintro e w1 ⟨rfl, rfl⟩
    go_wp2
    go_ret2
    exact ⟨rfl, rfl⟩
  | true =>
    have HV : Hid (Calls Try.prog 18 #[.slice a ss.length cap] w fun e w'' => e = .returned (.bool true) ∧ w = w'') := Lib.hid (by
      rw [← hs]; exact rValid_any a cap ss hl hz w h)
    have hn2 : k < 0 ∨ (¬ k < 0 ∧ 48 < k) := by
      rcases hn with h1 | h1 | h1
      · rw [hs] at h1; cases h1
      · exact .inl h1
      · exact .inr ⟨by omega, h1⟩
    clear hs h hn
    rcases hn2 with hn3 | ⟨hn3, hn4⟩
    all_goals
      go_enter Try.func41, Try.ntmps41
      go_wp2_with fail
      refine HV.out.mono ?_
      rintro e w1 ⟨rfl, rfl⟩
      go_wp2
      go_ret2
      exact ⟨rfl, rfl⟩

set_option maxRecDepth 100000 in
set_option maxHeartbeats 1600000 in
theorem rOpen_yes (a : Option Addr) (cap : Nat) (ss : List ByteArray) (hs : skB ss = true) (k : Nat) (hk : k ≤ 48) (w : World) (h : StrS w a ss) :
    Calls Try.prog 43 #[.slice a ss.length cap, .int .i64 k] w fun e w' => ∃ a' c', e = .returned (.tuple #[.slice a' (spB false (spB true ss k) k).length c', .int .i64 0]) ∧ StrS w' a' (spB false (spB true ss k) k) ∧ Below w.heap.size w w' := by
  have H1 := Lib.hid (rErE_yes a cap ss hs k hk w h)
  have H2 := Lib.hid (fun (w' : World) (a' : Option Addr) (c' : Nat) (hst : StrS w' a' (spB true ss k)) => rErD_yes a' c' _ (spB_sk true hs k) k hk w' hst)
  obtain ⟨T, hT⟩ : ∃ T, T = spB true ss k := ⟨_, rfl⟩
  rw [← hT] at H1 H2 ⊢
  clear hs h hk hT
  go_enter Try.func43, Try.ntmps43
  go_wp2_with fail
  refine H1.out.mono ?_
  rintro e w2 ⟨a', c', rfl, hst, hb⟩
  have HB2 := Lib.hid (And.intro hst hb)
  clear hst hb
  go_wp2_with fail
  refine (H2.out _ _ _ HB2.out.1).mono ?_
  rintro e w3 ⟨a3, c3, rfl, hst, hb⟩
  have HE := Lib.hid (And.intro hst (HB2.out.2.trans (hb.mono HB2.out.2.size)))
  clear hst hb
  go_wp2
  go_ret2
  exact ⟨_, _, rfl, HE.out.1, HE.out.2⟩

set_option maxRecDepth 100000 in
theorem rOpen_no (a : Option Addr) (cap : Nat) (ss : List ByteArray) (hl : (ss.length : Int) ≤ 9223372036854775807) (hz : ∀ s ∈ ss, s.size ≤ 9223372036854775807) (k : Int) (hn : skB ss = false ∨ k < 0 ∨ 48 < k) (w : World) (h : StrS w a ss) :
    Calls Try.prog 43 #[.slice a ss.length cap, .int .i64 k] w fun e w' => e = .returned (.tuple #[.slice none 0 0, .int .i64 2]) ∧ w = w' := by
  have H1 := Lib.hid (rErE_no a cap ss hl hz k hn w h)
  clear hl hz h hn
  go_enter Try.func43, Try.ntmps43
  go_wp2_with fail
  refine H1.out.mono ?_
  rintro e w2 ⟨rfl, rfl⟩
  go_wp2
  go_ret2
  exact ⟨rfl, rfl⟩

end Go.Proofs.Ytfnkomecbbmfmaa

/- Skins: rows of bytes; strings in memory. -/
import Derived.Test.YtndhnpljdldlpabProg
import Derived.WalkKit
import Derived.WalkLawsBesides
import Derived.WalkSpells
import Derived.RegionTactic
import Derived.ChangeAlike
import Derived.LoopTactic
import Derived.Deep.QuietTactic
import Derived.BigQuiet
import Derived.Lib.Hide
import Derived.OwnWalk
import Derived.IntWalk
import Derived.Deep.RegionHeld3
namespace Go.Proofs.Ytndhnpljdldlpab
open Go.RowKit

/-- The slice's value and memory read as these strings. -/
def StrS (w : World) (a : Option Addr) (ss : List ByteArray) : Prop :=
  ss = [] ∨ ∃ b off, a = some ⟨b, off, none⟩ ∧ b < w.heap.size ∧ ∀ j (h : j < ss.length), w.cell? ⟨b, off + j, none⟩ = some (.string ss[j])

theorem StrS.below {w w' : World} {a : Option Addr} {ss : List ByteArray} (h : StrS w a ss) (hb : Below w.heap.size w w') : StrS w' a ss := by
  rcases h with h | ⟨b, off, e, hl, hc⟩
  · exact .inl h
  · exact .inr ⟨b, off, e, Nat.lt_of_lt_of_le hl hb.size, fun j hj => (hb.cell (p := ⟨b, off + j, none⟩) hl).trans (hc j hj)⟩
theorem StrS.at_ {w : World} {a : Option Addr} {ss : List ByteArray} (h : StrS w a ss) {k : Nat} (hk : k < ss.length) :
    ∃ b off, a = some ⟨b, off, none⟩ ∧ b < w.heap.size ∧ w.cell? ⟨b, off + k, none⟩ = some (.string ss[k]) := by
  rcases h with h | ⟨b, off, e, hl, hc⟩
  · subst h; simp at hk
  · exact ⟨b, off, e, hl, hc k hk⟩

/-- All bytes are grades. -/
def grB (s : ByteArray) : Bool := s.data.toList.all fun c => decide (48 ≤ c.toNat) && decide (c.toNat ≤ 57)
theorem grB_iff {s : ByteArray} : grB s = true ↔ ∀ k (h : k < s.size), 48 ≤ s[k].toNat ∧ s[k].toNat ≤ 57 := by
  unfold grB
  rw [List.all_eq_true]
  constructor
  · intro h k hk
    have := h s[k] (by
      have : s[k] = s.data.toList[k]'(by rw [Array.length_toList]; exact hk) := rfl
      rw [this]; exact List.getElem_mem _)
    simpa using this
  · intro h c hc
    obtain ⟨k, hk, rfl⟩ := List.mem_iff_getElem.1 hc
    rw [Array.length_toList] at hk
    have h1 := h k hk
    have e : s.data.toList[k]'(by rw [Array.length_toList]; exact hk) = s[k] := rfl
    rw [e]
    simpa using h1
theorem grB_false {s : ByteArray} {k : Nat} (hk : k < s.size) (h : s[k].toNat < 48 ∨ 57 < s[k].toNat) : grB s = false := by
  cases e : grB s with
  | false => rfl
  | true => have := grB_iff.1 e k hk; omega

/-- A number of rows, of columns. -/
def sideB (n : Nat) : Bool := decide (1 ≤ n) && decide (n ≤ 48)
/-- How many columns. -/
def wid (ss : List ByteArray) : Nat := (ss.head?.map (·.size)).getD 0
/-- A skin. -/
def skB (ss : List ByteArray) : Bool := sideB ss.length && (sideB (wid ss) && ss.all fun s => decide (s.size = wid ss) && grB s)

theorem sideB_iff {n : Nat} : sideB n = true ↔ 1 ≤ n ∧ n ≤ 48 := by unfold sideB; simp
theorem skB_iff {ss : List ByteArray} : skB ss = true ↔ (1 ≤ ss.length ∧ ss.length ≤ 48) ∧ (1 ≤ wid ss ∧ wid ss ≤ 48) ∧ ∀ k (h : k < ss.length), ss[k].size = wid ss ∧ grB ss[k] = true := by
  unfold skB
  rw [Bool.and_eq_true, Bool.and_eq_true, sideB_iff, sideB_iff, List.all_eq_true]
  refine and_congr Iff.rfl (and_congr Iff.rfl ⟨fun h k hk => ?_, fun h s hs => ?_⟩)
  · have := h _ (List.getElem_mem hk)
    simpa using this
  · obtain ⟨k, hk, rfl⟩ := List.mem_iff_getElem.1 hs
    have := h k hk
    simpa using this
theorem wid_eq {ss : List ByteArray} (h : 0 < ss.length) : wid ss = ss[0].size := by
  cases ss with
  | nil => simp at h
  | cons a t => rfl
theorem skB_row {ss : List ByteArray} {k : Nat} (hk : k < ss.length) (h : ss[k].size ≠ wid ss ∨ grB ss[k] = false) : skB ss = false := by
  cases e : skB ss with
  | false => rfl
  | true =>
    have := (skB_iff.1 e).2.2 k hk
    rcases h with h | h
    · exact absurd this.1 h
    · rw [this.2] at h; cases h

set_option maxRecDepth 100000 in
theorem isSide_any (n : Nat) (w : World) : Calls Try.prog 88 #[.int .i64 n] w fun e w' => e = .returned (.bool (sideB n)) ∧ w = w' := by
  by_cases h1 : 1 ≤ n
  · by_cases h2 : n ≤ 48
    · have hs : Hid (sideB n = true) := Lib.hid (sideB_iff.2 ⟨h1, h2⟩)
      have i1 : (1 : Int) ≤ n := by omega
      have i2 : (n : Int) ≤ 48 := by omega
      rw [hs.out]
      clear h1 h2
      go_enter Try.func88, Try.ntmps88
      go_wp2
      go_ret
      exact ⟨rfl, rfl⟩
    · have hs : Hid (sideB n = false) := Lib.hid (by cases e : sideB n with | false => rfl | true => have := sideB_iff.1 e; omega)
      have i1 : (1 : Int) ≤ n := by omega
      have i2 : ¬ (n : Int) ≤ 48 := by omega
      rw [hs.out]
      clear h1 h2
      go_enter Try.func88, Try.ntmps88
      go_wp2
      go_ret
      exact ⟨rfl, rfl⟩
  · have hs : Hid (sideB n = false) := Lib.hid (by cases e : sideB n with | false => rfl | true => have := sideB_iff.1 e; omega)
    have i1 : ¬ (1 : Int) ≤ n := by omega
    rw [hs.out]
    clear h1
    go_enter Try.func88, Try.ntmps88
    go_wp2
    go_ret
    exact ⟨rfl, rfl⟩

set_option maxRecDepth 100000 in
theorem areGrades_any (s : ByteArray) (hs : (s.size : Int) ≤ 9223372036854775807) (w : World) : Calls Try.prog 89 #[.string s] w fun e w' => e = .returned (.bool (grB s)) ∧ w = w' := by
  obtain ⟨b, hb⟩ : ∃ b, b = grB s := ⟨_, rfl⟩
  rw [← hb]
  have HB := Lib.hid hb
  clear hb
  go_enter Try.func89, Try.ntmps89
  go_wp2
  go_loop [6] (fun i => ∃ k : Nat, (k : Int) ≤ s.size ∧ i = .int .i64 k ∧ Hid (∀ j (h : j < s.size), j < k → 48 ≤ s[j].toNat ∧ s[j].toNat ≤ 57)) (fun i => s.size - (intOf i).toNat)
  case atStart => exact ⟨0, by omega, rfl, Lib.hid (fun j _ h => by omega)⟩
  case round =>
    obtain ⟨k, hk, rfl, HA⟩ := hrel
    by_cases hlt : (k : Int) < s.size
    · have hkn : k < s.size := by omega
      have hk0 : (0 : Int) ≤ (k : Int) := by omega
      go_wp2
      · have hc : (s[k].toNat : Int) < 48 ∨ 57 < (s[k].toNat : Int) := by assumption
        go_ret
        exact ⟨by rw [HB.out, grB_false hkn (by omega)]; rfl, rfl⟩
      · have hc : 48 ≤ (s[k].toNat : Int) ∧ (s[k].toNat : Int) ≤ 57 := by assumption
        go_round
        case rel => exact ⟨k + 1, by omega, by go_num, Lib.hid (fun j h hj => by
          by_cases e : j = k
          · subst e; omega
          · exact HA.out j h (by omega))⟩
        case measure => simp [intOf]; omega
      · have hc : (s[k].toNat : Int) < 48 := by assumption
        go_ret
        exact ⟨by rw [HB.out, grB_false hkn (by omega)]; rfl, rfl⟩
    · have HT : Hid (grB s = true) := Lib.hid (grB_iff.2 fun j h => HA.out j h (by omega))
      go_wp2
      go_ret
      exact ⟨by rw [HB.out, HT.out]; rfl, rfl⟩

end Go.Proofs.Ytndhnpljdldlpab

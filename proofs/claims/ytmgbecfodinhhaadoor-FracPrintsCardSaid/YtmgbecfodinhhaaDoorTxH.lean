/- The reference's digits. -/
import Derived.LoopTactic
import Derived.Test.YtmgbecfodinhhaaDoorTxG
import Derived.Test.YtmgbecfodinhhaaDoorTxF
namespace Go.Proofs.YtmgbecfodinhhaaDoor
open Go.RowKit

/-- What digits answers. -/
def DigR (l : List UInt8) (v : Int) (b : Bool) : Prop := (b = true → 0 ≤ v ∧ v < 10000000000 ∧ digsS l = some v.toNat) ∧ (b = false → digsS l = none)

/-- How digits ends. -/
def DigP (l : List UInt8) (w : World) (e : Ending) (w' : World) : Prop := ∃ v b, e = .returned (.tuple #[.int .i64 v, .bool b]) ∧ Hid (DigR l v b) ∧ Below w.heap.size w w'
theorem DigP.mk {l : List UInt8} {w w' : World} {e : Ending} (v : Int) (b : Bool) (h : e = .returned (.tuple #[.int .i64 v, .bool b])) (hr : Hid (DigR l v b)) (hb : Below w.heap.size w w') : DigP l w e w' := ⟨v, b, h, hr, hb⟩

theorem decFrom_lt : ∀ (l : List UInt8) (acc k n : Nat), acc < 10 ^ k → Lib.decFrom acc l = some n → n < 10 ^ (k + l.length)
  | [], acc, k, n, h, e => by simp only [Lib.decFrom, Option.some.injEq] at e; subst e; simpa using h
  | c :: r, acc, k, n, h, e => by
    simp only [Lib.decFrom] at e
    cases hd : Lib.digitVal c with
    | none => simp [hd] at e
    | some d =>
      simp only [hd] at e
      have hd9 : d ≤ 9 := by
        unfold Lib.digitVal at hd
        split at hd
        · simp only [Option.some.injEq] at hd; omega
        · cases hd
      have := decFrom_lt r (acc * 10 + d) (k + 1) n (by rw [Nat.pow_succ]; omega) e
      rw [List.length_cons, show k + (r.length + 1) = k + 1 + r.length by omega]
      exact this

theorem acc_bd {l : List UInt8} {k n : Nat} (hl : l.length ≤ 10) (hk : k ≤ l.length) (h : Lib.decFrom 0 (l.take k) = some n) : n < 10000000000 := by
  have h1 := decFrom_lt _ 0 0 n (by decide) h
  have h2 : (l.take k).length ≤ 10 := by rw [List.length_take]; omega
  have h3 : 10 ^ (0 + (l.take k).length) ≤ 10 ^ 10 := Nat.pow_le_pow_right (by decide) (by omega)
  have e : (10 : Nat) ^ 10 = 10000000000 := by decide
  omega

theorem acc_bd9 {l : List UInt8} {k n : Nat} (hl : l.length ≤ 10) (hk : k < l.length) (h : Lib.decFrom 0 (l.take k) = some n) : n < 1000000000 := by
  have h1 := decFrom_lt _ 0 0 n (by decide) h
  have h2 : (l.take k).length ≤ 9 := by rw [List.length_take]; omega
  have h3 : 10 ^ (0 + (l.take k).length) ≤ 10 ^ 9 := Nat.pow_le_pow_right (by decide) (by omega)
  have e : (10 : Nat) ^ 9 = 1000000000 := by decide
  omega

theorem dig_bad {l : List UInt8} {k : Nat} {c : UInt8} (hc : l[k]? = some c) (hb : c.toNat < 48 ∨ 57 < c.toNat) : Lib.decFrom 0 l = none := by
  cases h : Lib.decFrom 0 l with
  | none => rfl
  | some n =>
    obtain ⟨d, hd⟩ := Lib.digit_of_decFrom l 0 n h k c hc
    unfold Lib.digitVal at hd
    rw [if_neg (by omega)] at hd
    cases hd

set_option maxRecDepth 100000 in
set_option maxHeartbeats 1600000 in
theorem digits_s (s : ByteArray) (w : World) :
    Calls Tryd.prog 19 #[.string s] w (DigP s.data.toList w) := by
  have hsz : s.data.toList.length = s.size := Array.length_toList
  by_cases h0 : s.size < 1
  · have HR : Hid (DigR s.data.toList 0 false) := Lib.hid ⟨(fun h => by cases h), fun _ => by unfold digsS; exact if_pos (by omega)⟩
    have hlt : (s.size : Int) < 1 := by omega
    clear h0 hsz
    go_enter Tryd.func19, Tryd.ntmps19
    go_wp2
    go_ret2
    exact DigP.mk 0 false rfl HR (Below.refl _ _)
  · by_cases h10 : 10 < s.size
    · have HR : Hid (DigR s.data.toList 0 false) := Lib.hid ⟨(fun h => by cases h), fun _ => by unfold digsS; exact if_pos (by omega)⟩
      have hlt : (10 : Int) < (s.size : Int) := by omega
      have hge : ¬ (s.size : Int) < 1 := by omega
      clear h0 h10 hsz
      go_enter Tryd.func19, Tryd.ntmps19
      go_wp2
      go_ret2
      exact DigP.mk 0 false rfl HR (Below.refl _ _)
    · have hlt : (s.size : Int) ≤ 10 := by omega
      have hge : 1 ≤ (s.size : Int) := by omega
      have HD : Hid (digsS s.data.toList = Lib.decFrom 0 s.data.toList) := Lib.hid (by unfold digsS; exact if_neg (by omega))
      have HSZ := Lib.hid (And.intro hsz (And.intro h0 h10))
      clear h0 h10 hsz
      go_enter Tryd.func19, Tryd.ntmps19
      go_wp2
      go_loop [4, 16] (fun a i => ∃ (k : Nat) (n : Int), (k : Int) ≤ s.size ∧ i = .int .i64 k ∧ a = .int .i64 n ∧ 0 ≤ n ∧ n < 10000000000 ∧ Hid (Lib.decFrom 0 (s.data.toList.take k) = some n.toNat)) (fun _ i => s.size - (intOf i).toNat)
      case atStart => exact ⟨0, 0, by omega, rfl, rfl, by omega, by omega, Lib.hid (by simp [Lib.decFrom])⟩
      case round =>
        obtain ⟨k, n, hk, rfl, rfl, hn0, hn1, HN⟩ := hrel
        by_cases hkl : (k : Int) < s.size
        · have hkn : k < s.size := by omega
          have hn9 : n < 1000000000 := by
            have h := acc_bd9 (l := s.data.toList) (k := k) (by have := HSZ.out; omega) (by have := HSZ.out; omega) HN.out
            omega
          have hk0 : (0 : Int) ≤ (k : Int) := by omega
          have HK : Hid (s.data.toList[k]? = some s[k]) := Lib.hid (by rw [List.getElem?_eq_getElem (by have := HSZ.out; omega)]; rfl)
          go_wp2
          · have hb : (s[k].toNat : Int) < 48 ∨ 57 < (s[k].toNat : Int) := by assumption
            go_ret2
            exact DigP.mk 0 false rfl (Lib.hid ⟨(fun h => by cases h), fun _ => by rw [HD.out]; exact dig_bad HK.out (by omega)⟩) (Below.refl _ _)
          · have hb : 48 ≤ (s[k].toNat : Int) ∧ (s[k].toNat : Int) ≤ 57 := by assumption
            go_round
            case rel =>
              refine ⟨k + 1, 10 * n + ((s[k].toNat : Int) - 48), by omega, by go_num, rfl, by omega, by omega, Lib.hid ?_⟩
              have h := Lib.decFrom_take s.data.toList k 0 n.toNat s[k] (s[k].toNat - 48) HN.out HK.out (by unfold Lib.digitVal; exact if_pos (by omega))
              rw [h]
              congr 1
              omega
            case measure => simp [intOf]; omega
          · have hb : (s[k].toNat : Int) < 48 := by assumption
            go_ret2
            exact DigP.mk 0 false rfl (Lib.hid ⟨(fun h => by cases h), fun _ => by rw [HD.out]; exact dig_bad HK.out (by omega)⟩) (Below.refl _ _)
        · go_wp2
          go_ret2
          exact DigP.mk n true rfl (Lib.hid ⟨fun _ => ⟨hn0, hn1, by rw [HD.out, ← HN.out, List.take_of_length_le (by have := HSZ.out; omega)]⟩, (fun h => by cases h)⟩) (Below.refl _ _)

end Go.Proofs.YtmgbecfodinhhaaDoor

/- The library's calls on texts: Cut at one byte, Contains of one byte, CutPrefix, Atoi. -/
import Derived.Lib.CutLaws
import Derived.Lib.IndexBytes
import Derived.RegionTactic
import Derived.ChangeAlike
import Derived.Test.YtmgbecfodinhhaaDoorTxP
namespace Go.Proofs.YtmgbecfodinhhaaDoor
open Go.RowKit

set_option maxHeartbeats 2000000 in
set_option maxRecDepth 100000 in
theorem scut_one (s : ByteArray) (c : UInt8) (hs : (s.size : Int) ≤ 4611686018427387904) (w : World) :
    Calls Tryd.prog 36 #[.string s, .string ⟨#[c]⟩] w fun e w' => e = .returned (.tuple #[.string ⟨(Lib.cut s.data.toList [c]).1.toArray⟩, .string ⟨(Lib.cut s.data.toList [c]).2.1.toArray⟩, .bool (Lib.cut s.data.toList [c]).2.2]) ∧ Below w.heap.size w w' := by
  rcases Lib.indexB_cases s ⟨#[c]⟩ with hix | ⟨i, hix, hroom⟩
  · obtain ⟨e1, e2, e3⟩ := Lib.cutB_miss s ⟨#[c]⟩ hix
    have hi : Hid (Lib.indexByte s.data.toList c = -1) := Lib.hid (by rw [← Lib.index_one]; exact hix)
    have HE := Lib.hid (And.intro e1 (And.intro e2 e3))
    clear e1 e2 e3 hix
    go_enter Tryd.func36, Tryd.ntmps36
    go_wp2_with fail
    refine (Tryd.stringslite_Index_one s c _).mono ?_
    rintro e w' ⟨rfl, rfl⟩
    rw [hi.out]
    go_wp2
    go_ret3
    refine ⟨?_, Below.refl _ _⟩
    have e1 : (⟨(Lib.cut s.data.toList [c]).1.toArray⟩ : ByteArray) = _ := HE.out.1
    have e2 : (⟨(Lib.cut s.data.toList [c]).2.1.toArray⟩ : ByteArray) = _ := HE.out.2.1
    have e3 : (Lib.cut s.data.toList [c]).2.2 = _ := HE.out.2.2
    rw [e1, e2, e3]
    rfl
  · obtain ⟨e1, e2, e3⟩ := Lib.cutB_hit s ⟨#[c]⟩ i hix
    have hi : Hid (Lib.indexByte s.data.toList c = i) := Lib.hid (by rw [← Lib.index_one]; exact hix)
    have HE := Lib.hid (And.intro e1 (And.intro e2 e3))
    have hr : i + 1 ≤ s.size := hroom
    have c1 : (0 : Int) ≤ ↑i := by omega
    have c2 : (↑i : Int) ≤ ↑s.size := by omega
    have c3 : (0 : Int) ≤ ↑i + 1 := by omega
    have c4 : (↑i + 1 : Int) ≤ ↑s.size := by omega
    clear e1 e2 e3 hix hroom
    go_enter Tryd.func36, Tryd.ntmps36
    go_wp2_with fail
    refine (Tryd.stringslite_Index_one s c _).mono ?_
    rintro e w' ⟨rfl, rfl⟩
    rw [hi.out]
    go_wp2
    go_region
    go_wp2
    go_ret3
    refine ⟨?_, (Below.refl _ _).drew⟩
    have e1 : (⟨(Lib.cut s.data.toList [c]).1.toArray⟩ : ByteArray) = _ := HE.out.1
    have e2 : (⟨(Lib.cut s.data.toList [c]).2.1.toArray⟩ : ByteArray) = _ := HE.out.2.1
    have e3 : (Lib.cut s.data.toList [c]).2.2 = _ := HE.out.2.2
    rw [e1, e2, e3]
    rfl

theorem cut_one (l : List UInt8) (c : UInt8) (a b : List UInt8) (f : Bool) (h : Hid (Lib.cut l [c] = (a, b, f))) (hs : (l.length : Int) ≤ 4611686018427387904) (w : World) :
    Calls Tryd.prog 17 #[.string ⟨l.toArray⟩, .string ⟨#[c]⟩] w fun e w' => e = .returned (.tuple #[.string ⟨a.toArray⟩, .string ⟨b.toArray⟩, .bool f]) ∧ Below w.heap.size w w' := by
  have hc : ∀ w, Calls Tryd.prog 36 #[.string ⟨l.toArray⟩, .string ⟨#[c]⟩] w fun e w' => e = .returned (.tuple #[.string ⟨a.toArray⟩, .string ⟨b.toArray⟩, .bool f]) ∧ Below w.heap.size w w' := fun w => by
    have hc := scut_one ⟨l.toArray⟩ c (by simpa [ByteArray.size] using hs) w
    have e : (⟨l.toArray⟩ : ByteArray).data.toList = l := rfl
    rw [e, h.out] at hc
    exact hc
  have HC := Lib.hid hc
  clear hc
  go_enter Tryd.func17, Tryd.ntmps17
  go_wp2_with fail
  refine (HC.out _).mono ?_
  rintro e w1 ⟨rfl, hb⟩
  have HB := Lib.hid hb
  clear hb
  go_wp2
  go_ret3
  exact ⟨rfl, HB.out⟩

theorem contains_one (l : List UInt8) (c : UInt8) (b : Bool) (h : Hid (Lib.contains l [c] = b)) (w : World) :
    Calls Tryd.prog 18 #[.string ⟨l.toArray⟩, .string ⟨#[c]⟩] w fun e w' => e = .returned (.bool b) ∧ w = w' := by
  refine (Tryd.strings_Contains_one ⟨l.toArray⟩ c w).mono ?_
  rintro e w' ⟨rfl, rfl⟩
  refine ⟨?_, rfl⟩
  rw [← h.out]
  unfold Lib.contains
  rw [Lib.index_one]

theorem sign_trim (l : List UInt8) : Lib.trimPrefix l [45] = (signS l).2 ∧ Lib.hasPrefix l [45] = (signS l).1 := by
  cases l with
  | nil => exact ⟨rfl, rfl⟩
  | cons a t =>
    by_cases h : a = 45
    · subst h; exact ⟨rfl, rfl⟩
    · have h' : ((45 : UInt8) == a) = false := by rw [beq_eq_false_iff_ne]; exact fun e => h e.symm
      have e : signS (a :: t) = (false, a :: t) := by
        unfold signS
        split
        · rename_i r heq; simp only [List.cons.injEq] at heq; exact absurd heq.1 h
        · rfl
      rw [e]
      constructor
      · unfold Lib.trimPrefix Lib.hasPrefix; simp [List.isPrefixOf, h']
      · unfold Lib.hasPrefix; simp [List.isPrefixOf, h']

theorem prefix_one (l r : List UInt8) (b : Bool) (h : Hid (signS l = (b, r))) (w : World) :
    Calls Tryd.prog 16 #[.string ⟨l.toArray⟩, .string ⟨#[45]⟩] w fun e w' => e = .returned (.tuple #[.string ⟨r.toArray⟩, .bool b]) ∧ w = w' := by
  refine (Tryd.strings_CutPrefix ⟨l.toArray⟩ ⟨#[45]⟩ w).mono ?_
  rintro e w' ⟨rfl, rfl⟩
  refine ⟨?_, rfl⟩
  have e1 : (⟨l.toArray⟩ : ByteArray).data.toList = l := rfl
  have e2 : (⟨#[45]⟩ : ByteArray).data.toList = [45] := rfl
  rw [e1, e2, (sign_trim l).1, (sign_trim l).2, h.out]

/-- How a parse ends: the text that is no number ends as the empty one does. -/
theorem num_end (x : Lib.NumEnd Int) : (∃ v, x = .ok v) ∨ x = Lib.atoiAll [] ∨ x = .range := by
  cases x
  · exact .inl ⟨_, rfl⟩
  · exact .inr (.inl rfl)
  · exact .inr (.inr rfl)

theorem atoi_none (s : ByteArray) (hlim : s.size ≤ 281474976710656) (h : Lib.atoiAll s.data.toList = Lib.atoiAll []) (tp : TypeId) (p : Value) (w : World) (hvar : w.var? Tryd.prog "strconv.ErrSyntax" = some #[.iface tp p]) :
    Calls Tryd.prog 49 #[.string s] w fun e w' => (∃ v t p, e = .returned (.tuple #[.int .i64 v, .iface t p])) ∧ Below w.heap.size w w' :=
  (Any.strconv_Atoi_syntax_var Tryd.laysC172 s hlim h tp p w hvar).mono fun e w' ⟨N, he, _, _, hb⟩ => ⟨⟨_, _, _, he⟩, hb⟩

/-- Atoi: the number and no error, or some number and an error. -/
theorem atoi_t (w0 : World) (l : List UInt8) (hs : l.length ≤ 281474976710656) (w : World) (he : EnvS w0 w) :
    Calls Tryd.prog 49 #[.string ⟨l.toArray⟩] w fun e w' => ((∃ v, e = .returned (.tuple #[.int .i64 v, .nilIface]) ∧ Hid (Lib.atoiAll l = .ok v)) ∨ (∃ v t p, e = .returned (.tuple #[.int .i64 v, .iface t p]) ∧ Hid (∀ v, Lib.atoiAll l ≠ .ok v))) ∧ Below w.heap.size w w' := by
  have hz : (⟨l.toArray⟩ : ByteArray).size = l.length := by simp [ByteArray.size]
  rcases num_end (Lib.atoiAll l) with ⟨v, h⟩ | h | h
  · refine (Tryd.strconv_Atoi_ok ⟨l.toArray⟩ (by omega) v h w).mono ?_
    rintro e w' ⟨rfl, hw⟩
    refine ⟨.inl ⟨v, rfl, Lib.hid h⟩, ?_⟩
    rcases hw with rfl | ⟨t, rfl⟩
    · exact Below.refl _ _
    · exact Lib.bytesWorld_below _ _ _
  · obtain ⟨tp, p, hv⟩ := he.2.sx
    refine (atoi_none ⟨l.toArray⟩ (by omega) h tp p w hv).mono ?_
    rintro e w' ⟨⟨v, t, p, rfl⟩, hb⟩
    exact ⟨.inr ⟨_, _, _, rfl, Lib.hid (fun v h' => by rw [h] at h'; cases h')⟩, hb⟩
  · obtain ⟨tp, p, hv⟩ := he.2.rg
    refine (Tryd.strconv_Atoi_range_var ⟨l.toArray⟩ (by omega) h tp p w hv).mono ?_
    rintro e w' ⟨N, rfl, -, -, hb⟩
    exact ⟨.inr ⟨_, _, _, rfl, Lib.hid (fun v h' => by rw [h] at h'; cases h')⟩, hb⟩

end Go.Proofs.YtmgbecfodinhhaaDoor

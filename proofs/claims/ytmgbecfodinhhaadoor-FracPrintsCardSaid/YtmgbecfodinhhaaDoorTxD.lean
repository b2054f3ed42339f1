/- The program's part, split, read. -/
import Derived.Test.YtmgbecfodinhhaaDoorTxC
import Derived.Test.YtmgbecfodinhhaaDoorNew
import Derived.Test.YtmgbecfodinhhaaDoorOps
namespace Go.Proofs.YtmgbecfodinhhaaDoor
open Go.RowKit

theorem cut_len (l s : List UInt8) : (Lib.cut l s).1.length ≤ l.length ∧ (Lib.cut l s).2.1.length ≤ l.length := by
  unfold Lib.cut
  split
  · simp only [List.length_take, List.length_drop]; omega
  · simp

theorem split_len (l : List UInt8) : (splitS l).1.length ≤ l.length + 3 ∧ (splitS l).2.length ≤ l.length + 3 := by
  have := cut_len l [32]
  unfold splitS
  split
  · simp only; omega
  · split
    · simp only [List.length_cons, List.length_nil]; omega
    · simp only [List.length_cons, List.length_nil]; omega

theorem cut_no {l : List UInt8} {s : List UInt8} (h : (Lib.cut l s).2.2 = false) : (Lib.cut l s).1 = l := by
  unfold Lib.cut at *
  split at h
  · simp at h
  · rename_i h'; rw [if_neg h']

/-- What part answers. -/
def PartR (l : List UInt8) (v : Int) (b : Bool) : Prop := (b = true → 0 ≤ v ∧ v ≤ 1000000000 ∧ partS l = some v.toNat) ∧ (b = false → partS l = none)

set_option maxRecDepth 100000 in
set_option maxHeartbeats 1600000 in
theorem part_p (w0 : World) (l : List UInt8) (hs : l.length ≤ 281474976710656) (w : World) (he : EnvS w0 w) :
    Calls Tryd.prog 32 #[.string ⟨l.toArray⟩] w fun e w' => ∃ v b, e = .returned (.tuple #[.int .i64 v, .bool b]) ∧ Hid (PartR l v b) ∧ Below w.heap.size w w' := by
  have HE := Lib.hid (EnvS.start he.2)
  have HS := Lib.hid hs
  clear he hs
  go_enter Tryd.func32, Tryd.ntmps32
  go_wp2_with fail
  refine (atoi_t w l HS.out _ HE.out).mono ?_
  rintro e w1 ⟨⟨v, rfl, HV⟩ | ⟨v, t, p, rfl, HV⟩, hb⟩
  · have HB := Lib.hid hb
    clear hb
    by_cases h0 : v < 0
    · have HR : Hid (PartR l 0 false) := Lib.hid ⟨(fun h => by cases h), fun _ => by unfold partS; rw [HV.out]; exact if_pos (.inl h0)⟩
      go_wp2
      go_ret2
      exact ⟨_, _, rfl, HR, HB.out⟩
    · by_cases h1 : 1000000000 < v
      · have HR : Hid (PartR l 0 false) := Lib.hid ⟨(fun h => by cases h), fun _ => by unfold partS; rw [HV.out]; exact if_pos (.inr h1)⟩
        go_wp2
        go_ret2
        exact ⟨_, _, rfl, HR, HB.out⟩
      · have HR : Hid (PartR l v true) := Lib.hid ⟨fun _ => ⟨by omega, by omega, by unfold partS; rw [HV.out]; exact if_neg (by omega)⟩, (fun h => by cases h)⟩
        go_wp2
        go_ret2
        exact ⟨_, _, rfl, HR, HB.out⟩
  · have HB := Lib.hid hb
    have HR : Hid (PartR l 0 false) := Lib.hid ⟨(fun h => by cases h), fun _ => by
      unfold partS
      rcases num_end (Lib.atoiAll l) with ⟨v, h⟩ | h | h
      · exact absurd h (HV.out v)
      · rw [h]; rfl
      · rw [h]⟩
    clear hb
    go_wp2
    go_ret2
    exact ⟨_, _, rfl, HR, HB.out⟩

set_option maxRecDepth 100000 in
set_option maxHeartbeats 1600000 in
theorem split_p (l u v : List UInt8) (h : Hid (splitS l = (u, v))) (hs : (l.length : Int) ≤ 4611686018427387904) (w : World) :
    Calls Tryd.prog 31 #[.string ⟨l.toArray⟩] w fun e w' => e = .returned (.tuple #[.string ⟨u.toArray⟩, .string ⟨v.toArray⟩]) ∧ Below w.heap.size w w' := by
  obtain ⟨⟨a, b, f⟩, hc⟩ : ∃ x, Lib.cut l [32] = x := ⟨_, rfl⟩
  have HC := Lib.hid (Lib.hid hc)
  have HZ := Lib.hid hs
  cases f
  · have ha : a = l := by have := cut_no (l := l) (s := [32]) (by rw [hc]); rw [hc] at this; exact this
    obtain ⟨k, hk⟩ : ∃ b, Lib.contains l [47] = b := ⟨_, rfl⟩
    have HK := Lib.hid (Lib.hid hk)
    cases k
    · have hu : u = l ∧ v = [48, 47, 49] := by
        have h' := h.out
        unfold splitS at h'
        rw [hc] at h'
        simp only [ha, hk, Bool.false_eq_true, if_false, Prod.mk.injEq] at h'
        exact ⟨h'.1.symm, h'.2.symm⟩
      obtain ⟨rfl, rfl⟩ := hu
      clear hc ha hk hs
      go_enter Tryd.func31, Tryd.ntmps31
      go_wp2_with fail
      refine (cut_one _ 32 a b _ HC.out HZ.out _).mono ?_
      rintro e w1 ⟨rfl, hb⟩
      have HB := Lib.hid hb
      clear hb
      go_wp2_with fail
      refine (contains_one _ 47 _ HK.out _).mono ?_
      rintro e w2 ⟨rfl, rfl⟩
      go_wp2
      go_ret2
      exact ⟨rfl, HB.out⟩
    · have hu : u = [48] ∧ v = l := by
        have h' := h.out
        unfold splitS at h'
        rw [hc] at h'
        simp only [ha, hk, Bool.false_eq_true, if_false, if_true, Prod.mk.injEq] at h'
        exact ⟨h'.1.symm, h'.2.symm⟩
      obtain ⟨rfl, rfl⟩ := hu
      clear hc ha hk hs
      go_enter Tryd.func31, Tryd.ntmps31
      go_wp2_with fail
      refine (cut_one _ 32 a b _ HC.out HZ.out _).mono ?_
      rintro e w1 ⟨rfl, hb⟩
      have HB := Lib.hid hb
      clear hb
      go_wp2_with fail
      refine (contains_one _ 47 _ HK.out _).mono ?_
      rintro e w2 ⟨rfl, rfl⟩
      go_wp2
      go_ret2
      exact ⟨rfl, HB.out⟩
  · have hu : u = a ∧ v = b := by
      have h' := h.out
      unfold splitS at h'
      rw [hc] at h'
      simp only [if_true, Prod.mk.injEq] at h'
      exact ⟨h'.1.symm, h'.2.symm⟩
    obtain ⟨rfl, rfl⟩ := hu
    clear hc hs
    go_enter Tryd.func31, Tryd.ntmps31
    go_wp2_with fail
    refine (cut_one _ 32 u v _ HC.out HZ.out _).mono ?_
    rintro e w1 ⟨rfl, hb⟩
    have HB := Lib.hid hb
    clear hb
    go_wp2
    go_ret2
    exact ⟨rfl, HB.out⟩

end Go.Proofs.YtmgbecfodinhhaaDoor

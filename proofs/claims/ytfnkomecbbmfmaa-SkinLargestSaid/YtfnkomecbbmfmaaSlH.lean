/- Skins: rectangles; Crop and Punch of the program. -/
import Derived.Test.YtfnkomecbbmfmaaSkD
import Derived.Test.YtfnkomecbbmfmaaSkN
namespace Go.Proofs.Ytfnkomecbbmfmaa
open Go.RowKit

/-- A rectangle; within a width and a height; the error of both. -/
def rectB (x y u v : Int) : Bool := decide (0 ≤ x) && decide (0 ≤ y) && decide (1 ≤ u) && decide (1 ≤ v)
def liesB (x y u v W H : Int) : Bool := decide (u ≤ W) && decide (x ≤ W - u) && decide (v ≤ H) && decide (y ≤ H - v)
def rectE (ss : List ByteArray) (x y u v : Int) : Int := if (skB ss && rectB x y u v) = true then (if liesB x y u v (wid ss) ss.length = true then 0 else 5) else 2
theorem rectB_iff {x y u v : Int} : rectB x y u v = true ↔ 0 ≤ x ∧ 0 ≤ y ∧ 1 ≤ u ∧ 1 ≤ v := by unfold rectB; simp [and_assoc]
theorem liesB_iff {x y u v W H : Int} : liesB x y u v W H = true ↔ u ≤ W ∧ x ≤ W - u ∧ v ≤ H ∧ y ≤ H - v := by unfold liesB; simp [and_assoc]

theorem ret_bool {b c : Bool} (h : b = c) : Ending.returned (Value.bool b) = Ending.returned (Value.bool c) := by rw [h]

theorem bool_of {p : Prop} [Decidable p] {b : Bool} (h : b = true ↔ p) : b = decide p := by
  cases b with
  | false => simp only [Bool.false_eq_true, false_iff] at h; simp [h]
  | true => simp only [true_iff] at h; simp [h]

set_option maxRecDepth 100000 in
set_option maxHeartbeats 1600000 in
theorem isRect_any (x y u v : Int) (w : World) : Calls Try.prog 58 #[.agg #[.int .i64 x, .int .i64 y, .int .i64 u, .int .i64 v]] w fun e w' => e = .returned (.bool (rectB x y u v)) ∧ Below w.heap.size w w' := by
  obtain ⟨r, hr⟩ : ∃ r, r = rectB x y u v := ⟨_, rfl⟩
  have hi : r = true ↔ 0 ≤ x ∧ 0 ≤ y ∧ 1 ≤ u ∧ 1 ≤ v := by rw [hr]; exact rectB_iff
  have HI := Lib.hid hi
  rw [← hr]
  clear hr hi
  go_enter Try.func58, Try.ntmps58
  go_wp2
  all_goals
    go_ret
    refine ⟨ret_bool ?_, (Below.refl _ _).alloc (Nat.le_refl _) _⟩
    rw [bool_of HI.out]
    first
      | (refine decide_eq_decide.2 ?_; omega)
      | (refine (decide_eq_false ?_).symm; omega)
      | (refine (decide_eq_true ?_).symm; omega)

set_option maxRecDepth 100000 in
set_option maxHeartbeats 1600000 in
theorem rRect_any (x y u v : Int) (w : World) : Calls Try.prog 24 #[.agg #[.int .i64 x, .int .i64 y, .int .i64 u, .int .i64 v]] w fun e w' => e = .returned (.bool (rectB x y u v)) ∧ Below w.heap.size w w' := by
  obtain ⟨r, hr⟩ : ∃ r, r = rectB x y u v := ⟨_, rfl⟩
  have hi : r = true ↔ 0 ≤ x ∧ 0 ≤ y ∧ 1 ≤ u ∧ 1 ≤ v := by rw [hr]; exact rectB_iff
  have HI := Lib.hid hi
  rw [← hr]
  clear hr hi
  go_enter Try.func24, Try.ntmps24
  go_wp2
  all_goals
    go_ret
    refine ⟨ret_bool ?_, (Below.refl _ _).alloc (Nat.le_refl _) _⟩
    rw [bool_of HI.out]
    first
      | (refine decide_eq_decide.2 ?_; omega)
      | (refine (decide_eq_false ?_).symm; omega)
      | (refine (decide_eq_true ?_).symm; omega)

set_option maxRecDepth 100000 in
set_option maxHeartbeats 3200000 in
theorem lies_any (x y u v : Int) (W H : Nat) (hW : W ≤ 48) (hH : H ≤ 48) (hu1 : 1 ≤ u) (hv1 : 1 ≤ v) (w : World) : Calls Try.prog 59 #[.agg #[.int .i64 x, .int .i64 y, .int .i64 u, .int .i64 v], .int .i64 W, .int .i64 H] w fun e w' => e = .returned (.bool (liesB x y u v W H)) ∧ Below w.heap.size w w' := by
  obtain ⟨r, hr⟩ : ∃ r, r = liesB x y u v W H := ⟨_, rfl⟩
  have hi : r = true ↔ u ≤ W ∧ x ≤ W - u ∧ v ≤ H ∧ y ≤ H - v := by rw [hr]; exact liesB_iff
  have HI := Lib.hid hi
  rw [← hr]
  clear hr hi
  by_cases hu : u ≤ W
  · have hw1 : IntKind.i64.wrap ((W : Int) - u) = (W : Int) - u := IntWalk.i64_in _ (by omega)
    by_cases hv : v ≤ H
    · have hw2 : IntKind.i64.wrap ((H : Int) - v) = (H : Int) - v := IntWalk.i64_in _ (by omega)
      go_enter Try.func59, Try.ntmps59
      go_wp2
      all_goals
        go_ret
        refine ⟨ret_bool ?_, (Below.refl _ _).alloc (Nat.le_refl _) _⟩
        rw [bool_of HI.out]
        first
          | (refine decide_eq_decide.2 ?_; omega)
          | (refine (decide_eq_false ?_).symm; omega)
          | (refine (decide_eq_true ?_).symm; omega)
    · go_enter Try.func59, Try.ntmps59
      go_wp2
      all_goals
        go_ret
        refine ⟨ret_bool ?_, (Below.refl _ _).alloc (Nat.le_refl _) _⟩
        rw [bool_of HI.out]
        first
          | (refine decide_eq_decide.2 ?_; omega)
          | (refine (decide_eq_false ?_).symm; omega)
          | (refine (decide_eq_true ?_).symm; omega)
  · go_enter Try.func59, Try.ntmps59
    go_wp2
    all_goals
      go_ret
      refine ⟨ret_bool ?_, (Below.refl _ _).alloc (Nat.le_refl _) _⟩
      rw [bool_of HI.out]
      first
        | (refine decide_eq_decide.2 ?_; omega)
        | (refine (decide_eq_false ?_).symm; omega)
        | (refine (decide_eq_true ?_).symm; omega)

set_option maxRecDepth 100000 in
set_option maxHeartbeats 3200000 in
theorem rLies_any (x y u v : Int) (W H : Nat) (hW : W ≤ 48) (hH : H ≤ 48) (hu1 : 1 ≤ u) (hv1 : 1 ≤ v) (w : World) : Calls Try.prog 25 #[.agg #[.int .i64 x, .int .i64 y, .int .i64 u, .int .i64 v], .int .i64 W, .int .i64 H] w fun e w' => e = .returned (.bool (liesB x y u v W H)) ∧ Below w.heap.size w w' := by
  obtain ⟨r, hr⟩ : ∃ r, r = liesB x y u v W H := ⟨_, rfl⟩
  have hi : r = true ↔ u ≤ W ∧ x ≤ W - u ∧ v ≤ H ∧ y ≤ H - v := by rw [hr]; exact liesB_iff
  have HI := Lib.hid hi
  rw [← hr]
  clear hr hi
  by_cases hu : u ≤ W
  · have hw1 : IntKind.i64.wrap ((W : Int) - u) = (W : Int) - u := IntWalk.i64_in _ (by omega)
    by_cases hv : v ≤ H
    · have hw2 : IntKind.i64.wrap ((H : Int) - v) = (H : Int) - v := IntWalk.i64_in _ (by omega)
      go_enter Try.func25, Try.ntmps25
      go_wp2
      all_goals
        go_ret
        refine ⟨ret_bool ?_, (Below.refl _ _).alloc (Nat.le_refl _) _⟩
        rw [bool_of HI.out]
        first
          | (refine decide_eq_decide.2 ?_; omega)
          | (refine (decide_eq_false ?_).symm; omega)
          | (refine (decide_eq_true ?_).symm; omega)
    · go_enter Try.func25, Try.ntmps25
      go_wp2
      all_goals
        go_ret
        refine ⟨ret_bool ?_, (Below.refl _ _).alloc (Nat.le_refl _) _⟩
        rw [bool_of HI.out]
        first
          | (refine decide_eq_decide.2 ?_; omega)
          | (refine (decide_eq_false ?_).symm; omega)
          | (refine (decide_eq_true ?_).symm; omega)
  · go_enter Try.func25, Try.ntmps25
    go_wp2
    all_goals
      go_ret
      refine ⟨ret_bool ?_, (Below.refl _ _).alloc (Nat.le_refl _) _⟩
      rw [bool_of HI.out]
      first
        | (refine decide_eq_decide.2 ?_; omega)
        | (refine (decide_eq_false ?_).symm; omega)
        | (refine (decide_eq_true ?_).symm; omega)

set_option maxRecDepth 100000 in
set_option maxHeartbeats 1600000 in
theorem checkRect_any (a : Option Addr) (cap : Nat) (ss : List ByteArray) (hl : (ss.length : Int) ≤ 9223372036854775807) (hz : ∀ s ∈ ss, s.size ≤ 9223372036854775807) (x y u v : Int) (w : World) (h : StrS w a ss) :
    Calls Try.prog 66 #[.slice a ss.length cap, .agg #[.int .i64 x, .int .i64 y, .int .i64 u, .int .i64 v]] w fun e w' => e = .returned (.int .i64 (rectE ss x y u v)) ∧ Below w.heap.size w w' := by
  have hm : Below w.heap.size w (w.alloc (.cells #[.int .i64 x, .int .i64 y, .int .i64 u, .int .i64 v] 39)) := (Below.refl _ _).alloc (Nat.le_refl _) _
  have HM := Lib.hid ((Mem.nil w).alloc #[.int .i64 x, .int .i64 y, .int .i64 u, .int .i64 v] 39)
  have HV := Lib.hid (fun w' (hb : Below w.heap.size w w') => skValid_any a cap ss hl hz w' (h.below hb))
  obtain ⟨E, hE⟩ : ∃ E, E = rectE ss x y u v := ⟨_, rfl⟩
  rw [← hE]
  cases hs : skB ss with
  | false =>
    have hE2 : E = 2 := by rw [hE]; unfold rectE; rw [hs]; rfl
    rw [hs] at HV
    subst hE2
    clear hs h hE hl hz
    go_enter Try.func66, Try.ntmps66
    go_wp2_with fail
    refine (HV.out _ hm).mono ?_
    rintro e w1 ⟨rfl, rfl⟩
    go_wp2
    go_ret
    exact ⟨rfl, hm⟩
  | true =>
    rw [hs] at HV
    have HR := Lib.hid (isRect_any x y u v)
    cases hr : rectB x y u v with
    | false =>
      have hE2 : E = 2 := by rw [hE]; unfold rectE; rw [hs, hr]; rfl
      rw [hr] at HR
      subst hE2
      clear hs h hE hl hz hr
      go_enter Try.func66, Try.ntmps66
      go_wp2_with fail
      refine (HV.out _ hm).mono ?_
      rintro e w1 ⟨rfl, rfl⟩
      go_wp2_with fail
      refine (HR.out _).mono ?_
      rintro e w1 ⟨rfl, hb⟩
      have HE := Lib.hid (HM.out.step hb).b
      clear hb
      go_wp2
      go_ret
      exact ⟨rfl, HE.out⟩
    | true =>
      rw [hr] at HR
      obtain ⟨⟨hl1, hl2⟩, ⟨hw1, hw2⟩, -⟩ := skB_iff.1 hs
      obtain ⟨r1, r2, r3, r4⟩ := rectB_iff.1 hr
      have HSZ : Hid (∀ w', Below w.heap.size w w' → Calls Try.prog 62 #[.slice a ss.length cap] w' fun e w'' => e = .returned (.tuple #[.int .i64 (wid ss), .int .i64 ss.length]) ∧ w' = w'') := Lib.hid (fun w' hb => skSize_any a cap ss (by omega) (by omega) w' (h.below hb))
      have HL := Lib.hid (lies_any x y u v (wid ss) ss.length hw2 hl2 r3 r4)
      have hE2 : E = (if liesB x y u v (wid ss) ss.length = true then 0 else 5) := by rw [hE]; unfold rectE; rw [hs, hr]; rfl
      cases hlb : liesB x y u v (wid ss) ss.length with
      | false =>
        rw [hlb] at HL hE2
        have hE3 : E = 5 := hE2
        subst hE3
        clear hs h hE hl hz hr hE2 hlb
        go_enter Try.func66, Try.ntmps66
        go_wp2_with fail
        refine (HV.out _ hm).mono ?_
        rintro e w1 ⟨rfl, rfl⟩
        go_wp2_with fail
        refine (HR.out _).mono ?_
        rintro e w1 ⟨rfl, hb⟩
        have HM1 := Lib.hid (HM.out.step hb)
        have c0 := HM1.out.cell 0
        have c1 := HM1.out.cell 1
        have c2 := HM1.out.cell 2
        have c3 := HM1.out.cell 3
        have l0 := HM1.out.head_lt
        simp at c0 c1 c2 c3
        clear hb
        go_wp2_with fail
        refine (HSZ.out _ HM1.out.b).mono ?_
        rintro e w2 ⟨rfl, rfl⟩
        go_wp2_with fail
        refine (HL.out _).mono ?_
        rintro e w3 ⟨rfl, hb⟩
        have HE := Lib.hid (HM1.out.step hb).b
        clear hb
        go_wp2
        go_ret
        exact ⟨rfl, HE.out⟩
      | true =>
        rw [hlb] at HL hE2
        have hE3 : E = 0 := hE2
        subst hE3
        clear hs h hE hl hz hr hE2 hlb
        go_enter Try.func66, Try.ntmps66
        go_wp2_with fail
        refine (HV.out _ hm).mono ?_
        rintro e w1 ⟨rfl, rfl⟩
        go_wp2_with fail
        refine (HR.out _).mono ?_
        rintro e w1 ⟨rfl, hb⟩
        have HM1 := Lib.hid (HM.out.step hb)
        have c0 := HM1.out.cell 0
        have c1 := HM1.out.cell 1
        have c2 := HM1.out.cell 2
        have c3 := HM1.out.cell 3
        have l0 := HM1.out.head_lt
        simp at c0 c1 c2 c3
        clear hb
        go_wp2_with fail
        refine (HSZ.out _ HM1.out.b).mono ?_
        rintro e w2 ⟨rfl, rfl⟩
        go_wp2_with fail
        refine (HL.out _).mono ?_
        rintro e w3 ⟨rfl, hb⟩
        have HE := Lib.hid (HM1.out.step hb).b
        clear hb
        go_wp2
        go_ret
        exact ⟨rfl, HE.out⟩

end Go.Proofs.Ytfnkomecbbmfmaa

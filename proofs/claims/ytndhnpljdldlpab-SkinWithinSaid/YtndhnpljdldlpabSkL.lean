/- Skins: walk, with the closure of Parts. -/
import Derived.Test.YtndhnpljdldlpabSkJ
namespace Go.Proofs.Ytndhnpljdldlpab
open Go.RowKit

set_option maxRecDepth 100000 in
set_option maxHeartbeats 1600000 in
theorem walk_parts (a : Option Addr) (cap : Nat) (ss : List ByteArray) (hs : skB ss = true) (p1 p2 p3 : Value) (I : Nat → Nat → World → Prop) (w : World) (h : StrS w a ss) (h0 : I 0 0 w)
    (hrow : ∀ y w', I y (wid ss) w' → I (y + 1) 0 w')
    (hstep : ∀ x y w', x < wid ss → y < ss.length → I y x w' → Calls Try.prog 64 #[.agg #[.int .i64 x, .int .i64 y], p1, p2, p3] w' fun e w'' => e = .returned (.tuple #[]) ∧ I y (x + 1) w'') :
    Calls Try.prog 63 #[.slice a ss.length cap, .func (.func 64) #[] #[p1, p2, p3]] w fun e w' => e = .returned (.tuple #[]) ∧ I ss.length 0 w' := by
  obtain ⟨⟨hl1, hl2⟩, ⟨hw1, hw2⟩, -⟩ := skB_iff.1 hs
  have HSZ : Hid (Calls Try.prog 58 #[.slice a ss.length cap] w fun e w'' => e = .returned (.tuple #[.int .i64 (wid ss), .int .i64 ss.length]) ∧ w = w'') := Lib.hid (skSize_any a cap ss (by omega) (by omega) w h)
  obtain ⟨W, hW⟩ : ∃ W, W = wid ss := ⟨_, rfl⟩
  obtain ⟨H, hH⟩ : ∃ H, H = ss.length := ⟨_, rfl⟩
  rw [← hW] at HSZ hrow hstep hw1 hw2
  rw [← hH] at hstep hl1 hl2 ⊢
  have hSZ := HSZ.out
  rw [← hH] at hSZ
  have HSZ2 := Lib.hid hSZ
  have HROW := Lib.hid hrow
  have HSTEP := Lib.hid hstep
  have H0 := Lib.hid h0
  clear hrow hstep h0 hW hH h hs HSZ hSZ
  go_enter Try.func63, Try.ntmps63
  go_wp2_with fail
  refine HSZ2.out.mono ?_
  rintro e w1 ⟨rfl, rfl⟩
  go_wp2
  go_loopg [14] H (fun gk i wr => ∃ y : Nat, y + gk = H ∧ i = .int .i64 y ∧ Hid (I y 0 wr))
  case atStart => exact ⟨0, by omega, rfl, H0⟩
  case round =>
    obtain ⟨y, hy, rfl, HI⟩ := hrel
    by_cases hlt : y < H
    · obtain ⟨gk', rfl⟩ : ∃ m, gk = m + 1 := ⟨gk - 1, by omega⟩
      have hlt' : (y : Int) < H := by omega
      go_wp2
      go_loopg [18] W (fun gj i wr => ∃ x : Nat, x + gj = W ∧ i = .int .i64 x ∧ Hid (I y x wr))
      case atStart => exact ⟨0, by omega, rfl, HI⟩
      case round =>
        obtain ⟨x, hx, rfl, HI2⟩ := hrel
        by_cases hlx : x < W
        · obtain ⟨gj', rfl⟩ : ∃ m, gk = m + 1 := ⟨gk - 1, by omega⟩
          have hlx' : (x : Int) < W := by omega
          go_wp2_with fail
          refine (HSTEP.out x y _ hlx hlt HI2.out).mono ?_
          rintro e w3 ⟨rfl, hi3⟩
          have HI3 := Lib.hid hi3
          clear hi3
          go_wp2
          go_roundg gj'
          case measure => exact Nat.lt_succ_self _
          case rel => exact ⟨x + 1, by omega, by go_num, HI3⟩
        · obtain rfl : x = W := by omega
          have hlx' : ¬ (x : Int) < x := by omega
          go_wp2
          go_roundg gk'
          case measure => exact Nat.lt_succ_self _
          case rel => exact ⟨y + 1, by omega, by go_num, Lib.hid (HROW.out _ _ HI2.out)⟩
    · obtain rfl : y = H := by omega
      go_wp2
      go_end0
      exact ⟨rfl, HI.out⟩

/-- The cells seen: distinct, within. -/
def SInv (W H : Nat) (S : List (Int × Int)) : Prop := S.Nodup ∧ ∀ c ∈ S, InR W H c

theorem SInv.short {W H : Nat} {S : List (Int × Int)} (h : SInv W H S) : S.length ≤ W * H := FInv.short (S0 := 0) (st := (S, S)) ⟨h.1, h.2, fun _ hc => hc, by simp⟩

theorem SInv.visit {us : Int → Int → Bool} {W H : Nat} {st : Fl} (h : SInv W H st.2) (hus : ∀ x y, us x y = true → InR W H (x, y)) (n : Int × Int) : SInv W H (visit us st n).2 := by
  unfold Proofs.Ytndhnpljdldlpab.visit
  split
  · rename_i hc
    simp only [Bool.and_eq_true, Bool.not_eq_true', decide_eq_false_iff_not] at hc
    refine ⟨List.nodup_cons.2 ⟨hc.2, h.1⟩, fun c hcm => ?_⟩
    rcases List.mem_cons.1 hcm with rfl | hcm
    · exact hus _ _ hc.1
    · exact h.2 c hcm
  · exact h

theorem SInv.visits {us : Int → Int → Bool} {W H : Nat} {st : Fl} (h : SInv W H st.2) (hus : ∀ x y, us x y = true → InR W H (x, y)) (c : Int × Int) : ∀ j, SInv W H (visits us c st j).2
  | 0 => h
  | j + 1 => (h.visits hus c j).visit hus _

theorem SInv.flood {us : Int → Int → Bool} {W H : Nat} (hus : ∀ x y, us x y = true → InR W H (x, y)) : ∀ (f i : Nat) (st : Fl), SInv W H st.2 → SInv W H (flood us f i st).2
  | 0, _, _, h => h
  | f + 1, i, st, h => by
    unfold Proofs.Ytndhnpljdldlpab.flood
    split
    · exact SInv.flood hus f _ _ (h.visits hus _ 4)
    · exact h

theorem FInv.flood {us : Int → Int → Bool} {W H S0 : Nat} (hus : ∀ x y, us x y = true → InR W H (x, y)) : ∀ (f i : Nat) (st : Fl), FInv W H S0 st → FInv W H S0 (flood us f i st) ∧ st.1.length ≤ (flood us f i st).1.length ∧ ∀ k, k < st.1.length → (flood us f i st).1.getD k (0, 0) = st.1.getD k (0, 0)
  | 0, _, _, h => ⟨h, Nat.le_refl _, fun _ _ => rfl⟩
  | f + 1, i, st, h => by
    unfold Proofs.Ytndhnpljdldlpab.flood
    split
    · rename_i hi
      have hv := fun k (hk : k < st.1.length) => visits_get (us := us) (c := st.1.getD i (0, 0)) (st := st) hk 4
      obtain ⟨h1, h2, h3⟩ := FInv.flood hus f (i + 1) _ (h.visits hus (st.1.getD i (0, 0)) 4)
      refine ⟨h1, Nat.le_trans (hv i hi).2 h2, fun k hk => ?_⟩
      rw [h3 k (Nat.lt_of_lt_of_le hk (hv k hk).2), (hv k hk).1]
    · exact ⟨h, Nat.le_refl _, fun _ _ => rfl⟩

/-- What Parts gathers: the parts' numbers, and the cells seen. -/
abbrev Pt := Int × Int × Int × Int × Int × Int × Int
def partOf (us : Int → Int → Bool) (l : List (Int × Int)) : Pt :=
  let m := meaS us (0, 0) l
  let b := boxS ((l.getD 0 (0, 0)).1, (l.getD 0 (0, 0)).2, (l.getD 0 (0, 0)).1, (l.getD 0 (0, 0)).2) l
  (l.length, 4 * l.length - 2 * m.1, 1 - l.length + m.1 - m.2, b.1, b.2.1, b.2.2.1 - b.1 + 1, b.2.2.2 - b.2.1 + 1)
def partStep (us : Int → Int → Bool) (st : List Pt × List (Int × Int)) (c : Int × Int) : List Pt × List (Int × Int) :=
  if (us c.1 c.2 && !decide (c ∈ st.2)) = true then
    let f := flood us 2305 0 ([c], c :: st.2)
    (st.1 ++ [partOf us f.1], f.2)
  else st
/-- All cells of a W by H grid before the place (x, y), in order. -/
def cellsTo (W y x : Nat) : List (Int × Int) :=
  (List.range y).flatMap (fun (j : Nat) => (List.range W).map fun (i : Nat) => ((i : Int), (j : Int))) ++ (List.range x).map fun (i : Nat) => ((i : Int), (y : Int))
def partsTo (us : Int → Int → Bool) (W y x : Nat) : List Pt × List (Int × Int) := (cellsTo W y x).foldl (partStep us) ([], [])
theorem partsTo_next (us : Int → Int → Bool) (W y x : Nat) : partsTo us W y (x + 1) = partStep us (partsTo us W y x) ((x : Int), (y : Int)) := by
  unfold partsTo cellsTo
  rw [List.range_succ, List.map_append, ← List.append_assoc, List.foldl_append]
  rfl
theorem partsTo_row (us : Int → Int → Bool) (W y : Nat) : partsTo us W (y + 1) 0 = partsTo us W y W := by
  unfold partsTo cellsTo
  rw [List.range_succ, List.flatMap_append]
  simp

end Go.Proofs.Ytndhnpljdldlpab

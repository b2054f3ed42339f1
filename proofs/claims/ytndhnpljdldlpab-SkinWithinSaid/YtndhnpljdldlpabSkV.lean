/- Skins: the counters of grades: what they count, and the closure of count. -/
import Derived.Test.YtndhnpljdldlpabSkU
namespace Go.Proofs.Ytndhnpljdldlpab
open Go.RowKit

/-- The cells of N ints. -/
def cA (N : Nat) (f : Nat → Int) : Array Value := Array.ofFn (n := N) fun i => Value.int .i64 (f i)
theorem cA_size (N : Nat) (f : Nat → Int) : (cA N f).size = N := by unfold cA; exact Array.size_ofFn
theorem cA_get {N : Nat} {f : Nat → Int} {i : Nat} (h : i < N) : (cA N f)[i]? = some (.int .i64 (f i)) := by
  rw [Array.getElem?_eq_getElem (by rw [cA_size]; exact h)]
  unfold cA
  rw [Array.getElem_ofFn]
theorem cA_set {N : Nat} {f : Nat → Int} {i : Nat} (x : Int) : (cA N f).setIfInBounds i (.int .i64 x) = cA N fun k => if k = i then x else f k := by
  apply Array.ext
  · rw [Array.size_setIfInBounds, cA_size, cA_size]
  · intro k h1 h2
    have hk : k < N := by rw [cA_size] at h2; exact h2
    rw [Array.getElem_setIfInBounds]
    have e2 := cA_get (f := fun k => if k = i then x else f k) hk
    rw [Array.getElem?_eq_getElem h2] at e2
    have e1 := cA_get (f := f) hk
    rw [Array.getElem?_eq_getElem (by rw [cA_size]; exact hk)] at e1
    rw [Option.some.inj e2]
    by_cases hki : k = i
    · subst hki; simp
    · rw [if_neg (fun e => hki e.symm), Option.some.inj e1, if_neg hki]
    rw [cA_size]; exact hk

/-- The world w0, with new blocks, block n of them N ints. -/
structure CT (w0 : World) (n N : Nat) (T : TypeId) (f : Nat → Int) (wr : World) : Prop where
  b : Below w0.heap.size w0 wr
  le : w0.heap.size ≤ n
  arr : wr.heap[n]? = some (.cells (cA N f) T (0, 0))
section
variable {w0 wr w2 : World} {n N : Nat} {T : TypeId} {f : Nat → Int}
theorem CT.step (h : CT w0 n N T f wr) (hb : Below wr.heap.size wr w2) : CT w0 n N T f w2 := ⟨h.b.trans (hb.mono h.b.size), h.le, (hb.block _ (block_lt h.arr)).trans h.arr⟩
theorem CT.cell (h : CT w0 n N T f wr) {i : Nat} (hi : i < N) : wr.cell? ⟨n, i, none⟩ = some (.int .i64 (f i)) := by
  simp only [World.cell?]; rw [h.arr]; exact cA_get hi
theorem CT.frozen (h : CT w0 n N T f wr) (i : Nat) : wr.frozen? ⟨n, i, none⟩ = false := by
  simp only [World.frozen?]; rw [h.arr]; simp
theorem CT.lt (h : CT w0 n N T f wr) : n < wr.heap.size := block_lt h.arr
theorem CT.set (h : CT w0 n N T f wr) (i : Nat) (x : Int) : CT w0 n N T (fun k => if k = i then x else f k) (wr.setCell ⟨n, i, none⟩ (.int .i64 x)) := by
  refine ⟨h.b.setCell h.le _, h.le, ?_⟩
  simp only [World.setCell, Array.getElem?_modify, h.arr]
  simp [cA_set]
theorem CT.congr (h : CT w0 n N T f wr) {f' : Nat → Int} (e : f = f') : CT w0 n N T f' wr := e ▸ h
end

/-- The count of each grade among cells. -/
def cntStep (ss : List ByteArray) (f : Nat → Int) (c : Int × Int) : Nat → Int := fun k => if k = (grd ss c.1 c.2).toNat then f k + 1 else f k
def cntTo (ss : List ByteArray) (W y x : Nat) : Nat → Int := (cellsTo W y x).foldl (cntStep ss) (fun _ => 0)
theorem cntTo_next (ss : List ByteArray) (W y x : Nat) : cntTo ss W y (x + 1) = cntStep ss (cntTo ss W y x) ((x : Int), (y : Int)) := by
  unfold cntTo cellsTo
  rw [List.range_succ, List.map_append, ← List.append_assoc, List.foldl_append]
  rfl
theorem cntTo_row (ss : List ByteArray) (W y : Nat) : cntTo ss W (y + 1) 0 = cntTo ss W y W := by
  unfold cntTo cellsTo
  rw [List.range_succ, List.flatMap_append]
  simp
theorem cnt_bounds (ss : List ByteArray) : ∀ (cs : List (Int × Int)) (f : Nat → Int) (m : Int), (∀ k, 0 ≤ f k ∧ f k ≤ m) → ∀ k, 0 ≤ (cs.foldl (cntStep ss) f) k ∧ (cs.foldl (cntStep ss) f) k ≤ m + cs.length
  | [], _, _, h, k => by have := h k; simpa using this
  | c :: t, f, m, h, k => by
    have := cnt_bounds ss t (cntStep ss f c) (m + 1) (fun k => by
      have := h k
      unfold cntStep
      split <;> omega) k
    simp only [List.foldl_cons, List.length_cons]
    omega
theorem cntTo_bounds (ss : List ByteArray) (W y x k : Nat) : 0 ≤ cntTo ss W y x k ∧ cntTo ss W y x k ≤ (y * W + x : Nat) := by
  have := cnt_bounds ss (cellsTo W y x) (fun _ => 0) 0 (fun _ => by simp) k
  rw [cellsTo_len] at this
  simp only [Int.zero_add] at this
  exact this

theorem grd_nat {ss : List ByteArray} (hs : skB ss = true) (x y : Int) : ∃ g : Nat, grd ss x y = g ∧ g ≤ 9 := by
  by_cases hin : 0 ≤ x ∧ x < wid ss ∧ 0 ≤ y ∧ y < ss.length
  · obtain ⟨i1, i2, i3, i4⟩ := hin
    obtain ⟨xn, rfl⟩ := Int.eq_ofNat_of_zero_le i1
    obtain ⟨yn, rfl⟩ := Int.eq_ofNat_of_zero_le i3
    obtain ⟨-, -, hr⟩ := skB_iff.1 hs
    have hy : yn < ss.length := by omega
    obtain ⟨r1, r2⟩ := hr yn hy
    have hx : xn < ss[yn].size := by omega
    have hg := grB_iff.1 r2 xn hx
    rw [grd_in (xn := xn) (yn := yn) rfl rfl (by omega) hy hx]
    exact ⟨ss[yn][xn].toNat - 48, by omega, by omega⟩
  · rw [grd_out (by omega)]
    exact ⟨0, rfl, by omega⟩

set_option maxRecDepth 100000 in
set_option maxHeartbeats 1600000 in
theorem countClo_any (w0 : World) (ps n : Nat) (a : Option Addr) (cap : Nat) (ss : List ByteArray) (hs : skB ss = true) (T : TypeId) (f : Nat → Int) (hf : ∀ k, 0 ≤ f k ∧ f k ≤ 2304) (x y : Nat) (w : World) (h : CT w0 n 10 T f w) (hp : w0.cell? ⟨ps, 0, none⟩ = some (.slice a ss.length cap)) (hlt : ps < w0.heap.size) (hS : StrS w0 a ss) :
    Calls Try.prog 91 #[.agg #[.int .i64 x, .int .i64 y], .pointer (some ⟨n, 0, none⟩), .pointer (some ⟨ps, 0, none⟩)] w fun e w' => e = .returned (.tuple #[]) ∧ CT w0 n 10 T (cntStep ss f ((x : Int), (y : Int))) w' := by
  obtain ⟨g, hg, hg9⟩ := grd_nat hs x y
  have HG : Hid (∀ w', Below w0.heap.size w0 w' → Calls Try.prog 61 #[.slice a ss.length cap, .agg #[.int .i64 x, .int .i64 y]] w' fun e w'' => e = .returned (.int .i64 g) ∧ Below w'.heap.size w' w'') := Lib.hid (fun w' hb => by
    rw [← hg]; exact gradeAt_any a cap ss hs x y w' (hS.below hb))
  have HST : Hid (cntStep ss f ((x : Int), (y : Int)) = fun k => if k = g then f g + 1 else f k) := Lib.hid (by
    funext k
    unfold cntStep
    rw [hg]
    simp only [Int.toNat_natCast]
    by_cases hk : k = g
    · subst hk; simp
    · rw [if_neg hk, if_neg hk])
  have HP0 := Lib.hid (And.intro hp hlt)
  have HF := hf g
  obtain ⟨v, hv⟩ : ∃ v, v = f g := ⟨_, rfl⟩
  rw [← hv] at HF HST
  obtain ⟨HF1, HF2⟩ := HF
  have HV := Lib.hid hv
  have HH := Lib.hid (h.step ((Below.refl _ _).alloc (Nat.le_refl _) (.cells #[.int .i64 x, .int .i64 y] 93)))
  have HM := Lib.hid ((Mem.nil w).alloc #[.int .i64 x, .int .i64 y] 93)
  have c0 := (h.b.cell (p := ⟨ps, 0, none⟩) hlt).trans hp
  have c1 := Nat.lt_of_lt_of_le hlt h.b.size
  clear hp hlt hS hs h hg hf hv
  go_enter Try.func91, Try.ntmps91
  go_wp2_with fail
  refine (HG.out _ HH.out.b).mono ?_
  rintro e w1 ⟨rfl, hb1⟩
  have HH1 := Lib.hid (HH.out.step hb1)
  have d0 := HH1.out.cell (i := g) (by omega)
  rw [← HV.out] at d0
  have d1 := HH1.out.frozen g
  have d2 := HH1.out.lt
  have hgi : (g : Int) < 10 := by omega
  have hg0 : (0 : Int) ≤ g := by omega
  have HE := Lib.hid ((HH1.out.set g (v + 1)).congr HST.out.symm)
  clear hb1 c0 c1
  go_wp2
  go_end0
  exact ⟨rfl, HE.out⟩

end Go.Proofs.Ytndhnpljdldlpab

/- The reference's answer, Valid, New. -/
import Derived.Test.YtpghhfobaionkaaQF
namespace Go.Proofs.Ytpghhfobaionkaa
open Go.RowKit

theorem blk_at {w0 w1 : World} {B g : Nat} {cs : Array Value} {T : TypeId} (h : Below B w0 w1) (hg : g < B) (hb : w0.heap[g]? = some (.cells cs T (0, 0))) :
    (∀ j, w1.cell? ⟨g, j, none⟩ = cs[j]?) ∧ (∀ j, w1.frozen? ⟨g, j, none⟩ = false) ∧ g < w1.heap.size := by
  have hb2 := (h.block g hg).trans hb
  exact ⟨fun j => by simp only [World.cell?]; rw [hb2]; rfl, fun j => by simp only [World.frozen?]; rw [hb2]; simp, (Array.getElem?_eq_some_iff.1 hb2).1⟩

theorem heap_alloc1 (w : World) (a b : Obj) : ((w.alloc a).alloc b).heap[w.heap.size]? = some a := by
  rw [Below.heap_alloc _ _ _ (by simp)]; exact heap_alloc_new w _
theorem heap_alloc2 (w : World) (a b : Obj) : ((w.alloc a).alloc b).heap[w.heap.size + 1]? = some b := by
  have e1 : (w.alloc a).heap.size = w.heap.size + 1 := by simp
  rw [← e1]; exact heap_alloc_new _ _

set_option maxRecDepth 100000 in
set_option maxHeartbeats 1600000 in
theorem answer_yes (x : Value) (q : Rat) (w : World) (h : IsQ w x q) (hr : Rep q) :
    Calls Try.prog 24 #[x] w fun e w' => e = .returned (.tuple #[.agg #[.int .i64 q.num, .int .i64 q.den], .int .i64 0]) ∧ Below w.heap.size w w' := by
  obtain ⟨pn, a1, n1, c1, a2, n2, c2, rfl, hx⟩ := h.agg
  have HX := Lib.hid hx
  have HR := Lib.hid hr
  clear h hx hr
  obtain ⟨qn, hqn⟩ : ∃ z : Int, z = q.num := ⟨_, rfl⟩
  obtain ⟨qd, hqd⟩ : ∃ z : Int, z = (q.den : Int) := ⟨_, rfl⟩
  rw [← hqn, ← hqd]
  have HQ := Lib.hid (And.intro hqn hqd)
  clear hqn hqd
  have HS0 := Lib.hid (Below2 w (.cells #[.bool pn, .slice a1 n1 c1, .slice a2 n2 c2] 52) (.cells #[.int .i64 0, .int .i64 0] 24))
  go_enter Try.func24, Try.ntmps24
  go_wp2_with fail
  refine (frac_yes _ q _ (HX.out.below HS0.out) HR.out).mono ?_
  rintro e w1 ⟨rfl, hb1⟩
  simp only [World.size_alloc] at hb1
  obtain ⟨hc, hf, hs⟩ := blk_at hb1 (by omega) (heap_alloc2 w _ _)
  have hc0 := hc 0
  have hc1 := hc 1
  have hf0 := hf 0
  have hf1 := hf 1
  have HB1 : Hid (Below w.heap.size w w1) := Lib.hid (HS0.out.trans (hb1.mono (by omega)))
  clear hc hf hb1
  rw [← HQ.out.1, ← HQ.out.2]
  go_wp2
  refine bodyPost_ret (v := .tuple #[.agg #[.int .i64 qn, .int .i64 qd], .int .i64 0]) (by simp [results, Try.results24, go_sem, hc0, hc1, hs]) rfl ⟨rfl, ?_⟩
  exact ((HB1.out.setCell (by simp) _).setCell (by simp) _).alloc (by have := HB1.out.size; simpa [World.setCell] using this) _

set_option maxRecDepth 100000 in
set_option maxHeartbeats 1600000 in
theorem answer_no (x : Value) (q : Rat) (w : World) (h : IsQ w x q) (hr : ¬ Rep q) :
    Calls Try.prog 24 #[x] w fun e w' => e = .returned (.tuple #[.agg #[.int .i64 0, .int .i64 0], .int .i64 5]) ∧ Below w.heap.size w w' := by
  obtain ⟨pn, a1, n1, c1, a2, n2, c2, rfl, hx⟩ := h.agg
  have HX := Lib.hid hx
  have HR := Lib.hid hr
  clear h hx hr
  have HS0 := Lib.hid (Below2 w (.cells #[.bool pn, .slice a1 n1 c1, .slice a2 n2 c2] 52) (.cells #[.int .i64 0, .int .i64 0] 24))
  go_enter Try.func24, Try.ntmps24
  go_wp2_with fail
  refine (frac_no _ q _ (HX.out.below HS0.out) HR.out).mono ?_
  rintro e w1 ⟨rfl, hb1⟩
  simp only [World.size_alloc] at hb1
  obtain ⟨hc, hf, hs⟩ := blk_at hb1 (by omega) (heap_alloc2 w _ _)
  have hc0 := hc 0
  have hc1 := hc 1
  have hf0 := hf 0
  have hf1 := hf 1
  have HB1 : Hid (Below w.heap.size w w1) := Lib.hid (HS0.out.trans (hb1.mono (by omega)))
  clear hc hf hb1
  go_wp2
  refine bodyPost_ret (v := .tuple #[.agg #[.int .i64 0, .int .i64 0], .int .i64 5]) (by simp [results, Try.results24, go_sem, hc0, hc1, hs]) rfl ⟨rfl, ?_⟩
  exact ((HB1.out.setCell (by simp) _).setCell (by simp) _).alloc (by have := HB1.out.size; simpa [World.setCell] using this) _

/-- What the document calls a valid fraction. -/
structure VF (n d : Int) : Prop where
  d1 : 1 ≤ d
  d2 : d ≤ 1000000000
  n1 : -1000000000 ≤ n
  n2 : n ≤ 1000000000
  g : Nat.gcd n.natAbs d.natAbs = 1

/-- The value of a fraction. -/
def qof (n d : Int) : Rat := (n : Rat) / (d : Rat)

theorem qof_num {n d : Int} (hd : 0 < d) : (qof n d).num = n / (Nat.gcd n.natAbs d.natAbs : Nat) ∧ ((qof n d).den : Int) = d / (Nat.gcd n.natAbs d.natAbs : Nat) := by
  obtain ⟨k, rfl⟩ := Int.eq_ofNat_of_zero_le (show 0 ≤ d by omega)
  unfold qof
  have e : (n : Rat) / ((k : Int) : Rat) = mkRat n k := by rw [Rat.mkRat_eq_div]; rfl
  rw [e, Rat.num_mkRat, Rat.den_mkRat, if_neg (by omega), if_neg (by omega), Int.natAbs_natCast, Nat.gcd_comm]
  exact ⟨rfl, by rw [Int.natCast_ediv]⟩

theorem VF.num {n d : Int} (h : VF n d) : (qof n d).num = n ∧ ((qof n d).den : Int) = d := by
  have := qof_num (n := n) (d := d) (by have := h.d1; omega)
  rw [h.g] at this
  simpa using this

theorem VF.rep {n d : Int} (h : VF n d) : Rep (qof n d) where
  n := by rw [h.num.1]; have := h.n1; have := h.n2; omega
  d := by have := h.num.2; have := h.d2; omega

theorem rep_of_range {n d : Int} (h1 : 1 ≤ d) (h2 : d ≤ 1000000000) (h3 : -1000000000 ≤ n) (h4 : n ≤ 1000000000) : Rep (qof n d) := by
  have h := qof_num (n := n) (d := d) (by omega)
  have hg : 0 < Nat.gcd n.natAbs d.natAbs := Nat.gcd_pos_of_pos_right _ (by omega)
  constructor
  · rw [h.1]
    have e := Int.natAbs_ediv_le_natAbs n (Nat.gcd n.natAbs d.natAbs : Nat)
    omega
  · have e := Int.ediv_le_self (a := d) (Nat.gcd n.natAbs d.natAbs : Nat) (by omega)
    omega

theorem vf_iff {n d : Int} (h1 : 1 ≤ d) (h2 : d ≤ 1000000000) (h3 : -1000000000 ≤ n) (h4 : n ≤ 1000000000) : ((qof n d).num = n ∧ ((qof n d).den : Int) = d) ↔ VF n d := by
  constructor
  · intro h
    refine ⟨h1, h2, h3, h4, ?_⟩
    have hc := (qof n d).reduced
    rw [h.1] at hc
    have e : (qof n d).den = d.natAbs := by have := h.2; omega
    rw [e] at hc
    exact hc
  · intro h; exact h.num

set_option maxRecDepth 100000 in
set_option maxHeartbeats 1600000 in
theorem valid_r_in (n d : Int) (h1 : 1 ≤ d) (h2 : d ≤ 1000000000) (h3 : -1000000000 ≤ n) (h4 : n ≤ 1000000000) (b : Bool) (hb : b = true ↔ VF n d) (w : World) :
    Calls Try.prog 23 #[.agg #[.int .i64 n, .int .i64 d]] w fun e w' => e = .returned (.bool b) ∧ Below w.heap.size w w' := by
  have HQ := Lib.hid (And.intro (vf_iff h1 h2 h3 h4) (And.intro hb (rep_of_range h1 h2 h3 h4)))
  clear hb
  have HD : Hid (d ≠ 0) := Lib.hid (by omega)
  have HB0 : Hid (Below w.heap.size w (w.alloc (.cells #[.int .i64 n, .int .i64 d] 24))) := Lib.hid ((Below.refl _ _).alloc (Nat.le_refl _) _)
  go_enter Try.func23, Try.ntmps23
  go_wp2_with fail
  refine (of_any n d (by omega) (by omega) (by omega) (by omega) HD.out _).mono ?_
  rintro e w1 ⟨z1, rfl, hz1, hb1⟩
  have HZ1 := Lib.hid (And.intro hz1 hb1)
  clear hz1 hb1
  go_wp2_with fail
  refine (frac_yes z1 (qof n d) w1 HZ1.out.1 HQ.out.2.2).mono ?_
  rintro e w2 ⟨rfl, hb2⟩
  have hb3 : Below (w.heap.size + 1) (w.alloc (.cells #[.int .i64 n, .int .i64 d] 24)) w2 := by
    have h := HZ1.out.2
    simp only [World.size_alloc] at h
    have s1 := h.size
    simp only [World.size_alloc] at s1
    exact h.trans (hb2.mono s1)
  obtain ⟨hc, hf, hs⟩ := blk_at hb3 (by omega) (heap_alloc_new w _)
  have hc0 := hc 0
  have hc1 := hc 1
  have HB3 := Lib.hid hb3
  clear hc hf hb2 hb3
  have HX := Lib.hid HQ.out.1
  have HBV := Lib.hid HQ.out.2.1
  obtain ⟨x, hx⟩ : ∃ z : Int, z = (qof n d).num := ⟨_, rfl⟩
  obtain ⟨y, hy⟩ : ∃ z : Int, z = ((qof n d).den : Int) := ⟨_, rfl⟩
  rw [← hx, ← hy]
  have HXY := Lib.hid (And.intro hx hy)
  clear hx hy
  by_cases hv : VF n d
  · obtain rfl : b = true := HBV.out.2 hv
    obtain rfl : x = n := by rw [HXY.out.1]; exact hv.num.1
    obtain rfl : y = d := by rw [HXY.out.2]; exact hv.num.2
    clear hv
    go_wp2
    go_ret
    exact ⟨rfl, (HB0.out.trans (HB3.out.mono (by omega))).alloc (by have := HB3.out.size; simp at this; omega) _⟩
  · obtain rfl : b = false := by
      cases hb : b
      · rfl
      · exact absurd (HBV.out.1 hb) hv
    have hne : ¬ (x = n ∧ y = d) := fun h => hv (HX.out.1 ⟨by rw [← HXY.out.1]; exact h.1, by rw [← HXY.out.2]; exact h.2⟩)
    clear hv
    by_cases hxn : x = n
    · subst hxn
      have hyd : (y == d) = false := by simp; exact fun h => hne ⟨rfl, h⟩
      clear hne
      go_wp2
      go_ret
      exact ⟨rfl, (HB0.out.trans (HB3.out.mono (by omega))).alloc (by have := HB3.out.size; simp at this; omega) _⟩
    · have hxb : (x == n) = false := by simpa using hxn
      clear hne
      go_wp2
      go_ret
      exact ⟨rfl, (HB0.out.trans (HB3.out.mono (by omega))).alloc (by have := HB3.out.size; simp at this; omega) _⟩

set_option maxRecDepth 100000 in
set_option maxHeartbeats 1600000 in
theorem valid_r_out (n d : Int) (h : d < 1 ∨ (1 ≤ d ∧ 1000000000 < d) ∨ (1 ≤ d ∧ d ≤ 1000000000 ∧ n < -1000000000) ∨ (1 ≤ d ∧ d ≤ 1000000000 ∧ -1000000000 ≤ n ∧ 1000000000 < n)) (w : World) :
    Calls Try.prog 23 #[.agg #[.int .i64 n, .int .i64 d]] w fun e w' => e = .returned (.bool false) ∧ Below w.heap.size w w' := by
  rcases h with h | ⟨h1, h⟩ | ⟨h1, h2, h⟩ | ⟨h1, h2, h3, h⟩
  all_goals
    go_enter Try.func23, Try.ntmps23
    go_wp2
    go_ret
    exact ⟨rfl, (Below.refl _ _).alloc (Nat.le_refl _) _⟩

theorem vf_range {n d : Int} (h : ¬ (1 ≤ d ∧ d ≤ 1000000000 ∧ -1000000000 ≤ n ∧ n ≤ 1000000000)) : d < 1 ∨ (1 ≤ d ∧ 1000000000 < d) ∨ (1 ≤ d ∧ d ≤ 1000000000 ∧ n < -1000000000) ∨ (1 ≤ d ∧ d ≤ 1000000000 ∧ -1000000000 ≤ n ∧ 1000000000 < n) := by omega

open Classical in
/-- Valid as a Bool. -/
noncomputable def vfB (n d : Int) : Bool := decide (VF n d)
open Classical in
theorem vfB_iff (n d : Int) : vfB n d = true ↔ VF n d := by unfold vfB; exact decide_eq_true_iff

theorem valid_r (n d : Int) (w : World) :
    Calls Try.prog 23 #[.agg #[.int .i64 n, .int .i64 d]] w fun e w' => e = .returned (.bool (vfB n d)) ∧ Below w.heap.size w w' := by
  by_cases h : 1 ≤ d ∧ d ≤ 1000000000 ∧ -1000000000 ≤ n ∧ n ≤ 1000000000
  · exact valid_r_in n d h.1 h.2.1 h.2.2.1 h.2.2.2 _ (vfB_iff n d) w
  · have e : vfB n d = false := by
      cases hb : vfB n d
      · rfl
      · have hv := (vfB_iff n d).1 hb; exact absurd ⟨hv.d1, hv.d2, hv.n1, hv.n2⟩ h
    rw [e]
    exact valid_r_out n d (vf_range h) w

end Go.Proofs.Ytpghhfobaionkaa

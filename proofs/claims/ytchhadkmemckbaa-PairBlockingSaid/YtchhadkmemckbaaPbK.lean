/- Pairs: the reference's column and rather. -/
import Derived.Test.YtchhadkmemckbaaPbH
namespace Go.Proofs.Ytchhadkmemckbaa
open Go.RowKit
set_option linter.unusedSimpArgs false
set_option linter.unusedVariables false

/-- n ints in memory. -/
def RowS (w : World) (x : Option Addr) (n : Nat) (f : Nat → Int) : Prop := ∀ i, i < n → ∃ B, x = some ⟨B, 0, none⟩ ∧ B < w.heap.size ∧ w.cell? ⟨B, i, none⟩ = some (.int .i64 (f i))
theorem RowS.below {w w' : World} {x : Option Addr} {n : Nat} {f : Nat → Int} (h : RowS w x n f) (hb : Below w.heap.size w w') : RowS w' x n f := fun i hi => by
  obtain ⟨B, e, l, c⟩ := h i hi
  exact ⟨B, e, Nat.lt_of_lt_of_le l hb.size, (hb.cell (p := ⟨B, i, none⟩) l).trans c⟩
theorem OV.rowS {w0 wr : World} {e : TypeId} {v : Value} {n : Nat} {f : Nat → Int} (h : OV w0 e v (clI n f) wr) : ∃ a cap, v = .slice a n cap ∧ RowS wr a n f := by
  obtain ⟨a, cap, hv, hx⟩ := h.form
  rw [clI_len] at hv
  refine ⟨a, cap, hv, fun i hi => ?_⟩
  rcases hx with hx | ⟨g, ha, hgl, hc⟩
  · have := clI_len n f
    rw [hx] at this
    simp at this
    omega
  · have := hc i (by rw [clI_len]; exact hi)
    rw [clI_get] at this
    exact ⟨g, ha, hgl, this⟩
theorem clI_next (n : Nat) (f : Nat → Int) : clI (n + 1) f = clI n f ++ [.int .i64 (f n)] := by
  unfold clI
  rw [List.range_succ, List.map_append]
  rfl

set_option maxRecDepth 100000 in
set_option maxHeartbeats 1600000 in
theorem column_any (x : Option Addr) (cx L R : Nat) (hL : L ≤ 100) (hR : R ≤ 100) (C : Nat → Nat → Int) (j : Nat) (hj : j < R) (w : World) (h : TabR w x L R C) :
    Calls Try.prog 75 #[.slice x L cx, .int .i64 j] w fun e w' => ∃ a c, e = .returned (.slice a L c) ∧ RowS w' a L (fun i => C i j) ∧ Below w.heap.size w w' := by
  obtain ⟨i0, hi, hz0, hz1, hz2⟩ := info_parts pa_infoInt
  have HI0 := Lib.hid (And.intro hi (And.intro hz0 (And.intro hz1 hz2)))
  clear hi hz0 hz1 hz2
  have HT := Lib.hid h
  have hj' : (j : Int) < R := by omega
  have hj0 : (0 : Int) ≤ j := by omega
  have HS : Hid (OV w 3 (.slice none 0 0) (clI 0 fun i => C i j) w) := Lib.hid (OV.start w _)
  clear h
  go_enter Try.func75, Try.ntmps75
  go_wp2_with fail
  go_loopg [5, 10] L (fun gk v x wr => ∃ k : Nat, k + gk = L ∧ x = .int .i64 k ∧ Hid (OV w 3 v (clI k fun i => C i j) wr))
  case atStart => exact ⟨0, by omega, rfl, HS⟩
  case round =>
    obtain ⟨k, hk, rfl, HI⟩ := hrel
    by_cases hlt : k < L
    · obtain ⟨gk', rfl⟩ : ∃ m, gk = m + 1 := ⟨gk - 1, by omega⟩
      have hlt' : (k : Int) < L := by omega
      have hk0 : (0 : Int) ≤ k := by omega
      obtain ⟨B, mi, rfl, l1, d1, l2, hd⟩ := (HT.out.below HI.out.b) k hlt
      have d2 := hd j hj
      have hown := HI.out.own
      rw [clI_len] at hown
      have hbs := HI.out.b.size
      have HPU : Hid (∀ v' w2, w2.ownsRow w.heap.size 3 1 v' (k + 1) (clI k (fun i => C i j) ++ [.int .i64 (C k j)]) → (wr.alloc (.cells #[.int .i64 (C k j)] 3)).grownBy w2 u5.ownBlock → OV w 3 v' (clI (k + 1) fun i => C i j) w2) := Lib.hid (fun v' w2 ho hg => by
        rw [clI_next]
        refine (HI.out.step ((Below.refl _ _).alloc (Nat.le_refl _) _)).push ?_ hg
        rw [clI_len]
        exact ho)
      obtain ⟨q, hq⟩ : ∃ q, q = C k j := ⟨_, rfl⟩
      rw [← hq] at d2 HPU
      clear hq hd HI
      go_wp2_with (at_builtin; refine wpList_append_own _ rfl _ _ 38 rfl w.heap.size 3 i0 (.int .i64 0) 1 8 Try.underlying38 HI0.out.1 HI0.out.2.1 HI0.out.2.2.1 HI0.out.2.2.2 rfl (by decide) u5 k _ rfl (hown.alloc _) ⟨wr.heap.size, 0, none⟩ 1 1 [.int .i64 q] rfl rfl (cell_one_new _ _ _) (by intro u hu; simp at hu; subst hu; rfl) (by unfold maxLen; omega) (by omega) (by simp; omega) ?_)
      intro v' w6 hown6 hgrow6 hnil6
      have HN := Lib.hid (HPU.out v' w6 hown6 hgrow6)
      clear hown6 hgrow6 hown hnil6 HPU hbs
      go_wp2
      go_roundg gk'
      case measure => exact Nat.lt_succ_self _
      case rel => exact ⟨k + 1, by omega, by go_num, HN⟩
    · obtain ⟨rfl, rfl⟩ : gk = 0 ∧ k = L := by omega
      obtain ⟨a', c', rfl, hrs⟩ := HI.out.rowS
      have HE := Lib.hid (And.intro hrs HI.out.b)
      clear hrs HI
      go_wp2
      go_ret
      exact ⟨a', c', rfl, HE.out.1, HE.out.2⟩

def rthB (c : Nat → Int) (j : Nat) (k : Int) : Bool := decide (0 ≤ c j) && (decide (k < 0) || (decide (c k.toNat < 0) || (decide (c j < c k.toNat) || (c j == c k.toNat && decide ((j : Int) < k)))))
theorem rth_pfr {c : Nat → Int} {j R : Nat} {k : Int} (hc : -1 ≤ c j) (hk : k = -1 ∨ (0 ≤ k ∧ k < R ∧ -1 ≤ c k.toNat ∧ c k.toNat ≠ -1)) : rthB c j k = (c j != -1 && pfr c j k) := by
  unfold rthB pfr
  have e1 : decide (0 ≤ c j) = (c j != -1) := by
    by_cases h : c j = -1
    · rw [h]; rfl
    · rw [decide_eq_true (by omega)]; simp [h]
  rw [e1]
  congr 1
  rcases hk with rfl | ⟨h0, h1, h2, h3⟩
  · simp
  · rw [decide_eq_false (show ¬ k < 0 by omega), decide_eq_false (show ¬ c k.toNat < 0 by omega), Bool.false_or, Bool.false_or, beq_eq_false_iff_ne.2 (show k ≠ -1 by omega), Bool.false_or]

set_option maxRecDepth 100000 in
set_option maxHeartbeats 1600000 in
theorem rather_any (a : Option Addr) (ca R : Nat) (c : Nat → Int) (hR : R ≤ 100) (j : Nat) (hj : j < R) (k : Int) (hk : k = -1 ∨ (0 ≤ k ∧ k < R)) (w : World) (h : RowS w a R c) :
    Calls Try.prog 74 #[.slice a R ca, .int .i64 j, .int .i64 k] w fun e w' => e = .returned (.bool (rthB c j k)) ∧ Below w.heap.size w w' := by
  obtain ⟨B, rfl, hB, d0⟩ := h j hj
  have hj' : (j : Int) < R := by omega
  have hj0 : (0 : Int) ≤ j := by omega
  have HD := Lib.hid (fun nq => below_drewN (Below.refl w.heap.size w) nq)
  have HH := Lib.hid h
  obtain ⟨r, hr⟩ : ∃ r, r = rthB c j k := ⟨_, rfl⟩
  rw [← hr]
  unfold rthB at hr
  obtain ⟨x, hx⟩ : ∃ x, x = c j := ⟨_, rfl⟩
  rw [← hx] at d0 hr
  by_cases h1 : x < 0
  · have t1 : decide (0 ≤ x) = false := decide_eq_false (by omega)
    rw [t1, Bool.false_and] at hr
    subst hr
    clear h h1 hx
    go_enter Try.func74, Try.ntmps74
    go_wp2_with fail
    go_quiet (fail)
    go_wp2
    go_ret
    exact ⟨rfl, HD.out _⟩
  · have t1 : decide (0 ≤ x) = true := decide_eq_true (by omega)
    rw [t1, Bool.true_and] at hr
    rcases hk with hk | ⟨k0, k1⟩
    · have t2 : decide (k < 0) = true := decide_eq_true (by omega)
      rw [t2, Bool.true_or] at hr
      subst hr
      clear hk
      clear h h1 hx HH
      go_enter Try.func74, Try.ntmps74
      go_wp2_with fail
      go_quiet (fail)
      go_wp2
      go_ret
      exact ⟨rfl, HD.out _⟩
    · obtain ⟨m, rfl⟩ := Int.eq_ofNat_of_zero_le k0
      have t2 : decide ((m : Int) < 0) = false := decide_eq_false (by omega)
      obtain ⟨B', hB', -, d1⟩ := h m (by omega)
      simp only [Option.some.injEq, Addr.mk.injEq, and_true] at hB'
      subst hB'
      rw [t2, Bool.false_or, Int.toNat_natCast] at hr
      obtain ⟨y, hy⟩ : ∃ y, y = c m := ⟨_, rfl⟩
      rw [← hy] at d1 hr
      clear h h1 hx hy
      by_cases h3 : y < 0
      · have t3 : decide (y < 0) = true := decide_eq_true h3
        rw [t3, Bool.true_or] at hr
        subst hr
        clear h3
        go_enter Try.func74, Try.ntmps74
        go_wp2_with fail
        go_quiet (fail)
        go_wp2
        go_ret
        exact ⟨rfl, HD.out _⟩
      · have t3 : decide (y < 0) = false := decide_eq_false h3
        rw [t3, Bool.false_or] at hr
        clear h3
        by_cases h4 : x < y
        · have t4 : decide (x < y) = true := decide_eq_true h4
          rw [t4, Bool.true_or] at hr
          subst hr
          clear h4
          go_enter Try.func74, Try.ntmps74
          go_wp2_with fail
          go_quiet (fail)
          go_wp2
          go_ret
          exact ⟨rfl, HD.out _⟩
        · have t4 : decide (x < y) = false := decide_eq_false h4
          rw [t4, Bool.false_or] at hr
          clear h4
          by_cases h5 : x = y
          · have t5 : (x == y) = true := by simpa using h5
            rw [t5, Bool.true_and, show decide ((j : Int) < (m : Int)) = decide (j < m) by simp [Int.ofNat_lt]] at hr
            subst hr
            clear h5
            go_enter Try.func74, Try.ntmps74
            go_wp2_with fail
            go_quiet (fail)
            go_wp2
            go_ret
            exact ⟨rfl, HD.out _⟩
          · have t5 : (x == y) = false := by simpa using h5
            rw [t5, Bool.false_and] at hr
            subst hr
            clear h5
            go_enter Try.func74, Try.ntmps74
            go_wp2_with fail
            go_quiet (fail)
            go_wp2
            go_ret
            exact ⟨rfl, HD.out _⟩
end Go.Proofs.Ytchhadkmemckbaa

/- The reference's Down. -/
import Derived.Test.YtjnfgjaiahnfgaaQD
namespace Go.Proofs.Ytjnfgjaiahnfgaa
open Go.RowKit

/-- One rational's box and the result's block. -/
def S1Q (w : World) (x0 x1 x2 : Value) (w' : World) : Prop :=
  Below w.heap.size w w' ∧ w'.heap[w.heap.size]? = some (.cells #[x0, x1, x2] 43 (0, 0)) ∧ IsBlk3 w' (w.heap.size + 1)

theorem S1Q.start (w : World) (x0 x1 x2 : Value) (z0 : Bool) (z1 z2 : Value) (T2 : TypeId) : S1Q w x0 x1 x2 ((w.alloc (.cells #[x0, x1, x2] 43)).alloc (.cells #[.bool z0, z1, z2] T2)) := by
  have e1 : (w.alloc (.cells #[x0, x1, x2] 43)).heap.size = w.heap.size + 1 := by simp
  refine ⟨Below2 w _ _, ?_, ?_⟩
  · rw [Below.heap_alloc _ _ _ (by omega)]; exact heap_alloc_new w _
  · exact ⟨z0, z1, z2, T2, by rw [← e1]; exact heap_alloc_new _ _⟩

theorem S1Q.step {w : World} {x0 x1 x2 : Value} {w1 w2 : World} (h : S1Q w x0 x1 x2 w1) (hb : Below w1.heap.size w1 w2) : S1Q w x0 x1 x2 w2 :=
  ⟨h.1.trans (hb.mono h.1.size), (hb.block _ (Array.getElem?_eq_some_iff.1 h.2.1).1).trans h.2.1, h.2.2.below hb⟩

theorem S1Q.cells {w : World} {x0 x1 x2 : Value} {w1 : World} (h : S1Q w x0 x1 x2 w1) : w1.cell? ⟨w.heap.size, 0, none⟩ = some x0 ∧ w1.cell? ⟨w.heap.size, 1, none⟩ = some x1 ∧ w1.cell? ⟨w.heap.size, 2, none⟩ = some x2 :=
  ⟨cell_blk h.2.1 0, cell_blk h.2.1 1, cell_blk h.2.1 2⟩

theorem S1Q.store {w : World} {x0 x1 x2 : Value} {w1 : World} (h : S1Q w x0 x1 x2 w1) (a : Bool) (b c : Value) :
    Below w.heap.size w (((w1.setCell ⟨w.heap.size + 1, 0, none⟩ (.bool a)).setCell ⟨w.heap.size + 1, 1, none⟩ b).setCell ⟨w.heap.size + 1, 2, none⟩ c) :=
  ((h.1.setCell (by simp) _).setCell (by simp) _).setCell (by simp) _

/-- The greatest whole number that is not above q. -/
def flo (q : Rat) : Int := q.num / (q.den : Int)

theorem flo_neg (q : Rat) : decide (q < 0) = decide (flo q < 0) := by
  have h := rat_neg_iff q
  have hd : (0 : Int) < (q.den : Int) := by have := q.den_pos; omega
  by_cases hq : q < 0
  · rw [decide_eq_true hq, decide_eq_true (show flo q < 0 from Int.ediv_neg_of_neg_of_pos (h.1 hq) hd)]
  · have h2 : 0 ≤ q.num := by have : ¬ q.num < 0 := fun h3 => hq (h.2 h3); omega
    have h3 : 0 ≤ flo q := Int.ediv_nonneg h2 (by omega)
    rw [decide_eq_false hq, decide_eq_false (by omega)]

theorem flo_abs_pos {q : Rat} (h : ¬ q < 0) : (flo q).natAbs = q.num.natAbs / q.den := by
  have h0 := rat_neg_iff q
  have h2 : 0 ≤ q.num := by have : ¬ q.num < 0 := fun h3 => h (h0.2 h3); omega
  obtain ⟨a, ha⟩ := Int.eq_ofNat_of_zero_le h2
  unfold flo
  rw [ha, Int.natAbs_natCast, ← Int.natCast_ediv, Int.natAbs_natCast]

theorem flo_abs_neg {q : Rat} (h : q < 0) : (flo q).natAbs = q.num.natAbs / q.den + (if q.num.natAbs % q.den = 0 then 0 else 1) := by
  have h2 := (rat_neg_iff q).1 h
  obtain ⟨a, ha⟩ := Int.eq_ofNat_of_zero_le (show 0 ≤ -q.num by omega)
  have e : q.num = -(a : Int) := by omega
  unfold flo
  rw [e, Int.natAbs_neg, Int.natAbs_natCast]
  have hd := q.den_pos
  generalize q.den = d at hd
  have h4 : d * (a / d) + a % d = a := Nat.div_add_mod a d
  have h5 : a % d < d := Nat.mod_lt _ hd
  by_cases h3 : a % d = 0
  · rw [if_pos h3]
    have : -(a : Int) / (d : Int) = -((a / d : Nat) : Int) := by
      rw [show (a : Int) = (d : Int) * ((a / d : Nat) : Int) by rw [← Int.natCast_mul]; congr 1; omega]
      rw [← Int.mul_neg, Int.mul_ediv_cancel_left _ (by omega)]
    rw [this]
    generalize a / d = k
    omega
  · rw [if_neg h3]
    have : -(a : Int) / (d : Int) = -((a / d : Nat) : Int) - 1 := by
      have e2 : -(a : Int) = (d - (a % d : Nat) : Int) + (d : Int) * (-((a / d : Nat) : Int) - 1) := by
        have : (a : Int) = (d : Int) * ((a / d : Nat) : Int) + ((a % d : Nat) : Int) := by rw [← Int.natCast_mul, ← Int.natCast_add]; congr 1; omega
        grind
      rw [e2, Int.add_mul_ediv_left _ _ (by omega), Int.ediv_eq_zero_of_lt (by omega) (by omega)]; omega
    rw [this]
    generalize a / d = k
    omega

set_option maxRecDepth 100000 in
set_option maxHeartbeats 1600000 in
theorem down_any (x : Value) (q : Rat) (w : World) (h : IsQ w x q) (l : LenQ q 10000000) :
    Calls Try.prog 82 #[x] w fun e w' => ∃ z, e = .returned z ∧ IsQ w' z ((flo q : Int) : Rat) ∧ Below w.heap.size w w' := by
  obtain ⟨a1, a2, n1, n2, c1, c2, rfl, hx1, hx2⟩ := h
  generalize hpn : decide (q < 0) = pn
  have HN := Lib.hid hpn
  have HX := Lib.hid (And.intro hx1 hx2)
  have HL := Lib.hid l
  have HDN : Hid (q.den ≠ 0) := Lib.hid q.den_nz
  clear hx1 hx2 hpn l
  go_enter Try.func82, Try.ntmps82
  go_wp2_with fail
  have hS0 := S1Q.start w (.bool pn) (.slice a1 n1 c1) (.slice a2 n2 c2) false (.slice none 0 0) (.slice none 0 0) 43
  refine (divided_any _ _ q.num.natAbs q.den HDN.out _ (HX.out.1.below (Below2 w _ _)) (HX.out.2.below (Below2 w _ _)) (by have := HL.out.n; omega) (by have := HL.out.d; omega)).mono ?_
  rintro e w1 ⟨z1, z2, rfl, hz1, hz2, hb1⟩
  have hS1 := hS0.step hb1
  obtain ⟨ar, cr, hv2⟩ := IsDig.len hz2
  have hlr : (digs (q.num.natAbs % q.den)).length = 0 ↔ q.num.natAbs % q.den = 0 := by rw [List.length_eq_zero_iff, digs_eq_nil]
  revert hv2 hlr
  generalize (digs (q.num.natAbs % q.den)).length = nr
  intro hv2 hlr
  subst hv2
  obtain ⟨hc0, hc1, hc2⟩ := hS1.cells
  have HS := Lib.hid (And.intro hS1 (And.intro hz1 hlr))
  clear hS0 hz1 hz2 hb1 hS1 hlr
  have HLF : Hid (((digs (q.num.natAbs / q.den)).length : Int) ≤ 10000000) := Lib.hid (by have h1 := digs_length_mono (Nat.div_le_self q.num.natAbs q.den); have := HL.out.n; omega)
  by_cases hpn : pn = true
  · subst hpn
    have hq0 : q < 0 := of_decide_eq_true HN.out
    by_cases hr : nr = 0
    · have HK : Hid ((flo q).natAbs = q.num.natAbs / q.den) := Lib.hid (by rw [flo_abs_neg hq0, if_pos (HS.out.2.2.1 hr)]; rfl)
      have HZK : Hid (IsNat w1 z1 (flo q).natAbs) := Lib.hid (by rw [HK.out]; exact HS.out.2.1)
      have HLK : Hid (((digs (flo q).natAbs).length : Int) ≤ 100000000) := Lib.hid (by rw [HK.out]; have := HLF.out; omega)
      subst hr
      clear hq0
      go_wp2_with fail
      refine (calls_q (made_any true z1 _ (flo q).natAbs 1 (by decide) _ (HZK.out.below ((Below.refl _ _).alloc (Nat.le_refl _) _)) (one_nat w1) HLK.out (by have := digs_len2 (n := 1) (by decide); omega))).mono ?_
      rintro e w3 ⟨e0, u1, k1, f1, u2, k2, f2, rfl, hq3, hb3⟩
      have hS3 := (HS.out.1.step ((Below.refl w1.heap.size w1).alloc (Nat.le_refl _) _)).step hb3
      obtain ⟨r0, r1, r2, hr0, hr1, hr2, hr3, hr4, hr5, hr6⟩ := hS3.2.2.facts
      have HS3 := Lib.hid hS3
      have HQ3 := Lib.hid hq3
      clear hS3 hq3 hb3
      go_wp2
      refine bodyPost_ret (v := .agg #[.bool e0, .slice u1 k1 f1, .slice u2 k2 f2]) (by simp [results, Try.results82, go_sem, hr0, hr1, hr2]) rfl ⟨_, rfl, ?_, HS3.out.store _ _ _⟩
      rw [← mkQ_int (flo q) true (by rw [← flo_neg, HN.out])]
      exact HQ3.out.store (fun n h => by rw [hr0] at h; cases h)
    · have HK : Hid ((flo q).natAbs = q.num.natAbs / q.den + 1) := Lib.hid (by rw [flo_abs_neg hq0, if_neg (fun h => hr (HS.out.2.2.2 h))])
      have hpos : (0 : Int) < (nr : Int) := by omega
      have HLK : Hid (((digs (flo q).natAbs).length : Int) ≤ 100000000) := Lib.hid (by
        rw [HK.out]
        have h1 := digs_len_add (q.num.natAbs / q.den) 1
        have h2 := digs_len2 (n := 1) (by decide)
        have := HLF.out; omega)
      clear hq0 hr
      go_wp2_with fail
      refine (plus_any z1 _ (q.num.natAbs / q.den) 1 _ (HS.out.2.1.below ((Below.refl _ _).alloc (Nat.le_refl _) _)) (one_nat w1) (by have := HLF.out; omega) (by have := digs_len2 (n := 1) (by decide); omega)).mono ?_
      rintro e w2 ⟨z3, rfl, hz3, _, hb2⟩
      have hS2 := (HS.out.1.step ((Below.refl w1.heap.size w1).alloc (Nat.le_refl _) _)).step hb2
      obtain ⟨hd0, hd1, hd2⟩ := hS2.cells
      have HS2 := Lib.hid hS2
      have HZK : Hid (IsNat w2 z3 (flo q).natAbs) := Lib.hid (by rw [HK.out]; exact hz3)
      clear hS2 hz3 hb2
      go_wp2_with fail
      refine (calls_q (made_any true z3 _ (flo q).natAbs 1 (by decide) _ (HZK.out.below ((Below.refl _ _).alloc (Nat.le_refl _) _)) (one_nat w2) HLK.out (by have := digs_len2 (n := 1) (by decide); omega))).mono ?_
      rintro e w3 ⟨e0, u1, k1, f1, u2, k2, f2, rfl, hq3, hb3⟩
      have hS3 := (HS2.out.step ((Below.refl w2.heap.size w2).alloc (Nat.le_refl _) _)).step hb3
      obtain ⟨r0, r1, r2, hr0, hr1, hr2, hr3, hr4, hr5, hr6⟩ := hS3.2.2.facts
      have HS3 := Lib.hid hS3
      have HQ3 := Lib.hid hq3
      clear hS3 hq3 hb3
      go_wp2
      refine bodyPost_ret (v := .agg #[.bool e0, .slice u1 k1 f1, .slice u2 k2 f2]) (by simp [results, Try.results82, go_sem, hr0, hr1, hr2]) rfl ⟨_, rfl, ?_, HS3.out.store _ _ _⟩
      rw [← mkQ_int (flo q) true (by rw [← flo_neg, HN.out])]
      exact HQ3.out.store (fun n h => by rw [hr0] at h; cases h)
  · obtain rfl : pn = false := by simpa using hpn
    have hq0 : ¬ q < 0 := of_decide_eq_false HN.out
    have HK : Hid ((flo q).natAbs = q.num.natAbs / q.den) := Lib.hid (flo_abs_pos hq0)
    have HZK : Hid (IsNat w1 z1 (flo q).natAbs) := Lib.hid (by rw [HK.out]; exact HS.out.2.1)
    have HLK : Hid (((digs (flo q).natAbs).length : Int) ≤ 100000000) := Lib.hid (by rw [HK.out]; have := HLF.out; omega)
    clear hq0 hpn
    go_wp2_with fail
    refine (calls_q (made_any false z1 _ (flo q).natAbs 1 (by decide) _ (HZK.out.below ((Below.refl _ _).alloc (Nat.le_refl _) _)) (one_nat w1) HLK.out (by have := digs_len2 (n := 1) (by decide); omega))).mono ?_
    rintro e w3 ⟨e0, u1, k1, f1, u2, k2, f2, rfl, hq3, hb3⟩
    have hS3 := (HS.out.1.step ((Below.refl w1.heap.size w1).alloc (Nat.le_refl _) _)).step hb3
    obtain ⟨r0, r1, r2, hr0, hr1, hr2, hr3, hr4, hr5, hr6⟩ := hS3.2.2.facts
    have HS3 := Lib.hid hS3
    have HQ3 := Lib.hid hq3
    clear hS3 hq3 hb3
    go_wp2
    refine bodyPost_ret (v := .agg #[.bool e0, .slice u1 k1 f1, .slice u2 k2 f2]) (by simp [results, Try.results82, go_sem, hr0, hr1, hr2]) rfl ⟨_, rfl, ?_, HS3.out.store _ _ _⟩
    rw [← mkQ_int (flo q) false (by rw [← flo_neg, HN.out])]
    exact HQ3.out.store (fun n h => by rw [hr0] at h; cases h)

end Go.Proofs.Ytjnfgjaiahnfgaa

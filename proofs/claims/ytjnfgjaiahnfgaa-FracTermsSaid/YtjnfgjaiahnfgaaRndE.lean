/- The reference's rounding: the walk. -/
import Derived.Test.YtjnfgjaiahnfgaaRndD
namespace Go.Proofs.Ytjnfgjaiahnfgaa
open Go.RowKit

theorem heap3 (w : World) (a b : Obj) : ((w.alloc a).alloc b).heap.size = w.heap.size + 1 + 1 := by simp

theorem over_half (x y : Value) (a b : Int) (hb : b ≠ 0) (r1 : -9223372036854775808 ≤ a ∧ a ≤ 9223372036854775807) (r2 : -9223372036854775808 ≤ b ∧ b ≤ 9223372036854775807) (q : Rat) (hq : qof a b = q) (w : World) (h : IsQ w x (a : Rat)) (g : IsQ w y (b : Rat)) :
    Calls Try.prog 42 #[x, y] w fun e w' => ∃ z, e = .returned z ∧ IsQ w' z q ∧ Below w.heap.size w w' := by
  subst hq
  have l1 := LenQ.int r1.1 r1.2
  have l2 := LenQ.int r2.1 r2.2
  exact over_any x y (a : Rat) (b : Rat) (by exact_mod_cast hb) w h g (by have := l1.n; omega) (by have := l1.d; omega) (by have := l2.n; omega) (by have := l2.d; omega)

theorem down_qof (x : Value) (a b : Int) (hb : 0 < b) (r1 : -9223372036854775808 ≤ a ∧ a ≤ 9223372036854775807) (r2 : b ≤ 9223372036854775807) (w : World) (h : IsQ w x (qof a b)) :
    Calls Try.prog 82 #[x] w fun e w' => ∃ z, e = .returned z ∧ IsQ w' z ((a / b : Int) : Rat) ∧ Below w.heap.size w w' := by
  rw [← flo_qof hb]
  exact down_any x (qof a b) w h ((LenQ.qof r1.1 r1.2 hb r2).mono (by decide))

theorem times_int (x y : Value) (a b c : Int) (hc : a * b = c) (r1 : -9223372036854775808 ≤ a ∧ a ≤ 9223372036854775807) (r2 : -9223372036854775808 ≤ b ∧ b ≤ 9223372036854775807) (w : World) (h : IsQ w x (a : Rat)) (g : IsQ w y (b : Rat)) :
    Calls Try.prog 69 #[x, y] w fun e w' => ∃ z, e = .returned z ∧ IsQ w' z (c : Rat) ∧ Below w.heap.size w w' := by
  subst hc
  have l1 := LenQ.int r1.1 r1.2
  have l2 := LenQ.int r2.1 r2.2
  rw [Rat.intCast_mul]
  exact times_q_any x y (a : Rat) (b : Rat) w h g (by have := l1.n; omega) (by have := l1.d; omega) (by have := l2.n; omega) (by have := l2.d; omega)

theorem less_int (x y : Value) (a b c : Int) (hc : a - b = c) (r1 : -9223372036854775808 ≤ a ∧ a ≤ 9223372036854775807) (r2 : -9223372036854775808 ≤ b ∧ b ≤ 9223372036854775807) (w : World) (h : IsQ w x (a : Rat)) (g : IsQ w y (b : Rat)) :
    Calls Try.prog 37 #[x, y] w fun e w' => ∃ z, e = .returned z ∧ IsQ w' z (c : Rat) ∧ Below w.heap.size w w' := by
  subst hc
  rw [Rat.intCast_sub]
  exact less_q_any x y (a : Rat) (b : Rat) w h g ((LenQ.int r1.1 r1.2).mono (by decide)) ((LenQ.int r2.1 r2.2).mono (by decide))

theorem sign_int (x : Value) (a c : Int) (hc : cmpI a 0 = c) (w : World) (h : IsQ w x (a : Rat)) :
    Calls Try.prog 39 #[x] w fun e w' => e = .returned (.int .i64 c) ∧ Below w.heap.size w w' := by
  subst hc
  have e1 : qof a 1 = (a : Rat) := by unfold qof; (first | (simp; done) | grind)
  have := sgn_qof (n := a) (d := 1) (by decide)
  rw [e1] at this
  rw [← this]
  exact sign_any x _ w h

set_option maxRecDepth 100000 in
set_option maxHeartbeats 6400000 in
theorem rounded_any (x : Value) (n d m : Int) (hd : 0 < d) (d2 : d ≤ 2000000000000000000) (n1 : -2000000000000000000 ≤ n) (n2 : n ≤ 2000000000000000000) (m0 : 0 ≤ m) (m4 : m ≤ 4) (w : World) (h : IsQ w x (qof n d)) :
    Calls Try.prog 74 #[x, .int .i64 m] w fun e w' => ∃ z, e = .returned z ∧ IsQ w' z ((rndI m n d : Int) : Rat) ∧ Below w.heap.size w w' := by
  obtain ⟨b1, b2, b3, b4, b5, b6⟩ := floor_facts hd d2 n1 n2
  have HRQ := Lib.hid (rest_qof (n := n) hd (n / d))
  have HFL := Lib.hid (flo_qof (n := n) hd)
  have HSN := Lib.hid (sgn_qof (n := n) hd)
  have HSR := Lib.hid (sgn_qof (n := n - n / d * d) hd)
  have HLN := Lib.hid ((LenQ.qof (a := n) (b := d) (by omega) (by omega) hd (by omega)).mono (show 2 ≤ 10000000 by decide))
  have HLR := Lib.hid ((LenQ.qof (a := n - n / d * d) (b := d) (by omega) (by omega) hd (by omega)).mono (show 2 ≤ 10000000 by decide))
  have HLL := Lib.hid ((LenQ.int (n := n / d) (by omega) (by omega)).mono (show 2 ≤ 10000000 by decide))
  have HOH := Lib.hid (ordQ_cross (n1 := n - n / d * d) (d1 := d) (n2 := 1) (d2 := 2) hd (by decide))
  have HEQ := Lib.hid (refI_eq (m := m) (n := n) hd m0 m4)
  have HB := Lib.hid (And.intro b1 (And.intro b2 (And.intro b5 b6)))
  rw [← HEQ.out]
  have HM := Lib.hid (And.intro m0 m4)
  obtain ⟨xb, a1, k1, c1, a2, k2, c2, rfl, hx⟩ := h.agg
  have HX := Lib.hid hx
  clear h hx m0 m4 b1 b2 b3 b4 b5 b6 HEQ hd d2 n1 n2
  have HS0 := Lib.hid (S1Q.start w (.bool xb) (.slice a1 k1 c1) (.slice a2 k2 c2) false (.slice none 0 0) (.slice none 0 0) 43)
  go_enter Try.func74, Try.ntmps74
  go_wp2_with fail
  refine (calls_q (down_any _ (qof n d) _ (HX.out.below (Below2 w _ _)) HLN.out)).mono ?_
  rintro e w1 ⟨lb, lu, lk, lc, lu2, lk2, lc2, rfl, hq1, hb⟩
  rw [HFL.out] at hq1
  have hS1 := HS0.out.step hb
  have HX1 := Lib.hid ((HX.out.below (Below2 w _ _)).below hb)
  have HQ1 := Lib.hid hq1
  obtain ⟨kx0, kx1, kx2⟩ := hS1.cells
  have hs1 : w.heap.size + 1 < w1.heap.size := hS1.2.2.facts.choose_spec.choose_spec.choose_spec.2.2.2.2.2.2
  have hs1' : w.heap.size < w1.heap.size := by omega
  have HS1 := Lib.hid hS1
  clear hS1 hq1 hb HS0
  go_wp2_with fail
  have hbA := (Below.refl w1.heap.size w1).alloc (Nat.le_refl _) (.cells #[.bool lb, .slice lu lk lc, .slice lu2 lk2 lc2] 43)
  refine (calls_q (less_q_any _ _ (qof n d) ((n / d : Int) : Rat) _ (HX1.out.below hbA) (HQ1.out.below hbA) HLN.out HLL.out)).mono ?_
  rintro e w2 ⟨rb, ru, rk, rc, ru2, rk2, rc2, rfl, hq2, hb⟩
  rw [HRQ.out] at hq2
  have hl2 := (IsH.alloc (w := w1) lb (.slice lu lk lc) (.slice lu2 lk2 lc2) 43).step hb
  have hS2 := (HS1.out.step hbA).step hb
  have hx2 := (HX1.out.below hbA).below hb
  have hq12 := (HQ1.out.below hbA).below hb
  have hs2 : w1.heap.size < w2.heap.size := hl2.lt
  obtain ⟨kl0, kl1, kl2⟩ := hl2.cells
  have hbR := (Below.refl w2.heap.size w2).alloc (Nat.le_refl _) (.cells #[.bool rb, .slice ru rk rc, .slice ru2 rk2 rc2] 43)
  have hbL := (Below.refl _ (w2.alloc (.cells #[.bool rb, .slice ru rk rc, .slice ru2 rk2 rc2] 43))).alloc (Nat.le_refl _) (.cells #[.bool lb, .slice lu lk lc, .slice lu2 lk2 lc2] 43)
  have hH := IsH.alloc (w := w2.alloc (.cells #[.bool rb, .slice ru rk rc, .slice ru2 rk2 rc2] 43)) lb (.slice lu lk lc) (.slice lu2 lk2 lc2) 43
  rw [World.size_alloc] at hH
  have hR : RL w xb (.slice a1 k1 c1) (.slice a2 k2 c2) w1.heap.size w2.heap.size (w2.heap.size + 1) lb (.slice lu lk lc) (.slice lu2 lk2 lc2) rb (.slice ru rk rc) (.slice ru2 rk2 rc2) (qof n d) ((n / d : Int) : Rat) (qof (n - n / d * d) d)
      ((w2.alloc (.cells #[.bool rb, .slice ru rk rc, .slice ru2 rk2 rc2] 43)).alloc (.cells #[.bool lb, .slice lu lk lc, .slice lu2 lk2 lc2] 43)) :=
    ⟨(hS2.step hbR).step hbL, hs1, hs2, by omega, (hl2.step hbR).step hbL, (IsH.alloc (w := w2) rb (.slice ru rk rc) (.slice ru2 rk2 rc2) 43).step hbL, hH.blk, (hx2.below hbR).below hbL, (hq12.below hbR).below hbL, (hq2.below hbR).below hbL⟩
  have HR := Lib.hid (And.intro hR hH)
  clear hbA hb hq2 hS2 hx2 hq12 hl2 hbR hbL hH hR kx0 kx1 kx2 HX1 HQ1 HS1 HX HRQ HFL
  go_wp2_with fail
  refine (sign_any _ (qof (n - n / d * d) d) _ HR.out.1.ir).mono ?_
  rintro e w3 ⟨rfl, hb⟩
  rw [HSR.out]
  generalize hcs : cmpI (n - n / d * d) 0 = cs
  have HCS := Lib.hid hcs
  clear hcs
  have hH3 := HR.out.2.step hb
  have hR3 := HR.out.1.step hb
  have hs3 : w2.heap.size + 1 < w3.heap.size := hH3.lt
  have hs3' : w2.heap.size < w3.heap.size := by omega
  have HH3 := Lib.hid hH3
  have HR3 := Lib.hid hR3
  clear hb hH3 hR3 HR
  clear kl0 kl1 kl2
  go_upto_if 18 with fail
  go_cut [] (fun wx => ∃ (hb : Bool) (hu : Option Addr) (hk hc : Nat) (hu2 : Option Addr) (hk2 hc2 : Nat), RL w xb (.slice a1 k1 c1) (.slice a2 k2 c2) w1.heap.size w2.heap.size (w2.heap.size + 1) lb (.slice lu lk lc) (.slice lu2 lk2 lc2) rb (.slice ru rk rc) (.slice ru2 rk2 rc2) (qof n d) ((n / d : Int) : Rat) (qof (n - n / d * d) d) wx ∧ IsH wx (w2.heap.size + 1) hb (.slice hu hk hc) (.slice hu2 hk2 hc2) ∧ IsQ wx (.agg #[.bool hb, .slice hu hk hc, .slice hu2 hk2 hc2]) ((if 0 < n - n / d * d then n / d + 1 else n / d : Int) : Rat))
  case first =>
    by_cases hp : 0 < n - n / d * d
    · have e : cs = 1 := by rw [← HCS.out]; exact cmpI_gt hp
      subst e
      have HP := Lib.hid hp
      clear hp
      have hR3 := HR3.out
      go_wp2
      go_region_held3 (fun w' => RL w xb (.slice a1 k1 c1) (.slice a2 k2 c2) w1.heap.size w2.heap.size (w2.heap.size + 1) lb (.slice lu lk lc) (.slice lu2 lk2 lc2) rb (.slice ru rk rc) (.slice ru2 rk2 rc2) (qof n d) ((n / d : Int) : Rat) (qof (n - n / d * d) d) w' ∧ w'.cell? ⟨w1.heap.size, 0, none⟩ = some (.bool lb) ∧ w'.cell? ⟨w1.heap.size, 1, none⟩ = some (.slice lu lk lc) ∧ w'.cell? ⟨w1.heap.size, 2, none⟩ = some (.slice lu2 lk2 lc2))
        (first | (go_split_ands; exact (RL.step (by assumption) (by assumption)).ll) | (go_split_ands; exact (RL.set (by assumption) _ _ _).ll) | (exact hR3.drew.ll))
        (first
          | (go_at_call 61; go_split_ands; with_reducible (refine (int_any 1 (by decide) (by decide) _).mono ?_); rintro e w4 ⟨z1, rfl, hz1, hb4⟩)
          | (go_at_call 44; go_split_ands; with_reducible (refine (calls_q (plus_q_any _ z1 ((n / d : Int) : Rat) ((1 : Int) : Rat) _ (RL.il (by assumption)) hz1 (by have := HLL.out.n; omega) (by have := HLL.out.d; omega) (by have := (LenQ.int (n := 1) (by decide) (by decide)).n; omega) (by have := (LenQ.int (n := 1) (by decide) (by decide)).d; omega))).mono ?_); rintro e w5 ⟨e0, u1, f1, g1, u2, f2, g2, rfl, hz2, hb5⟩; have hbk := RL.bh (RL.step (by assumption) hb5); obtain ⟨s0, s1, s2, hs0, hs11, hs22, hs33, hs4, hs5, hs6⟩ := hbk.facts))
      rename_i hL
      go_wp2_with fail
      go_meet
      exact ⟨e0, u1, f1, g1, u2, f2, g2, hL.1, hbk.set _ _ _, by rw [if_pos HP.out, Rat.intCast_add]; exact hz2.set3 hbk.not32⟩
    · have e : cs = 0 := by
        rw [← HCS.out]; exact cmpI_eq (by have := HB.out.1; omega)
      subst e
      have HP := Lib.hid hp
      clear hp
      go_wp2_with fail
      go_meet
      exact ⟨lb, lu, lk, lc, lu2, lk2, lc2, HR3.out, HH3.out, by rw [if_neg (Int.not_lt.2 HP.out)]; exact HR3.out.il⟩
  case rest =>
  obtain ⟨hb, hu, hk, hc, hu2, hk2, hc2, hR, hH, hQ⟩ := hcut
  have hRH : RH w xb (.slice a1 k1 c1) (.slice a2 k2 c2) w1.heap.size w2.heap.size (w2.heap.size + 1) lb (.slice lu lk lc) (.slice lu2 lk2 lc2) rb (.slice ru rk rc) (.slice ru2 rk2 rc2) hb (.slice hu hk hc) (.slice hu2 hk2 hc2) (qof n d) ((n / d : Int) : Rat) (qof (n - n / d * d) d) ((if 0 < n - n / d * d then n / d + 1 else n / d : Int) : Rat) wc := ⟨hR, hH, hQ⟩
  have hsc : w2.heap.size + 1 < wc.heap.size := hH.lt
  clear hR hH hQ HR3 HH3 HCS HSR
  obtain ⟨qh, HQH⟩ : ∃ z : Rat, Hid (((if 0 < n - n / d * d then n / d + 1 else n / d : Int) : Rat) = z) := ⟨_, Lib.hid rfl⟩
  rw [HQH.out] at hRH
  obtain ⟨hf, HHF⟩ : ∃ z : Rat, Hid (qof 1 2 = z) := ⟨_, Lib.hid rfl⟩
  obtain ⟨ch, HCH⟩ : ∃ z : Int, Hid (ordQ (qof (n - n / d * d) d) hf = z) := ⟨_, Lib.hid rfl⟩
  have HLH : Hid (LenQ hf 10000000) := by
    rw [← HHF.out]; exact Lib.hid ((LenQ.qof (a := 1) (b := 2) (by decide) (by decide) (by decide) (by decide)).mono (by decide))
  have HL1 := Lib.hid (LenQ.int (n := 1) (by decide) (by decide))
  have HL2 := Lib.hid (LenQ.int (n := 2) (by decide) (by decide))
  have H2 : Hid (((2 : Int) : Rat) ≠ 0) := Lib.hid (by decide)
  go_wp2
  go_region_held3 (fun w' => RH w xb (.slice a1 k1 c1) (.slice a2 k2 c2) w1.heap.size w2.heap.size (w2.heap.size + 1) lb (.slice lu lk lc) (.slice lu2 lk2 lc2) rb (.slice ru rk rc) (.slice ru2 rk2 rc2) hb (.slice hu hk hc) (.slice hu2 hk2 hc2) (qof n d) ((n / d : Int) : Rat) (qof (n - n / d * d) d) qh w' ∧ w'.cell? ⟨w2.heap.size, 0, none⟩ = some (.bool rb) ∧ w'.cell? ⟨w2.heap.size, 1, none⟩ = some (.slice ru rk rc) ∧ w'.cell? ⟨w2.heap.size, 2, none⟩ = some (.slice ru2 rk2 rc2))
    (first | (go_split_ands; exact (RH.step (by assumption) (by assumption)).lr) | (exact hRH.drew.lr))
    (first
      | (go_at_call_of 61 (Value.int .i64 1); go_split_ands; with_reducible (refine (int_any 1 (by decide) (by decide) _).mono ?_); rintro e w4 ⟨z1, rfl, hz1, hb4⟩)
      | (go_at_call_of 61 (Value.int .i64 2); go_split_ands; with_reducible (refine (int_any 2 (by decide) (by decide) _).mono ?_); rintro e w5 ⟨z2, rfl, hz2, hb5⟩)
      | (go_at_call 42; go_split_ands; with_reducible (refine (over_half z1 z2 1 2 (by decide) (by decide) (by decide) hf HHF.out _ (by first | assumption | exact IsQ.below (by assumption) (by assumption)) (by first | assumption | exact IsQ.below (by assumption) (by assumption))).mono ?_); rintro e w6 ⟨z3, rfl, hz3, hb6⟩)
      | (go_at_call 43; go_split_ands; with_reducible (refine (order_any _ z3 (qof (n - n / d * d) d) _ _ (RH.ir (by assumption)) hz3 HLR.out HLH.out).mono ?_); rintro e w7 ⟨rfl, hb7⟩))
  rw [HCH.out]
  rename_i hL
  have hRH7 := hL.1
  clear hL
  have HRH := Lib.hid hRH7
  have hcl := hRH7.r.bl.cells
  have hch := hRH7.hh.cells
  have hcx := hRH7.r.s.cells
  have hlt7 : w2.heap.size + 1 < w7.heap.size := hRH7.hh.lt
  obtain ⟨q0, q1, q2, hq0, hq1, hq2, hq3, hq4, hq5, hq6⟩ := hRH7.r.s.2.2.facts
  obtain ⟨kl0, kl1, kl2⟩ := hcl
  obtain ⟨kh0, kh1, kh2⟩ := hch
  obtain ⟨kx0, kx1, kx2⟩ := hcx
  clear hRH7 hRH
  have hm : m = 0 ∨ m = 1 ∨ m = 2 ∨ m = 3 ∨ m = 4 := by have := HM.out; omega
  rcases hm with rfl | rfl | rfl | rfl | rfl
  · have HE : Hid (refI 0 n d = n / d) := Lib.hid (by unfold refI; rw [if_pos rfl])
    go_wp2
    refine bodyPost_ret (v := .agg #[.bool lb, .slice lu lk lc, .slice lu2 lk2 lc2]) (by simp [results, Try.results74, go_sem, hq0, hq1, hq2]) rfl ⟨_, rfl, by rw [HE.out]; exact HRH.out.endl.1, HRH.out.endl.2⟩
  · have HE : Hid (((refI 1 n d : Int) : Rat) = qh) := Lib.hid (by rw [← HQH.out]; unfold refI; rw [if_neg (by decide), if_pos rfl])
    go_wp2
    refine bodyPost_ret (v := .agg #[.bool hb, .slice hu hk hc, .slice hu2 hk2 hc2]) (by simp [results, Try.results74, go_sem, hq0, hq1, hq2]) rfl ⟨_, rfl, by rw [HE.out]; exact HRH.out.endh.1, HRH.out.endh.2⟩
  · by_cases hneg : n < 0
    · have HE : Hid (((refI 2 n d : Int) : Rat) = qh) := Lib.hid (by rw [← HQH.out]; unfold refI; rw [if_neg (by decide), if_neg (by decide), if_pos rfl, if_pos hneg])
      have HSX : Hid (sgnQ (qof n d) = -1) := Lib.hid (HSN.out.trans (cmpI_lt hneg))
      clear hneg
      go_wp2_with fail
      refine (sign_any _ (qof n d) _ HRH.out.r.ix).mono ?_
      rintro e w8 ⟨rfl, hb8⟩
      rw [HSX.out]
      have hRH := HRH.out.step hb8
      clear HRH kl0 kl1 kl2 kh0 kh1 kh2 kx0 kx1 kx2 hq0 hq1 hq2 hq3 hq4 hq5 hq6
      obtain ⟨q0, q1, q2, hq0, hq1, hq2, hq3, hq4, hq5, hq6⟩ := hRH.r.s.2.2.facts
      obtain ⟨kh0, kh1, kh2⟩ := hRH.hh.cells
      have HRH := Lib.hid hRH
      clear hRH hb8
      go_wp2
      refine bodyPost_ret (v := .agg #[.bool hb, .slice hu hk hc, .slice hu2 hk2 hc2]) (by simp [results, Try.results74, go_sem, hq0, hq1, hq2]) rfl ⟨_, rfl, by rw [HE.out]; exact HRH.out.endh.1, HRH.out.endh.2⟩
    · have HE : Hid (refI 2 n d = n / d) := Lib.hid (by unfold refI; rw [if_neg (by decide), if_neg (by decide), if_pos rfl, if_neg hneg])
      obtain ⟨sx, HSX⟩ : ∃ z, Hid (sgnQ (qof n d) = z) := ⟨_, Lib.hid rfl⟩
      have hsx : ¬ sx < 0 := by
        rw [← HSX.out, HSN.out]
        rcases cmpI_cases n 0 with ⟨a, b⟩ | ⟨a, b⟩ | ⟨a, b⟩ <;> omega
      clear hneg
      go_wp2_with fail
      refine (sign_any _ (qof n d) _ HRH.out.r.ix).mono ?_
      rintro e w8 ⟨rfl, hb8⟩
      rw [HSX.out]
      have hRH := HRH.out.step hb8
      clear HRH kl0 kl1 kl2 kh0 kh1 kh2 kx0 kx1 kx2 hq0 hq1 hq2 hq3 hq4 hq5 hq6
      obtain ⟨q0, q1, q2, hq0, hq1, hq2, hq3, hq4, hq5, hq6⟩ := hRH.r.s.2.2.facts
      obtain ⟨kl0, kl1, kl2⟩ := hRH.r.bl.cells
      have HRH := Lib.hid hRH
      clear hRH hb8
      go_wp2
      refine bodyPost_ret (v := .agg #[.bool lb, .slice lu lk lc, .slice lu2 lk2 lc2]) (by simp [results, Try.results74, go_sem, hq0, hq1, hq2]) rfl ⟨_, rfl, by rw [HE.out]; exact HRH.out.endl.1, HRH.out.endl.2⟩
  · have HCC : Hid (cmpI ((n - n / d * d) * 2) (1 * d) = ch) := Lib.hid (by rw [← HOH.out, HHF.out, HCH.out])
    by_cases hlt : ch < 0
    · have HE : Hid (refI 3 n d = n / d) := Lib.hid (by unfold refI; rw [if_neg (by decide), if_neg (by decide), if_neg (by decide), if_pos rfl, HCC.out, if_pos hlt])
      go_wp2
      refine bodyPost_ret (v := .agg #[.bool lb, .slice lu lk lc, .slice lu2 lk2 lc2]) (by simp [results, Try.results74, go_sem, hq0, hq1, hq2]) rfl ⟨_, rfl, by rw [HE.out]; exact HRH.out.endl.1, HRH.out.endl.2⟩
    · have HE : Hid (((refI 3 n d : Int) : Rat) = qh) := Lib.hid (by rw [← HQH.out]; unfold refI; rw [if_neg (by decide), if_neg (by decide), if_neg (by decide), if_pos rfl, HCC.out, if_neg hlt])
      go_wp2
      refine bodyPost_ret (v := .agg #[.bool hb, .slice hu hk hc, .slice hu2 hk2 hc2]) (by simp [results, Try.results74, go_sem, hq0, hq1, hq2]) rfl ⟨_, rfl, by rw [HE.out]; exact HRH.out.endh.1, HRH.out.endh.2⟩
  · have HCC : Hid (cmpI ((n - n / d * d) * 2) (1 * d) = ch) := Lib.hid (by rw [← HOH.out, HHF.out, HCH.out])
    obtain ⟨q, HQ⟩ : ∃ z, Hid (n / d = z) := ⟨_, Lib.hid rfl⟩
    obtain ⟨q', HQ'⟩ : ∃ z, Hid (q / 2 = z) := ⟨_, Lib.hid rfl⟩
    obtain ⟨p', HP'⟩ : ∃ z, Hid (q' * 2 = z) := ⟨_, Lib.hid rfl⟩
    obtain ⟨df, HDF⟩ : ∃ z, Hid (p' - q = z) := ⟨_, Lib.hid rfl⟩
    obtain ⟨ce, HCE⟩ : ∃ z, Hid (cmpI df 0 = z) := ⟨_, Lib.hid rfl⟩
    have HBB : Hid ((-9223372036854775808 ≤ q ∧ q ≤ 9223372036854775807) ∧ (-9223372036854775808 ≤ q' ∧ q' ≤ 9223372036854775807) ∧ (-9223372036854775808 ≤ p' ∧ p' ≤ 9223372036854775807)) := Lib.hid (by
      have e1 := HQ.out; have e2 := HQ'.out; have e3 := HP'.out; have := HB.out; omega)
    have HRHq : Hid (RH w xb (.slice a1 k1 c1) (.slice a2 k2 c2) w1.heap.size w2.heap.size (w2.heap.size + 1) lb (.slice lu lk lc) (.slice lu2 lk2 lc2) rb (.slice ru rk rc) (.slice ru2 rk2 rc2) hb (.slice hu hk hc) (.slice hu2 hk2 hc2) (qof n d) (q : Rat) (qof (n - n / d * d) d) qh w7) := Lib.hid (by have := HRH.out; rw [show ((q : Int) : Rat) = ((n / d : Int) : Rat) by rw [HQ.out]]; exact this)
    have hRHq := HRHq.out
    clear HRH
    go_wp2
    go_region_held3 (fun w' => RH w xb (.slice a1 k1 c1) (.slice a2 k2 c2) w1.heap.size w2.heap.size (w2.heap.size + 1) lb (.slice lu lk lc) (.slice lu2 lk2 lc2) rb (.slice ru rk rc) (.slice ru2 rk2 rc2) hb (.slice hu hk hc) (.slice hu2 hk2 hc2) (qof n d) (q : Rat) (qof (n - n / d * d) d) qh w' ∧ w'.cell? ⟨w1.heap.size, 0, none⟩ = some (.bool lb) ∧ w'.cell? ⟨w1.heap.size, 1, none⟩ = some (.slice lu lk lc) ∧ w'.cell? ⟨w1.heap.size, 2, none⟩ = some (.slice lu2 lk2 lc2))
      (first | (go_split_ands; exact (RH.step (by assumption) (by assumption)).ll) | (exact hRHq.drew.ll))
      (first
        | (go_at_call 61; go_split_ands; with_reducible (refine (int_any 2 (by decide) (by decide) _).mono ?_); rintro e v1 ⟨y1, rfl, hy1, hv1⟩)
        | (go_at_call 42; go_split_ands; with_reducible (refine (over_half _ _ q 2 (by decide) HBB.out.1 (by decide) (qof q 2) rfl _ (by first | assumption | exact IsQ.below (by assumption) (by assumption) | exact RH.il (by assumption)) (by first | assumption | exact IsQ.below (by assumption) (by assumption) | exact RH.il (by assumption))).mono ?_); rintro e v2 ⟨y2, rfl, hy2, hv2⟩)
        | (go_at_call 82; go_split_ands; with_reducible (refine (down_qof _ q 2 (by decide) HBB.out.1 (by decide) _ (by first | assumption | exact IsQ.below (by assumption) (by assumption) | exact RH.il (by assumption))).mono ?_); rintro e v3 ⟨y3, rfl, hy3, hv3⟩; replace hy3 : IsQ v3 y3 (q' : Rat) := (HQ'.out ▸ hy3))
        | (go_at_call 69; go_split_ands; with_reducible (refine (times_int _ _ q' 2 p' HP'.out HBB.out.2.1 (by decide) _ (by first | assumption | exact IsQ.below (by assumption) (by assumption) | exact RH.il (by assumption)) (by first | assumption | exact IsQ.below (by assumption) (by assumption) | exact RH.il (by assumption))).mono ?_); rintro e v4 ⟨y4, rfl, hy4, hv4⟩)
        | (go_at_call 37; go_split_ands; with_reducible (refine (less_int _ _ p' q df HDF.out HBB.out.2.2 HBB.out.1 _ (by first | assumption | exact IsQ.below (by assumption) (by assumption) | exact RH.il (by assumption)) (by first | assumption | exact IsQ.below (by assumption) (by assumption) | exact RH.il (by assumption))).mono ?_); rintro e v5 ⟨y5, rfl, hy5, hv5⟩)
        | (go_at_call 39; go_split_ands; with_reducible (refine (sign_int _ df ce HCE.out _ (by first | assumption | exact IsQ.below (by assumption) (by assumption) | exact RH.il (by assumption))).mono ?_); rintro e v6 ⟨rfl, hv6⟩))
    rename_i hL
    have hRH := hL.1
    clear hL kl0 kl1 kl2 kh0 kh1 kh2 kx0 kx1 kx2 hq0 hq1 hq2 hq3 hq4 hq5 hq6
    obtain ⟨q0, q1, q2, hq0, hq1, hq2, hq3, hq4, hq5, hq6⟩ := hRH.r.s.2.2.facts
    obtain ⟨kl0, kl1, kl2⟩ := hRH.r.bl.cells
    obtain ⟨kh0, kh1, kh2⟩ := hRH.hh.cells
    have HRH := Lib.hid hRH
    clear hRH hRHq
    have HLO : Hid ((ch < 0 ∨ ch = 0 ∧ ce = 0) → ((refI 4 n d : Int) : Rat) = (q : Rat)) := Lib.hid (fun hc => by
      have e : n / d / 2 * 2 - n / d = df := by rw [HQ.out, HQ'.out, HP'.out, HDF.out]
      have e2 : ce = 0 → df = 0 := fun h => by
        rw [← HCE.out] at h
        rcases cmpI_cases df 0 with ⟨a, b⟩ | ⟨a, b⟩ | ⟨a, b⟩ <;> omega
      have : refI 4 n d = n / d := by
        unfold refI
        rw [if_neg (by decide), if_neg (by decide), if_neg (by decide), if_neg (by decide), HCC.out, e, if_pos (hc.imp id (fun x => ⟨x.1, e2 x.2⟩))]
      rw [this, HQ.out])
    have HHI : Hid (¬ (ch < 0 ∨ ch = 0 ∧ ce = 0) → ((refI 4 n d : Int) : Rat) = qh) := Lib.hid (fun hc => by
      have e : n / d / 2 * 2 - n / d = df := by rw [HQ.out, HQ'.out, HP'.out, HDF.out]
      have e2 : df = 0 → ce = 0 := fun h => by
        rw [← HCE.out, h]; rfl
      rw [← HQH.out]
      unfold refI
      rw [if_neg (by decide), if_neg (by decide), if_neg (by decide), if_neg (by decide), HCC.out, e, if_neg (fun x => hc (x.imp id (fun y => ⟨y.1, e2 y.2⟩)))])
    by_cases c1 : ch < 0
    · have HE := Lib.hid (HLO.out (.inl c1))
      clear HLO HHI
      go_wp2
      refine bodyPost_ret (v := .agg #[.bool lb, .slice lu lk lc, .slice lu2 lk2 lc2]) (by simp [results, Try.results74, go_sem, hq0, hq1, hq2]) rfl ⟨_, rfl, by rw [HE.out]; exact HRH.out.endl.1, HRH.out.endl.2⟩
    · by_cases c2 : ch = 0
      · by_cases c3 : ce = 0
        · have HE := Lib.hid (HLO.out (.inr ⟨c2, c3⟩))
          clear HLO HHI
          subst c2
          subst c3
          go_wp2
          refine bodyPost_ret (v := .agg #[.bool lb, .slice lu lk lc, .slice lu2 lk2 lc2]) (by simp [results, Try.results74, go_sem, hq0, hq1, hq2]) rfl ⟨_, rfl, by rw [HE.out]; exact HRH.out.endl.1, HRH.out.endl.2⟩
        · have HE := Lib.hid (HHI.out (fun x => x.elim c1 (fun y => c3 y.2)))
          have c3' : (ce == 0) = false := by simpa using c3
          clear HLO HHI c3
          subst c2
          go_wp2
          refine bodyPost_ret (v := .agg #[.bool hb, .slice hu hk hc, .slice hu2 hk2 hc2]) (by simp [results, Try.results74, go_sem, hq0, hq1, hq2]) rfl ⟨_, rfl, by rw [HE.out]; exact HRH.out.endh.1, HRH.out.endh.2⟩
      · have HE := Lib.hid (HHI.out (fun x => x.elim c1 (fun y => c2 y.1)))
        have c2' : (ch == 0) = false := by simpa using c2
        clear HLO HHI c2
        go_wp2
        refine bodyPost_ret (v := .agg #[.bool hb, .slice hu hk hc, .slice hu2 hk2 hc2]) (by simp [results, Try.results74, go_sem, hq0, hq1, hq2]) rfl ⟨_, rfl, by rw [HE.out]; exact HRH.out.endh.1, HRH.out.endh.2⟩

end Go.Proofs.Ytjnfgjaiahnfgaa

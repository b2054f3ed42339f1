/- The reference's FromTerms. -/
import Derived.Test.YtjnfgjaiahnfgaaFTp
import Derived.Test.YtjnfgjaiahnfgaaQn
namespace Go.Proofs.Ytjnfgjaiahnfgaa
open Go.RowKit
set_option linter.unusedSimpArgs false
set_option linter.unusedVariables false

theorem digs_below {n : Nat} (h : n < Bse ^ 200) : (digs n).length ≤ 200 := digs_length_le_iff.2 h

theorem lenQ_big {a b : Int} (hb : 0 < b) (h1 : a.natAbs < Bse ^ 200) (h2 : b.natAbs < Bse ^ 200) : LenQ (qof a b) 200 := by
  obtain ⟨g1, g2⟩ := qof_parts (n := a) (d := b) (by omega)
  refine ⟨digs_below ?_, digs_below ?_⟩
  · rw [g1]; exact Nat.lt_of_le_of_lt (Nat.div_le_self _ _) h1
  · rw [g2]; exact Nat.lt_of_le_of_lt (Nat.div_le_self _ _) h2

theorem ft_big {l : List Int} (h : ∀ a ∈ l, -9223372036854775808 ≤ a ∧ a ≤ 9223372036854775807) (hl : l.length ≤ 64) : (ft l).1.natAbs < Bse ^ 200 ∧ (ft l).2.natAbs < Bse ^ 200 := by
  obtain ⟨h1, h2⟩ := ft_size (Bse ^ 2) (by decide) l h
  have e : (Bse ^ 2) ^ l.length ≤ (Bse ^ 2) ^ 64 := Nat.pow_le_pow_right (by decide) hl
  have e2 : (Bse ^ 2) ^ 64 < Bse ^ 200 := by
    rw [← Nat.pow_mul]
    exact Nat.pow_lt_pow_right Bse_gt1 (by decide)
  omega

theorem int_n (n : Int) (h1 : -9223372036854775808 ≤ n) (h2 : n ≤ 9223372036854775807) (w : World) :
    Calls Try.prog 61 #[.int .i64 n] w fun e w' => ∃ b u k c u2 k2 c2, e = .returned (.agg #[.bool b, .slice u k c, .slice u2 k2 c2]) ∧ IsQ w' (.agg #[.bool b, .slice u k c, .slice u2 k2 c2]) (qof n 1) ∧ Below w.heap.size w w' := by
  have := int_any n h1 h2 w
  have e : ((n : Int) : Rat) = qof n 1 := by unfold qof; (first | (simp; done) | grind)
  rw [e] at this
  exact calls_q this

theorem inv_big (x y : Value) (a b : Int) (ha : 0 < a) (hb : 0 < b) (l : LenQ (qof a b) 200) (w : World) (h : IsQ w x oneQ) (g : IsQ w y (qof a b)) :
    Calls Try.prog 42 #[x, y] w fun e w' => ∃ z, e = .returned z ∧ IsQ w' z (qof b a) ∧ Below w.heap.size w w' := by
  have l1 := LenQ.int (n := 1) (by decide) (by decide)
  have hz : qof a b ≠ 0 := by
    unfold qof
    have h1 := ratne (show a ≠ 0 by omega)
    have h2 := ratne (show b ≠ 0 by omega)
    grind
  rw [← qof_inv ha hb]
  have e : ((1 : Int) : Rat) = oneQ := rfl
  rw [e] at l1
  exact over_any x y _ _ hz w h g (by have := l1.n; omega) (by have := l1.d; omega) (by have := l.n; omega) (by have := l.d; omega)

theorem plus_big (x y : Value) (n a b c : Int) (hb : 0 < b) (hc : c = n * b + a) (r3 : -9223372036854775808 ≤ n ∧ n ≤ 9223372036854775807) (l : LenQ (qof a b) 200) (w : World) (h : IsQ w x (qof n 1)) (g : IsQ w y (qof a b)) :
    Calls Try.prog 44 #[x, y] w fun e w' => ∃ b' u k c' u2 k2 c2, e = .returned (.agg #[.bool b', .slice u k c', .slice u2 k2 c2]) ∧ IsQ w' (.agg #[.bool b', .slice u k c', .slice u2 k2 c2]) (qof c b) ∧ Below w.heap.size w w' := by
  subst hc
  have e1 : qof n 1 = (n : Rat) := by unfold qof; (first | (simp; done) | grind)
  have e : qof (n * b + a) b = (n : Rat) + qof a b := by
    unfold qof
    rw [Rat.intCast_add, Rat.intCast_mul]
    have h2 := ratne (show b ≠ 0 by omega)
    grind
  rw [e]
  rw [e1] at h
  have l1 := LenQ.int r3.1 r3.2
  exact calls_q (plus_q_any x y _ _ w h g (by have := l1.n; omega) (by have := l1.d; omega) (by have := l.n; omega) (by have := l.d; omega))

set_option maxRecDepth 100000 in
set_option maxHeartbeats 6400000 in
theorem fromTerms_r (a : Option Addr) (cap : Nat) (zs : List Int) (hwf : ∀ z ∈ zs, -9223372036854775808 ≤ z ∧ z ≤ 9223372036854775807) (hcap : zs.length ≤ cap) (hcm : (cap : Int) ≤ 9223372036854775807) (w : World) (h : IntS w a zs) :
    Calls Try.prog 49 #[.slice a zs.length cap] w fun e w' => ∃ x y z, e = .returned (.tuple #[.agg #[.int .i64 x, .int .i64 y], .int .i64 z]) ∧ Hid (ftS zs = (x, y, z)) ∧ Below w.heap.size w w' := by
  have HF := Lib.hid h
  have HM0 := Lib.hid ((⟨Mem.nil w, by simp⟩ : MQ w [] [] w).alloc #[.int .i64 0, .int .i64 0] 23)
  have HWF := Lib.hid hwf
  clear hwf
  by_cases h64 : 64 < zs.length
  · have HS := Lib.hid (ftS_long h64)
    have hi : (64 : Int) < (zs.length : Int) := by omega
    clear h64 h
    go_enter Try.func49, Try.ntmps49
    go_wp2
    refine bodyPost_ret (v := .tuple #[.agg #[.int .i64 0, .int .i64 0], .int .i64 3]) (by simp [results, Try.results49, go_sem]) rfl ⟨_, _, _, rfl, HS, ?_⟩
    exact HM0.out.m.b
  · cases zs with
    | nil =>
      have HZ := Lib.hid (ftS_no (zs := []) h64 rfl)
      clear h64 h
      go_enter Try.func49, Try.ntmps49
      go_wp2
      refine bodyPost_ret (v := .tuple #[.agg #[.int .i64 0, .int .i64 0], .int .i64 2]) (by simp [results, Try.results49, go_sem]) rfl ⟨_, _, _, rfl, HZ, ?_⟩
      exact HM0.out.m.b
    | cons z t =>
      obtain ⟨g, off, rfl, hg, hc0, hct⟩ := h.two
      have HCT := Lib.hid hct
      have H64 := Lib.hid h64
      simp only [List.length_cons] at hcap ⊢
      have hlz : t.length + 1 ≤ 64 := by simp only [List.length_cons] at h64; omega
      obtain ⟨m, hm⟩ : ∃ m, m = t.length := ⟨_, rfl⟩
      rw [← hm] at hcap hlz ⊢
      have HML := Lib.hid hm
      have hm64 : (m : Int) ≤ 63 := by omega
      have hm0 : (0 : Int) ≤ (m : Int) := by omega
      have hg1 : g < w.heap.size + 1 := by omega
      have hgn : g ≠ w.heap.size := by omega
      clear hct h64 h hm hlz
      have HNO : Hid (∀ (hL : areT (z :: t) = false), ftS (z :: t) = (0, 0, 2)) := Lib.hid (fun hL => ftS_no H64.out hL)
      by_cases hz : m = 0
      · subst hz
        have HTN : Hid (t = []) := Lib.hid (List.eq_nil_of_length_eq_zero HML.out.symm)
        have HY : Hid (ftS (z :: t) = ansQ (qof z 1)) := Lib.hid (by
          have e := HTN.out
          rw [ftS_yes H64.out (by rw [e]; rfl), e, ft_cons]
          simp [ft])
        have HLB := Lib.hid (HWF.out z (List.mem_cons_self ..))
        have hcc : cap = 1 ∨ 1 < cap := by omega
        rcases hcc with rfl | hc1
        all_goals
          go_enter Try.func49, Try.ntmps49
          go_wp2
          go_loop [33] (fun i => i = .int .i64 0) (fun _ => 0)
          case atStart => rfl
          case round =>
            subst hrel
            go_wp2_with fail
            refine (int_n z HLB.out.1 HLB.out.2 _).mono ?_
            rintro e w1 ⟨b0, u0, k0, c0, u2, k2, c2, rfl, hq, hb⟩
            have hM1 := ((HM0.out.step hb).push hq).alloc #[.bool b0, .slice u0 k0 c0, .slice u2 k2 c2] 43
            have hsz : w.heap.size < w1.heap.size := (HM0.out.step hb).m.head_lt
            have HM1 := Lib.hid hM1
            clear hb hq hM1 hc0
            go_wp2
            go_loopw [7] (fun i wr => i = .int .i64 (-1) ∧ Hid (MQ w [(w1.heap.size, #[.bool b0, .slice u0 k0 c0, .slice u2 k2 c2], 43), (w.heap.size, #[.int .i64 0, .int .i64 0], 23)] [(.agg #[.bool b0, .slice u0 k0 c0, .slice u2 k2 c2], qof z 1)] wr)) (fun _ _ => 0)
            case atStart => exact ⟨rfl, HM1⟩
            case round =>
              obtain ⟨rfl, HR⟩ := hrel
              obtain ⟨q0, q1, q2, -, -, -, q6⟩ := HR.out.m.c3
              have HRT := Lib.hid HR.out.tail
              go_wp2_with fail
              refine (answer_var _ _ _ HR.out.q0).mono ?_
              rintro e w2 ⟨ra, rb, rc, rfl, HANS, hb⟩
              have HR2 := Lib.hid (HRT.out.step hb)
              clear hb q0 q1 q2 q6
              obtain ⟨r0, r1, r2, r3, r4⟩ := HR2.out.m.c2
              go_wp2
              refine bodyPost_ret (v := .tuple #[.agg #[.int .i64 ra, .int .i64 rb], .int .i64 rc]) (by simp [results, Try.results49, go_sem, r0, r1]) rfl ⟨_, _, _, rfl, Lib.hid (by rw [HY.out]; exact HANS.out), ?_⟩
              exact (HR2.out.m.put2 _ _).b
      · have hm1 : 1 ≤ (m : Int) := by omega
        have hmn : 1 ≤ m := by omega
        have hc1 : 1 < cap := by omega
        obtain ⟨L, hL⟩ : ∃ L, L = t[m - 1]'(by have := HML.out; omega) := ⟨_, rfl⟩
        have hcl := HCT.out (m - 1) (by have := HML.out; omega)
        rw [← hL, show off + 1 + (m - 1) = off + m by omega] at hcl
        have HLL := Lib.hid hL
        clear hL hz
        have HLG : Hid (t.getLast? = some L) := Lib.hid (by
          have hm := HML.out
          rw [List.getLast?_eq_getElem?, HLL.out, List.getElem?_eq_getElem (by omega)]
          simp [hm])
        by_cases h1 : L = 1
        · subst h1
          have HF := Lib.hid (HNO.out (areT_last HLG.out))
          go_enter Try.func49, Try.ntmps49
          go_wp2
          refine bodyPost_ret (v := .tuple #[.agg #[.int .i64 0, .int .i64 0], .int .i64 2]) (by simp [results, Try.results49, go_sem]) rfl ⟨_, _, _, rfl, HF, ?_⟩
          exact HM0.out.m.b
        · have h1' : (L == 1) = false := by simpa using h1
          have HNL : Hid (t.getLast? ≠ some 1) := Lib.hid (by rw [HLG.out]; intro h; exact h1 (Option.some.inj h))
          clear h1
          go_enter Try.func49, Try.ntmps49
          go_wp2
          go_loop [33] (fun i => ∃ k : Nat, k ≤ m ∧ i = .int .i64 k ∧ Hid (allT (t.take k) = true)) (fun i => m - (intOf i).toNat)
          case atStart => exact ⟨0, Nat.zero_le _, rfl, Lib.hid rfl⟩
          case round =>
            obtain ⟨k, hk, rfl, HA⟩ := hrel
            by_cases hlt : k < m
            · have hc := HCT.out k (by have := HML.out; omega)
              obtain ⟨x, hx⟩ : ∃ n, n = t[k]'(by have := HML.out; omega) := ⟨_, rfl⟩
              rw [← hx] at hc
              have HX := Lib.hid hx
              clear hx
              have hk0 : (0 : Int) ≤ (k : Int) := by omega
              by_cases h0 : x < 1
              · have HF := Lib.hid (HNO.out (areT_small (k := k) (by have := HML.out; omega) (by rw [← HX.out]; exact h0)))
                go_wp2
                refine bodyPost_ret (v := .tuple #[.agg #[.int .i64 0, .int .i64 0], .int .i64 2]) (by simp [results, Try.results49, go_sem]) rfl ⟨_, _, _, rfl, HF, ?_⟩
                exact HM0.out.m.b
              · go_wp2
                go_round
                case rel => exact ⟨k + 1, by omega, by go_num, Lib.hid (allT_take HA.out (by have := HML.out; omega) (by rw [← HX.out]; omega))⟩
                case measure => simp [intOf]; omega
            · have hkl : k = m := by omega
              have HT : Hid (areT (z :: t) = true) := Lib.hid (by
                have h := HA.out
                rw [hkl, HML.out, List.take_length] at h
                exact areT_iff.2 ⟨HNL.out, allT_iff.1 h⟩)
              clear hkl
              have HTL := Lib.hid (areT_tail HT.out)
              have HY := Lib.hid (ftS_yes H64.out HT.out)
              have HDEN := Lib.hid (ft_den HT.out)
              have HLB := Lib.hid (HWF.out L (by rw [HLL.out]; exact List.mem_cons_of_mem _ (List.getElem_mem _)))
              go_wp2_with fail
              refine (int_n L HLB.out.1 HLB.out.2 _).mono ?_
              rintro e w1 ⟨b0, u0, k0, c0, u2, k2, c2, rfl, hq, hb⟩
              have hM1 := ((HM0.out.step hb).push hq).alloc #[.bool b0, .slice u0 k0 c0, .slice u2 k2 c2] 43
              have hsz : w.heap.size < w1.heap.size := (HM0.out.step hb).m.head_lt
              have HM1 := Lib.hid hM1
              have HD0 : Hid (ft ((z :: t).drop ((m : Int) - 1 + 1).toNat) = (L, 1)) := Lib.hid (by
                have hm := HML.out
                rw [show ((m : Int) - 1 + 1).toNat = (m - 1) + 1 by omega, List.drop_succ_cons, List.drop_eq_getElem_cons (by omega), ← HLL.out, show m - 1 + 1 = t.length by omega, List.drop_length, ft_cons]
                simp [ft])
              clear hb hq hM1 hcl hc0
              go_wp2
              go_loopw [7] (fun i wr => ∃ (j N D : Int) (b0 : Bool) (u0 : Option Addr) (k0 c0 : Nat) (u2 : Option Addr) (k2 c2 : Nat), -1 ≤ j ∧ j < (m : Int) ∧ i = .int .i64 j ∧ Hid (ft ((z :: t).drop (j + 1).toNat) = (N, D) ∧ 0 < D) ∧ Hid (MQ w [(w1.heap.size, #[.bool b0, .slice u0 k0 c0, .slice u2 k2 c2], 43), (w.heap.size, #[.int .i64 0, .int .i64 0], 23)] [(.agg #[.bool b0, .slice u0 k0 c0, .slice u2 k2 c2], qof N D)] wr)) (fun i _ => (intOf i + 1).toNat)
              case atStart => exact ⟨(m : Int) - 1, L, 1, b0, u0, k0, c0, u2, k2, c2, by omega, by omega, by congr 1; omega, Lib.hid ⟨HD0.out, by decide⟩, HM1⟩
              case round =>
                obtain ⟨j, N, D, b0, u0, k0, c0, u2, k2, c2, hj1, hj2, rfl, HFT, HR⟩ := hrel
                by_cases hj : 0 ≤ j
                · obtain ⟨k, rfl⟩ := Int.eq_ofNat_of_zero_le hj
                  have hk : k < (z :: t).length := by have := HML.out; simp only [List.length_cons]; omega
                  obtain ⟨g', off', hgo, hg', hc⟩ := (HF.out.mem HR.out.m).at_ hk
                  simp only [Option.some.injEq, Addr.mk.injEq, and_true] at hgo
                  obtain ⟨rfl, rfl⟩ := hgo
                  obtain ⟨x, hx⟩ : ∃ n, n = (z :: t)[k] := ⟨_, rfl⟩
                  rw [← hx] at hc
                  have HX := Lib.hid hx
                  have HXX := Lib.hid (HWF.out _ (List.getElem_mem hk))
                  rw [← HX.out] at HXX
                  have HFT' : Hid (ft ((z :: t).drop (k + 1)) = (N, D) ∧ 0 < D) := HFT
                  have HNP : Hid (0 < N) := Lib.hid (by
                    have := (ft_pos _ (drop_pos HTL.out.2.1 (k := k + 1) (by omega))).1
                    rw [HFT'.out.1] at this
                    simp only at this
                    omega)
                  have HLN : Hid (LenQ (qof N D) 200 ∧ LenQ (qof D N) 200) := Lib.hid (by
                    have h6 := H64.out
                    have hb := ft_big (l := (z :: t).drop (k + 1)) (fun b hb => HWF.out b (List.mem_of_mem_drop hb)) (by rw [List.length_drop]; omega)
                    rw [HFT'.out.1] at hb
                    exact ⟨lenQ_big HFT'.out.2 hb.1 hb.2, lenQ_big HNP.out hb.2 hb.1⟩)
                  have HNX : Hid (ft ((z :: t).drop k) = (x * N + D, N)) := Lib.hid (by
                    rw [List.drop_eq_getElem_cons hk, ft_cons, HFT'.out.1, ← HX.out])
                  have HKZ : Hid (((k : Int) - 1 + 1).toNat = k) := Lib.hid (by omega)
                  have HINV := Lib.hid (fun x y w h g => inv_big x y N D HNP.out HFT'.out.2 HLN.out.1 w h g)
                  have HPL := Lib.hid (fun p q w h g => plus_big p q x D N (x * N + D) HNP.out rfl HXX.out HLN.out.2 w h g)
                  have hkm : (k : Int) ≤ (m : Int) := by omega
                  have hk0 : (0 : Int) ≤ (k : Int) := by omega
                  obtain ⟨q0, q1, q2, q3, q4, q5, q6⟩ := HR.out.m.c3
                  clear hx hj HFT hj1
                  go_wp2_with fail
                  first
                  | go_region_with (first
                      | (go_at_call 61; (with_reducible refine (int_n x HXX.out.1 HXX.out.2 _).mono ?_); rintro e v1 ⟨x0, x1, x2, x3, x4, x5, x6, rfl, hz1, hb1⟩; have hX1 := HR.out.drew.step hb1; obtain ⟨p0, p1, p2, p3, p4, p5, p6⟩ := hX1.m.c3)
                      | (go_at_call 61; (with_reducible refine (one_q _).mono ?_); rintro e v2 ⟨y0, y1, y2, y3, y4, y5, y6, rfl, hz2, hb2⟩; have hX2 := hX1.step hb2; obtain ⟨o0, o1, o2, o3, o4, o5, o6⟩ := hX2.m.c3)
                      | (go_at_call 42; (with_reducible refine (HINV.out _ _ _ hz2 hX2.q0).mono ?_); rintro e v3 ⟨z3, rfl, hz3, hb3⟩; have hX3 := hX2.step hb3; obtain ⟨l0, l1, l2, l3, l4, l5, l6⟩ := hX3.m.c3)
                      | (go_at_call 44; (with_reducible refine (HPL.out _ _ _ ((hz1.below hb2).below hb3) hz3).mono ?_); rintro e v4 ⟨r0, r1, r2, r3, r4, r5, r6, rfl, hz4, hb4⟩; have hX4 := hX3.step hb4; obtain ⟨i0, i1, i2, i3, i4, i5, i6⟩ := hX4.m.c3))
                  | fail
                  all_goals
                    go_wp2
                    go_roundw
                    case rel => exact ⟨(k : Int) - 1, x * N + D, N, r0, r1, r2, r3, r4, r5, r6, by omega, by omega, rfl, Lib.hid ⟨by rw [HKZ.out]; exact HNX.out, HNP.out⟩, Lib.hid (((hX4.push hz4).put3 _ _ _).sub (by simp))⟩
                    case measure => simp [intOf]
                · have hjm : j = -1 := by omega
                  subst hjm
                  have HFZ : Hid (ft (z :: t) = (N, D)) := Lib.hid (by have := HFT.out.1; simpa using this)
                  obtain ⟨q0, q1, q2, -, -, -, q6⟩ := HR.out.m.c3
                  have HRT := Lib.hid HR.out.tail
                  clear hj1 hj2
                  go_wp2_with fail
                  refine (answer_var _ _ _ HR.out.q0).mono ?_
                  rintro e w2 ⟨ra, rb, rc, rfl, HANS, hb⟩
                  have HR2 := Lib.hid (HRT.out.step hb)
                  clear hb q0 q1 q2 q6
                  obtain ⟨r0, r1, r2, r3, r4⟩ := HR2.out.m.c2
                  go_wp2
                  refine bodyPost_ret (v := .tuple #[.agg #[.int .i64 ra, .int .i64 rb], .int .i64 rc]) (by simp [results, Try.results49, go_sem, r0, r1]) rfl ⟨_, _, _, rfl, Lib.hid (by rw [HY.out, HFZ.out]; exact HANS.out), ?_⟩
                  exact (HR2.out.m.put2 _ _).b

end Go.Proofs.Ytjnfgjaiahnfgaa

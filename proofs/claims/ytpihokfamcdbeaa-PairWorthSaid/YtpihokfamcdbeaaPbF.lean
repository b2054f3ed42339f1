/- Pairs: the reference's Worth. -/
import Derived.Test.YtpihokfamcdbeaaPaW
import Derived.Test.YtpihokfamcdbeaaPbD
namespace Go.Proofs.Ytpihokfamcdbeaa
open Go.RowKit
set_option linter.unusedSimpArgs false
set_option linter.unusedVariables false

theorem ov_emptyI (w : World) : OV w 3 (.slice (some ⟨w.heap.size, 0, none⟩) 0 0) [] (w.alloc (.cells #[] 3)) := ⟨(Below.refl _ _).alloc (Nat.le_refl _) _, ⟨by simp, .inr ⟨w.heap.size, 0, #[], rfl, Nat.le_refl _, heap_alloc_new _ _, by simp, by unfold maxLen; omega, rfl, rfl⟩⟩⟩

set_option maxRecDepth 100000 in
set_option maxHeartbeats 6400000 in
theorem rfWorth_any (a a2 a3 a4 : Option Addr) (cap cap2 cap3 cap4 : Nat) (ls rs : List Gl) (x0 x1 x2 x3 y0 y1 y2 y3 : Int) (ps qs : List Int) (hl1 : (ls.length : Int) ≤ 9223372036854775807) (hl2 : (rs.length : Int) ≤ 9223372036854775807) (w : World) (hl : RecS w a ls) (hr : RecS w a2 rs) (hka : IntK w a3 ps) (hkb : IntK w a4 qs) :
    Calls Try.prog 32 #[.slice a ls.length cap, .slice a2 rs.length cap2, .agg #[.int .i64 x0, .int .i64 x1, .int .i64 x2, .int .i64 x3, .int .i64 y0, .int .i64 y1, .int .i64 y2, .int .i64 y3], .slice a3 ps.length cap3, .slice a4 qs.length cap4] w fun e w' => e = .returned (.tuple #[.int .i64 (wthE ls rs ((x0, x1, x2, x3), (y0, y1, y2, y3)) ps qs).1, .bool (wthE ls rs ((x0, x1, x2, x3), (y0, y1, y2, y3)) ps qs).2.1, .int .i64 (wthE ls rs ((x0, x1, x2, x3), (y0, y1, y2, y3)) ps qs).2.2]) ∧ Below w.heap.size w w' := by
  have HM := Lib.hid ((Mem.nil w).alloc_at (H := w.heap.size) rfl #[.int .i64 x0, .int .i64 x1, .int .i64 x2, .int .i64 x3, .int .i64 y0, .int .i64 y1, .int .i64 y2, .int .i64 y3] 25)
  have k0 := HM.out.cell 0
  have k1 := HM.out.cell 1
  have k2 := HM.out.cell 2
  have k3 := HM.out.cell 3
  have k4 := HM.out.cell 4
  have k5 := HM.out.cell 5
  have k6 := HM.out.cell 6
  have k7 := HM.out.cell 7
  simp at k0 k1 k2 k3 k4 k5 k6 k7
  obtain ⟨r0, r1, r2, hres⟩ : ∃ r0 r1 r2, wthE ls rs ((x0, x1, x2, x3), (y0, y1, y2, y3)) ps qs = (r0, r1, r2) := ⟨_, _, _, rfl⟩
  rw [hres]
  have HRES := Lib.hid hres
  clear hres
  have HG := Lib.hid (fun w' hb => qGood_any a a2 cap cap2 ls rs x0 x1 x2 x3 y0 y1 y2 y3 hl1 hl2 w' (hl.below (w' := w') hb) (hr.below hb))
  obtain ⟨g0, hg0⟩ : ∃ g0, g0 = (sidB ls && sidB rs && ruB ((x0, x1, x2, x3), (y0, y1, y2, y3))) := ⟨_, rfl⟩
  rw [← hg0] at HG
  cases g0 with
  | false =>
    have hres := HRES.out
    unfold wthE at hres
    rw [← hg0, if_neg (by simp)] at hres
    simp only [Prod.mk.injEq] at hres
    obtain ⟨rfl, rfl, rfl⟩ := hres
    clear hg0 hl hr hka hkb HRES
    go_enter Try.func32, Try.ntmps32
    go_wp2_with fail
    refine (HG.out _ HM.out.b).mono ?_
    rintro e w1 ⟨rfl, hb1⟩
    have HB1 := Lib.hid (HM.out.b.trans (hb1.mono HM.out.b.size))
    clear hb1 HM k0 k1 k2 k3 k4 k5 k6 k7
    go_wp2
    go_ret3
    exact ⟨rfl, HB1.out⟩
  | true =>
  have hg1 : (sidB ls = true ∧ sidB rs = true) ∧ ruB ((x0, x1, x2, x3), (y0, y1, y2, y3)) = true := by simpa using hg0.symm
  obtain ⟨⟨h1, h2⟩, h3⟩ := hg1
  have n1 : ls.length ≤ 32 := by unfold sidB at h1; simp at h1; omega
  have n2 : rs.length ≤ 32 := by unfold sidB at h2; simp at h2; omega
  have hC : ∀ i j, i < ls.length → j < rs.length → -1 ≤ cosT ls rs ((x0, x1, x2, x3), (y0, y1, y2, y3)) i j ∧ cosT ls rs ((x0, x1, x2, x3), (y0, y1, y2, y3)) i j ≤ 4000000 := fun i j hi hj => by
    have e : cosT ls rs ((x0, x1, x2, x3), (y0, y1, y2, y3)) i j = costB ls[i] rs[j] ((x0, x1, x2, x3), (y0, y1, y2, y3)) := by unfold cosT; simp [List.getD_eq_getElem?_getD, hi, hj]
    rw [e]
    have o1 : allB ls = true := by unfold sidB at h1; simp at h1; exact h1.2
    have o2 : allB rs = true := by unfold sidB at h2; simp at h2; exact h2.2
    exact costB_range (allB_iff.1 o1 i hi) (allB_iff.1 o2 j hj) h3
  have HTA := Lib.hid (fun w' hb => rTable_yes a a2 cap cap2 ls rs x0 x1 x2 x3 y0 y1 y2 y3 h1 h2 h3 w' (hl.below (w' := w') hb) (hr.below hb))
  have HKA := Lib.hid hka
  have HKB := Lib.hid hkb
  have hres := HRES.out
  unfold wthE at hres
  rw [← hg0, if_pos rfl] at hres
  obtain ⟨CF, hCF⟩ : ∃ z, z = cosT ls rs ((x0, x1, x2, x3), (y0, y1, y2, y3)) := ⟨_, rfl⟩
  rw [← hCF] at HTA hC hres
  have HCB := Lib.hid hC
  clear hCF hg0 h1 h2 h3 hl hr hka hkb hC HRES
  obtain ⟨L, hL⟩ : ∃ L, L = ls.length := ⟨_, rfl⟩
  obtain ⟨R, hR⟩ : ∃ R, R = rs.length := ⟨_, rfl⟩
  rw [← hL] at hres HTA HCB HG n1 hl1 ⊢
  rw [← hR] at hres HTA HCB HG n2 hl2 ⊢
  have HRS := Lib.hid hres
  clear hL hR hres
  go_enter Try.func32, Try.ntmps32
  go_wp2_with fail
  refine (HG.out _ HM.out.b).mono ?_
  rintro e w1 ⟨rfl, hb1⟩
  have HM1 := Lib.hid (HM.out.step hb1)
  clear hb1 HM HG k0 k1 k2 k3 k4 k5 k6 k7
  by_cases hla : ps.length = L
  · have t0 : ((ps.length : Int) != (L : Int)) = false := by simp; omega
    by_cases hlb : qs.length = R
    · have t1 : ((qs.length : Int) != (R : Int)) = false := by simp; omega
      have hres := HRS.out
      rw [if_pos ⟨hla, hlb⟩] at hres
      have HRS2 := Lib.hid hres
      have HLA := Lib.hid hla
      have HLB := Lib.hid hlb
      obtain ⟨v1, w5, hr1, ho1, -⟩ := append_ints (ov_emptyI w1) 38 a3 cap3 ps ((HKA.out.below HM1.out.b).below (ov_emptyI w1).b) (by simp; omega)
      obtain ⟨v2, w6, hr2, ho2, -⟩ := append_ints ho1 38 a4 cap4 qs ((HKB.out.below HM1.out.b).below ho1.b) (by simp; omega)
      obtain ⟨x, cx, rfl, hik⟩ := (show OV w1 3 v2 ((ps ++ qs).map (Value.int .i64)) w6 from by simpa using ho2).ints
      have HM6 := Lib.hid (HM1.out.step ho2.b)
      have HPA6 := Lib.hid ((HKA.out.below HM1.out.b).below ho2.b)
      have HPB6 := Lib.hid ((HKB.out.below HM1.out.b).below ho2.b)
      have HIK := Lib.hid hik
      have hz64 : (ps ++ qs).length ≤ 64 := by rw [List.length_append]; omega
      obtain ⟨zs, hzs⟩ : ∃ zs, zs = ps ++ qs := ⟨_, rfl⟩
      rw [← hzs] at HIK HRS2 hr2 hz64
      have HZS := Lib.hid hzs
      clear hres HRS hik hzs ho1 ho2 HM1 HKA HKB hla hlb
      go_wp2_with (at_builtin; first | refine Lib.wpList_append_run _ rfl _ _ _ _ rfl _ _ rfl rfl _ _ hr1 ?_ | refine Lib.wpList_append_run _ rfl _ _ _ _ rfl _ _ rfl rfl _ _ hr2 ?_)
      clear hr1 hr2 t0 t1
      go_loopg [13, 43] zs.length (fun gk s x wr => ∃ k : Nat, k + gk = zs.length ∧ x = .int .i64 k ∧ (∃ S : Int, s = .int .i64 S ∧ Hid (S = (zs.take k).sum) ∧ (0 ≤ S ∧ S ≤ 1000000000 * k)) ∧ Hid (∀ i (h : i < zs.length), i < k → 0 ≤ zs[i] ∧ zs[i] ≤ 1000000000) ∧ wr = w6)
      case atStart => exact ⟨0, by omega, rfl, ⟨0, rfl, Lib.hid rfl, by omega⟩, Lib.hid (fun i _ h => by omega), rfl⟩
      case round =>
        obtain ⟨k, hk, rfl, ⟨S, rfl, HS, hS1, hS2⟩, HP, rfl⟩ := hrel
        by_cases hlt : k < zs.length
        · obtain ⟨gk', rfl⟩ : ∃ m, gk = m + 1 := ⟨gk - 1, by omega⟩
          have hlt' : (k : Int) < zs.length := by omega
          have hk0 : (0 : Int) ≤ k := by omega
          obtain ⟨b, off, rfl, hb, d0⟩ := HIK.out.at_ hlt
          have hnx := take_sum hlt
          rw [← HS.out] at hnx
          have HBAD := Lib.hid (fun h => rng_bad (l := zs) hlt h)
          have HPN : Hid (0 ≤ zs[k] ∧ zs[k] ≤ 1000000000 → ∀ i (h : i < zs.length), i < k + 1 → 0 ≤ zs[i] ∧ zs[i] ≤ 1000000000) := Lib.hid (fun e i h hi => by
            by_cases hik : i = k
            · subst hik; exact e
            · exact HP.out i h (by omega))
          obtain ⟨v, hv⟩ : ∃ v, v = zs[k] := ⟨_, rfl⟩
          rw [← hv] at d0 hnx HBAD HPN
          clear hv
          by_cases hv0 : v < 0
          · have t2 : decide (v < 0) = true := decide_eq_true hv0
            have hres := HRS2.out
            rw [if_neg (by rw [HBAD.out (.inl hv0)]; simp)] at hres
            simp only [Prod.mk.injEq] at hres
            obtain ⟨rfl, rfl, rfl⟩ := hres
            clear HRS2 hnx
            go_wp2
            go_ret3
            exact ⟨rfl, HM6.out.b⟩
          · have t2 : decide (v < 0) = false := decide_eq_false hv0
            by_cases hv1 : 1000000000 < v
            · have t3 : decide (1000000000 < v) = true := decide_eq_true hv1
              have hres := HRS2.out
              rw [if_neg (by rw [HBAD.out (.inr hv1)]; simp)] at hres
              simp only [Prod.mk.injEq] at hres
              obtain ⟨rfl, rfl, rfl⟩ := hres
              clear HRS2 hnx
              go_wp2
              go_ret3
              exact ⟨rfl, HM6.out.b⟩
            · have t3 : decide (1000000000 < v) = false := decide_eq_false hv1
              have v1 : IntKind.i64.wrap (S + v) = S + v := IntWalk.i64_in _ (by omega)
              have HN := Lib.hid (HPN.out ⟨by omega, by omega⟩)
              have HSN := Lib.hid hnx.symm
              have hbd : 0 ≤ S + v ∧ S + v ≤ 1000000000 * (k + 1 : Nat) := by omega
              have HBD := Lib.hid hbd
              have hk64 : (k : Int) + 1 ≤ 65 := by omega
              clear hnx
              go_wp2
              go_roundg gk'
              case measure => exact Nat.lt_succ_self _
              case rel => exact ⟨k + 1, by omega, by go_num, ⟨S + v, rfl, HSN, HBD.out⟩, HN, rfl⟩
        · obtain rfl : k = zs.length := by omega
          have hall : zs.all (fun x => decide (0 ≤ x) && decide (x ≤ 1000000000)) = true := by
            rw [List.all_eq_true]
            intro x hx
            obtain ⟨i, hi, rfl⟩ := List.mem_iff_getElem.1 hx
            have := HP.out i hi hi
            simp
            omega
          have hres := HRS2.out
          rw [if_pos hall] at hres
          have hsum : S = zs.sum := by have := HS.out; rwa [List.take_length] at this
          rw [← hsum] at hres
          have HRG : Hid ((∀ i, i < L → 0 ≤ ps.getD i 0 ∧ ps.getD i 0 ≤ 1000000000) ∧ ∀ j, j < R → 0 ≤ qs.getD j 0 ∧ qs.getD j 0 ≤ 1000000000) := Lib.hid (by
            have hr : ∀ x, x ∈ ps ++ qs → 0 ≤ x ∧ x ≤ 1000000000 := fun x hx => by rw [← HZS.out] at hx; simpa using List.all_eq_true.1 hall x hx
            have e1 := HLA.out
            have e2 := HLB.out
            refine ⟨fun i hi => ?_, fun j hj => ?_⟩
            · rw [List.getD_eq_getElem?_getD, List.getElem?_eq_getElem (by omega)]
              exact hr _ (List.mem_append_left _ (List.getElem_mem _))
            · rw [List.getD_eq_getElem?_getD, List.getElem?_eq_getElem (by omega)]
              exact hr _ (List.mem_append_right _ (List.getElem_mem _)))
          have HR3 := Lib.hid hres
          have k0 := HM6.out.cell 0
          have k1 := HM6.out.cell 1
          have k2 := HM6.out.cell 2
          have k3 := HM6.out.cell 3
          have k4 := HM6.out.cell 4
          have k5 := HM6.out.cell 5
          have k6 := HM6.out.cell 6
          have k7 := HM6.out.cell 7
          simp at k0 k1 k2 k3 k4 k5 k6 k7
          clear hall hres hsum HRS2 HP HS HIK HZS
          go_wp2_with fail
          refine (HTA.out _ HM6.out.b).mono ?_
          rintro e w7 ⟨xt, ct, rfl, ht, hb7⟩
          have HT := Lib.hid ht
          have HB7 := Lib.hid (HM6.out.b.trans (hb7.mono HM6.out.b.size))
          have HPA := Lib.hid (HPA6.out.below hb7)
          have HPB := Lib.hid (HPB6.out.below hb7)
          clear ht hb7 HM6 HPA6 HPB6 HTA k0 k1 k2 k3 k4 k5 k6 k7
          go_wp2_with fail
          go_loopg [62] L (fun gk x wr => ∃ k : Nat, k + gk = L ∧ x = .int .i64 k ∧ Hid (∀ i j, i < k → j < R → CF i j ≠ -1 → 0 ≤ ps.getD i 0 + qs.getD j 0 + CF i j - 1000000000) ∧ Hid (Below w7.heap.size w7 wr))
          case atStart => exact ⟨0, by omega, rfl, Lib.hid (fun i j hi => by omega), Lib.hid (Below.refl _ _)⟩
          case round =>
            obtain ⟨i, hi, rfl, HPI, HI⟩ := hrel
            by_cases hlt : i < L
            · obtain ⟨gk', rfl⟩ : ∃ m, gk = m + 1 := ⟨gk - 1, by omega⟩
              have hlt' : (i : Int) < L := by omega
              have hi0 : (0 : Int) ≤ i := by omega
              obtain ⟨B, mi, rfl, m1, f1, m2, hd⟩ := HT.out i hlt
              have HD := Lib.hid hd
              have HMI := Lib.hid m2
              have f1' := (HI.out.cell (p := ⟨B, i, none⟩) m1).trans f1
              have l1 := Nat.lt_of_lt_of_le m1 HI.out.size
              clear hd m1 m2 f1
              go_wp2_with fail
              clear f1' l1
              go_loopg [69] R (fun gj x wr => ∃ y : Nat, y + gj = R ∧ x = .int .i64 y ∧ Hid (∀ j, j < y → CF i j ≠ -1 → 0 ≤ ps.getD i 0 + qs.getD j 0 + CF i j - 1000000000) ∧ Hid (Below w7.heap.size w7 wr))
              case atStart => exact ⟨0, by omega, rfl, Lib.hid (fun j hj => by omega), HI⟩
              case round =>
                obtain ⟨y, hy, rfl, HPJ, HJ⟩ := hrel
                by_cases hly : y < R
                · obtain ⟨gj', rfl⟩ : ∃ m, gk = m + 1 := ⟨gk - 1, by omega⟩
                  have hly' : (y : Int) < R := by omega
                  have hy0 : (0 : Int) ≤ y := by omega
                  have d2 := (HJ.out.cell (p := ⟨mi, y, none⟩) HMI.out).trans (HD.out y hly)
                  have l2 := Nat.lt_of_lt_of_le HMI.out HJ.out.size
                  have hcb := HCB.out i y hlt hly
                  have HPN : Hid ((CF i y ≠ -1 → 0 ≤ ps.getD i 0 + qs.getD y 0 + CF i y - 1000000000) → ∀ j, j < y + 1 → CF i j ≠ -1 → 0 ≤ ps.getD i 0 + qs.getD j 0 + CF i j - 1000000000) := Lib.hid (fun h j hj hc => by
                    by_cases e : j = y
                    · subst e; exact h hc
                    · exact HPJ.out j (by omega) hc)
                  have HBADP : Hid (CF i y ≠ -1 → ps.getD i 0 + qs.getD y 0 + CF i y - 1000000000 < 0 → prfB CF L R (fun i => ps.getD i 0) (fun j => qs.getD j 0) = false) := Lib.hid (fun hc h => by
                    cases e : prfB CF L R (fun i => ps.getD i 0) (fun j => qs.getD j 0) with
                    | false => rfl
                    | true => have := prfB_iff.1 e i y hlt hly hc; omega)
                  have HJD := Lib.hid HJ.out.drew
                  obtain ⟨q, hq⟩ : ∃ q, q = ps.getD i 0 + qs.getD y 0 + CF i y - 1000000000 := ⟨_, rfl⟩
                  rw [← hq] at HPN HBADP
                  obtain ⟨c, hc⟩ : ∃ c, c = CF i y := ⟨_, rfl⟩
                  rw [← hc] at d2 hcb HPN HBADP hq
                  clear hc
                  by_cases hc0 : 0 ≤ c
                  · have t4 : decide (0 ≤ c) = true := decide_eq_true hc0
                    have e1 := HLA.out
                    have e2 := HLB.out
                    obtain ⟨ba, oa, rfl, hba, da⟩ := (HPA.out.below HJ.out).at_ (k := i) (by omega)
                    obtain ⟨bb, ob, rfl, hbb, db⟩ := (HPB.out.below HJ.out).at_ (k := y) (by omega)
                    have i1 : (i : Int) < ps.length := by omega
                    have i2 : (y : Int) < qs.length := by omega
                    have ga : ps.getD i 0 = ps[i]'(by omega) := by rw [List.getD_eq_getElem?_getD, List.getElem?_eq_getElem (by omega)]; rfl
                    have gb : qs.getD y 0 = qs[y]'(by omega) := by rw [List.getD_eq_getElem?_getD, List.getElem?_eq_getElem (by omega)]; rfl
                    rw [← ga] at da
                    rw [← gb] at db
                    have ra := HRG.out.1 i hlt
                    have rb := HRG.out.2 y hly
                    obtain ⟨av, hav⟩ : ∃ z, z = ps.getD i 0 := ⟨_, rfl⟩
                    obtain ⟨bv, hbv⟩ : ∃ z, z = qs.getD y 0 := ⟨_, rfl⟩
                    rw [← hav] at da ra hq
                    rw [← hbv] at db rb hq
                    clear hav hbv ga gb e1 e2
                    obtain ⟨s1, hs1⟩ : ∃ z, z = av + bv := ⟨_, rfl⟩
                    have u1 : IntKind.i64.wrap (av + bv) = s1 := by rw [hs1]; exact IntWalk.i64_in _ (by omega)
                    obtain ⟨s2, hs2⟩ : ∃ z, z = 1000000000 - c := ⟨_, rfl⟩
                    have u2 : IntKind.i64.wrap (1000000000 - c) = s2 := by rw [hs2]; exact IntWalk.i64_in _ (by omega)
                    by_cases hs : s1 < s2
                    · have t5 : decide (s1 < s2) = true := decide_eq_true hs
                      have hres := HR3.out
                      rw [if_neg (by rw [HBADP.out (by omega) (by omega)]; simp)] at hres
                      simp only [Prod.mk.injEq] at hres
                      obtain ⟨rfl, rfl, rfl⟩ := hres
                      have HE := Lib.hid (HB7.out.trans (HJD.out.mono HB7.out.size))
                      clear HR3 HPN HBADP hs1 hs2 hs hcb hq
                      go_upto_region 19 with fail
                      go_region_held3 (fun w' => w'.cell? ⟨ba, oa + i, none⟩ = some (.int .i64 av) ∧ w'.cell? ⟨bb, ob + y, none⟩ = some (.int .i64 bv))
                        (first | (simp only [World.cell?_drew]; exact ⟨da, db⟩) | fail) (fail)
                      go_wp2
                      go_ret3
                      exact ⟨rfl, HE.out⟩
                    · have t5 : decide (s1 < s2) = false := decide_eq_false hs
                      have HN := Lib.hid (HPN.out (fun _ => by omega))
                      clear HPN HBADP hs1 hs2 hs hcb hq
                      go_upto_region 19 with fail
                      go_region_held3 (fun w' => w'.cell? ⟨ba, oa + i, none⟩ = some (.int .i64 av) ∧ w'.cell? ⟨bb, ob + y, none⟩ = some (.int .i64 bv))
                        (first | (simp only [World.cell?_drew]; exact ⟨da, db⟩) | fail) (fail)
                      go_wp2
                      go_roundg gj'
                      case measure => exact Nat.lt_succ_self _
                      case rel => exact ⟨y + 1, by omega, by go_num, HN, HJD⟩
                  · have t4 : decide (0 ≤ c) = false := decide_eq_false hc0
                    have HN := Lib.hid (HPN.out (fun h => absurd (by omega) h))
                    clear HPN HBADP hcb hc0 hq
                    go_upto_region 19 with fail
                    go_quiet (fail)
                    go_wp2
                    go_roundg gj'
                    case measure => exact Nat.lt_succ_self _
                    case rel => exact ⟨y + 1, by omega, by go_num, HN, Lib.hid ⟨HJ.out.os, HJ.out.tape, HJ.out.output, HJ.out.size, HJ.out.block⟩⟩
                · obtain ⟨rfl, rfl⟩ : gk = 0 ∧ y = R := by omega
                  have HN : Hid (∀ k j, k < i + 1 → j < y → CF k j ≠ -1 → 0 ≤ ps.getD k 0 + qs.getD j 0 + CF k j - 1000000000) := Lib.hid (fun k j hk hj hc => by
                    by_cases e : k = i
                    · subst e; exact HPJ.out j hj hc
                    · exact HPI.out k j (by omega) hj hc)
                  go_wp2
                  go_roundg gk'
                  case measure => exact Nat.lt_succ_self _
                  case rel => exact ⟨i + 1, by omega, by go_num, HN, HJ⟩
            · obtain ⟨rfl, rfl⟩ : gk = 0 ∧ i = L := by omega
              have hres := HR3.out
              rw [if_pos (prfB_iff.2 (fun k j hk hj hc => HPI.out k j hk hj hc))] at hres
              simp only [Prod.mk.injEq] at hres
              obtain ⟨rfl, rfl, rfl⟩ := hres
              have HE := Lib.hid (HB7.out.trans (HI.out.mono HB7.out.size))
              clear HR3
              go_wp2
              go_ret3
              exact ⟨rfl, HE.out⟩
    · have t1 : ((qs.length : Int) != (R : Int)) = true := by simp; omega
      have hres := HRS.out
      rw [if_neg (fun h => hlb h.2)] at hres
      simp only [Prod.mk.injEq] at hres
      obtain ⟨rfl, rfl, rfl⟩ := hres
      clear HRS hla hlb
      go_wp2
      go_ret3
      exact ⟨rfl, HM1.out.b⟩
  · have t0 : ((ps.length : Int) != (L : Int)) = true := by simp; omega
    have hres := HRS.out
    rw [if_neg (fun h => hla h.1)] at hres
    simp only [Prod.mk.injEq] at hres
    obtain ⟨rfl, rfl, rfl⟩ := hres
    clear HRS hla
    go_wp2
    go_ret3
    exact ⟨rfl, HM1.out.b⟩

end Go.Proofs.Ytpihokfamcdbeaa

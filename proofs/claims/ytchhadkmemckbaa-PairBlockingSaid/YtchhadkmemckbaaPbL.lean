/- Pairs: the reference's Blocking. -/
import Derived.Test.YtchhadkmemckbaaPbJ
import Derived.Test.YtchhadkmemckbaaPbK
namespace Go.Proofs.Ytchhadkmemckbaa
open Go.RowKit
set_option linter.unusedSimpArgs false
set_option linter.unusedVariables false

theorem bloE_err {ls rs : List Gl} {u : Ru} {m : List Int} (h : (wghE ls rs u m).2.2 ≠ 0) : bloE ls rs u m = ([], (wghE ls rs u m).2.2) := by
  unfold bloE
  unfold wghE at h ⊢
  split
  · rename_i h0
    rw [if_pos h0] at h
    split
    · rename_i h1
      rw [if_pos h1] at h
      split
      · rename_i o s c he
        rw [he] at h
        exact absurd rfl h
      · rename_i he
        rw [he]
    · rfl
  · rfl
theorem bloE_ok {ls rs : List Gl} {u : Ru} {m : List Int} (h : (wghE ls rs u m).2.2 = 0) : sidB ls = true ∧ sidB rs = true ∧ ruB u = true ∧ m.length = ls.length ∧ ∃ o s c, wgF (cosT ls rs u) rs.length m 0 (fun _ => -1) 0 0 = some (o, s, c) ∧ bloE ls rs u m = (pal (blkB (cosT ls rs u) m o) rs.length ls.length, 0) := by
  unfold wghE at h
  split at h
  · rename_i h0
    split at h
    · rename_i h1
      split at h
      · rename_i o s c he
        simp only [Bool.and_eq_true] at h0
        refine ⟨h0.1.1, h0.1.2, h0.2, h1, o, s, c, he, ?_⟩
        unfold bloE
        rw [if_pos (by simp [h0]), if_pos h1, he]
      · cases h
    · cases h
  · cases h
/-- The partner found among the first q left gloves. -/
def prt (ov : Int) (q : Nat) : Int := if 0 ≤ ov ∧ ov < q then ov else -1

set_option maxRecDepth 100000 in
set_option maxHeartbeats 6400000 in
theorem rBlocking_any (a a2 a3 : Option Addr) (cap cap2 cap3 : Nat) (ls rs : List Gl) (x0 x1 x2 x3 y0 y1 y2 y3 : Int) (m : List Int) (hl1 : (ls.length : Int) ≤ 9223372036854775807) (hl2 : (rs.length : Int) ≤ 9223372036854775807) (w : World) (hl : RecS w a ls) (hr : RecS w a2 rs) (hk : IntK w a3 m) :
    Calls Try.prog 40 #[.slice a ls.length cap, .slice a2 rs.length cap2, .agg #[.int .i64 x0, .int .i64 x1, .int .i64 x2, .int .i64 x3, .int .i64 y0, .int .i64 y1, .int .i64 y2, .int .i64 y3], .slice a3 m.length cap3] w fun e w' => ∃ z c, e = .returned (.tuple #[.slice z (bloE ls rs ((x0, x1, x2, x3), (y0, y1, y2, y3)) m).1.length c, .int .i64 (bloE ls rs ((x0, x1, x2, x3), (y0, y1, y2, y3)) m).2]) ∧ PtS w' z (bloE ls rs ((x0, x1, x2, x3), (y0, y1, y2, y3)) m).1 ∧ Below w.heap.size w w' := by
  obtain ⟨i0, hi, hz0, hz1, hz2⟩ := info_parts infoPt
  have HI0 := Lib.hid (And.intro hi (And.intro hz0 (And.intro hz1 hz2)))
  clear hi hz0 hz1 hz2
  have HM := Lib.hid ((Mem.nil w).alloc_at (H := w.heap.size) rfl #[.int .i64 x0, .int .i64 x1, .int .i64 x2, .int .i64 x3, .int .i64 y0, .int .i64 y1, .int .i64 y2, .int .i64 y3] 25)
  have k0 := HM.out.cell 0
  have k1 := HM.out.cell 1
  have k2 := HM.out.cell 2
  have k3 := HM.out.cell 3
  have k4 := HM.out.cell 4
  have k5 := HM.out.cell 5
  have k6 := HM.out.cell 6
  have k7 := HM.out.cell 7
  simp at k0 k1 k2 k3 k4 k5 k6 k7
  have HRW := Lib.hid (fun w' (hb : Below w.heap.size w w') => rWeigh_any a a2 a3 cap cap2 cap3 ls rs x0 x1 x2 x3 y0 y1 y2 y3 m hl1 hl2 w' (hl.below hb) (hr.below hb) (hk.below hb))
  by_cases hw : (wghE ls rs ((x0, x1, x2, x3), (y0, y1, y2, y3)) m).2.2 = 0
  · obtain ⟨h1, h2, h3, hlen, o, s, c, hwg, hE⟩ := bloE_ok hw
    rw [hE]
    obtain ⟨r0, r1, r2, hres⟩ : ∃ r0 r1 r2, wghE ls rs ((x0, x1, x2, x3), (y0, y1, y2, y3)) m = (r0, r1, r2) := ⟨_, _, _, rfl⟩
    rw [hres] at HRW hw
    simp only at HRW hw
    subst hw
    have n1 : ls.length ≤ 32 := by unfold sidB at h1; simp at h1; omega
    have n2 : rs.length ≤ 32 := by unfold sidB at h2; simp at h2; omega
    have hC : ∀ i j, i < ls.length → j < rs.length → -1 ≤ cosT ls rs ((x0, x1, x2, x3), (y0, y1, y2, y3)) i j := fun i j hi hj => by
      have e : cosT ls rs ((x0, x1, x2, x3), (y0, y1, y2, y3)) i j = costB ls[i] rs[j] ((x0, x1, x2, x3), (y0, y1, y2, y3)) := by unfold cosT; simp [List.getD_eq_getElem?_getD, hi, hj]
      rw [e]
      have o1 : allB ls = true := by unfold sidB at h1; simp at h1; exact h1.2
      have o2 : allB rs = true := by unfold sidB at h2; simp at h2; exact h2.2
      exact (costB_range (allB_iff.1 o1 i hi) (allB_iff.1 o2 j hj) h3).1
    have HTA := Lib.hid (fun w' hb => rTable_yes a a2 cap cap2 ls rs x0 x1 x2 x3 y0 y1 y2 y3 h1 h2 h3 w' (hl.below (w' := w') hb) (hr.below hb))
    have HKK := Lib.hid (fun w' hb => hk.below (w' := w') hb)
    obtain ⟨CF, hCF⟩ : ∃ z, z = cosT ls rs ((x0, x1, x2, x3), (y0, y1, y2, y3)) := ⟨_, rfl⟩
    rw [← hCF] at HTA hwg hC ⊢
    have HWB := Lib.hid (wg_both hwg)
    have HCB := Lib.hid hC
    have HLE := Lib.hid hlen
    obtain ⟨B, hB⟩ : ∃ z, z = blkB CF m o := ⟨_, rfl⟩
    have HB := Lib.hid (fun i j => congrFun (congrFun hB i) j)
    rw [← hB]
    clear hCF hE hres h1 h2 h3 hl hr hk hlen hwg hC hB
    go_enter Try.func40, Try.ntmps40
    go_wp2_with fail
    refine (HRW.out _ HM.out.b).mono ?_
    rintro e w1 ⟨rfl, hb1⟩
    have HM1 := Lib.hid (HM.out.step hb1)
    clear hb1 HM k0 k1 k2 k3 k4 k5 k6 k7 HRW
    have k0 := HM1.out.cell 0
    have k1 := HM1.out.cell 1
    have k2 := HM1.out.cell 2
    have k3 := HM1.out.cell 3
    have k4 := HM1.out.cell 4
    have k5 := HM1.out.cell 5
    have k6 := HM1.out.cell 6
    have k7 := HM1.out.cell 7
    simp at k0 k1 k2 k3 k4 k5 k6 k7
    go_wp2_with fail
    refine (HTA.out _ HM1.out.b).mono ?_
    rintro e w2 ⟨xt, cx, rfl, ht, hb2⟩
    have HT := Lib.hid ht
    have HB2 := Lib.hid (HM1.out.b.trans (hb2.mono HM1.out.b.size))
    have HK2 := Lib.hid (HKK.out _ HB2.out)
    have HS0 : Hid (PTV w2 (.slice none 0 0) (pal B rs.length 0) w2) := Lib.hid (PTV.start w2)
    clear ht hb2 HM1 k0 k1 k2 k3 k4 k5 k6 k7 HTA HKK
    go_wp2_with fail
    go_loopg [14, 38] ls.length (fun gk v x wr => ∃ i : Nat, i + gk = ls.length ∧ x = .int .i64 i ∧ Hid (PTV w2 v (pal B rs.length i) wr))
    case atStart => exact ⟨0, by omega, rfl, HS0⟩
    case round =>
      obtain ⟨i, hik, rfl, HI⟩ := hrel
      by_cases hi : i < ls.length
      · obtain ⟨gk', rfl⟩ : ∃ m, gk = m + 1 := ⟨gk - 1, by omega⟩
        have hi' : (i : Int) < ls.length := by omega
        have hi0 : (0 : Int) ≤ i := by omega
        have HIS : Hid (PTV w2 u14 (pal B rs.length i ++ prw B i 0) wr) := Lib.hid (by rw [show prw B i 0 = [] from rfl, List.append_nil]; exact HI.out)
        clear HI
        go_wp2_with fail
        go_loopg [14, 43] rs.length (fun gl v x wr => ∃ j : Nat, j + gl = rs.length ∧ x = .int .i64 j ∧ Hid (PTV w2 v (pal B rs.length i ++ prw B i j) wr))
        case atStart => exact ⟨0, by omega, rfl, HIS⟩
        case round =>
          obtain ⟨j, hjk, rfl, HJ⟩ := hrel
          by_cases hj : j < rs.length
          · obtain ⟨gl', rfl⟩ : ∃ m, gk = m + 1 := ⟨gk - 1, by omega⟩
            have hj' : (j : Int) < rs.length := by omega
            have hj0 : (0 : Int) ≤ j := by omega
            obtain ⟨wz, hwz⟩ : ∃ z, z = wr := ⟨_, rfl⟩
            have HW := Lib.hid HJ.out.b
            have him : i < m.length := by have := HLE.out; omega
            have him' : (i : Int) < m.length := by omega
            obtain ⟨b3, off3, rfl, hb3, -⟩ := (HK2.out.below HW.out).at_ him
            have HMC : Hid (∀ q, q < m.length → wr.cell? ⟨b3, off3 + q, none⟩ = some (.int .i64 (m.getD q 0))) := Lib.hid (fun q hq => by
              obtain ⟨b', off', hab', hb', d'⟩ := (HK2.out.below HW.out).at_ hq
              simp only [Option.some.injEq, Addr.mk.injEq, and_true] at hab'
              obtain ⟨rfl, rfl⟩ := hab'
              rw [d', List.getD_eq_getElem?_getD, List.getElem?_eq_getElem hq]
              rfl)
            obtain ⟨ov, hov⟩ : ∃ z, z = o j := ⟨_, rfl⟩
            have HOV := Lib.hid hov
            have hok2 : ov = -1 ∨ (0 ≤ ov ∧ ov < ls.length) := by
              have hle := HLE.out
              rcases HWB.out.2 j with h | ⟨h3, h4, -⟩
              · exact .inl (by rw [hov]; exact h)
              · exact .inr ⟨by rw [hov]; exact h3, by rw [hov]; omega⟩
            have HOK2 := Lib.hid hok2
            have hmb : m.length ≤ 32 := by have := HLE.out; omega
            clear hov hok2 him'
            go_wp2_with fail
            go_loopg [17, 48] m.length (fun gm s x wq => ∃ q : Nat, q + gm = m.length ∧ x = .int .i64 q ∧ (∃ pv : Int, s = .int .i64 pv ∧ Hid (pv = prt ov q)) ∧ wq = wr)
            case atStart => exact ⟨0, by omega, rfl, ⟨-1, rfl, Lib.hid (by unfold prt; rw [if_neg (by omega)])⟩, rfl⟩
            case round =>
              obtain ⟨q, hqk, rfl, ⟨pv, rfl, HP⟩, rfl⟩ := hrel
              by_cases hq : q < m.length
              · obtain ⟨gm', rfl⟩ : ∃ m, gk = m + 1 := ⟨gk - 1, by omega⟩
                have hq' : (q : Int) < m.length := by omega
                have hq0 : (0 : Int) ≤ q := by omega
                have d3 := HMC.out q hq
                have hmq := HWB.out.1 q hq
                have hoj := HWB.out.2 j
                rw [← HOV.out] at hoj
                have hpv := HP.out
                unfold prt at hpv
                by_cases he : m.getD q 0 = j
                · have t0 : (m.getD q 0 == (j : Int)) = true := by simpa using he
                  have hoq : ov = q := by
                    rcases hmq with h | ⟨-, -, -, h⟩
                    · omega
                    · rw [he, Int.toNat_natCast] at h; rw [HOV.out]; exact h
                  have HN : Hid ((q : Int) = prt ov (q + 1)) := Lib.hid (by unfold prt; rw [if_pos (by omega)]; omega)
                  obtain ⟨mq, hmq2⟩ : ∃ z, z = m.getD q 0 := ⟨_, rfl⟩
                  rw [← hmq2] at d3 t0
                  clear hmq hoj hpv he hoq hmq2 HP
                  go_wp2
                  go_roundg gm'
                  case measure => exact Nat.lt_succ_self _
                  case rel => exact ⟨q + 1, by omega, by go_num, ⟨_, rfl, HN⟩, rfl⟩
                · have t0 : (m.getD q 0 == (j : Int)) = false := by simpa using he
                  have hoq : ov ≠ q := by
                    rintro rfl
                    rcases hoj with h | ⟨-, -, h⟩
                    · omega
                    · rw [Int.toNat_natCast] at h; exact he h
                  have HN : Hid (pv = prt ov (q + 1)) := Lib.hid (by
                    rw [hpv]; unfold prt
                    by_cases h : 0 ≤ ov ∧ ov < q
                    · rw [if_pos h, if_pos (by omega)]
                    · rw [if_neg h, if_neg (by omega)])
                  obtain ⟨mq, hmq2⟩ : ∃ z, z = m.getD q 0 := ⟨_, rfl⟩
                  rw [← hmq2] at d3 t0
                  clear hmq hoj hpv he hoq hmq2 HP
                  go_wp2
                  go_roundg gm'
                  case measure => exact Nat.lt_succ_self _
                  case rel => exact ⟨q + 1, by omega, by go_num, ⟨_, rfl, HN⟩, rfl⟩
              · obtain ⟨rfl, rfl⟩ : gk = 0 ∧ q = m.length := by omega
                have hok2 := HOK2.out
                have hpo : pv = ov := by
                  rw [HP.out]; unfold prt
                  have hle := HLE.out
                  rcases hok2 with h | h
                  · rw [if_neg (by omega)]; omega
                  · rw [if_pos (by omega)]
                subst hpo
                have hmk := HWB.out.1 i him
                have d3 := HMC.out i him
                have hbij : B i j = (CF i j != -1 && (pfr (CF i) j (m.getD i 0) && pfr (fun a => CF a j) i pv)) := by rw [HB.out i j, HOV.out]; rfl
                obtain ⟨mv, hmv⟩ : ∃ z, z = m.getD i 0 := ⟨_, rfl⟩
                rw [← hmv] at hmk d3 hbij
                obtain ⟨Bt, mr, rfl, l1, d1, l2, hd⟩ := (HT.out.below HJ.out.b) i hi
                have HS : Hid (∀ w', Below wr.heap.size wr w' → w'.cell? ⟨b3, off3 + i, none⟩ = some (.int .i64 mv) ∧ w'.cell? ⟨Bt, i, none⟩ = some (.slice (some ⟨mr, 0, none⟩) rs.length rs.length)) := Lib.hid (fun w' hb => ⟨(hb.cell (p := ⟨b3, off3 + i, none⟩) hb3).trans d3, (hb.cell (p := ⟨Bt, i, none⟩) l1).trans d1⟩)
                have hmk2 : mv = -1 ∨ (0 ≤ mv ∧ mv < rs.length) := by
                  rcases hmk with h | ⟨h3, h4, -⟩
                  · exact .inl h
                  · exact .inr ⟨h3, h4⟩
                have hq1 : rthB (CF i) j mv = (CF i j != -1 && pfr (CF i) j mv) := rth_pfr (R := rs.length) (HCB.out i j hi hj) (by
                  rcases hmk with h | ⟨h3, h4, h5, -⟩
                  · exact .inl h
                  · exact .inr ⟨h3, h4, HCB.out i _ hi (by omega), h5⟩)
                have hq2 : rthB (fun a => CF a j) i pv = (CF i j != -1 && pfr (fun a => CF a j) i pv) := rth_pfr (R := ls.length) (HCB.out i j hi hj) (by
                  rcases HWB.out.2 j with h | ⟨h3, h4, h5⟩
                  · exact .inl (by rw [HOV.out]; exact h)
                  · have hle := HLE.out
                    rw [← HOV.out] at h3 h4 h5
                    refine .inr ⟨h3, by omega, HCB.out _ j (by omega) hj, ?_⟩
                    rcases HWB.out.1 pv.toNat (by omega) with h | ⟨-, -, h6, -⟩
                    · omega
                    · rw [h5, Int.toNat_natCast] at h6; exact h6)
                have HRA := Lib.hid (fun w' (hb : Below wr.heap.size wr w') => rather_any (some ⟨mr, 0, none⟩) rs.length rs.length (CF i) (by omega) j hj mv hmk2 w' (fun q hq => ⟨mr, rfl, Nat.lt_of_lt_of_le l2 hb.size, (hb.cell (p := ⟨mr, q, none⟩) l2).trans (hd q hq)⟩))
                have HCO := Lib.hid (fun w' (hb : Below wr.heap.size wr w') => column_any (some ⟨Bt, 0, none⟩) cx ls.length rs.length (by omega) (by omega) CF j hj w' ((HT.out.below HJ.out.b).below hb))
                have him' : (i : Int) < m.length := by omega
                rw [hq1] at HRA
                obtain ⟨z, hz⟩ : ∃ z, z = (CF i j != -1) := ⟨_, rfl⟩
                obtain ⟨q1, hqq1⟩ : ∃ z, z = pfr (CF i) j mv := ⟨_, rfl⟩
                obtain ⟨q2, hqq2⟩ : ∃ z, z = pfr (fun a => CF a j) i pv := ⟨_, rfl⟩
                rw [← hz, ← hqq1] at HRA hbij
                rw [← hqq2] at hbij
                rw [← hz, ← hqq2] at hq2
                have HNX : Hid (prw B i (j + 1) = if (z && (q1 && q2)) then prw B i j ++ [(i, j)] else prw B i j) := Lib.hid (by rw [prw, hbij])
                have hself : mv = j → q1 = false := fun e => by
                  rw [hqq1, e]; unfold pfr
                  rw [Int.toNat_natCast]
                  simp
                obtain ⟨ov, hov⟩ : ∃ z, z = pv := ⟨_, rfl⟩
                rw [← hov] at hq2 hok2 ⊢
                obtain ⟨wz, hwz⟩ : ∃ z, z = wr := ⟨_, rfl⟩
                rw [← hwz] at HS HRA HCO HJ ⊢
                clear HP HOK2 hmk d3 d1 l1 l2 hd hmk2 hq1 hz hqq1 hqq2 hbij hmv hov hwz hb3 HW HMC
                obtain ⟨r, hr⟩ : ∃ r, r = (z && (q1 && q2)) := ⟨_, rfl⟩
                rw [← hr] at HNX
                have HR := Lib.hid hr
                clear hr
                go_upto_region 19 with fail
                go_cut [83] (fun s83 wx => s83 = .bool r ∧ Hid (Below wz.heap.size wz wx))
                case first =>
                  by_cases hme : mv = j
                  · have hq1f := hself hme
                    have hr := HR.out
                    rw [hq1f, Bool.false_and, Bool.and_false] at hr
                    subst hr
                    have t0 : (mv != (j : Int)) = false := by simpa using hme
                    clear hself hme hq1f HR
                    refine wp_region_held_drew (S := fun w' => w'.cell? ⟨b3, off3 + i, none⟩ = some (.int .i64 mv) ∧ w'.cell? ⟨Bt, i, none⟩ = some (.slice (some ⟨mr, 0, none⟩) rs.length rs.length)) (by kernel_rfl) (HS.out _ (Below.refl _ _).drew) (fun hHeld => ?_)
                    refine wpAnyH_take (i := 0) (oi := { dst := some 58, op := Op.move (Operand.tmp 3), type := 38, pos := "ref.go:402", after := #[], guard := none }) (v := ?_) rfl (by kernel_rfl) (by kernel_rfl) (by kernel_rfl) (fun _ _ _ h => h) (Or.inl ⟨by rfl, ?_⟩) (by assumption) ?_
                    rotate_left
                    · intro w' hSw
                      (try dsimp only at hSw)
                      (try go_split_ands)
                      go_simp
                      try with_reducible rfl
                    (try simp only [Act.put, List.setIfInBounds_toArray, List.set_cons_zero, List.set_cons_succ])
                    refine wpAnyH_take (i := 1) (oi := { dst := some 59, op := Op.move (Operand.tmp 15), type := 3, pos := "ref.go:402", after := #[], guard := none }) (v := ?_) rfl (by kernel_rfl) (by kernel_rfl) (by kernel_rfl) (fun _ _ _ h => h) (Or.inl ⟨by rfl, ?_⟩) (by assumption) ?_
                    rotate_left
                    · intro w' hSw
                      (try dsimp only at hSw)
                      (try go_split_ands)
                      go_simp
                      try with_reducible rfl
                    (try simp only [Act.put, List.setIfInBounds_toArray, List.set_cons_zero, List.set_cons_succ])
                    refine wpAnyH_take (i := 2) (oi := { dst := some 60, op := Op.indexAddr 38 (Operand.tmp 58) (Operand.tmp 59), type := 0, pos := "ref.go:402", after := #[{ on := 0, ground := Ground.data }, { on := 1, ground := Ground.data }], guard := none }) (v := ?_) rfl (by kernel_rfl) (by kernel_rfl) (by kernel_rfl) (fun _ _ _ h => h) (Or.inl ⟨by rfl, ?_⟩) (by assumption) ?_
                    rotate_left
                    · intro w' hSw
                      (try dsimp only at hSw)
                      (try go_split_ands)
                      go_simp
                      try with_reducible rfl
                    (try simp only [Act.put, List.setIfInBounds_toArray, List.set_cons_zero, List.set_cons_succ])
                    refine wpAnyH_take (i := 3) (oi := { dst := some 61, op := Op.load 3 (Operand.tmp 60), type := 3, pos := "ref.go:402", after := #[{ on := 2, ground := Ground.data }], guard := none }) (v := ?_) rfl (by kernel_rfl) (by kernel_rfl) (by kernel_rfl) (fun _ _ _ h => h) (Or.inl ⟨by rfl, ?_⟩) (by assumption) ?_
                    rotate_left
                    · intro w' hSw
                      (try dsimp only at hSw)
                      (try go_split_ands)
                      go_simp
                      try with_reducible rfl
                    (try simp only [Act.put, List.setIfInBounds_toArray, List.set_cons_zero, List.set_cons_succ])
                    refine wpAnyH_take (i := 4) (oi := { dst := some 62, op := Op.move (Operand.tmp 16), type := 3, pos := "ref.go:402", after := #[], guard := none }) (v := ?_) rfl (by kernel_rfl) (by kernel_rfl) (by kernel_rfl) (fun _ _ _ h => h) (Or.inl ⟨by rfl, ?_⟩) (by assumption) ?_
                    rotate_left
                    · intro w' hSw
                      (try dsimp only at hSw)
                      (try go_split_ands)
                      go_simp
                      try with_reducible rfl
                    (try simp only [Act.put, List.setIfInBounds_toArray, List.set_cons_zero, List.set_cons_succ])
                    refine wpAnyH_take (i := 5) (oi := { dst := some 63, op := Op.binOp BinOp.neq 3 (Operand.tmp 61) (Operand.tmp 62) 3, type := 4, pos := "ref.go:402", after := #[{ on := 3, ground := Ground.data }, { on := 4, ground := Ground.data }], guard := none }) (v := ?_) rfl (by kernel_rfl) (by kernel_rfl) (by kernel_rfl) (fun _ _ _ h => h) (Or.inl ⟨by rfl, ?_⟩) (by assumption) ?_
                    rotate_left
                    · intro w' hSw
                      (try dsimp only at hSw)
                      (try go_split_ands)
                      go_simp
                      try with_reducible rfl
                    (try simp only [Act.put, List.setIfInBounds_toArray, List.set_cons_zero, List.set_cons_succ])
                    refine wpAnyH_take (i := 6) (oi := { dst := some 64, op := Op.move (Operand.tmp 63), type := 4, pos := "ref.go:402", after := #[{ on := 5, ground := Ground.data }], guard := none }) (v := ?_) rfl (by kernel_rfl) (by kernel_rfl) (by kernel_rfl) (fun _ _ _ h => h) (Or.inl ⟨by rfl, ?_⟩) (by assumption) ?_
                    rotate_left
                    · intro w' hSw
                      (try dsimp only at hSw)
                      (try go_split_ands)
                      go_simp
                      try with_reducible rfl
                    (try simp only [Act.put, List.setIfInBounds_toArray, List.set_cons_zero, List.set_cons_succ])
                    refine wpAnyH_take (i := 7) (oi := { dst := some 65, op := Op.move (Operand.tmp 13), type := 76, pos := "ref.go:402", after := #[{ on := 6, ground := Ground.guard }], guard := some (6, true) }) (v := undef) rfl (by kernel_rfl) (by kernel_rfl) (by kernel_rfl) (fun _ _ _ h => h) (Or.inr ⟨by rfl, rfl⟩) (by assumption) ?_
                    (try simp only [Act.put, List.setIfInBounds_toArray, List.set_cons_zero, List.set_cons_succ])
                    refine wpAnyH_take (i := 8) (oi := { dst := some 66, op := Op.move (Operand.tmp 15), type := 3, pos := "ref.go:402", after := #[{ on := 6, ground := Ground.guard }], guard := some (6, true) }) (v := undef) rfl (by kernel_rfl) (by kernel_rfl) (by kernel_rfl) (fun _ _ _ h => h) (Or.inr ⟨by rfl, rfl⟩) (by assumption) ?_
                    (try simp only [Act.put, List.setIfInBounds_toArray, List.set_cons_zero, List.set_cons_succ])
                    refine wpAnyH_take (i := 9) (oi := { dst := some 67, op := Op.indexAddr 76 (Operand.tmp 65) (Operand.tmp 66), type := 0, pos := "ref.go:402", after := #[{ on := 7, ground := Ground.data }, { on := 8, ground := Ground.data }, { on := 6, ground := Ground.guard }], guard := some (6, true) }) (v := undef) rfl (by kernel_rfl) (by kernel_rfl) (by kernel_rfl) (fun _ _ _ h => h) (Or.inr ⟨by rfl, rfl⟩) (by assumption) ?_
                    (try simp only [Act.put, List.setIfInBounds_toArray, List.set_cons_zero, List.set_cons_succ])
                    refine wpAnyH_take (i := 10) (oi := { dst := some 68, op := Op.load 38 (Operand.tmp 67), type := 38, pos := "ref.go:402", after := #[{ on := 9, ground := Ground.data }, { on := 6, ground := Ground.guard }], guard := some (6, true) }) (v := undef) rfl (by kernel_rfl) (by kernel_rfl) (by kernel_rfl) (fun _ _ _ h => h) (Or.inr ⟨by rfl, rfl⟩) (by assumption) ?_
                    (try simp only [Act.put, List.setIfInBounds_toArray, List.set_cons_zero, List.set_cons_succ])
                    refine wpAnyH_take (i := 11) (oi := { dst := some 69, op := Op.move (Operand.tmp 16), type := 3, pos := "ref.go:402", after := #[{ on := 6, ground := Ground.guard }], guard := some (6, true) }) (v := undef) rfl (by kernel_rfl) (by kernel_rfl) (by kernel_rfl) (fun _ _ _ h => h) (Or.inr ⟨by rfl, rfl⟩) (by assumption) ?_
                    (try simp only [Act.put, List.setIfInBounds_toArray, List.set_cons_zero, List.set_cons_succ])
                    refine wpAnyH_take (i := 12) (oi := { dst := some 70, op := Op.move (Operand.tmp 3), type := 38, pos := "ref.go:402", after := #[{ on := 6, ground := Ground.guard }], guard := some (6, true) }) (v := undef) rfl (by kernel_rfl) (by kernel_rfl) (by kernel_rfl) (fun _ _ _ h => h) (Or.inr ⟨by rfl, rfl⟩) (by assumption) ?_
                    (try simp only [Act.put, List.setIfInBounds_toArray, List.set_cons_zero, List.set_cons_succ])
                    refine wpAnyH_take (i := 13) (oi := { dst := some 71, op := Op.move (Operand.tmp 15), type := 3, pos := "ref.go:402", after := #[{ on := 6, ground := Ground.guard }], guard := some (6, true) }) (v := undef) rfl (by kernel_rfl) (by kernel_rfl) (by kernel_rfl) (fun _ _ _ h => h) (Or.inr ⟨by rfl, rfl⟩) (by assumption) ?_
                    (try simp only [Act.put, List.setIfInBounds_toArray, List.set_cons_zero, List.set_cons_succ])
                    refine wpAnyH_take (i := 14) (oi := { dst := some 72, op := Op.indexAddr 38 (Operand.tmp 70) (Operand.tmp 71), type := 0, pos := "ref.go:402", after := #[{ on := 12, ground := Ground.data }, { on := 13, ground := Ground.data }, { on := 6, ground := Ground.guard }], guard := some (6, true) }) (v := undef) rfl (by kernel_rfl) (by kernel_rfl) (by kernel_rfl) (fun _ _ _ h => h) (Or.inr ⟨by rfl, rfl⟩) (by assumption) ?_
                    (try simp only [Act.put, List.setIfInBounds_toArray, List.set_cons_zero, List.set_cons_succ])
                    refine wpAnyH_take (i := 15) (oi := { dst := some 73, op := Op.load 3 (Operand.tmp 72), type := 3, pos := "ref.go:402", after := #[{ on := 14, ground := Ground.data }, { on := 6, ground := Ground.guard }], guard := some (6, true) }) (v := undef) rfl (by kernel_rfl) (by kernel_rfl) (by kernel_rfl) (fun _ _ _ h => h) (Or.inr ⟨by rfl, rfl⟩) (by assumption) ?_
                    (try simp only [Act.put, List.setIfInBounds_toArray, List.set_cons_zero, List.set_cons_succ])
                    refine wpAnyH_take (i := 16) (oi := { dst := some 74, op := Op.call { callee := Callee.value (Operand.func 74), args := #[Operand.tmp 68, Operand.tmp 69, Operand.tmp 73], argTypes := #[38, 3, 3] }, type := 4, pos := "ref.go:402", after := #[{ on := 10, ground := Ground.data }, { on := 11, ground := Ground.data }, { on := 15, ground := Ground.data }, { on := 6, ground := Ground.chain }, { on := 6, ground := Ground.guard }], guard := some (6, true) }) (v := undef) rfl (by kernel_rfl) (by kernel_rfl) (by kernel_rfl) (fun _ _ _ h => h) (Or.inr ⟨by rfl, rfl⟩) (by assumption) ?_
                    (try simp only [Act.put, List.setIfInBounds_toArray, List.set_cons_zero, List.set_cons_succ])
                    refine wpAnyH_take (i := 17) (oi := { dst := some 75, op := Op.pick (Operand.tmp 64) (Operand.tmp 74) (Operand.const (Value.bool false)), type := 4, pos := "ref.go:402", after := #[{ on := 6, ground := Ground.data }, { on := 16, ground := Ground.data }], guard := none }) (v := ?_) rfl (by kernel_rfl) (by kernel_rfl) (by kernel_rfl) (fun _ _ _ h => h) (Or.inl ⟨by rfl, ?_⟩) (by assumption) ?_
                    rotate_left
                    · intro w' hSw
                      (try dsimp only at hSw)
                      (try go_split_ands)
                      go_simp
                      try with_reducible rfl
                    (try simp only [Act.put, List.setIfInBounds_toArray, List.set_cons_zero, List.set_cons_succ])
                    refine wpAnyH_take (i := 18) (oi := { dst := some 76, op := Op.move (Operand.tmp 75), type := 4, pos := "ref.go:402", after := #[{ on := 17, ground := Ground.data }, { on := 16, ground := Ground.chain }], guard := none }) (v := ?_) rfl (by kernel_rfl) (by kernel_rfl) (by kernel_rfl) (fun _ _ _ h => h) (Or.inl ⟨by rfl, ?_⟩) (by assumption) ?_
                    rotate_left
                    · intro w' hSw
                      (try dsimp only at hSw)
                      (try go_split_ands)
                      go_simp
                      try with_reducible rfl
                    (try simp only [Act.put, List.setIfInBounds_toArray, List.set_cons_zero, List.set_cons_succ])
                    refine wpAnyH_take (i := 19) (oi := { dst := some 77, op := Op.move (Operand.tmp 13), type := 76, pos := "ref.go:402", after := #[{ on := 18, ground := Ground.guard }], guard := some (18, true) }) (v := undef) rfl (by kernel_rfl) (by kernel_rfl) (by kernel_rfl) (fun _ _ _ h => h) (Or.inr ⟨by rfl, rfl⟩) (by assumption) ?_
                    (try simp only [Act.put, List.setIfInBounds_toArray, List.set_cons_zero, List.set_cons_succ])
                    refine wpAnyH_take (i := 20) (oi := { dst := some 78, op := Op.move (Operand.tmp 16), type := 3, pos := "ref.go:402", after := #[{ on := 18, ground := Ground.guard }], guard := some (18, true) }) (v := undef) rfl (by kernel_rfl) (by kernel_rfl) (by kernel_rfl) (fun _ _ _ h => h) (Or.inr ⟨by rfl, rfl⟩) (by assumption) ?_
                    (try simp only [Act.put, List.setIfInBounds_toArray, List.set_cons_zero, List.set_cons_succ])
                    refine wpAnyH_take (i := 21) (oi := { dst := some 79, op := Op.call { callee := Callee.value (Operand.func 75), args := #[Operand.tmp 77, Operand.tmp 78], argTypes := #[76, 3] }, type := 38, pos := "ref.go:402", after := #[{ on := 19, ground := Ground.data }, { on := 20, ground := Ground.data }, { on := 18, ground := Ground.chain }, { on := 18, ground := Ground.guard }], guard := some (18, true) }) (v := undef) rfl (by kernel_rfl) (by kernel_rfl) (by kernel_rfl) (fun _ _ _ h => h) (Or.inr ⟨by rfl, rfl⟩) (by assumption) ?_
                    (try simp only [Act.put, List.setIfInBounds_toArray, List.set_cons_zero, List.set_cons_succ])
                    refine wpAnyH_take (i := 22) (oi := { dst := some 80, op := Op.move (Operand.tmp 15), type := 3, pos := "ref.go:402", after := #[{ on := 18, ground := Ground.guard }], guard := some (18, true) }) (v := undef) rfl (by kernel_rfl) (by kernel_rfl) (by kernel_rfl) (fun _ _ _ h => h) (Or.inr ⟨by rfl, rfl⟩) (by assumption) ?_
                    (try simp only [Act.put, List.setIfInBounds_toArray, List.set_cons_zero, List.set_cons_succ])
                    refine wpAnyH_take (i := 23) (oi := { dst := some 81, op := Op.move (Operand.tmp 17), type := 3, pos := "ref.go:402", after := #[{ on := 18, ground := Ground.guard }], guard := some (18, true) }) (v := undef) rfl (by kernel_rfl) (by kernel_rfl) (by kernel_rfl) (fun _ _ _ h => h) (Or.inr ⟨by rfl, rfl⟩) (by assumption) ?_
                    (try simp only [Act.put, List.setIfInBounds_toArray, List.set_cons_zero, List.set_cons_succ])
                    refine wpAnyH_take (i := 24) (oi := { dst := some 82, op := Op.call { callee := Callee.value (Operand.func 74), args := #[Operand.tmp 79, Operand.tmp 80, Operand.tmp 81], argTypes := #[38, 3, 3] }, type := 4, pos := "ref.go:402", after := #[{ on := 21, ground := Ground.data }, { on := 22, ground := Ground.data }, { on := 23, ground := Ground.data }, { on := 21, ground := Ground.chain }, { on := 18, ground := Ground.guard }], guard := some (18, true) }) (v := undef) rfl (by kernel_rfl) (by kernel_rfl) (by kernel_rfl) (fun _ _ _ h => h) (Or.inr ⟨by rfl, rfl⟩) (by assumption) ?_
                    (try simp only [Act.put, List.setIfInBounds_toArray, List.set_cons_zero, List.set_cons_succ])
                    refine wpAnyH_take (i := 25) (oi := { dst := some 83, op := Op.pick (Operand.tmp 76) (Operand.tmp 82) (Operand.const (Value.bool false)), type := 4, pos := "ref.go:402", after := #[{ on := 18, ground := Ground.data }, { on := 24, ground := Ground.data }], guard := none }) (v := ?_) rfl (by kernel_rfl) (by kernel_rfl) (by kernel_rfl) (fun _ _ _ h => h) (Or.inl ⟨by rfl, ?_⟩) (by assumption) ?_
                    rotate_left
                    · intro w' hSw
                      (try dsimp only at hSw)
                      (try go_split_ands)
                      go_simp
                      try with_reducible rfl
                    (try simp only [Act.put, List.setIfInBounds_toArray, List.set_cons_zero, List.set_cons_succ])
                    refine wpAnyH_done (by kernel_rfl) ?_ _
                    go_wp2_with fail
                    go_meet
                    exact ⟨rfl, Lib.hid (Below.refl wz.heap.size wz).drew⟩
                  · have t0 : (mv != (j : Int)) = true := by simpa using hme
                    clear hself hme
                    obtain ⟨zq, hzq⟩ : ∃ y, y = (z && q1) := ⟨_, rfl⟩
                    have hr := HR.out
                    rw [← Bool.and_assoc, ← hzq] at hr
                    rw [← hzq] at HRA
                    clear HR
                    cases zq with
                    | false =>
                      rw [Bool.false_and] at hr
                      subst hr
                      clear hzq
                      refine wp_region_held_drew (S := fun w' => w'.cell? ⟨b3, off3 + i, none⟩ = some (.int .i64 mv) ∧ w'.cell? ⟨Bt, i, none⟩ = some (.slice (some ⟨mr, 0, none⟩) rs.length rs.length)) (by kernel_rfl) (HS.out _ (Below.refl _ _).drew) (fun hHeld => ?_)
                      refine wpAnyH_take (i := 0) (oi := { dst := some 58, op := Op.move (Operand.tmp 3), type := 38, pos := "ref.go:402", after := #[], guard := none }) (v := ?_) rfl (by kernel_rfl) (by kernel_rfl) (by kernel_rfl) (fun _ _ _ h => h) (Or.inl ⟨by rfl, ?_⟩) (by assumption) ?_
                      rotate_left
                      · intro w' hSw
                        (try dsimp only at hSw)
                        (try go_split_ands)
                        go_simp
                        try with_reducible rfl
                      (try simp only [Act.put, List.setIfInBounds_toArray, List.set_cons_zero, List.set_cons_succ])
                      refine wpAnyH_take (i := 1) (oi := { dst := some 59, op := Op.move (Operand.tmp 15), type := 3, pos := "ref.go:402", after := #[], guard := none }) (v := ?_) rfl (by kernel_rfl) (by kernel_rfl) (by kernel_rfl) (fun _ _ _ h => h) (Or.inl ⟨by rfl, ?_⟩) (by assumption) ?_
                      rotate_left
                      · intro w' hSw
                        (try dsimp only at hSw)
                        (try go_split_ands)
                        go_simp
                        try with_reducible rfl
                      (try simp only [Act.put, List.setIfInBounds_toArray, List.set_cons_zero, List.set_cons_succ])
                      refine wpAnyH_take (i := 2) (oi := { dst := some 60, op := Op.indexAddr 38 (Operand.tmp 58) (Operand.tmp 59), type := 0, pos := "ref.go:402", after := #[{ on := 0, ground := Ground.data }, { on := 1, ground := Ground.data }], guard := none }) (v := ?_) rfl (by kernel_rfl) (by kernel_rfl) (by kernel_rfl) (fun _ _ _ h => h) (Or.inl ⟨by rfl, ?_⟩) (by assumption) ?_
                      rotate_left
                      · intro w' hSw
                        (try dsimp only at hSw)
                        (try go_split_ands)
                        go_simp
                        try with_reducible rfl
                      (try simp only [Act.put, List.setIfInBounds_toArray, List.set_cons_zero, List.set_cons_succ])
                      refine wpAnyH_take (i := 3) (oi := { dst := some 61, op := Op.load 3 (Operand.tmp 60), type := 3, pos := "ref.go:402", after := #[{ on := 2, ground := Ground.data }], guard := none }) (v := ?_) rfl (by kernel_rfl) (by kernel_rfl) (by kernel_rfl) (fun _ _ _ h => h) (Or.inl ⟨by rfl, ?_⟩) (by assumption) ?_
                      rotate_left
                      · intro w' hSw
                        (try dsimp only at hSw)
                        (try go_split_ands)
                        go_simp
                        try with_reducible rfl
                      (try simp only [Act.put, List.setIfInBounds_toArray, List.set_cons_zero, List.set_cons_succ])
                      refine wpAnyH_take (i := 4) (oi := { dst := some 62, op := Op.move (Operand.tmp 16), type := 3, pos := "ref.go:402", after := #[], guard := none }) (v := ?_) rfl (by kernel_rfl) (by kernel_rfl) (by kernel_rfl) (fun _ _ _ h => h) (Or.inl ⟨by rfl, ?_⟩) (by assumption) ?_
                      rotate_left
                      · intro w' hSw
                        (try dsimp only at hSw)
                        (try go_split_ands)
                        go_simp
                        try with_reducible rfl
                      (try simp only [Act.put, List.setIfInBounds_toArray, List.set_cons_zero, List.set_cons_succ])
                      refine wpAnyH_take (i := 5) (oi := { dst := some 63, op := Op.binOp BinOp.neq 3 (Operand.tmp 61) (Operand.tmp 62) 3, type := 4, pos := "ref.go:402", after := #[{ on := 3, ground := Ground.data }, { on := 4, ground := Ground.data }], guard := none }) (v := ?_) rfl (by kernel_rfl) (by kernel_rfl) (by kernel_rfl) (fun _ _ _ h => h) (Or.inl ⟨by rfl, ?_⟩) (by assumption) ?_
                      rotate_left
                      · intro w' hSw
                        (try dsimp only at hSw)
                        (try go_split_ands)
                        go_simp
                        try with_reducible rfl
                      (try simp only [Act.put, List.setIfInBounds_toArray, List.set_cons_zero, List.set_cons_succ])
                      refine wpAnyH_take (i := 6) (oi := { dst := some 64, op := Op.move (Operand.tmp 63), type := 4, pos := "ref.go:402", after := #[{ on := 5, ground := Ground.data }], guard := none }) (v := ?_) rfl (by kernel_rfl) (by kernel_rfl) (by kernel_rfl) (fun _ _ _ h => h) (Or.inl ⟨by rfl, ?_⟩) (by assumption) ?_
                      rotate_left
                      · intro w' hSw
                        (try dsimp only at hSw)
                        (try go_split_ands)
                        go_simp
                        try with_reducible rfl
                      (try simp only [Act.put, List.setIfInBounds_toArray, List.set_cons_zero, List.set_cons_succ])
                      refine wpAnyH_take (i := 7) (oi := { dst := some 65, op := Op.move (Operand.tmp 13), type := 76, pos := "ref.go:402", after := #[{ on := 6, ground := Ground.guard }], guard := some (6, true) }) (v := ?_) rfl (by kernel_rfl) (by kernel_rfl) (by kernel_rfl) (fun _ _ _ h => h) (Or.inl ⟨by rfl, ?_⟩) (by assumption) ?_
                      rotate_left
                      · intro w' hSw
                        (try dsimp only at hSw)
                        (try go_split_ands)
                        go_simp
                        try with_reducible rfl
                      (try simp only [Act.put, List.setIfInBounds_toArray, List.set_cons_zero, List.set_cons_succ])
                      refine wpAnyH_take (i := 8) (oi := { dst := some 66, op := Op.move (Operand.tmp 15), type := 3, pos := "ref.go:402", after := #[{ on := 6, ground := Ground.guard }], guard := some (6, true) }) (v := ?_) rfl (by kernel_rfl) (by kernel_rfl) (by kernel_rfl) (fun _ _ _ h => h) (Or.inl ⟨by rfl, ?_⟩) (by assumption) ?_
                      rotate_left
                      · intro w' hSw
                        (try dsimp only at hSw)
                        (try go_split_ands)
                        go_simp
                        try with_reducible rfl
                      (try simp only [Act.put, List.setIfInBounds_toArray, List.set_cons_zero, List.set_cons_succ])
                      refine wpAnyH_take (i := 9) (oi := { dst := some 67, op := Op.indexAddr 76 (Operand.tmp 65) (Operand.tmp 66), type := 0, pos := "ref.go:402", after := #[{ on := 7, ground := Ground.data }, { on := 8, ground := Ground.data }, { on := 6, ground := Ground.guard }], guard := some (6, true) }) (v := ?_) rfl (by kernel_rfl) (by kernel_rfl) (by kernel_rfl) (fun _ _ _ h => h) (Or.inl ⟨by rfl, ?_⟩) (by assumption) ?_
                      rotate_left
                      · intro w' hSw
                        (try dsimp only at hSw)
                        (try go_split_ands)
                        go_simp
                        try with_reducible rfl
                      (try simp only [Act.put, List.setIfInBounds_toArray, List.set_cons_zero, List.set_cons_succ])
                      refine wpAnyH_take (i := 10) (oi := { dst := some 68, op := Op.load 38 (Operand.tmp 67), type := 38, pos := "ref.go:402", after := #[{ on := 9, ground := Ground.data }, { on := 6, ground := Ground.guard }], guard := some (6, true) }) (v := ?_) rfl (by kernel_rfl) (by kernel_rfl) (by kernel_rfl) (fun _ _ _ h => h) (Or.inl ⟨by rfl, ?_⟩) (by assumption) ?_
                      rotate_left
                      · intro w' hSw
                        (try dsimp only at hSw)
                        (try go_split_ands)
                        go_simp
                        try with_reducible rfl
                      (try simp only [Act.put, List.setIfInBounds_toArray, List.set_cons_zero, List.set_cons_succ])
                      refine wpAnyH_take (i := 11) (oi := { dst := some 69, op := Op.move (Operand.tmp 16), type := 3, pos := "ref.go:402", after := #[{ on := 6, ground := Ground.guard }], guard := some (6, true) }) (v := ?_) rfl (by kernel_rfl) (by kernel_rfl) (by kernel_rfl) (fun _ _ _ h => h) (Or.inl ⟨by rfl, ?_⟩) (by assumption) ?_
                      rotate_left
                      · intro w' hSw
                        (try dsimp only at hSw)
                        (try go_split_ands)
                        go_simp
                        try with_reducible rfl
                      (try simp only [Act.put, List.setIfInBounds_toArray, List.set_cons_zero, List.set_cons_succ])
                      refine wpAnyH_take (i := 12) (oi := { dst := some 70, op := Op.move (Operand.tmp 3), type := 38, pos := "ref.go:402", after := #[{ on := 6, ground := Ground.guard }], guard := some (6, true) }) (v := ?_) rfl (by kernel_rfl) (by kernel_rfl) (by kernel_rfl) (fun _ _ _ h => h) (Or.inl ⟨by rfl, ?_⟩) (by assumption) ?_
                      rotate_left
                      · intro w' hSw
                        (try dsimp only at hSw)
                        (try go_split_ands)
                        go_simp
                        try with_reducible rfl
                      (try simp only [Act.put, List.setIfInBounds_toArray, List.set_cons_zero, List.set_cons_succ])
                      refine wpAnyH_take (i := 13) (oi := { dst := some 71, op := Op.move (Operand.tmp 15), type := 3, pos := "ref.go:402", after := #[{ on := 6, ground := Ground.guard }], guard := some (6, true) }) (v := ?_) rfl (by kernel_rfl) (by kernel_rfl) (by kernel_rfl) (fun _ _ _ h => h) (Or.inl ⟨by rfl, ?_⟩) (by assumption) ?_
                      rotate_left
                      · intro w' hSw
                        (try dsimp only at hSw)
                        (try go_split_ands)
                        go_simp
                        try with_reducible rfl
                      (try simp only [Act.put, List.setIfInBounds_toArray, List.set_cons_zero, List.set_cons_succ])
                      refine wpAnyH_take (i := 14) (oi := { dst := some 72, op := Op.indexAddr 38 (Operand.tmp 70) (Operand.tmp 71), type := 0, pos := "ref.go:402", after := #[{ on := 12, ground := Ground.data }, { on := 13, ground := Ground.data }, { on := 6, ground := Ground.guard }], guard := some (6, true) }) (v := ?_) rfl (by kernel_rfl) (by kernel_rfl) (by kernel_rfl) (fun _ _ _ h => h) (Or.inl ⟨by rfl, ?_⟩) (by assumption) ?_
                      rotate_left
                      · intro w' hSw
                        (try dsimp only at hSw)
                        (try go_split_ands)
                        go_simp
                        try with_reducible rfl
                      (try simp only [Act.put, List.setIfInBounds_toArray, List.set_cons_zero, List.set_cons_succ])
                      refine wpAnyH_take (i := 15) (oi := { dst := some 73, op := Op.load 3 (Operand.tmp 72), type := 3, pos := "ref.go:402", after := #[{ on := 14, ground := Ground.data }, { on := 6, ground := Ground.guard }], guard := some (6, true) }) (v := ?_) rfl (by kernel_rfl) (by kernel_rfl) (by kernel_rfl) (fun _ _ _ h => h) (Or.inl ⟨by rfl, ?_⟩) (by assumption) ?_
                      rotate_left
                      · intro w' hSw
                        (try dsimp only at hSw)
                        (try go_split_ands)
                        go_simp
                        try with_reducible rfl
                      (try simp only [Act.put, List.setIfInBounds_toArray, List.set_cons_zero, List.set_cons_succ])
                      refine wpAnyH_ready (rs := [16]) (by kernel_rfl) (by simp) ?_
                      refine (AllReadyH.cons (o := { dst := some 74, op := Op.call { callee := Callee.value (Operand.func 74), args := #[Operand.tmp 68, Operand.tmp 69, Operand.tmp 73], argTypes := #[38, 3, 3] }, type := 4, pos := "ref.go:402", after := #[{ on := 10, ground := Ground.data }, { on := 11, ground := Ground.data }, { on := 15, ground := Ground.data }, { on := 6, ground := Ground.chain }, { on := 6, ground := Ground.guard }], guard := some (6, true) }) rfl (fun K hK => ?_) AllReadyH.nil)
                      go_simp
                      go_at_call 74
                      with_reducible (refine (HRA.out _ (Below.refl wz.heap.size wz).drew).mono ?_)
                      rintro e w16 ⟨rfl, hb16⟩
                      have HB16 := Lib.hid ((Below.refl wz.heap.size wz).drew.trans (hb16.mono (Below.refl wz.heap.size wz).drew.size))
                      clear hb16
                      (try go_wp2_with fail)
                      refine hK.out _ _ (HS.out _ HB16.out) (fun hHeld => ?_)
                      clear hK K
                      (try simp only [Act.put, List.setIfInBounds_toArray, List.set_cons_zero, List.set_cons_succ])
                      refine wpAnyH_take (i := 17) (oi := { dst := some 75, op := Op.pick (Operand.tmp 64) (Operand.tmp 74) (Operand.const (Value.bool false)), type := 4, pos := "ref.go:402", after := #[{ on := 6, ground := Ground.data }, { on := 16, ground := Ground.data }], guard := none }) (v := ?_) rfl (by kernel_rfl) (by kernel_rfl) (by kernel_rfl) (fun _ _ _ h => h) (Or.inl ⟨by rfl, ?_⟩) (by assumption) ?_
                      rotate_left
                      · intro w' hSw
                        (try dsimp only at hSw)
                        (try go_split_ands)
                        go_simp
                        try with_reducible rfl
                      (try simp only [Act.put, List.setIfInBounds_toArray, List.set_cons_zero, List.set_cons_succ])
                      refine wpAnyH_take (i := 18) (oi := { dst := some 76, op := Op.move (Operand.tmp 75), type := 4, pos := "ref.go:402", after := #[{ on := 17, ground := Ground.data }, { on := 16, ground := Ground.chain }], guard := none }) (v := ?_) rfl (by kernel_rfl) (by kernel_rfl) (by kernel_rfl) (fun _ _ _ h => h) (Or.inl ⟨by rfl, ?_⟩) (by assumption) ?_
                      rotate_left
                      · intro w' hSw
                        (try dsimp only at hSw)
                        (try go_split_ands)
                        go_simp
                        try with_reducible rfl
                      (try simp only [Act.put, List.setIfInBounds_toArray, List.set_cons_zero, List.set_cons_succ])
                      refine wpAnyH_take (i := 19) (oi := { dst := some 77, op := Op.move (Operand.tmp 13), type := 76, pos := "ref.go:402", after := #[{ on := 18, ground := Ground.guard }], guard := some (18, true) }) (v := undef) rfl (by kernel_rfl) (by kernel_rfl) (by kernel_rfl) (fun _ _ _ h => h) (Or.inr ⟨by rfl, rfl⟩) (by assumption) ?_
                      (try simp only [Act.put, List.setIfInBounds_toArray, List.set_cons_zero, List.set_cons_succ])
                      refine wpAnyH_take (i := 20) (oi := { dst := some 78, op := Op.move (Operand.tmp 16), type := 3, pos := "ref.go:402", after := #[{ on := 18, ground := Ground.guard }], guard := some (18, true) }) (v := undef) rfl (by kernel_rfl) (by kernel_rfl) (by kernel_rfl) (fun _ _ _ h => h) (Or.inr ⟨by rfl, rfl⟩) (by assumption) ?_
                      (try simp only [Act.put, List.setIfInBounds_toArray, List.set_cons_zero, List.set_cons_succ])
                      refine wpAnyH_take (i := 21) (oi := { dst := some 79, op := Op.call { callee := Callee.value (Operand.func 75), args := #[Operand.tmp 77, Operand.tmp 78], argTypes := #[76, 3] }, type := 38, pos := "ref.go:402", after := #[{ on := 19, ground := Ground.data }, { on := 20, ground := Ground.data }, { on := 18, ground := Ground.chain }, { on := 18, ground := Ground.guard }], guard := some (18, true) }) (v := undef) rfl (by kernel_rfl) (by kernel_rfl) (by kernel_rfl) (fun _ _ _ h => h) (Or.inr ⟨by rfl, rfl⟩) (by assumption) ?_
                      (try simp only [Act.put, List.setIfInBounds_toArray, List.set_cons_zero, List.set_cons_succ])
                      refine wpAnyH_take (i := 22) (oi := { dst := some 80, op := Op.move (Operand.tmp 15), type := 3, pos := "ref.go:402", after := #[{ on := 18, ground := Ground.guard }], guard := some (18, true) }) (v := undef) rfl (by kernel_rfl) (by kernel_rfl) (by kernel_rfl) (fun _ _ _ h => h) (Or.inr ⟨by rfl, rfl⟩) (by assumption) ?_
                      (try simp only [Act.put, List.setIfInBounds_toArray, List.set_cons_zero, List.set_cons_succ])
                      refine wpAnyH_take (i := 23) (oi := { dst := some 81, op := Op.move (Operand.tmp 17), type := 3, pos := "ref.go:402", after := #[{ on := 18, ground := Ground.guard }], guard := some (18, true) }) (v := undef) rfl (by kernel_rfl) (by kernel_rfl) (by kernel_rfl) (fun _ _ _ h => h) (Or.inr ⟨by rfl, rfl⟩) (by assumption) ?_
                      (try simp only [Act.put, List.setIfInBounds_toArray, List.set_cons_zero, List.set_cons_succ])
                      refine wpAnyH_take (i := 24) (oi := { dst := some 82, op := Op.call { callee := Callee.value (Operand.func 74), args := #[Operand.tmp 79, Operand.tmp 80, Operand.tmp 81], argTypes := #[38, 3, 3] }, type := 4, pos := "ref.go:402", after := #[{ on := 21, ground := Ground.data }, { on := 22, ground := Ground.data }, { on := 23, ground := Ground.data }, { on := 21, ground := Ground.chain }, { on := 18, ground := Ground.guard }], guard := some (18, true) }) (v := undef) rfl (by kernel_rfl) (by kernel_rfl) (by kernel_rfl) (fun _ _ _ h => h) (Or.inr ⟨by rfl, rfl⟩) (by assumption) ?_
                      (try simp only [Act.put, List.setIfInBounds_toArray, List.set_cons_zero, List.set_cons_succ])
                      refine wpAnyH_take (i := 25) (oi := { dst := some 83, op := Op.pick (Operand.tmp 76) (Operand.tmp 82) (Operand.const (Value.bool false)), type := 4, pos := "ref.go:402", after := #[{ on := 18, ground := Ground.data }, { on := 24, ground := Ground.data }], guard := none }) (v := ?_) rfl (by kernel_rfl) (by kernel_rfl) (by kernel_rfl) (fun _ _ _ h => h) (Or.inl ⟨by rfl, ?_⟩) (by assumption) ?_
                      rotate_left
                      · intro w' hSw
                        (try dsimp only at hSw)
                        (try go_split_ands)
                        go_simp
                        try with_reducible rfl
                      (try simp only [Act.put, List.setIfInBounds_toArray, List.set_cons_zero, List.set_cons_succ])
                      refine wpAnyH_done (by kernel_rfl) ?_ _
                      go_wp2_with fail
                      go_meet
                      exact ⟨rfl, HB16⟩
                    | true =>
                      have hzt : z = true ∧ q1 = true := by simpa using hzq.symm
                      rw [Bool.true_and] at hr
                      rw [hzt.1, Bool.true_and, ← hr] at hq2
                      clear hzq hr hzt
                      refine wp_region_held_drew (S := fun w' => w'.cell? ⟨b3, off3 + i, none⟩ = some (.int .i64 mv) ∧ w'.cell? ⟨Bt, i, none⟩ = some (.slice (some ⟨mr, 0, none⟩) rs.length rs.length)) (by kernel_rfl) (HS.out _ (Below.refl _ _).drew) (fun hHeld => ?_)
                      refine wpAnyH_take (i := 0) (oi := { dst := some 58, op := Op.move (Operand.tmp 3), type := 38, pos := "ref.go:402", after := #[], guard := none }) (v := ?_) rfl (by kernel_rfl) (by kernel_rfl) (by kernel_rfl) (fun _ _ _ h => h) (Or.inl ⟨by rfl, ?_⟩) (by assumption) ?_
                      rotate_left
                      · intro w' hSw
                        (try dsimp only at hSw)
                        (try go_split_ands)
                        go_simp
                        try with_reducible rfl
                      (try simp only [Act.put, List.setIfInBounds_toArray, List.set_cons_zero, List.set_cons_succ])
                      refine wpAnyH_take (i := 1) (oi := { dst := some 59, op := Op.move (Operand.tmp 15), type := 3, pos := "ref.go:402", after := #[], guard := none }) (v := ?_) rfl (by kernel_rfl) (by kernel_rfl) (by kernel_rfl) (fun _ _ _ h => h) (Or.inl ⟨by rfl, ?_⟩) (by assumption) ?_
                      rotate_left
                      · intro w' hSw
                        (try dsimp only at hSw)
                        (try go_split_ands)
                        go_simp
                        try with_reducible rfl
                      (try simp only [Act.put, List.setIfInBounds_toArray, List.set_cons_zero, List.set_cons_succ])
                      refine wpAnyH_take (i := 2) (oi := { dst := some 60, op := Op.indexAddr 38 (Operand.tmp 58) (Operand.tmp 59), type := 0, pos := "ref.go:402", after := #[{ on := 0, ground := Ground.data }, { on := 1, ground := Ground.data }], guard := none }) (v := ?_) rfl (by kernel_rfl) (by kernel_rfl) (by kernel_rfl) (fun _ _ _ h => h) (Or.inl ⟨by rfl, ?_⟩) (by assumption) ?_
                      rotate_left
                      · intro w' hSw
                        (try dsimp only at hSw)
                        (try go_split_ands)
                        go_simp
                        try with_reducible rfl
                      (try simp only [Act.put, List.setIfInBounds_toArray, List.set_cons_zero, List.set_cons_succ])
                      refine wpAnyH_take (i := 3) (oi := { dst := some 61, op := Op.load 3 (Operand.tmp 60), type := 3, pos := "ref.go:402", after := #[{ on := 2, ground := Ground.data }], guard := none }) (v := ?_) rfl (by kernel_rfl) (by kernel_rfl) (by kernel_rfl) (fun _ _ _ h => h) (Or.inl ⟨by rfl, ?_⟩) (by assumption) ?_
                      rotate_left
                      · intro w' hSw
                        (try dsimp only at hSw)
                        (try go_split_ands)
                        go_simp
                        try with_reducible rfl
                      (try simp only [Act.put, List.setIfInBounds_toArray, List.set_cons_zero, List.set_cons_succ])
                      refine wpAnyH_take (i := 4) (oi := { dst := some 62, op := Op.move (Operand.tmp 16), type := 3, pos := "ref.go:402", after := #[], guard := none }) (v := ?_) rfl (by kernel_rfl) (by kernel_rfl) (by kernel_rfl) (fun _ _ _ h => h) (Or.inl ⟨by rfl, ?_⟩) (by assumption) ?_
                      rotate_left
                      · intro w' hSw
                        (try dsimp only at hSw)
                        (try go_split_ands)
                        go_simp
                        try with_reducible rfl
                      (try simp only [Act.put, List.setIfInBounds_toArray, List.set_cons_zero, List.set_cons_succ])
                      refine wpAnyH_take (i := 5) (oi := { dst := some 63, op := Op.binOp BinOp.neq 3 (Operand.tmp 61) (Operand.tmp 62) 3, type := 4, pos := "ref.go:402", after := #[{ on := 3, ground := Ground.data }, { on := 4, ground := Ground.data }], guard := none }) (v := ?_) rfl (by kernel_rfl) (by kernel_rfl) (by kernel_rfl) (fun _ _ _ h => h) (Or.inl ⟨by rfl, ?_⟩) (by assumption) ?_
                      rotate_left
                      · intro w' hSw
                        (try dsimp only at hSw)
                        (try go_split_ands)
                        go_simp
                        try with_reducible rfl
                      (try simp only [Act.put, List.setIfInBounds_toArray, List.set_cons_zero, List.set_cons_succ])
                      refine wpAnyH_take (i := 6) (oi := { dst := some 64, op := Op.move (Operand.tmp 63), type := 4, pos := "ref.go:402", after := #[{ on := 5, ground := Ground.data }], guard := none }) (v := ?_) rfl (by kernel_rfl) (by kernel_rfl) (by kernel_rfl) (fun _ _ _ h => h) (Or.inl ⟨by rfl, ?_⟩) (by assumption) ?_
                      rotate_left
                      · intro w' hSw
                        (try dsimp only at hSw)
                        (try go_split_ands)
                        go_simp
                        try with_reducible rfl
                      (try simp only [Act.put, List.setIfInBounds_toArray, List.set_cons_zero, List.set_cons_succ])
                      refine wpAnyH_take (i := 7) (oi := { dst := some 65, op := Op.move (Operand.tmp 13), type := 76, pos := "ref.go:402", after := #[{ on := 6, ground := Ground.guard }], guard := some (6, true) }) (v := ?_) rfl (by kernel_rfl) (by kernel_rfl) (by kernel_rfl) (fun _ _ _ h => h) (Or.inl ⟨by rfl, ?_⟩) (by assumption) ?_
                      rotate_left
                      · intro w' hSw
                        (try dsimp only at hSw)
                        (try go_split_ands)
                        go_simp
                        try with_reducible rfl
                      (try simp only [Act.put, List.setIfInBounds_toArray, List.set_cons_zero, List.set_cons_succ])
                      refine wpAnyH_take (i := 8) (oi := { dst := some 66, op := Op.move (Operand.tmp 15), type := 3, pos := "ref.go:402", after := #[{ on := 6, ground := Ground.guard }], guard := some (6, true) }) (v := ?_) rfl (by kernel_rfl) (by kernel_rfl) (by kernel_rfl) (fun _ _ _ h => h) (Or.inl ⟨by rfl, ?_⟩) (by assumption) ?_
                      rotate_left
                      · intro w' hSw
                        (try dsimp only at hSw)
                        (try go_split_ands)
                        go_simp
                        try with_reducible rfl
                      (try simp only [Act.put, List.setIfInBounds_toArray, List.set_cons_zero, List.set_cons_succ])
                      refine wpAnyH_take (i := 9) (oi := { dst := some 67, op := Op.indexAddr 76 (Operand.tmp 65) (Operand.tmp 66), type := 0, pos := "ref.go:402", after := #[{ on := 7, ground := Ground.data }, { on := 8, ground := Ground.data }, { on := 6, ground := Ground.guard }], guard := some (6, true) }) (v := ?_) rfl (by kernel_rfl) (by kernel_rfl) (by kernel_rfl) (fun _ _ _ h => h) (Or.inl ⟨by rfl, ?_⟩) (by assumption) ?_
                      rotate_left
                      · intro w' hSw
                        (try dsimp only at hSw)
                        (try go_split_ands)
                        go_simp
                        try with_reducible rfl
                      (try simp only [Act.put, List.setIfInBounds_toArray, List.set_cons_zero, List.set_cons_succ])
                      refine wpAnyH_take (i := 10) (oi := { dst := some 68, op := Op.load 38 (Operand.tmp 67), type := 38, pos := "ref.go:402", after := #[{ on := 9, ground := Ground.data }, { on := 6, ground := Ground.guard }], guard := some (6, true) }) (v := ?_) rfl (by kernel_rfl) (by kernel_rfl) (by kernel_rfl) (fun _ _ _ h => h) (Or.inl ⟨by rfl, ?_⟩) (by assumption) ?_
                      rotate_left
                      · intro w' hSw
                        (try dsimp only at hSw)
                        (try go_split_ands)
                        go_simp
                        try with_reducible rfl
                      (try simp only [Act.put, List.setIfInBounds_toArray, List.set_cons_zero, List.set_cons_succ])
                      refine wpAnyH_take (i := 11) (oi := { dst := some 69, op := Op.move (Operand.tmp 16), type := 3, pos := "ref.go:402", after := #[{ on := 6, ground := Ground.guard }], guard := some (6, true) }) (v := ?_) rfl (by kernel_rfl) (by kernel_rfl) (by kernel_rfl) (fun _ _ _ h => h) (Or.inl ⟨by rfl, ?_⟩) (by assumption) ?_
                      rotate_left
                      · intro w' hSw
                        (try dsimp only at hSw)
                        (try go_split_ands)
                        go_simp
                        try with_reducible rfl
                      (try simp only [Act.put, List.setIfInBounds_toArray, List.set_cons_zero, List.set_cons_succ])
                      refine wpAnyH_take (i := 12) (oi := { dst := some 70, op := Op.move (Operand.tmp 3), type := 38, pos := "ref.go:402", after := #[{ on := 6, ground := Ground.guard }], guard := some (6, true) }) (v := ?_) rfl (by kernel_rfl) (by kernel_rfl) (by kernel_rfl) (fun _ _ _ h => h) (Or.inl ⟨by rfl, ?_⟩) (by assumption) ?_
                      rotate_left
                      · intro w' hSw
                        (try dsimp only at hSw)
                        (try go_split_ands)
                        go_simp
                        try with_reducible rfl
                      (try simp only [Act.put, List.setIfInBounds_toArray, List.set_cons_zero, List.set_cons_succ])
                      refine wpAnyH_take (i := 13) (oi := { dst := some 71, op := Op.move (Operand.tmp 15), type := 3, pos := "ref.go:402", after := #[{ on := 6, ground := Ground.guard }], guard := some (6, true) }) (v := ?_) rfl (by kernel_rfl) (by kernel_rfl) (by kernel_rfl) (fun _ _ _ h => h) (Or.inl ⟨by rfl, ?_⟩) (by assumption) ?_
                      rotate_left
                      · intro w' hSw
                        (try dsimp only at hSw)
                        (try go_split_ands)
                        go_simp
                        try with_reducible rfl
                      (try simp only [Act.put, List.setIfInBounds_toArray, List.set_cons_zero, List.set_cons_succ])
                      refine wpAnyH_take (i := 14) (oi := { dst := some 72, op := Op.indexAddr 38 (Operand.tmp 70) (Operand.tmp 71), type := 0, pos := "ref.go:402", after := #[{ on := 12, ground := Ground.data }, { on := 13, ground := Ground.data }, { on := 6, ground := Ground.guard }], guard := some (6, true) }) (v := ?_) rfl (by kernel_rfl) (by kernel_rfl) (by kernel_rfl) (fun _ _ _ h => h) (Or.inl ⟨by rfl, ?_⟩) (by assumption) ?_
                      rotate_left
                      · intro w' hSw
                        (try dsimp only at hSw)
                        (try go_split_ands)
                        go_simp
                        try with_reducible rfl
                      (try simp only [Act.put, List.setIfInBounds_toArray, List.set_cons_zero, List.set_cons_succ])
                      refine wpAnyH_take (i := 15) (oi := { dst := some 73, op := Op.load 3 (Operand.tmp 72), type := 3, pos := "ref.go:402", after := #[{ on := 14, ground := Ground.data }, { on := 6, ground := Ground.guard }], guard := some (6, true) }) (v := ?_) rfl (by kernel_rfl) (by kernel_rfl) (by kernel_rfl) (fun _ _ _ h => h) (Or.inl ⟨by rfl, ?_⟩) (by assumption) ?_
                      rotate_left
                      · intro w' hSw
                        (try dsimp only at hSw)
                        (try go_split_ands)
                        go_simp
                        try with_reducible rfl
                      (try simp only [Act.put, List.setIfInBounds_toArray, List.set_cons_zero, List.set_cons_succ])
                      refine wpAnyH_ready (rs := [16]) (by kernel_rfl) (by simp) ?_
                      refine (AllReadyH.cons (o := { dst := some 74, op := Op.call { callee := Callee.value (Operand.func 74), args := #[Operand.tmp 68, Operand.tmp 69, Operand.tmp 73], argTypes := #[38, 3, 3] }, type := 4, pos := "ref.go:402", after := #[{ on := 10, ground := Ground.data }, { on := 11, ground := Ground.data }, { on := 15, ground := Ground.data }, { on := 6, ground := Ground.chain }, { on := 6, ground := Ground.guard }], guard := some (6, true) }) rfl (fun K hK => ?_) AllReadyH.nil)
                      go_simp
                      go_at_call 74
                      with_reducible (refine (HRA.out _ (Below.refl wz.heap.size wz).drew).mono ?_)
                      rintro e w16 ⟨rfl, hb16⟩
                      have HB16 := Lib.hid ((Below.refl wz.heap.size wz).drew.trans (hb16.mono (Below.refl wz.heap.size wz).drew.size))
                      clear hb16
                      (try go_wp2_with fail)
                      refine hK.out _ _ (HS.out _ HB16.out) (fun hHeld => ?_)
                      clear hK K
                      (try simp only [Act.put, List.setIfInBounds_toArray, List.set_cons_zero, List.set_cons_succ])
                      refine wpAnyH_take (i := 17) (oi := { dst := some 75, op := Op.pick (Operand.tmp 64) (Operand.tmp 74) (Operand.const (Value.bool false)), type := 4, pos := "ref.go:402", after := #[{ on := 6, ground := Ground.data }, { on := 16, ground := Ground.data }], guard := none }) (v := ?_) rfl (by kernel_rfl) (by kernel_rfl) (by kernel_rfl) (fun _ _ _ h => h) (Or.inl ⟨by rfl, ?_⟩) (by assumption) ?_
                      rotate_left
                      · intro w' hSw
                        (try dsimp only at hSw)
                        (try go_split_ands)
                        go_simp
                        try with_reducible rfl
                      (try simp only [Act.put, List.setIfInBounds_toArray, List.set_cons_zero, List.set_cons_succ])
                      refine wpAnyH_take (i := 18) (oi := { dst := some 76, op := Op.move (Operand.tmp 75), type := 4, pos := "ref.go:402", after := #[{ on := 17, ground := Ground.data }, { on := 16, ground := Ground.chain }], guard := none }) (v := ?_) rfl (by kernel_rfl) (by kernel_rfl) (by kernel_rfl) (fun _ _ _ h => h) (Or.inl ⟨by rfl, ?_⟩) (by assumption) ?_
                      rotate_left
                      · intro w' hSw
                        (try dsimp only at hSw)
                        (try go_split_ands)
                        go_simp
                        try with_reducible rfl
                      (try simp only [Act.put, List.setIfInBounds_toArray, List.set_cons_zero, List.set_cons_succ])
                      refine wpAnyH_take (i := 19) (oi := { dst := some 77, op := Op.move (Operand.tmp 13), type := 76, pos := "ref.go:402", after := #[{ on := 18, ground := Ground.guard }], guard := some (18, true) }) (v := ?_) rfl (by kernel_rfl) (by kernel_rfl) (by kernel_rfl) (fun _ _ _ h => h) (Or.inl ⟨by rfl, ?_⟩) (by assumption) ?_
                      rotate_left
                      · intro w' hSw
                        (try dsimp only at hSw)
                        (try go_split_ands)
                        go_simp
                        try with_reducible rfl
                      (try simp only [Act.put, List.setIfInBounds_toArray, List.set_cons_zero, List.set_cons_succ])
                      refine wpAnyH_take (i := 20) (oi := { dst := some 78, op := Op.move (Operand.tmp 16), type := 3, pos := "ref.go:402", after := #[{ on := 18, ground := Ground.guard }], guard := some (18, true) }) (v := ?_) rfl (by kernel_rfl) (by kernel_rfl) (by kernel_rfl) (fun _ _ _ h => h) (Or.inl ⟨by rfl, ?_⟩) (by assumption) ?_
                      rotate_left
                      · intro w' hSw
                        (try dsimp only at hSw)
                        (try go_split_ands)
                        go_simp
                        try with_reducible rfl
                      (try simp only [Act.put, List.setIfInBounds_toArray, List.set_cons_zero, List.set_cons_succ])
                      refine wpAnyH_take (i := 22) (oi := { dst := some 80, op := Op.move (Operand.tmp 15), type := 3, pos := "ref.go:402", after := #[{ on := 18, ground := Ground.guard }], guard := some (18, true) }) (v := ?_) rfl (by kernel_rfl) (by kernel_rfl) (by kernel_rfl) (fun _ _ _ h => h) (Or.inl ⟨by rfl, ?_⟩) (by assumption) ?_
                      rotate_left
                      · intro w' hSw
                        (try dsimp only at hSw)
                        (try go_split_ands)
                        go_simp
                        try with_reducible rfl
                      (try simp only [Act.put, List.setIfInBounds_toArray, List.set_cons_zero, List.set_cons_succ])
                      refine wpAnyH_take (i := 23) (oi := { dst := some 81, op := Op.move (Operand.tmp 17), type := 3, pos := "ref.go:402", after := #[{ on := 18, ground := Ground.guard }], guard := some (18, true) }) (v := ?_) rfl (by kernel_rfl) (by kernel_rfl) (by kernel_rfl) (fun _ _ _ h => h) (Or.inl ⟨by rfl, ?_⟩) (by assumption) ?_
                      rotate_left
                      · intro w' hSw
                        (try dsimp only at hSw)
                        (try go_split_ands)
                        go_simp
                        try with_reducible rfl
                      (try simp only [Act.put, List.setIfInBounds_toArray, List.set_cons_zero, List.set_cons_succ])
                      refine wpAnyH_ready (rs := [21]) (by kernel_rfl) (by simp) ?_
                      refine (AllReadyH.cons (o := { dst := some 79, op := Op.call { callee := Callee.value (Operand.func 75), args := #[Operand.tmp 77, Operand.tmp 78], argTypes := #[76, 3] }, type := 38, pos := "ref.go:402", after := #[{ on := 19, ground := Ground.data }, { on := 20, ground := Ground.data }, { on := 18, ground := Ground.chain }, { on := 18, ground := Ground.guard }], guard := some (18, true) }) rfl (fun K hK => ?_) AllReadyH.nil)
                      go_simp
                      go_at_call 75
                      with_reducible (refine (HCO.out _ HB16.out).mono ?_)
                      rintro e w21 ⟨ca, cc, rfl, hrow, hb21⟩
                      have HB21 := Lib.hid (HB16.out.trans (hb21.mono HB16.out.size))
                      have HRW2 := Lib.hid (rather_any ca cc ls.length (fun a => CF a j) (by omega) i hi ov hok2 w21 hrow)
                      clear hb21 hrow
                      rw [hq2] at HRW2
                      (try go_wp2_with fail)
                      refine hK.out _ _ (HS.out _ HB21.out) (fun hHeld => ?_)
                      clear hK K
                      (try simp only [Act.put, List.setIfInBounds_toArray, List.set_cons_zero, List.set_cons_succ])
                      refine wpAnyH_ready (rs := [24]) (by kernel_rfl) (by simp) ?_
                      refine (AllReadyH.cons (o := { dst := some 82, op := Op.call { callee := Callee.value (Operand.func 74), args := #[Operand.tmp 79, Operand.tmp 80, Operand.tmp 81], argTypes := #[38, 3, 3] }, type := 4, pos := "ref.go:402", after := #[{ on := 21, ground := Ground.data }, { on := 22, ground := Ground.data }, { on := 23, ground := Ground.data }, { on := 21, ground := Ground.chain }, { on := 18, ground := Ground.guard }], guard := some (18, true) }) rfl (fun K hK => ?_) AllReadyH.nil)
                      go_simp
                      go_at_call 74
                      with_reducible (refine (HRW2.out).mono ?_)
                      rintro e w24 ⟨rfl, hb24⟩
                      have HB24 := Lib.hid (HB21.out.trans (hb24.mono HB21.out.size))
                      clear hb24
                      (try go_wp2_with fail)
                      refine hK.out _ _ (HS.out _ HB24.out) (fun hHeld => ?_)
                      clear hK K
                      (try simp only [Act.put, List.setIfInBounds_toArray, List.set_cons_zero, List.set_cons_succ])
                      refine wpAnyH_take (i := 25) (oi := { dst := some 83, op := Op.pick (Operand.tmp 76) (Operand.tmp 82) (Operand.const (Value.bool false)), type := 4, pos := "ref.go:402", after := #[{ on := 18, ground := Ground.data }, { on := 24, ground := Ground.data }], guard := none }) (v := ?_) rfl (by kernel_rfl) (by kernel_rfl) (by kernel_rfl) (fun _ _ _ h => h) (Or.inl ⟨by rfl, ?_⟩) (by assumption) ?_
                      rotate_left
                      · intro w' hSw
                        (try dsimp only at hSw)
                        (try go_split_ands)
                        go_simp
                        try with_reducible rfl
                      (try simp only [Act.put, List.setIfInBounds_toArray, List.set_cons_zero, List.set_cons_succ])
                      refine wpAnyH_done (by kernel_rfl) ?_ _
                      go_wp2_with fail
                      go_meet
                      exact ⟨rfl, HB24⟩
                case rest =>
                obtain ⟨rfl, HBC⟩ := hcut
                have HJC := Lib.hid (HJ.out.step HBC.out)
                clear HR HRA HCO hself hq2 HJ
                cases r with
                | false =>
                  have HN : Hid (PTV w2 u14 (pal B rs.length i ++ prw B i (j + 1)) wc) := Lib.hid (by rw [HNX.out, if_neg (by simp)]; exact HJC.out)
                  clear HNX HJC
                  go_wp2
                  go_roundg gl'
                  case measure => exact Nat.lt_succ_self _
                  case rel => exact ⟨j + 1, by omega, by go_num, HN⟩
                | true =>
                  obtain ⟨PL, hPL⟩ : ∃ z, z = pal B rs.length i ++ prw B i j := ⟨_, rfl⟩
                  have hown := HJC.out.own
                  rw [← hPL] at hown
                  obtain ⟨n, hn⟩ : ∃ n, n = PL.length := ⟨_, rfl⟩
                  rw [← hn] at hown
                  have hnl : n ≤ 20000 := by
                    have h1 := pal_len B rs.length i
                    have h2 := prw_len B i j
                    have h3 : i * rs.length ≤ 32 * 32 := Nat.mul_le_mul (by omega) (by omega)
                    rw [hn, hPL, List.length_append]
                    omega
                  have hbs := HJC.out.b.size
                  have HPU : Hid (∀ v' w5, w5.ownsRow w2.heap.size 65 2 v' (n + 1) (p2Vals PL ++ [.int .i64 i, .int .i64 j]) → (wc.alloc (.cells #[.int .i64 i, .int .i64 j] 65)).grownBy w5 u14.ownBlock → PTV w2 v' (pal B rs.length i ++ prw B i (j + 1)) w5) := Lib.hid (fun v' w5 ho hg => by
                    rw [HNX.out, if_pos rfl, ← List.append_assoc]
                    refine (HJC.out.step ((Below.refl _ _).alloc (Nat.le_refl _) _)).push (r := (i, j)) ?_ hg
                    rw [← hPL, ← hn]
                    exact ho)
                  clear hn HNX hPL HJC
                  go_wp2_with (at_builtin; refine wpList_append_own _ rfl _ _ 60 rfl w2.heap.size 65 i0 (.agg #[.int .i64 0, .int .i64 0]) 2 16 uPts HI0.out.1 HI0.out.2.1 HI0.out.2.2.1 HI0.out.2.2.2 rfl (by decide) u14 n _ rfl (hown.alloc _) ⟨wc.heap.size, 0, none⟩ 1 1 [.int .i64 i, .int .i64 j] rfl rfl (p2cell_new _ _ _ _) (by intro u hu; simp at hu; rcases hu with rfl | rfl <;> rfl) (by unfold maxLen; omega) (by omega) (by simp; omega) ?_)
                  intro v' w6 hown6 hgrow6 hnil6
                  have HN := Lib.hid (HPU.out v' w6 hown6 hgrow6)
                  clear hown6 hgrow6 hown hnil6 HPU hbs
                  go_wp2
                  go_roundg gl'
                  case measure => exact Nat.lt_succ_self _
                  case rel => exact ⟨j + 1, by omega, by go_num, HN⟩
          · obtain ⟨rfl, rfl⟩ : gk = 0 ∧ j = rs.length := by omega
            have HN : Hid (PTV w2 u14 (pal B rs.length (i + 1)) wr) := HJ
            clear HJ HIS
            go_wp2
            go_roundg gk'
            case measure => exact Nat.lt_succ_self _
            case rel => exact ⟨i + 1, by omega, by go_num, HN⟩
      · obtain ⟨rfl, rfl⟩ : gk = 0 ∧ i = ls.length := by omega
        obtain ⟨a', c', rfl, hps⟩ := HI.out.pts
        have HE2 := Lib.hid (And.intro hps (HB2.out.trans (HI.out.b.mono HB2.out.size)))
        clear hps HI
        go_wp2
        go_ret2
        first | exact ⟨a', c', rfl, HE2.out.1, HE2.out.2⟩ | exact ⟨a', ⟨c', rfl⟩, HE2.out.1, HE2.out.2⟩
  · rw [bloE_err hw]
    obtain ⟨r0, r1, r2, hres⟩ : ∃ r0 r1 r2, wghE ls rs ((x0, x1, x2, x3), (y0, y1, y2, y3)) m = (r0, r1, r2) := ⟨_, _, _, rfl⟩
    rw [hres] at HRW hw ⊢
    simp only at HRW hw
    have t0 : (r2 != 0) = true := by simpa using hw
    clear hres hl hr hk hw
    go_enter Try.func40, Try.ntmps40
    go_wp2_with fail
    refine (HRW.out _ HM.out.b).mono ?_
    rintro e w1 ⟨rfl, hb1⟩
    have HB1 := Lib.hid (HM.out.b.trans (hb1.mono HM.out.b.size))
    clear hb1 HM k0 k1 k2 k3 k4 k5 k6 k7
    go_wp2
    go_ret2
    first | exact ⟨none, 0, rfl, .inl rfl, HB1.out⟩ | exact ⟨none, ⟨0, rfl⟩, .inl rfl, HB1.out⟩

end Go.Proofs.Ytchhadkmemckbaa

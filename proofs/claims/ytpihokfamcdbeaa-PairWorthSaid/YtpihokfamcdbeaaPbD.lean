/- Pairs: Worth. -/
import Derived.Test.YtpihokfamcdbeaaPbC
import Derived.Test.YtpihokfamcdbeaaPaT
namespace Go.Proofs.Ytpihokfamcdbeaa
open Go.RowKit
set_option linter.unusedSimpArgs false
set_option linter.unusedVariables false

set_option maxRecDepth 100000 in
set_option maxHeartbeats 3200000 in
theorem over2_any (po pt L R : Nat) (hL : L ≤ 100) (hR : R ≤ 100) (C : Nat → Nat → Int) (ba oa ca bb ob cb : Nat) (av bv : Int) (i j : Nat) (hi : i < L) (hj : j < R) (hr : (0 ≤ av ∧ av ≤ 1000000000) ∧ (0 ≤ bv ∧ bv ≤ 1000000000) ∧ (-1 ≤ C i j ∧ C i j ≤ 4000000)) (w : World) (ht : TabC w pt L R C) (lt : po < w.heap.size)
    (c0 : w.cell? ⟨po, 0, none⟩ = some (.pointer (some ⟨pt, 0, none⟩))) (e1 : w.cell? ⟨po, 1, none⟩ = some (.slice (some ⟨ba, oa, none⟩) L ca)) (e2 : w.cell? ⟨po, 2, none⟩ = some (.slice (some ⟨bb, ob, none⟩) R cb)) (la : ba < w.heap.size) (lb : bb < w.heap.size) (e3 : w.cell? ⟨ba, oa + i, none⟩ = some (.int .i64 av)) (e4 : w.cell? ⟨bb, ob + j, none⟩ = some (.int .i64 bv)) :
    Calls Try.prog 67 #[.pointer (some ⟨po, 0, none⟩), .int .i64 i, .int .i64 j] w fun e w' => e = .returned (.int .i64 (av + bv + C i j - 1000000000)) ∧ Below w.heap.size w w' := by
  obtain ⟨x, cap, c2, hr2⟩ := ht.c2
  obtain ⟨B, mi, rfl, l1, d1, l2, hd⟩ := hr2 i hi
  have d2 := hd j hj
  have tl := ht.lt
  have hi' : (i : Int) < L := by omega
  have hj' : (j : Int) < R := by omega
  have hi0 : (0 : Int) ≤ i := by omega
  have hj0 : (0 : Int) ≤ j := by omega
  obtain ⟨c, hc⟩ : ∃ c, c = C i j := ⟨_, rfl⟩
  rw [← hc] at d2 hr ⊢
  obtain ⟨s1, hs1⟩ : ∃ z, z = av + bv := ⟨_, rfl⟩
  have w1 : IntKind.i64.wrap (av + bv) = s1 := by rw [hs1]; exact IntWalk.i64_in _ (by omega)
  rw [← hs1]
  obtain ⟨s2, hs2⟩ : ∃ z, z = s1 + c := ⟨_, rfl⟩
  have w2 : IntKind.i64.wrap (s1 + c) = s2 := by rw [hs2]; exact IntWalk.i64_in _ (by omega)
  rw [← hs2]
  obtain ⟨s3, hs3⟩ : ∃ z, z = s2 - 1000000000 := ⟨_, rfl⟩
  have w3 : IntKind.i64.wrap (s2 - 1000000000) = s3 := by rw [hs3]; exact IntWalk.i64_in _ (by omega)
  rw [← hs3]
  clear hr2 hd ht hc hr hs1 hs2 hs3
  go_enter Try.func67, Try.ntmps67
  go_upto_region 1 with fail
  go_region_held3 (fun w' => w'.cell? ⟨po, 0, none⟩ = some (.pointer (some ⟨pt, 0, none⟩)) ∧ w'.cell? ⟨po, 1, none⟩ = some (.slice (some ⟨ba, oa, none⟩) L ca) ∧ w'.cell? ⟨po, 2, none⟩ = some (.slice (some ⟨bb, ob, none⟩) R cb) ∧ w'.cell? ⟨ba, oa + i, none⟩ = some (.int .i64 av) ∧ w'.cell? ⟨bb, ob + j, none⟩ = some (.int .i64 bv) ∧ w'.cell? ⟨pt, 2, none⟩ = some (.slice (some ⟨B, 0, none⟩) L cap) ∧ w'.cell? ⟨B, i, none⟩ = some (.slice (some ⟨mi, 0, none⟩) R R) ∧ w'.cell? ⟨mi, j, none⟩ = some (.int .i64 c))
    (first | (simp only [World.cell?_drew]; exact ⟨c0, e1, e2, e3, e4, c2, d1, d2⟩) | fail) (fail)
  go_wp2
  go_ret
  exact ⟨rfl, (Below.refl _ _).drew⟩

def rngB (x : Int) : Bool := decide (0 ≤ x) && decide (x ≤ 1000000000)
theorem rng_bad {l : List Int} {k : Nat} (h : k < l.length) (hb : l[k] < 0 ∨ 1000000000 < l[k]) : l.all (fun x => decide (0 ≤ x) && decide (x ≤ 1000000000)) = false := by
  cases e : l.all (fun x => decide (0 ≤ x) && decide (x ≤ 1000000000)) with
  | false => rfl
  | true =>
    have := List.all_eq_true.1 e _ (List.getElem_mem h)
    simp at this
    omega
theorem take_sum {l : List Int} {k : Nat} (h : k < l.length) : (l.take (k + 1)).sum = (l.take k).sum + l[k] := by
  rw [List.take_add_one, List.getElem?_eq_getElem h, List.sum_append]
  simp

set_option maxRecDepth 100000 in
set_option maxHeartbeats 6400000 in
theorem worth_any (a a2 a3 a4 : Option Addr) (cap cap2 cap3 cap4 : Nat) (ls rs : List Gl) (x0 x1 x2 x3 y0 y1 y2 y3 : Int) (ps qs : List Int) (hl1 : (ls.length : Int) ≤ 9223372036854775807) (hl2 : (rs.length : Int) ≤ 9223372036854775807) (w : World) (hl : RecS w a ls) (hr : RecS w a2 rs) (hka : IntK w a3 ps) (hkb : IntK w a4 qs) :
    Calls Try.prog 33 #[.slice a ls.length cap, .slice a2 rs.length cap2, .agg #[.int .i64 x0, .int .i64 x1, .int .i64 x2, .int .i64 x3, .int .i64 y0, .int .i64 y1, .int .i64 y2, .int .i64 y3], .slice a3 ps.length cap3, .slice a4 qs.length cap4] w fun e w' => e = .returned (.tuple #[.int .i64 (wthE ls rs ((x0, x1, x2, x3), (y0, y1, y2, y3)) ps qs).1, .bool (wthE ls rs ((x0, x1, x2, x3), (y0, y1, y2, y3)) ps qs).2.1, .int .i64 (wthE ls rs ((x0, x1, x2, x3), (y0, y1, y2, y3)) ps qs).2.2]) ∧ Below w.heap.size w w' := by
  have HM := Lib.hid ((Mem.nil w).alloc_at (H := w.heap.size) rfl #[.int .i64 x0, .int .i64 x1, .int .i64 x2, .int .i64 x3, .int .i64 y0, .int .i64 y1, .int .i64 y2, .int .i64 y3] 32)
  have k0 := HM.out.cell 0
  have k1 := HM.out.cell 1
  have k2 := HM.out.cell 2
  have k3 := HM.out.cell 3
  have k4 := HM.out.cell 4
  have k5 := HM.out.cell 5
  have k6 := HM.out.cell 6
  have k7 := HM.out.cell 7
  simp at k0 k1 k2 k3 k4 k5 k6 k7
  obtain ⟨r0, r1, r2, hres⟩ : ∃ r0 r1 r2, wthE ls rs ((x0, x1, x2, x3), (y0, y1, y2, y3)) ps qs = (r0, r1, r2) := ⟨_, _, _, rfl⟩
  rw [hres]
  have HRES := Lib.hid hres
  clear hres
  obtain ⟨g0, hg0⟩ : ∃ g0, g0 = (sidB ls && sidB rs && ruB ((x0, x1, x2, x3), (y0, y1, y2, y3))) := ⟨_, rfl⟩
  cases g0 with
  | false =>
    have hres := HRES.out
    unfold wthE at hres
    rw [← hg0, if_neg (by simp)] at hres
    simp only [Prod.mk.injEq] at hres
    obtain ⟨rfl, rfl, rfl⟩ := hres
    have HL := Lib.hid (fun w' hb => lay_no a a2 cap cap2 ls rs x0 x1 x2 x3 y0 y1 y2 y3 hg0.symm hl1 hl2 w' (hl.below (w' := w') hb) (hr.below hb))
    clear hg0 hl hr hka hkb HRES
    go_enter Try.func33, Try.ntmps33
    go_wp2_with fail
    refine (HL.out _ HM.out.b).mono ?_
    rintro e w1 ⟨rfl, hb1⟩
    have HB1 := Lib.hid (HM.out.b.trans (hb1.mono HM.out.b.size))
    clear hb1 HM k0 k1 k2 k3 k4 k5 k6 k7
    go_wp2
    go_ret3
    exact ⟨rfl, HB1.out⟩
  | true =>
  have hg1 : (sidB ls = true ∧ sidB rs = true) ∧ ruB ((x0, x1, x2, x3), (y0, y1, y2, y3)) = true := by simpa using hg0.symm
  obtain ⟨⟨h1, h2⟩, h3⟩ := hg1
  have n1 : ls.length ≤ 32 := by unfold sidB at h1; simp at h1; omega
  have n2 : rs.length ≤ 32 := by unfold sidB at h2; simp at h2; omega
  have hC : ∀ i j, i < ls.length → j < rs.length → -1 ≤ cosT ls rs ((x0, x1, x2, x3), (y0, y1, y2, y3)) i j ∧ cosT ls rs ((x0, x1, x2, x3), (y0, y1, y2, y3)) i j ≤ 4000000 := fun i j hi hj => by
    have e : cosT ls rs ((x0, x1, x2, x3), (y0, y1, y2, y3)) i j = costB ls[i] rs[j] ((x0, x1, x2, x3), (y0, y1, y2, y3)) := by unfold cosT; simp [List.getD_eq_getElem?_getD, hi, hj]
    rw [e]
    have o1 : allB ls = true := by unfold sidB at h1; simp at h1; exact h1.2
    have o2 : allB rs = true := by unfold sidB at h2; simp at h2; exact h2.2
    exact costB_range (allB_iff.1 o1 i hi) (allB_iff.1 o2 j hj) h3
  have HL := Lib.hid (fun w' hb => lay_yes a a2 cap cap2 ls rs x0 x1 x2 x3 y0 y1 y2 y3 h1 h2 h3 w' (hl.below (w' := w') hb) (hr.below hb))
  have HKA := Lib.hid hka
  have HKB := Lib.hid hkb
  have hres := HRES.out
  unfold wthE at hres
  rw [← hg0, if_pos rfl] at hres
  obtain ⟨CF, hCF⟩ : ∃ z, z = cosT ls rs ((x0, x1, x2, x3), (y0, y1, y2, y3)) := ⟨_, rfl⟩
  rw [← hCF] at HL hC hres
  have HCB := Lib.hid hC
  obtain ⟨L, hL⟩ : ∃ L, L = ls.length := ⟨_, rfl⟩
  obtain ⟨R, hR⟩ : ∃ R, R = rs.length := ⟨_, rfl⟩
  rw [← hL] at hres HL HCB n1 ⊢
  rw [← hR] at hres HL HCB n2 ⊢
  have HRS := Lib.hid hres
  clear hCF hg0 h1 h2 h3 hl hr hka hkb hC hL hR hres HRES
  go_enter Try.func33, Try.ntmps33
  go_wp2_with fail
  refine (HL.out _ HM.out.b).mono ?_
  rintro e w1 ⟨pt, rfl, -, htab, hb1⟩
  have HT := Lib.hid htab
  have HB1 := Lib.hid (HM.out.b.trans (hb1.mono HM.out.b.size))
  clear htab hb1 HM HL k0 k1 k2 k3 k4 k5 k6 k7
  have tc0 := HT.out.c0
  have tc1 := HT.out.c1
  have tlt := HT.out.lt
  by_cases hla : ps.length = L
  · have t0 : ((ps.length : Int) != (L : Int)) = false := by simp; omega
    by_cases hlb : qs.length = R
    · have t1 : ((qs.length : Int) != (R : Int)) = false := by simp; omega
      have hres := HRS.out
      rw [if_pos ⟨hla, hlb⟩] at hres
      have HRS2 := Lib.hid hres
      have HLA := Lib.hid hla
      have HLB := Lib.hid hlb
      clear hres HRS
      go_upto_region 7 with fail
      clear t0 t1 tc0 tc1 tlt hla hlb
      obtain ⟨wb, hwb⟩ : ∃ z, z = w1.alloc (.cells #[.slice a3 L cap3, .slice a4 R cap4] 38) := ⟨_, rfl⟩
      have hbb : Below w1.heap.size w1 wb := by rw [hwb]; exact (Below.refl _ _).alloc (Nat.le_refl _) _
      have hh : wb.heap[w1.heap.size]? = some (.cells #[.slice a3 L cap3, .slice a4 R cap4] 38 (0, 0)) := by rw [hwb]; exact heap_alloc_new _ _
      have HBB := Lib.hid (HB1.out.trans (hbb.mono HB1.out.size))
      have HTB := Lib.hid (HT.out.below hbb)
      have HCC := Lib.hid (concatI_any w1.heap.size a3 a4 cap3 cap4 ps qs (by have := HLA.out; omega) (by have := HLB.out; omega) wb (block_lt hh) (by rw [blkc hh, HLA.out]; rfl) (by rw [blkc hh, HLB.out]; rfl) (HKA.out.below HBB.out) (HKB.out.below HBB.out))
      have HWB := Lib.hid hwb
      clear hwb hbb hh HT HB1
      go_wp2_with fail
      rw [← HWB.out]
      refine HCC.out.mono ?_
      rintro e w2 ⟨xc, cc, rfl, hik, hb2⟩
      have HIK := Lib.hid hik
      have HB2 := Lib.hid (HBB.out.trans (hb2.mono HBB.out.size))
      have HT2 := Lib.hid (HTB.out.below hb2)
      obtain ⟨zs, hzs⟩ : ∃ zs, zs = ps ++ qs := ⟨_, rfl⟩
      rw [← hzs] at HIK HRS2 ⊢
      have HZL : Hid (zs.length = L + R) := Lib.hid (by rw [hzs, List.length_append, HLA.out, HLB.out])
      have HZS := Lib.hid hzs
      clear hik hb2 hzs HBB HTB HCC HWB
      go_wp2_with fail
      go_loopg [15, 52] zs.length (fun gk s x wr => ∃ k : Nat, k + gk = zs.length ∧ x = .int .i64 k ∧ (∃ S : Int, s = .int .i64 S ∧ Hid (S = (zs.take k).sum) ∧ (0 ≤ S ∧ S ≤ 1000000000 * k)) ∧ Hid (∀ i (h : i < zs.length), i < k → 0 ≤ zs[i] ∧ zs[i] ≤ 1000000000) ∧ wr = w2)
      case atStart => exact ⟨0, by omega, rfl, ⟨0, rfl, Lib.hid rfl, by omega⟩, Lib.hid (fun i _ h => by omega), rfl⟩
      case round =>
        obtain ⟨k, hk, rfl, ⟨S, rfl, HS, hS1, hS2⟩, HP, rfl⟩ := hrel
        by_cases hlt : k < zs.length
        · obtain ⟨gk', rfl⟩ : ∃ m, gk = m + 1 := ⟨gk - 1, by omega⟩
          have hlt' : (k : Int) < zs.length := by omega
          have hk0 : (0 : Int) ≤ k := by omega
          have hzl := HZL.out
          obtain ⟨b, off, rfl, hb, d0⟩ := HIK.out.at_ hlt
          have hnx := take_sum hlt
          rw [← HS.out] at hnx
          have HBAD := Lib.hid (fun h => rng_bad (l := zs) hlt h)
          have HPN : Hid (0 ≤ zs[k] ∧ zs[k] ≤ 1000000000 → ∀ i (h : i < zs.length), i < k + 1 → 0 ≤ zs[i] ∧ zs[i] ≤ 1000000000) := Lib.hid (fun e i h hi => by
            by_cases hik : i = k
            · subst hik; exact e
            · exact HP.out i h (by omega))
          obtain ⟨v, hv⟩ : ∃ v, v = zs[k] := ⟨_, rfl⟩
          rw [← hv] at d0 hnx HBAD HPN
          clear hv
          by_cases hv0 : v < 0
          · have t2 : decide (v < 0) = true := decide_eq_true hv0
            have hres := HRS2.out
            rw [if_neg (by rw [HBAD.out (.inl hv0)]; simp)] at hres
            simp only [Prod.mk.injEq] at hres
            obtain ⟨rfl, rfl, rfl⟩ := hres
            clear HRS2 hnx
            go_wp2
            go_ret3
            exact ⟨rfl, HB2.out⟩
          · have t2 : decide (v < 0) = false := decide_eq_false hv0
            by_cases hv1 : 1000000000 < v
            · have t3 : decide (1000000000 < v) = true := decide_eq_true hv1
              have hres := HRS2.out
              rw [if_neg (by rw [HBAD.out (.inr hv1)]; simp)] at hres
              simp only [Prod.mk.injEq] at hres
              obtain ⟨rfl, rfl, rfl⟩ := hres
              clear HRS2 hnx
              go_wp2
              go_ret3
              exact ⟨rfl, HB2.out⟩
            · have t3 : decide (1000000000 < v) = false := decide_eq_false hv1
              have v1 : IntKind.i64.wrap (S + v) = S + v := IntWalk.i64_in _ (by omega)
              have HN := Lib.hid (HPN.out ⟨by omega, by omega⟩)
              have HSN := Lib.hid hnx.symm
              have hbd : 0 ≤ S + v ∧ S + v ≤ 1000000000 * (k + 1 : Nat) := by omega
              have HBD := Lib.hid hbd
              have hk64 : (k : Int) + 1 ≤ 65 := by omega
              clear hnx hzl
              go_wp2
              go_roundg gk'
              case measure => exact Nat.lt_succ_self _
              case rel => exact ⟨k + 1, by omega, by go_num, ⟨S + v, rfl, HSN, HBD.out⟩, HN, rfl⟩
        · obtain rfl : k = zs.length := by omega
          have hall : zs.all (fun x => decide (0 ≤ x) && decide (x ≤ 1000000000)) = true := by
            rw [List.all_eq_true]
            intro x hx
            obtain ⟨i, hi, rfl⟩ := List.mem_iff_getElem.1 hx
            have := HP.out i hi hi
            simp
            omega
          have hres := HRS2.out
          rw [if_pos hall] at hres
          have hsum : S = zs.sum := by have := HS.out; rwa [List.take_length] at this
          rw [← hsum] at hres
          have HRG : Hid ((∀ i, i < L → 0 ≤ ps.getD i 0 ∧ ps.getD i 0 ≤ 1000000000) ∧ ∀ j, j < R → 0 ≤ qs.getD j 0 ∧ qs.getD j 0 ≤ 1000000000) := Lib.hid (by
            have hr : ∀ x, x ∈ ps ++ qs → 0 ≤ x ∧ x ≤ 1000000000 := fun x hx => by rw [← HZS.out] at hx; simpa using List.all_eq_true.1 hall x hx
            have e1 := HLA.out
            have e2 := HLB.out
            refine ⟨fun i hi => ?_, fun j hj => ?_⟩
            · rw [List.getD_eq_getElem?_getD, List.getElem?_eq_getElem (by omega)]
              exact hr _ (List.mem_append_left _ (List.getElem_mem _))
            · rw [List.getD_eq_getElem?_getD, List.getElem?_eq_getElem (by omega)]
              exact hr _ (List.mem_append_right _ (List.getElem_mem _)))
          have HR3 := Lib.hid hres
          clear hall hres hsum HRS2 HP HS HIK HZL HZS
          go_wp2_with fail
          obtain ⟨wo, hwo⟩ : ∃ z, z = wr.alloc (.cells #[.pointer (some ⟨pt, 0, none⟩), .slice a3 L cap3, .slice a4 R cap4] 99) := ⟨_, rfl⟩
          obtain ⟨po, hpo⟩ : ∃ z, z = wr.heap.size := ⟨_, rfl⟩
          have hbo : Below wr.heap.size wr wo := by rw [hwo]; exact (Below.refl _ _).alloc (Nat.le_refl _) _
          have hho : wo.heap[po]? = some (.cells #[.pointer (some ⟨pt, 0, none⟩), .slice a3 L cap3, .slice a4 R cap4] 99 (0, 0)) := by rw [hwo, hpo]; exact heap_alloc_new _ _
          have HHO := Lib.hid hho
          have HTO := Lib.hid (HT2.out.below hbo)
          have HBO := Lib.hid (HB2.out.trans (hbo.mono HB2.out.size))
          have HPAo := Lib.hid (HKA.out.below HBO.out)
          have HPBo := Lib.hid (HKB.out.below HBO.out)
          have HOV : Hid (∀ i j, i < L → j < R → ∀ w', Below wo.heap.size wo w' → Calls Try.prog 67 #[.pointer (some ⟨po, 0, none⟩), .int .i64 i, .int .i64 j] w' fun e w'' => e = .returned (.int .i64 (ps.getD i 0 + qs.getD j 0 + CF i j - 1000000000)) ∧ Below w'.heap.size w' w'') := Lib.hid (fun i j hi hj w' hb => by
            have e1 := HLA.out
            have e2 := HLB.out
            obtain ⟨ba, oa, ha3, hba, da⟩ := (HPAo.out.below hb).at_ (k := i) (by omega)
            obtain ⟨bb, ob, ha4, hbb, db⟩ := (HPBo.out.below hb).at_ (k := j) (by omega)
            have ga : ps.getD i 0 = ps[i]'(by omega) := by rw [List.getD_eq_getElem?_getD, List.getElem?_eq_getElem (by omega)]; rfl
            have gb : qs.getD j 0 = qs[j]'(by omega) := by rw [List.getD_eq_getElem?_getD, List.getElem?_eq_getElem (by omega)]; rfl
            rw [← ga] at da
            rw [← gb] at db
            obtain ⟨c0, c1, c2, -, cl⟩ := blk3 (blk_keep HHO.out hb)
            rw [ha3] at c1
            rw [ha4] at c2
            exact over2_any po pt L R (by omega) (by omega) CF ba oa cap3 bb ob cap4 _ _ i j hi hj ⟨HRG.out.1 i hi, HRG.out.2 j hj, HCB.out i j hi hj⟩ w' (HTO.out.below hb) cl c0 c1 c2 hba hbb da db)
          rw [← hwo, ← hpo]
          clear hwo hpo hbo hho HHO HPAo HPBo
          go_loopg [73] L (fun gk x wr => ∃ k : Nat, k + gk = L ∧ x = .int .i64 k ∧ Hid (∀ i j, i < k → j < R → CF i j ≠ -1 → 0 ≤ ps.getD i 0 + qs.getD j 0 + CF i j - 1000000000) ∧ Hid (Below wo.heap.size wo wr))
          case atStart => exact ⟨0, by omega, rfl, Lib.hid (fun i j hi => by omega), Lib.hid (Below.refl _ _)⟩
          case round =>
            obtain ⟨i, hi, rfl, HPI, HI⟩ := hrel
            by_cases hlt : i < L
            · obtain ⟨gk', rfl⟩ : ∃ m, gk = m + 1 := ⟨gk - 1, by omega⟩
              have hlt' : (i : Int) < L := by omega
              go_wp2_with fail
              go_loopg [78] R (fun gj x wr => ∃ y : Nat, y + gj = R ∧ x = .int .i64 y ∧ Hid (∀ j, j < y → CF i j ≠ -1 → 0 ≤ ps.getD i 0 + qs.getD j 0 + CF i j - 1000000000) ∧ Hid (Below wo.heap.size wo wr))
              case atStart => exact ⟨0, by omega, rfl, Lib.hid (fun j hj => by omega), HI⟩
              case round =>
                obtain ⟨y, hy, rfl, HPJ, HJ⟩ := hrel
                by_cases hly : y < R
                · obtain ⟨gj', rfl⟩ : ∃ m, gk = m + 1 := ⟨gk - 1, by omega⟩
                  have hly' : (y : Int) < R := by omega
                  have HA := Lib.hid (allows_any pt L R (by omega) (by omega) CF i y hlt hly _ (HTO.out.below HJ.out))
                  have HV := Lib.hid (fun w' hb => HOV.out i y hlt hly w' hb)
                  have HPN : Hid ((CF i y ≠ -1 → 0 ≤ ps.getD i 0 + qs.getD y 0 + CF i y - 1000000000) → ∀ j, j < y + 1 → CF i j ≠ -1 → 0 ≤ ps.getD i 0 + qs.getD j 0 + CF i j - 1000000000) := Lib.hid (fun h j hj hc => by
                    by_cases e : j = y
                    · subst e; exact h hc
                    · exact HPJ.out j (by omega) hc)
                  have HBADP : Hid (CF i y ≠ -1 → ps.getD i 0 + qs.getD y 0 + CF i y - 1000000000 < 0 → prfB CF L R (fun i => ps.getD i 0) (fun j => qs.getD j 0) = false) := Lib.hid (fun hc h => by
                    cases e : prfB CF L R (fun i => ps.getD i 0) (fun j => qs.getD j 0) with
                    | false => rfl
                    | true => have := prfB_iff.1 e i y hlt hly hc; omega)
                  obtain ⟨c, hc⟩ : ∃ c, c = CF i y := ⟨_, rfl⟩
                  obtain ⟨q, hq⟩ : ∃ q, q = ps.getD i 0 + qs.getD y 0 + CF i y - 1000000000 := ⟨_, rfl⟩
                  rw [← hq] at HV HPN HBADP
                  rw [← hc] at HA HPN HBADP
                  obtain ⟨x, hx⟩ : ∃ x, x = (c != -1) := ⟨_, rfl⟩
                  rw [← hx] at HA
                  have HX := Lib.hid hx
                  clear hc hq hx
                  go_wp2_with fail
                  refine HA.out.mono ?_
                  rintro e w5 ⟨rfl, hb5⟩
                  have HJ5 := Lib.hid (HJ.out.trans (hb5.mono HJ.out.size))
                  clear hb5 HJ HA
                  cases x with
                  | false =>
                    have hc : c = -1 := by have := HX.out; simpa using this.symm
                    have HN := Lib.hid (HPN.out (fun h => absurd hc h))
                    clear hc HPN HBADP HX
                    go_wp2
                    go_roundg gj'
                    case measure => exact Nat.lt_succ_self _
                    case rel => exact ⟨y + 1, by omega, by go_num, HN, HJ5⟩
                  | true =>
                    have hc : c ≠ -1 := by have := HX.out; simpa using this.symm
                    have HCN := Lib.hid hc
                    clear hc HX
                    go_wp2_with fail
                    refine (HV.out _ HJ5.out).mono ?_
                    rintro e w6 ⟨rfl, hb6⟩
                    have HJ6 := Lib.hid (HJ5.out.trans (hb6.mono HJ5.out.size))
                    clear hb6 HJ5 HV
                    by_cases hq0 : q < 0
                    · have t4 : decide (q < 0) = true := decide_eq_true hq0
                      have hres := HR3.out
                      rw [if_neg (by rw [HBADP.out HCN.out hq0]; simp)] at hres
                      simp only [Prod.mk.injEq] at hres
                      obtain ⟨rfl, rfl, rfl⟩ := hres
                      have HE := Lib.hid (HBO.out.trans (HJ6.out.mono HBO.out.size))
                      clear HR3 HPN HBADP
                      go_wp2
                      go_ret3
                      exact ⟨rfl, HE.out⟩
                    · have t4 : decide (q < 0) = false := decide_eq_false hq0
                      have HN := Lib.hid (HPN.out (fun _ => by omega))
                      clear HPN HBADP
                      go_wp2
                      go_roundg gj'
                      case measure => exact Nat.lt_succ_self _
                      case rel => exact ⟨y + 1, by omega, by go_num, HN, HJ6⟩
                · obtain ⟨rfl, rfl⟩ : gk = 0 ∧ y = R := by omega
                  have HN : Hid (∀ k j, k < i + 1 → j < y → CF k j ≠ -1 → 0 ≤ ps.getD k 0 + qs.getD j 0 + CF k j - 1000000000) := Lib.hid (fun k j hk hj hc => by
                    by_cases e : k = i
                    · subst e; exact HPJ.out j hj hc
                    · exact HPI.out k j (by omega) hj hc)
                  go_wp2
                  go_roundg gk'
                  case measure => exact Nat.lt_succ_self _
                  case rel => exact ⟨i + 1, by omega, by go_num, HN, HJ⟩
            · obtain ⟨rfl, rfl⟩ : gk = 0 ∧ i = L := by omega
              have hres := HR3.out
              rw [if_pos (prfB_iff.2 (fun k j hk hj hc => HPI.out k j hk hj hc))] at hres
              simp only [Prod.mk.injEq] at hres
              obtain ⟨rfl, rfl, rfl⟩ := hres
              have HE := Lib.hid (HBO.out.trans (HI.out.mono HBO.out.size))
              clear HR3
              go_wp2
              go_ret3
              exact ⟨rfl, HE.out⟩
    · have t1 : ((qs.length : Int) != (R : Int)) = true := by simp; omega
      have hres := HRS.out
      rw [if_neg (fun h => hlb h.2)] at hres
      simp only [Prod.mk.injEq] at hres
      obtain ⟨rfl, rfl, rfl⟩ := hres
      clear HRS hla hlb
      go_wp2
      go_ret3
      exact ⟨rfl, HB1.out⟩
  · have t0 : ((ps.length : Int) != (L : Int)) = true := by simp; omega
    have hres := HRS.out
    rw [if_neg (fun h => hla h.1)] at hres
    simp only [Prod.mk.injEq] at hres
    obtain ⟨rfl, rfl, rfl⟩ := hres
    clear HRS hla
    go_wp2
    go_ret3
    exact ⟨rfl, HB1.out⟩

end Go.Proofs.Ytpihokfamcdbeaa

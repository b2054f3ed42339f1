/- The reference's Print. -/
import Derived.Test.YtmgbecfodinhhaaDoorTxP
import Derived.RegionTactic
import Derived.ChangeAlike
namespace Go.Proofs.YtmgbecfodinhhaaDoor
open Go.RowKit
set_option linter.unusedSimpArgs false

/-- A later world in which the library's variables read so, and the first block laid holds the fraction. -/
def EnvP (w : World) (n d : Int) (w' : World) : Prop := EnvS w w' ∧ Mem w [(w.heap.size, #[.int .i64 n, .int .i64 d], 23)] w'

theorem EnvP.start {w : World} (h : Env w) (n d : Int) : EnvP w n d (w.alloc (.cells #[.int .i64 n, .int .i64 d] 23)) := ⟨(EnvS.start h).alloc _, (Mem.nil w).alloc _ _⟩
theorem EnvP.step {w w1 w2 : World} {n d : Int} (h : EnvP w n d w1) (hb : Below w1.heap.size w1 w2) : EnvP w n d w2 := ⟨h.1.step hb, h.2.step hb⟩
theorem EnvP.drew {w w1 : World} {n d : Int} (h : EnvP w n d w1) : EnvP w n d w1.drew := h.step (Below.refl _ _).drew
theorem EnvP.l {w w1 : World} {n d : Int} (h : EnvP w n d w1) : EnvP w n d w1 ∧ w1.cell? ⟨w.heap.size, 0, none⟩ = some (.int .i64 n) ∧ w1.cell? ⟨w.heap.size, 1, none⟩ = some (.int .i64 d) := ⟨h, h.2.cell 0, h.2.cell 1⟩
theorem EnvP.b {w w1 : World} {n d : Int} (h : EnvP w n d w1) : Below w.heap.size w w1 := h.1.1

theorem itoa_e (w0 : World) (n d : Int) (x : Int) (l : List UInt8) (hl : Hid (Lib.decDigits x.toNat = l)) (h0 : 0 ≤ x) (h1 : x ≤ 1000000000) (w : World) (he : EnvP w0 n d w) :
    Calls Tryd.prog 13 #[.int .i64 x] w fun e w' => e = .returned (.string ⟨l.toArray⟩) ∧ Below w.heap.size w w' := itoa_n w0 x l hl h0 h1 w he.1

theorem cat0 (b : List UInt8) : ((⟨#[]⟩ : ByteArray) ++ ⟨b.toArray⟩) = ⟨b.toArray⟩ := by
  have e : (#[] : Array UInt8) = [].toArray := rfl
  rw [e, ByteArray.mk_append_mk]; rfl
theorem cat2 (a b : List UInt8) : ((⟨a.toArray⟩ : ByteArray) ++ ⟨b.toArray⟩) = ⟨(a ++ b).toArray⟩ := ByteArray.mk_append_mk a b
theorem lit1 (c : UInt8) : (⟨#[c]⟩ : ByteArray) = ⟨[c].toArray⟩ := rfl
theorem lit0 : (⟨#[]⟩ : ByteArray) = ⟨[].toArray⟩ := rfl

/-- What Print answers, by the three forms. -/
theorem rp_A {sg : List UInt8} {n d m : Int} {l1 : List UInt8} (hv : vfB n d = true) (hp : printS n d = sg ++ mixedS m.toNat d.toNat) (h0 : 0 ≤ m) (hd : 1 ≤ d) (h : (m % d == 0) = true) (e1 : Lib.decDigits (m / d).toNat = l1) : printT n d = (sg ++ l1, 0) := by
  rw [printT_yes hv, hp, mixed_A h0 hd h, e1]
theorem rp_B {sg : List UInt8} {n d m : Int} {l2 l3 : List UInt8} (hv : vfB n d = true) (hp : printS n d = sg ++ mixedS m.toNat d.toNat) (h0 : 0 ≤ m) (hd : 1 ≤ d) (h : (m % d == 0) = false) (hl : m < d) (e2 : Lib.decDigits (m % d).toNat = l2) (e3 : Lib.decDigits d.toNat = l3) : printT n d = (sg ++ (l2 ++ 47 :: l3), 0) := by
  rw [printT_yes hv, hp, mixed_B h0 hd h hl, e2, e3]
theorem rp_C {sg : List UInt8} {n d m : Int} {l1 l2 l3 : List UInt8} (hv : vfB n d = true) (hp : printS n d = sg ++ mixedS m.toNat d.toNat) (h0 : 0 ≤ m) (hd : 1 ≤ d) (h : (m % d == 0) = false) (hl : d ≤ m) (e1 : Lib.decDigits (m / d).toNat = l1) (e2 : Lib.decDigits (m % d).toNat = l2) (e3 : Lib.decDigits d.toNat = l3) : printT n d = (sg ++ (l1 ++ 32 :: (l2 ++ 47 :: l3)), 0) := by
  rw [printT_yes hv, hp, mixed_C h0 hd h hl, e1, e2, e3]

theorem rprint_no (n d : Int) (w : World) (he : Env w) (hv : vfB n d = false) :
    Calls Tryd.prog 6 #[.agg #[.int .i64 n, .int .i64 d]] w fun e w' => ∃ l z, e = .returned (.tuple #[.string ⟨l.toArray⟩, .int .i64 z]) ∧ Hid (printT n d = (l, z)) ∧ Below w.heap.size w w' := by
  have HP0 := Lib.hid (EnvP.start he n d)
  have HT := Lib.hid (printT_no hv)
  have HV := Lib.hid hv
  clear hv he
  go_enter Tryd.func6, Tryd.ntmps6
  go_wp2_with fail
  refine (valid_r n d _).mono ?_
  rintro e w1 ⟨rfl, hb1⟩
  rw [HV.out]
  have HP1 := Lib.hid (HP0.out.step hb1)
  clear hb1
  go_wp2
  go_ret2
  exact ⟨[], 2, rfl, HT, HP1.out.b⟩

set_option maxRecDepth 100000 in
set_option maxHeartbeats 3200000 in
theorem rprint_neg (n d : Int) (w : World) (he : Env w) (hv : vfB n d = true) (hn : n < 0) :
    Calls Tryd.prog 6 #[.agg #[.int .i64 n, .int .i64 d]] w fun e w' => ∃ l z, e = .returned (.tuple #[.string ⟨l.toArray⟩, .int .i64 z]) ∧ Hid (printT n d = (l, z)) ∧ Below w.heap.size w w' := by
  have HP0 := Lib.hid (EnvP.start he n d)
  have HV := Lib.hid hv
  have hvf := (vfB_iff n d).1 hv
  have h1 := hvf.d1
  have h2 := hvf.d2
  have h3 := hvf.n1
  have h4 := hvf.n2
  clear hv he hvf
  obtain ⟨m, hm⟩ : ∃ m, m = -n := ⟨_, rfl⟩
  have HPR : Hid (printS n d = [45] ++ mixedS m.toNat d.toNat) := Lib.hid (by rw [hm]; exact print_neg hn h1)
  have hm0 : 0 ≤ m := by omega
  have hm1 : m ≤ 1000000000 := by omega
  have HME := Lib.hid hm
  clear hm
  obtain ⟨l1, e1⟩ : ∃ l, Lib.decDigits (m / d).toNat = l := ⟨_, rfl⟩
  obtain ⟨l2, e2⟩ : ∃ l, Lib.decDigits (m % d).toNat = l := ⟨_, rfl⟩
  obtain ⟨l3, e3⟩ : ∃ l, Lib.decDigits d.toNat = l := ⟨_, rfl⟩
  have HL := Lib.hid (And.intro (Lib.hid e1) (And.intro (Lib.hid e2) (Lib.hid e3)))
  have hq0 : 0 ≤ m / d := Int.ediv_nonneg hm0 (by omega)
  have hq1 : m / d ≤ 1000000000 := Int.le_trans (Int.ediv_le_self _ hm0) hm1
  have hr0 : 0 ≤ m % d := Int.emod_nonneg _ (by omega)
  have hr1 : m % d ≤ 1000000000 := by have := Int.emod_lt_of_pos m (show 0 < d by omega); omega
  have hs1 : l1.length ≤ 10 := by rw [← e1]; exact dec_len10 _ (by omega)
  have hs2 : l2.length ≤ 10 := by rw [← e2]; exact dec_len10 _ (by omega)
  have hs3 : l3.length ≤ 10 := by rw [← e3]; exact dec_len10 _ (by omega)
  have hc1 : ¬ 9223372036854775807 < l2.length + 1 := by omega
  have hc2 : ¬ 9223372036854775807 < l2.length + 1 + l3.length := by omega
  have htm : m.tmod d = m % d := Int.tmod_eq_emod_of_nonneg hm0
  have htq : m.tdiv d = m / d := Int.tdiv_eq_ediv_of_nonneg hm0
  have hw : IntKind.i64.wrap (m / d) = m / d := IntWalk.i64_in _ (by omega)
  have hz : d ≠ 0 := by omega
  have hzb : (d == 0) = false := by simpa using hz
  clear e1 e2 e3

  go_enter Tryd.func6, Tryd.ntmps6
  go_wp2_with fail
  refine (valid_r n d _).mono ?_
  rintro e w1 ⟨rfl, hb1⟩
  rw [HV.out]
  have HP1 := Lib.hid (HP0.out.step hb1)
  obtain ⟨-, c0, c1⟩ := HP1.out.l
  clear hb1
  go_wp2_with fail
  go_region
  have HP2 := Lib.hid HP1.out.drew
  obtain ⟨-, c0, c1⟩ := HP2.out.l
  go_wp2_with fail
  rw [← HME.out]
  go_region_held3 (fun w' => EnvP w n d w' ∧ w'.cell? ⟨w.heap.size, 0, none⟩ = some (.int .i64 n) ∧ w'.cell? ⟨w.heap.size, 1, none⟩ = some (.int .i64 d))
    (first | exact HP2.out.drew.l | exact HP2.out.l | (go_split_ands; exact (EnvP.step (by assumption) (by assumption)).l))
    (first
      | (go_at_call 13; go_split_ands; with_reducible (refine (itoa_e w n d (m % d) l2 HL.out.2.1 hr0 hr1 _ (by assumption)).mono ?_); rintro e w2 ⟨rfl, hb2⟩)
      | (go_at_call 13; go_split_ands; with_reducible (refine (itoa_e w n d d l3 HL.out.2.2 (by omega) h2 _ (by assumption)).mono ?_); rintro e w3 ⟨rfl, hb3⟩))
  have HP3 : Hid (EnvP w n d w3) := Lib.hid (by go_split_ands; assumption)
  obtain ⟨-, c0, c1⟩ := HP3.out.l
  by_cases ha : m % d = 0
  · have ha' : (m % d == 0) = true := by simpa using ha
    have HA : Hid ((m % d == 0) = true) := Lib.hid ha'
    clear ha
    go_wp2_with fail
    refine (itoa_e w n d (m / d) l1 HL.out.1 hq0 hq1 _ HP3.out).mono ?_
    rintro e w4 ⟨rfl, hb4⟩
    have HP4 := Lib.hid (HP3.out.step hb4)
    clear hb4
    go_wp2
    go_ret2
    exact ⟨[45] ++ l1, 0, by simp only [lit1, lit0, cat2, List.append_assoc, List.cons_append, List.nil_append]; rfl, Lib.hid (rp_A HV.out HPR.out hm0 h1 HA.out HL.out.1.out), HP4.out.b⟩
  · have ha' : (m % d == 0) = false := by simpa using ha
    have HA : Hid ((m % d == 0) = false) := Lib.hid ha'
    clear ha
    by_cases hb : m < d
    · go_wp2
      go_ret2
      exact ⟨[45] ++ (l2 ++ 47 :: l3), 0, by simp only [lit1, lit0, cat2, List.append_assoc, List.cons_append, List.nil_append]; rfl, Lib.hid (rp_B HV.out HPR.out hm0 h1 HA.out hb HL.out.2.1.out HL.out.2.2.out), HP3.out.b⟩
    · go_wp2_with fail
      refine (itoa_e w n d (m / d) l1 HL.out.1 hq0 hq1 _ HP3.out).mono ?_
      rintro e w4 ⟨rfl, hb4⟩
      have HP4 := Lib.hid (HP3.out.step hb4)
      clear hb4
      go_wp2
      go_ret2
      exact ⟨[45] ++ (l1 ++ 32 :: (l2 ++ 47 :: l3)), 0, by simp only [lit1, lit0, cat2, List.append_assoc, List.cons_append, List.nil_append]; rfl, Lib.hid (rp_C HV.out HPR.out hm0 h1 HA.out (by omega) HL.out.1.out HL.out.2.1.out HL.out.2.2.out), HP4.out.b⟩

set_option maxRecDepth 100000 in
set_option maxHeartbeats 3200000 in
theorem rprint_pos (n d : Int) (w : World) (he : Env w) (hv : vfB n d = true) (hn : ¬ n < 0) :
    Calls Tryd.prog 6 #[.agg #[.int .i64 n, .int .i64 d]] w fun e w' => ∃ l z, e = .returned (.tuple #[.string ⟨l.toArray⟩, .int .i64 z]) ∧ Hid (printT n d = (l, z)) ∧ Below w.heap.size w w' := by
  have HP0 := Lib.hid (EnvP.start he n d)
  have HV := Lib.hid hv
  have hvf := (vfB_iff n d).1 hv
  have h1 := hvf.d1
  have h2 := hvf.d2
  have h3 := hvf.n1
  have h4 := hvf.n2
  clear hv he hvf
  obtain ⟨m, hm⟩ : ∃ m, m = n := ⟨_, rfl⟩
  have HPR : Hid (printS n d = ([] : List UInt8) ++ mixedS m.toNat d.toNat) := Lib.hid (by rw [hm]; exact print_pos hn h1)
  have hm0 : 0 ≤ m := by omega
  have hm1 : m ≤ 1000000000 := by omega
  have HME := Lib.hid hm
  clear hm
  obtain ⟨l1, e1⟩ : ∃ l, Lib.decDigits (m / d).toNat = l := ⟨_, rfl⟩
  obtain ⟨l2, e2⟩ : ∃ l, Lib.decDigits (m % d).toNat = l := ⟨_, rfl⟩
  obtain ⟨l3, e3⟩ : ∃ l, Lib.decDigits d.toNat = l := ⟨_, rfl⟩
  have HL := Lib.hid (And.intro (Lib.hid e1) (And.intro (Lib.hid e2) (Lib.hid e3)))
  have hq0 : 0 ≤ m / d := Int.ediv_nonneg hm0 (by omega)
  have hq1 : m / d ≤ 1000000000 := Int.le_trans (Int.ediv_le_self _ hm0) hm1
  have hr0 : 0 ≤ m % d := Int.emod_nonneg _ (by omega)
  have hr1 : m % d ≤ 1000000000 := by have := Int.emod_lt_of_pos m (show 0 < d by omega); omega
  have hs1 : l1.length ≤ 10 := by rw [← e1]; exact dec_len10 _ (by omega)
  have hs2 : l2.length ≤ 10 := by rw [← e2]; exact dec_len10 _ (by omega)
  have hs3 : l3.length ≤ 10 := by rw [← e3]; exact dec_len10 _ (by omega)
  have hc1 : ¬ 9223372036854775807 < l2.length + 1 := by omega
  have hc2 : ¬ 9223372036854775807 < l2.length + 1 + l3.length := by omega
  have htm : m.tmod d = m % d := Int.tmod_eq_emod_of_nonneg hm0
  have htq : m.tdiv d = m / d := Int.tdiv_eq_ediv_of_nonneg hm0
  have hw : IntKind.i64.wrap (m / d) = m / d := IntWalk.i64_in _ (by omega)
  have hz : d ≠ 0 := by omega
  have hzb : (d == 0) = false := by simpa using hz
  clear e1 e2 e3

  go_enter Tryd.func6, Tryd.ntmps6
  go_wp2_with fail
  refine (valid_r n d _).mono ?_
  rintro e w1 ⟨rfl, hb1⟩
  rw [HV.out]
  have HP1 := Lib.hid (HP0.out.step hb1)
  obtain ⟨-, c0, c1⟩ := HP1.out.l
  clear hb1
  go_wp2_with fail
  go_region
  have HP2 := Lib.hid HP1.out.drew
  obtain ⟨-, c0, c1⟩ := HP2.out.l
  go_wp2_with fail
  rw [← HME.out]
  go_region_held3 (fun w' => EnvP w n d w' ∧ w'.cell? ⟨w.heap.size, 0, none⟩ = some (.int .i64 n) ∧ w'.cell? ⟨w.heap.size, 1, none⟩ = some (.int .i64 d))
    (first | exact HP2.out.drew.l | exact HP2.out.l | (go_split_ands; exact (EnvP.step (by assumption) (by assumption)).l))
    (first
      | (go_at_call 13; go_split_ands; with_reducible (refine (itoa_e w n d (m % d) l2 HL.out.2.1 hr0 hr1 _ (by assumption)).mono ?_); rintro e w2 ⟨rfl, hb2⟩)
      | (go_at_call 13; go_split_ands; with_reducible (refine (itoa_e w n d d l3 HL.out.2.2 (by omega) h2 _ (by assumption)).mono ?_); rintro e w3 ⟨rfl, hb3⟩))
  have HP3 : Hid (EnvP w n d w3) := Lib.hid (by go_split_ands; assumption)
  obtain ⟨-, c0, c1⟩ := HP3.out.l
  by_cases ha : m % d = 0
  · have ha' : (m % d == 0) = true := by simpa using ha
    have HA : Hid ((m % d == 0) = true) := Lib.hid ha'
    clear ha
    go_wp2_with fail
    refine (itoa_e w n d (m / d) l1 HL.out.1 hq0 hq1 _ HP3.out).mono ?_
    rintro e w4 ⟨rfl, hb4⟩
    have HP4 := Lib.hid (HP3.out.step hb4)
    clear hb4
    go_wp2
    go_ret2
    exact ⟨([] : List UInt8) ++ l1, 0, by simp only [lit1, lit0, cat2, List.append_assoc, List.cons_append, List.nil_append]; rfl, Lib.hid (rp_A HV.out HPR.out hm0 h1 HA.out HL.out.1.out), HP4.out.b⟩
  · have ha' : (m % d == 0) = false := by simpa using ha
    have HA : Hid ((m % d == 0) = false) := Lib.hid ha'
    clear ha
    by_cases hb : m < d
    · go_wp2
      go_ret2
      exact ⟨([] : List UInt8) ++ (l2 ++ 47 :: l3), 0, by simp only [lit1, lit0, cat2, List.append_assoc, List.cons_append, List.nil_append]; rfl, Lib.hid (rp_B HV.out HPR.out hm0 h1 HA.out hb HL.out.2.1.out HL.out.2.2.out), HP3.out.b⟩
    · go_wp2_with fail
      refine (itoa_e w n d (m / d) l1 HL.out.1 hq0 hq1 _ HP3.out).mono ?_
      rintro e w4 ⟨rfl, hb4⟩
      have HP4 := Lib.hid (HP3.out.step hb4)
      clear hb4
      go_wp2
      go_ret2
      exact ⟨([] : List UInt8) ++ (l1 ++ 32 :: (l2 ++ 47 :: l3)), 0, by simp only [lit1, lit0, cat2, List.append_assoc, List.cons_append, List.nil_append]; rfl, Lib.hid (rp_C HV.out HPR.out hm0 h1 HA.out (by omega) HL.out.1.out HL.out.2.1.out HL.out.2.2.out), HP4.out.b⟩

theorem rprint (n d : Int) (w : World) (he : Env w) :
    Calls Tryd.prog 6 #[.agg #[.int .i64 n, .int .i64 d]] w fun e w' => ∃ l z, e = .returned (.tuple #[.string ⟨l.toArray⟩, .int .i64 z]) ∧ Hid (printT n d = (l, z)) ∧ Below w.heap.size w w' := by
  cases hv : vfB n d
  · exact rprint_no n d w he hv
  · by_cases hn : n < 0
    · exact rprint_neg n d w he hv hn
    · exact rprint_pos n d w he hv hn

end Go.Proofs.YtmgbecfodinhhaaDoor

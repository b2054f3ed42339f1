/- The program's Print. -/
import Derived.Lib.AppendIntMem
import Derived.Deep.RegionHeld3
import Derived.IntWalk
import Derived.Test.YtmgbecfodinhhaaDoorShelf
import Derived.Test.YtmgbecfodinhhaaDoorTxB
import Derived.Test.YtmgbecfodinhhaaDoorMem
namespace Go.Proofs.YtmgbecfodinhhaaDoor
open Go.RowKit

/-- The library's variables read as their initialisers lay them. -/
structure Env (w : World) : Prop where
  tab : Lib.TabIs Tryd.prog w "internal/strconv.uint64pow10" .u64 Lib.pow10Tab
  sx : ∃ tp p, w.var? Tryd.prog "strconv.ErrSyntax" = some #[.iface tp p]
  rg : ∃ tp p, w.var? Tryd.prog "strconv.ErrRange" = some #[.iface tp p]

theorem var_below {P : Program} {w w' : World} {name : String} {cs : Array Value} (h : w.var? P name = some cs) (hb : Below w.heap.size w w') : w'.var? P name = some cs := by
  unfold World.var? at *
  cases hg : P.globalNamed name with
  | none => simp [hg] at h
  | some g =>
    simp only [hg, Option.bind_some] at h ⊢
    have hlt : g < w.heap.size := by
      rcases Nat.lt_or_ge g w.heap.size with h' | h'
      · exact h'
      · rw [Array.getElem?_eq_none h'] at h; simp at h
    rw [hb.block g hlt]
    exact h

theorem Env.below {w w' : World} (h : Env w) (hb : Below w.heap.size w w') : Env w' where
  tab := Lib.tabBelow_of_tabIs h.tab w' hb
  sx := by obtain ⟨tp, p, h1⟩ := h.sx; exact ⟨tp, p, var_below h1 hb⟩
  rg := by obtain ⟨tp, p, h1⟩ := h.rg; exact ⟨tp, p, var_below h1 hb⟩

/-- A later world in which the library's variables read so. -/
def EnvS (w w' : World) : Prop := Below w.heap.size w w' ∧ Env w'

theorem EnvS.step {w w1 w2 : World} (h : EnvS w w1) (hb : Below w1.heap.size w1 w2) : EnvS w w2 := ⟨h.1.trans (hb.mono h.1.size), h.2.below hb⟩
theorem EnvS.drew {w w1 : World} (h : EnvS w w1) : EnvS w w1.drew := h.step (Below.refl _ _).drew
theorem EnvS.alloc {w w1 : World} (h : EnvS w w1) (o : Obj) : EnvS w (w1.alloc o) := h.step ((Below.refl _ _).alloc (Nat.le_refl _) _)
theorem EnvS.start {w : World} (h : Env w) : EnvS w w := ⟨Below.refl _ _, h⟩
theorem EnvS.b {w w1 : World} (h : EnvS w w1) : Below w.heap.size w w1 := h.1

/-- strconv.Itoa of a number that is not negative. -/
theorem itoa_n (w0 : World) (x : Int) (l : List UInt8) (hl : Hid (Lib.decDigits x.toNat = l)) (h0 : 0 ≤ x) (h1 : x ≤ 1000000000) (w : World) (he : EnvS w0 w) :
    Calls Tryd.prog 13 #[.int .i64 x] w fun e w' => e = .returned (.string ⟨l.toArray⟩) ∧ Below w.heap.size w w' := by
  refine (Tryd.strconv_Itoa x (by omega) (by omega) w he.2.tab).mono ?_
  rintro e w' ⟨rfl, k, os, rfl⟩
  have e1 : Lib.itoa x = l := by unfold Lib.itoa; rw [if_neg (by omega)]; exact hl.out
  exact ⟨by rw [e1], Lib.below_grow _ w (Nat.le_refl _) k os⟩

theorem ret_str {a b : ByteArray} (h : a = b) : Ending.returned (.string a) = .returned (.string b) := by rw [h]

theorem cat1 (c : UInt8) (b : List UInt8) : ((⟨#[c]⟩ : ByteArray) ++ ⟨b.toArray⟩) = ⟨(c :: b).toArray⟩ := by
  have e : (#[c] : Array UInt8) = [c].toArray := rfl
  rw [e, ByteArray.mk_append_mk]; rfl
theorem cat3 (a b : List UInt8) (c : UInt8) : ((⟨a.toArray⟩ : ByteArray) ++ ⟨#[c]⟩ ++ ⟨b.toArray⟩) = ⟨(a ++ c :: b).toArray⟩ := by
  have e : (#[c] : Array UInt8) = [c].toArray := rfl
  rw [e, ByteArray.mk_append_mk, ByteArray.mk_append_mk, List.append_assoc]; rfl

theorem mixed_len {n d : Nat} (hn : n ≤ 1000000000) (hd : d ≤ 1000000000) : (mixedS n d).length ≤ 32 := by
  have h1 := dec_len10 (n / d) (Nat.le_trans (Nat.div_le_self _ _) hn)
  have h2 := dec_len10 (n % d) (Nat.le_trans (Nat.mod_le _ _) hn)
  have h3 := dec_len10 d hd
  unfold mixedS
  split
  · omega
  · split
    · simp only [List.length_append, List.length_cons]; omega
    · simp only [List.length_append, List.length_cons]; omega

theorem mixed_A {n d : Int} (h0 : 0 ≤ n) (hd : 1 ≤ d) (h : (n % d == 0) = true) : mixedS n.toNat d.toNat = Lib.decDigits (n / d).toNat := by
  obtain ⟨a, rfl⟩ := Int.eq_ofNat_of_zero_le h0
  obtain ⟨b, rfl⟩ := Int.eq_ofNat_of_zero_le (show 0 ≤ d by omega)
  have h' := eq_of_beq h
  unfold mixedS
  rw [Int.toNat_natCast, Int.toNat_natCast, if_pos (by omega), ← Int.natCast_ediv, Int.toNat_natCast]
theorem mixed_B {n d : Int} (h0 : 0 ≤ n) (hd : 1 ≤ d) (h : (n % d == 0) = false) (hl : n < d) : mixedS n.toNat d.toNat = Lib.decDigits (n % d).toNat ++ 47 :: Lib.decDigits d.toNat := by
  obtain ⟨a, rfl⟩ := Int.eq_ofNat_of_zero_le h0
  obtain ⟨b, rfl⟩ := Int.eq_ofNat_of_zero_le (show 0 ≤ d by omega)
  have h' : ¬ ((a : Int) % (b : Int) = 0) := by simpa using h
  unfold mixedS
  rw [Int.toNat_natCast, Int.toNat_natCast, if_neg (by omega), if_pos (by omega), ← Int.natCast_emod, Int.toNat_natCast]
theorem mixed_C {n d : Int} (h0 : 0 ≤ n) (hd : 1 ≤ d) (h : (n % d == 0) = false) (hl : d ≤ n) : mixedS n.toNat d.toNat = Lib.decDigits (n / d).toNat ++ 32 :: (Lib.decDigits (n % d).toNat ++ 47 :: Lib.decDigits d.toNat) := by
  obtain ⟨a, rfl⟩ := Int.eq_ofNat_of_zero_le h0
  obtain ⟨b, rfl⟩ := Int.eq_ofNat_of_zero_le (show 0 ≤ d by omega)
  have h' : ¬ ((a : Int) % (b : Int) = 0) := by simpa using h
  unfold mixedS
  rw [Int.toNat_natCast, Int.toNat_natCast, if_neg (by omega), if_neg (by omega), ← Int.natCast_emod, ← Int.natCast_ediv, Int.toNat_natCast, Int.toNat_natCast]

set_option maxRecDepth 100000 in
set_option maxHeartbeats 1600000 in
theorem mixed_p (n d : Int) (h0 : 0 ≤ n) (h1 : n ≤ 1000000000) (h2 : 1 ≤ d) (h3 : d ≤ 1000000000) (l : List UInt8) (hl : Hid (mixedS n.toNat d.toNat = l)) (w : World) (he : Env w) :
    Calls Tryd.prog 11 #[.int .i64 n, .int .i64 d] w fun e w' => e = .returned (.string ⟨l.toArray⟩) ∧ Below w.heap.size w w' := by
  obtain ⟨l1, e1⟩ : ∃ l, Lib.decDigits (n / d).toNat = l := ⟨_, rfl⟩
  obtain ⟨l2, e2⟩ : ∃ l, Lib.decDigits (n % d).toNat = l := ⟨_, rfl⟩
  obtain ⟨l3, e3⟩ : ∃ l, Lib.decDigits d.toNat = l := ⟨_, rfl⟩
  have HL := Lib.hid (And.intro (Lib.hid e1) (And.intro (Lib.hid e2) (Lib.hid e3)))
  have hq0 : 0 ≤ n / d := Int.ediv_nonneg h0 (by omega)
  have hq1 : n / d ≤ 1000000000 := Int.le_trans (Int.ediv_le_self _ h0) h1
  have hr0 : 0 ≤ n % d := Int.emod_nonneg _ (by omega)
  have hr1 : n % d ≤ 1000000000 := by have := Int.emod_lt_of_pos n (show 0 < d by omega); omega
  have HS := Lib.hid (EnvS.start he)
  have hm : n.tmod d = n % d := Int.tmod_eq_emod_of_nonneg h0
  have hq : n.tdiv d = n / d := Int.tdiv_eq_ediv_of_nonneg h0
  have hs1 : l1.length ≤ 10 := by rw [← e1]; exact dec_len10 _ (by omega)
  have hs2 : l2.length ≤ 10 := by rw [← e2]; exact dec_len10 _ (by omega)
  have hs3 : l3.length ≤ 10 := by rw [← e3]; exact dec_len10 _ (by omega)
  have hc1 : ¬ 9223372036854775807 < l2.length + 1 := by omega
  have hc2 : ¬ 9223372036854775807 < l2.length + 1 + l3.length := by omega
  have hw : IntKind.i64.wrap (n / d) = n / d := IntWalk.i64_in _ (by omega)
  have hz : d ≠ 0 := by omega
  have hzb : (d == 0) = false := by simpa using hz
  clear e1 e2 e3 he
  go_enter Tryd.func11, Tryd.ntmps11
  go_wp2_with fail
  go_region_held3 (fun w' => EnvS w w') (first | exact HS.out.drew | exact HS.out | exact EnvS.step (by assumption) (by assumption))
    (first
      | (go_at_call 13; go_split_ands; with_reducible (refine (itoa_n w (n / d) l1 HL.out.1 hq0 hq1 _ (by assumption)).mono ?_); rintro e w1 ⟨rfl, hb1⟩)
      | (go_at_call 13; go_split_ands; with_reducible (refine (itoa_n w (n % d) l2 HL.out.2.1 hr0 hr1 _ (by assumption)).mono ?_); rintro e w2 ⟨rfl, hb2⟩)
      | (go_at_call 13; go_split_ands; with_reducible (refine (itoa_n w d l3 HL.out.2.2 (by omega) h3 _ (by assumption)).mono ?_); rintro e w3 ⟨rfl, hb3⟩))
  have HX : Hid (EnvS w w3) := Lib.hid (by assumption)
  go_wp2
  · go_ret
    refine ⟨ret_str ?_, HX.out.b⟩
    rw [← hl.out, mixed_A h0 h2 (by assumption), HL.out.1.out]
  · go_ret
    refine ⟨ret_str ?_, HX.out.b⟩
    rw [← hl.out, mixed_B h0 h2 (by assumption) (by assumption), HL.out.2.1.out, HL.out.2.2.out, cat3]
  · go_ret
    refine ⟨ret_str ?_, HX.out.b⟩
    rw [← hl.out, mixed_C h0 h2 (by assumption) (by assumption), HL.out.1.out, HL.out.2.1.out, HL.out.2.2.out, cat3, cat3]

theorem print_neg {n d : Int} (h : n < 0) (hd : 1 ≤ d) : printS n d = 45 :: mixedS (-n).toNat d.toNat := by
  unfold printS
  rw [if_pos h, show n.natAbs = (-n).toNat by omega, show d.natAbs = d.toNat by omega]
theorem print_pos {n d : Int} (h : ¬ n < 0) (hd : 1 ≤ d) : printS n d = mixedS n.toNat d.toNat := by
  unfold printS
  rw [if_neg h, show n.natAbs = n.toNat by omega, show d.natAbs = d.toNat by omega]

set_option maxRecDepth 100000 in
set_option maxHeartbeats 1600000 in
theorem print_p (n d : Int) (w : World) (he : Env w) :
    Calls Tryd.prog 5 #[.agg #[.int .i64 n, .int .i64 d]] w fun e w' => ∃ l z, e = .returned (.tuple #[.string ⟨l.toArray⟩, .int .i64 z]) ∧ Hid (printT n d = (l, z)) ∧ Below w.heap.size w w' := by
  have HM := Lib.hid ((Mem.nil w).alloc #[.int .i64 n, .int .i64 d] 23)
  have HE := Lib.hid he
  cases hv : vfB n d
  · have HT := Lib.hid (printT_no hv)
    have HV := Lib.hid hv
    clear hv he
    go_enter Tryd.func5, Tryd.ntmps5
    go_wp2_with fail
    refine (valid_any n d _).mono ?_
    rintro e w1 ⟨rfl, hb1⟩
    rw [HV.out]
    have HM1 := Lib.hid (HM.out.step hb1)
    clear hb1
    go_wp2
    go_ret2
    exact ⟨[], 2, rfl, HT, HM1.out.b⟩
  · have HT := Lib.hid (printT_yes hv)
    have HV := Lib.hid hv
    have hvf := (vfB_iff n d).1 hv
    have h1 := hvf.d1
    have h2 := hvf.d2
    have h3 := hvf.n1
    have h4 := hvf.n2
    clear hv he hvf
    by_cases hn : n < 0
    · have h0 : 0 ≤ -n := by omega
      obtain ⟨l, hl⟩ : ∃ l, mixedS (-n).toNat d.toNat = l := ⟨_, rfl⟩
      have hlen : l.length ≤ 32 := by rw [← hl]; exact mixed_len (by omega) (by omega)
      have hc : ¬ 9223372036854775807 < 1 + l.length := by omega
      have HP : Hid (printS n d = 45 :: l) := Lib.hid (by rw [print_neg hn h1, hl])
      have HL := Lib.hid (Lib.hid hl)
      clear hl
      go_enter Tryd.func5, Tryd.ntmps5
      go_wp2_with fail
      refine (valid_any n d _).mono ?_
      rintro e w1 ⟨rfl, hb1⟩
      rw [HV.out]
      have hM1 := HM.out.step hb1
      have HM1 := Lib.hid hM1
      have HE1 := Lib.hid (HE.out.below hM1.b)
      obtain ⟨c0, c1, -, -, hlt⟩ := hM1.c2
      clear hb1 hM1
      go_wp2_with fail
      refine (mixed_p (-n) d h0 (by omega) h1 h2 l HL.out _ HE1.out).mono ?_
      rintro e w2 ⟨rfl, hb2⟩
      have HM2 := Lib.hid (HM1.out.step hb2)
      clear hb2
      go_wp2
      go_ret2
      exact ⟨45 :: l, 0, by rw [cat1]; rfl, Lib.hid (by rw [HT.out, HP.out]), HM2.out.b⟩
    · have h0 : 0 ≤ n := by omega
      obtain ⟨l, hl⟩ : ∃ l, mixedS n.toNat d.toNat = l := ⟨_, rfl⟩
      have HP : Hid (printS n d = l) := Lib.hid (by rw [print_pos hn h1, hl])
      have HL := Lib.hid (Lib.hid hl)
      clear hl
      go_enter Tryd.func5, Tryd.ntmps5
      go_wp2_with fail
      refine (valid_any n d _).mono ?_
      rintro e w1 ⟨rfl, hb1⟩
      rw [HV.out]
      have hM1 := HM.out.step hb1
      have HM1 := Lib.hid hM1
      have HE1 := Lib.hid (HE.out.below hM1.b)
      obtain ⟨c0, c1, -, -, hlt⟩ := hM1.c2
      clear hb1 hM1
      go_wp2_with fail
      refine (mixed_p n d h0 h4 h1 h2 l HL.out _ HE1.out).mono ?_
      rintro e w2 ⟨rfl, hb2⟩
      have HM2 := Lib.hid (HM1.out.step hb2)
      clear hb2
      go_wp2
      go_ret2
      exact ⟨l, 0, rfl, Lib.hid (by rw [HT.out, HP.out]), HM2.out.b⟩

end Go.Proofs.YtmgbecfodinhhaaDoor

/- Near of both sides. -/
import Derived.Deep.RegionHeld3
import Derived.Test.YtjnfgjaiahnfgaaNear
namespace Go.Proofs.Ytjnfgjaiahnfgaa
open Go.RowKit
set_option linter.unusedSimpArgs false

theorem NbR.uniq {n d D a b c e a' b' c' e' : Int} (hv : VF n d) (h : NbR n d D a b c e) (h' : NbR n d D a' b' c' e') : a = a' ∧ b = b' ∧ c = c' ∧ e = e' := by
  by_cases hd : d ≤ D
  · obtain ⟨rfl, rfl, rfl, rfl⟩ := h.1 hd
    obtain ⟨h1, h2, h3, h4⟩ := h'.1 hd
    exact ⟨h1.symm, h2.symm, h3.symm, h4.symm⟩
  · obtain ⟨h1, h2, h3⟩ := h.2 (by omega)
    obtain ⟨h1', h2', h3'⟩ := h'.2 (by omega)
    exact h1.uniq (by have := hv.d1; omega) h2 h1' h2' h3 h3'

def NearR (n d D x y z : Int) : Prop := (bdB n d D = false → x = 0 ∧ y = 0 ∧ z = 2) ∧
  (bdB n d D = true → z = 0 ∧ ∃ a b c e, NbR n d D a b c e ∧ ((ordQ (qof c e - qof n d) (qof n d - qof a b) < 0 ∧ x = c ∧ y = e) ∨ (¬ ordQ (qof c e - qof n d) (qof n d - qof a b) < 0 ∧ x = a ∧ y = b)))

theorem NearR.same {n d D x y z x' y' z' : Int} (h : NearR n d D x y z) (h' : NearR n d D x' y' z') : x' = x ∧ y' = y ∧ z' = z := by
  cases hb : bdB n d D
  · obtain ⟨rfl, rfl, rfl⟩ := h.1 hb
    obtain ⟨rfl, rfl, rfl⟩ := h'.1 hb
    exact ⟨rfl, rfl, rfl⟩
  · obtain ⟨rfl, a, b, c, e, hN, hc⟩ := h.2 hb
    obtain ⟨rfl, a', b', c', e', hN', hc'⟩ := h'.2 hb
    obtain ⟨rfl, rfl, rfl, rfl⟩ := hN.uniq ((bdB_iff _ _ _).1 hb).1 hN'
    rcases hc with ⟨h1, rfl, rfl⟩ | ⟨h1, rfl, rfl⟩ <;> rcases hc' with ⟨h2, rfl, rfl⟩ | ⟨h2, rfl, rfl⟩
    · exact ⟨rfl, rfl, rfl⟩
    · exact absurd h1 h2
    · exact absurd h2 h1
    · exact ⟨rfl, rfl, rfl⟩

set_option maxRecDepth 100000 in
set_option maxHeartbeats 3200000 in
theorem near_p (n d D : Int) (w : World) :
    Calls Try.prog 52 #[.agg #[.int .i64 n, .int .i64 d], .int .i64 D] w fun e w' => ∃ x y z, e = .returned (.tuple #[.agg #[.int .i64 x, .int .i64 y], .int .i64 z]) ∧ Hid (NearR n d D x y z) ∧ Below w.heap.size w w' := by
  have HM := Lib.hid (((Mem.nil w).alloc #[.int .i64 n, .int .i64 d] 23).alloc #[.int .i64 0, .int .i64 0] 23)
  rw [World.size_alloc] at HM
  cases hv : bdB n d D
  · have HV := Lib.hid hv
    clear hv
    go_enter Try.func52, Try.ntmps52
    go_wp2_with fail
    refine (bounded_p n d D _).mono ?_
    rintro e w1 ⟨rfl, hb⟩
    rw [HV.out]
    have hM := HM.out.step hb
    have HM1 := Lib.hid hM
    obtain ⟨a0, a1, a2, a3, a4⟩ := hM.c2
    clear hb hM
    go_wp2
    refine bodyPost_ret (v := .tuple #[.agg #[.int .i64 0, .int .i64 0], .int .i64 2]) (by simp [results, Try.results52, go_sem, a0, a1]) rfl ⟨_, _, _, rfl, Lib.hid ⟨fun _ => ⟨rfl, rfl, rfl⟩, fun h => by rw [HV.out] at h; cases h⟩, ?_⟩
    exact (HM1.out.put2 _ _).b
  · have HV := Lib.hid hv
    have HVF := Lib.hid ((bdB_iff _ _ _).1 hv)
    clear hv
    go_enter Try.func52, Try.ntmps52
    go_wp2_with fail
    refine (bounded_p n d D _).mono ?_
    rintro e w1 ⟨rfl, hb⟩
    rw [HV.out]
    have hM := HM.out.step hb
    have HM1 := Lib.hid hM
    obtain ⟨b0, b1, b2, b3, b4⟩ := hM.tail.c2
    clear hb hM
    go_wp2_with fail
    refine (of_p n d _).mono ?_
    rintro e w2 ⟨rfl, hb⟩
    have HM2 := Lib.hid ((HM1.out.step hb).alloc #[.int .i64 n, .int .i64 d] 67)
    clear hb b0 b1 b2 b3 b4
    go_wp2_with fail
    refine (nb_any n d D HVF.out.1 HVF.out.2.1 _).mono ?_
    rintro e w3 ⟨a, b, c, f, rfl, HR, hb⟩
    have hM3 := ((HM2.out.step hb).alloc #[.int .i64 a, .int .i64 b] 67).alloc #[.int .i64 c, .int .i64 f] 67
    rw [World.size_alloc] at hM3
    have HM3 := Lib.hid hM3
    have hlt3 : w2.heap.size < w3.heap.size := (HM2.out.step hb).head_lt
    obtain ⟨b0, b1, b2, b3, b4⟩ := (HM2.out.step hb).c2
    have hlt4 : w2.heap.size < w3.heap.size + 1 := by omega
    have HV2 := Lib.hid (HR.out.vf HVF.out.1 HVF.out.2.1)
    obtain ⟨ct, hct⟩ : ∃ t, ordQ (qof c f - qof n d) (qof n d - qof a b) = t := ⟨_, rfl⟩
    have HCT := Lib.hid hct
    clear hb hM3 hct
    have HC : Hid (∀ w', Mem w [(w3.heap.size + 1, #[.int .i64 c, .int .i64 f], 67), (w3.heap.size, #[.int .i64 a, .int .i64 b], 67), (w2.heap.size, #[.int .i64 n, .int .i64 d], 67), (w.heap.size + 1, #[.int .i64 0, .int .i64 0], 23), (w.heap.size, #[.int .i64 n, .int .i64 d], 23)] w' →
        Mem w [(w3.heap.size + 1, #[.int .i64 c, .int .i64 f], 67), (w3.heap.size, #[.int .i64 a, .int .i64 b], 67), (w2.heap.size, #[.int .i64 n, .int .i64 d], 67), (w.heap.size + 1, #[.int .i64 0, .int .i64 0], 23), (w.heap.size, #[.int .i64 n, .int .i64 d], 23)] w' ∧
        w'.cell? ⟨w3.heap.size + 1, 0, none⟩ = some (.int .i64 c) ∧ w'.cell? ⟨w3.heap.size + 1, 1, none⟩ = some (.int .i64 f) ∧ w'.cell? ⟨w3.heap.size, 0, none⟩ = some (.int .i64 a) ∧ w'.cell? ⟨w3.heap.size, 1, none⟩ = some (.int .i64 b) ∧ w'.cell? ⟨w2.heap.size, 0, none⟩ = some (.int .i64 n) ∧ w'.cell? ⟨w2.heap.size, 1, none⟩ = some (.int .i64 d)) := Lib.hid (fun w' h => ⟨h, h.all3⟩)
    have HBD : Hid ((-2000000000000000000 ≤ c * d ∧ c * d ≤ 2000000000000000000) ∧ (-2000000000000000000 ≤ -n * f ∧ -n * f ≤ 2000000000000000000) ∧ (-2000000000000000000 ≤ f * d ∧ f * d ≤ 2000000000000000000) ∧ (-2000000000000000000 ≤ n * b ∧ n * b ≤ 2000000000000000000) ∧ (-2000000000000000000 ≤ -a * d ∧ -a * d ≤ 2000000000000000000) ∧ (-2000000000000000000 ≤ d * b ∧ d * b ≤ 2000000000000000000) ∧ 0 < f * d ∧ 0 < d * b) := Lib.hid (by
      obtain ⟨v1, v2⟩ := HV2.out
      have v0 := HVF.out.1
      have a1 := v0.n1; have a2 := v0.n2; have a3 := v0.d1; have a4 := v0.d2
      have b1 := v1.n1; have b2 := v1.n2; have b3 := v1.d1; have b4 := v1.d2
      have c1 := v2.n1; have c2 := v2.n2; have c3 := v2.d1; have c4 := v2.d2
      have m1 := mul_bd (a := c) (b := d) c1 c2 (by omega) (by omega)
      have m2 := mul_bd (a := -n) (b := f) (by omega) (by omega) (by omega) (by omega)
      have m3 := mul_bd (a := f) (b := d) (by omega) (by omega) (by omega) (by omega)
      have m4 := mul_bd (a := n) (b := b) (by omega) (by omega) (by omega) (by omega)
      have m5 := mul_bd (a := -a) (b := d) (by omega) (by omega) (by omega) (by omega)
      have m6 := mul_bd (a := d) (b := b) (by omega) (by omega) (by omega) (by omega)
      have m7 := Int.mul_pos (show 0 < f by omega) (show 0 < d by omega)
      have m8 := Int.mul_pos (show 0 < d by omega) (show 0 < b by omega)
      omega)
    have HN9 : Hid ((-2000000000000000000 ≤ n ∧ n ≤ 2000000000000000000) ∧ (-2000000000000000000 ≤ a ∧ a ≤ 2000000000000000000)) := Lib.hid (by
      have := HVF.out.1.n1; have := HVF.out.1.n2; have := HV2.out.1.n1; have := HV2.out.1.n2; omega)
    have HCMP : Hid (∀ w, Calls Try.prog 64 #[.agg #[.int .i64 (c * d + -n * f), .int .i64 (f * d)], .agg #[.int .i64 (n * b + -a * d), .int .i64 (d * b)]] w fun e w' => e = .returned (.int .i64 ct) ∧ Below w.heap.size w w') := Lib.hid (fun w => by
      have hbd := HBD.out
      refine (compare_r _ _ _ _ (by omega) (by omega) (by omega) (by omega) w).mono ?_
      rintro e w' ⟨r, rfl, HRR, hb⟩
      refine ⟨?_, hb⟩
      rw [HRR.out, qof_minus (by have := HV2.out.2.d1; omega) (by have := HVF.out.1.d1; omega), qof_minus (by have := HVF.out.1.d1; omega) (by have := HV2.out.1.d1; omega), HCT.out])
    go_wp2_with fail
    have hM := HM3.out
    go_region_held3 (fun w' => Mem w [(w3.heap.size + 1, #[.int .i64 c, .int .i64 f], 67), (w3.heap.size, #[.int .i64 a, .int .i64 b], 67), (w2.heap.size, #[.int .i64 n, .int .i64 d], 67), (w.heap.size + 1, #[.int .i64 0, .int .i64 0], 23), (w.heap.size, #[.int .i64 n, .int .i64 d], 23)] w' ∧
        w'.cell? ⟨w3.heap.size + 1, 0, none⟩ = some (.int .i64 c) ∧ w'.cell? ⟨w3.heap.size + 1, 1, none⟩ = some (.int .i64 f) ∧ w'.cell? ⟨w3.heap.size, 0, none⟩ = some (.int .i64 a) ∧ w'.cell? ⟨w3.heap.size, 1, none⟩ = some (.int .i64 b) ∧ w'.cell? ⟨w2.heap.size, 0, none⟩ = some (.int .i64 n) ∧ w'.cell? ⟨w2.heap.size, 1, none⟩ = some (.int .i64 d))
      (first | exact HC.out _ hM | exact HC.out _ hM.drew | (go_split_ands; exact HC.out _ (Mem.step (by assumption) (by assumption))))
      (first
        | (go_at_call 67; go_split_ands; with_reducible (refine (minus_r c f n d HN9.out.1 HBD.out.1 HBD.out.2.1 HBD.out.2.2.1 _).mono ?_); rintro e w4 ⟨rfl, hb4⟩)
        | (go_at_call 67; go_split_ands; with_reducible (refine (minus_r n d a b HN9.out.2 HBD.out.2.2.2.1 HBD.out.2.2.2.2.1 HBD.out.2.2.2.2.2.1 _).mono ?_); rintro e w5 ⟨rfl, hb5⟩)
        | (go_at_call 64; go_split_ands; with_reducible (refine (HCMP.out _).mono ?_); rintro e w6 ⟨rfl, hb6⟩))
    have HM6 : Hid (Mem w [(w3.heap.size + 1, #[.int .i64 c, .int .i64 f], 67), (w3.heap.size, #[.int .i64 a, .int .i64 b], 67), (w2.heap.size, #[.int .i64 n, .int .i64 d], 67), (w.heap.size + 1, #[.int .i64 0, .int .i64 0], 23), (w.heap.size, #[.int .i64 n, .int .i64 d], 23)] w6) := Lib.hid (by
      first | exact ((HM3.out.step hb4).step hb5).step hb6 | exact ((HM3.out.drew.step hb4).step hb5).step hb6)
    rename_i hL
    clear hL hb4 hb5 hb6 hM HC HCMP b0 b1 b2 b3 b4
    obtain ⟨a0, a1, a2, a3, -, -⟩ := HM6.out.all3
    by_cases hc : ct < 0
    · have HX := Lib.hid hc
      go_wp2_with fail
      refine (rfrac_vf c f (by exact HV2.out.2) _).mono ?_
      rintro e w7 ⟨rfl, hb⟩
      have hM7 := (HM6.out.step hb).tail.tail.tail
      have HM7 := Lib.hid hM7
      obtain ⟨t0, t1, t2, t3, t4⟩ := hM7.c2
      clear hb hM7
      go_wp2
      refine bodyPost_ret (v := .tuple #[.agg #[.int .i64 c, .int .i64 f], .int .i64 0]) (by simp [results, Try.results52, go_sem, t0, t1]) rfl ⟨_, _, _, rfl, Lib.hid ⟨fun h => (by rw [HV.out] at h; cases h), fun _ => ⟨rfl, a, b, c, f, HR.out, .inl ⟨by rw [HCT.out]; exact HX.out, rfl, rfl⟩⟩⟩, ?_⟩
      exact (HM7.out.put2 _ _).b
    · have HX : Hid (0 ≤ ct) := Lib.hid (by omega)
      go_wp2_with fail
      refine (rfrac_vf a b (by exact HV2.out.1) _).mono ?_
      rintro e w7 ⟨rfl, hb⟩
      have hM7 := (HM6.out.step hb).tail.tail.tail
      have HM7 := Lib.hid hM7
      obtain ⟨t0, t1, t2, t3, t4⟩ := hM7.c2
      clear hb hM7
      go_wp2
      refine bodyPost_ret (v := .tuple #[.agg #[.int .i64 a, .int .i64 b], .int .i64 0]) (by simp [results, Try.results52, go_sem, t0, t1]) rfl ⟨_, _, _, rfl, Lib.hid ⟨fun h => (by rw [HV.out] at h; cases h), fun _ => ⟨rfl, a, b, c, f, HR.out, .inr ⟨by rw [HCT.out]; have := HX.out; omega, rfl, rfl⟩⟩⟩, ?_⟩
      exact (HM7.out.put2 _ _).b

set_option maxRecDepth 100000 in
set_option maxHeartbeats 3200000 in
theorem near_r (n d D : Int) (w : World) :
    Calls Try.prog 54 #[.agg #[.int .i64 n, .int .i64 d], .int .i64 D] w fun e w' => ∃ x y z, e = .returned (.tuple #[.agg #[.int .i64 x, .int .i64 y], .int .i64 z]) ∧ Hid (NearR n d D x y z) ∧ Below w.heap.size w w' := by
  have HM := Lib.hid (((Mem.nil w).alloc #[.int .i64 n, .int .i64 d] 23).alloc #[.int .i64 0, .int .i64 0] 23)
  rw [World.size_alloc] at HM
  go_enter Try.func54, Try.ntmps54
  go_wp2_with fail
  refine (around_any n d D _).mono ?_
  rintro e w1 ⟨a, b, c, f, z, rfl, HR, hb⟩
  have hM1 := ((HM.out.step hb).alloc #[.int .i64 a, .int .i64 b] 23).alloc #[.int .i64 c, .int .i64 f] 23
  rw [World.size_alloc] at hM1
  have HM1 := Lib.hid hM1
  obtain ⟨a0, a1, a2, a3, a4⟩ := (HM.out.step hb).c2
  obtain ⟨b0, b1, b2, b3, b4⟩ := (HM.out.step hb).tail.c2
  have hlt1 : w.heap.size + 1 < w1.heap.size + 1 := by omega
  have hlt2 : w.heap.size < w1.heap.size + 1 := by omega
  have HMW := Lib.hid (HM.out.step hb)
  clear hb hM1
  cases hv : bdB n d D
  · obtain ⟨rfl, rfl, rfl, rfl, rfl⟩ := HR.out.1 hv
    have HV := Lib.hid hv
    clear hv
    go_wp2
    refine bodyPost_ret (v := .tuple #[.agg #[.int .i64 0, .int .i64 0], .int .i64 2]) (by simp [results, Try.results54, go_sem, a0, a1, a4, hlt1]) rfl ⟨_, _, _, rfl, Lib.hid ⟨fun _ => ⟨rfl, rfl, rfl⟩, fun h => by rw [HV.out] at h; cases h⟩, ?_⟩
    exact (((HMW.out.put2 _ _).skip _).skip _).b
  · obtain ⟨rfl, hN⟩ := HR.out.2 hv
    have HN := Lib.hid hN
    have HV := Lib.hid hv
    have HVF := Lib.hid ((bdB_iff _ _ _).1 hv)
    have HV2 := Lib.hid (hN.vf HVF.out.1 HVF.out.2.1)
    clear hv hN HR
    obtain ⟨ct, hct⟩ : ∃ t, ordQ (qof c f - qof n d) (qof n d - qof a b) = t := ⟨_, rfl⟩
    have HCT := Lib.hid hct
    clear hct
    have HLQ : Hid (LenQ (qof c f - qof n d) 10000000 ∧ LenQ (qof n d - qof a b) 10000000 ∧ LenQ (qof c f) 10000000 ∧ LenQ (qof n d) 10000000 ∧ LenQ (qof a b) 10000000) := Lib.hid (by
      obtain ⟨v1, v2⟩ := HV2.out
      have v0 := HVF.out.1
      have a1 := v0.n1; have a2 := v0.n2; have a3 := v0.d1; have a4 := v0.d2
      have b1 := v1.n1; have b2 := v1.n2; have b3 := v1.d1; have b4 := v1.d2
      have c1 := v2.n1; have c2 := v2.n2; have c3 := v2.d1; have c4 := v2.d2
      have m1 := mul_bd (a := c) (b := d) c1 c2 (by omega) (by omega)
      have m2 := mul_bd (a := -n) (b := f) (by omega) (by omega) (by omega) (by omega)
      have m3 := mul_bd (a := f) (b := d) (by omega) (by omega) (by omega) (by omega)
      have m4 := mul_bd (a := n) (b := b) (by omega) (by omega) (by omega) (by omega)
      have m5 := mul_bd (a := -a) (b := d) (by omega) (by omega) (by omega) (by omega)
      have m6 := mul_bd (a := d) (b := b) (by omega) (by omega) (by omega) (by omega)
      have m7 := Int.mul_pos (show 0 < f by omega) (show 0 < d by omega)
      have m8 := Int.mul_pos (show 0 < d by omega) (show 0 < b by omega)
      refine ⟨?_, ?_, (LenQ.vf v2).mono (by decide), (LenQ.vf v0).mono (by decide), (LenQ.vf v1).mono (by decide)⟩
      · rw [← qof_minus (by omega) (by omega)]; exact (LenQ.qof (by omega) (by omega) m7 (by omega)).mono (by decide)
      · rw [← qof_minus (by omega) (by omega)]; exact (LenQ.qof (by omega) (by omega) m8 (by omega)).mono (by decide))
    have HC : Hid (∀ w', Mem w [(w1.heap.size + 1, #[.int .i64 c, .int .i64 f], 23), (w1.heap.size, #[.int .i64 a, .int .i64 b], 23), (w.heap.size + 1, #[.int .i64 0, .int .i64 0], 23), (w.heap.size, #[.int .i64 n, .int .i64 d], 23)] w' →
        Mem w [(w1.heap.size + 1, #[.int .i64 c, .int .i64 f], 23), (w1.heap.size, #[.int .i64 a, .int .i64 b], 23), (w.heap.size + 1, #[.int .i64 0, .int .i64 0], 23), (w.heap.size, #[.int .i64 n, .int .i64 d], 23)] w' ∧
        w'.cell? ⟨w1.heap.size + 1, 0, none⟩ = some (.int .i64 c) ∧ w'.cell? ⟨w1.heap.size + 1, 1, none⟩ = some (.int .i64 f) ∧ w'.cell? ⟨w1.heap.size, 0, none⟩ = some (.int .i64 a) ∧ w'.cell? ⟨w1.heap.size, 1, none⟩ = some (.int .i64 b) ∧ w'.cell? ⟨w.heap.size, 0, none⟩ = some (.int .i64 n) ∧ w'.cell? ⟨w.heap.size, 1, none⟩ = some (.int .i64 d)) := Lib.hid (fun w' h => ⟨h, h.cell 0, h.cell 1, h.tail.cell 0, h.tail.cell 1, h.tail.tail.tail.cell 0, h.tail.tail.tail.cell 1⟩)
    have tokA : True := trivial
    have tokB : True := trivial
    go_wp2_with fail
    have hM := HM1.out
    go_region_held3 (fun w' => Mem w [(w1.heap.size + 1, #[.int .i64 c, .int .i64 f], 23), (w1.heap.size, #[.int .i64 a, .int .i64 b], 23), (w.heap.size + 1, #[.int .i64 0, .int .i64 0], 23), (w.heap.size, #[.int .i64 n, .int .i64 d], 23)] w' ∧
        w'.cell? ⟨w1.heap.size + 1, 0, none⟩ = some (.int .i64 c) ∧ w'.cell? ⟨w1.heap.size + 1, 1, none⟩ = some (.int .i64 f) ∧ w'.cell? ⟨w1.heap.size, 0, none⟩ = some (.int .i64 a) ∧ w'.cell? ⟨w1.heap.size, 1, none⟩ = some (.int .i64 b) ∧ w'.cell? ⟨w.heap.size, 0, none⟩ = some (.int .i64 n) ∧ w'.cell? ⟨w.heap.size, 1, none⟩ = some (.int .i64 d))
      (first | exact HC.out _ hM | exact HC.out _ hM.drew | (go_split_ands; exact HC.out _ (Mem.step (by assumption) (by assumption))))
      (first
        | (go_at_call 38; go_split_ands; have _t := tokA; with_reducible (refine (of_vf c f HV2.out.2 _).mono ?_); rintro e w2 ⟨z0, z1, z2, z3, z4, z5, z6, rfl, hz, hb2⟩; clear tokA)
        | (go_at_call 38; go_split_ands; have _t := tokB; with_reducible (refine (of_vf n d HVF.out.1 _).mono ?_); rintro e w3 ⟨y0, y1, y2, y3, y4, y5, y6, rfl, hy, hb3⟩; have hz3 := hz.below hb3; clear tokB)
        | (go_at_call 37; go_split_ands; have _t := hz3; with_reducible (refine (calls_q (less_q_any _ _ _ _ _ hz3 hy HLQ.out.2.2.1 HLQ.out.2.2.2.1)).mono ?_); rintro e w4 ⟨x0, x1, x2, x3, x4, x5, x6, rfl, hx, hb4⟩; clear hz3)
        | (go_at_call 38; go_split_ands; with_reducible (refine (of_vf n d HVF.out.1 _).mono ?_); rintro e w5 ⟨v0, v1, v2, v3, v4, v5, v6, rfl, hv, hb5⟩; have hx5 := hx.below hb5)
        | (go_at_call 38; go_split_ands; with_reducible (refine (of_vf a b HV2.out.1 _).mono ?_); rintro e w6 ⟨u0, u1, u2, u3, u4, u5, u6, rfl, hu, hb6⟩; have hx6 := hx5.below hb6; have hv6 := hv.below hb6)
        | (go_at_call 37; go_split_ands; with_reducible (refine (calls_q (less_q_any _ _ _ _ _ hv6 hu HLQ.out.2.2.2.1 HLQ.out.2.2.2.2)).mono ?_); rintro e w7 ⟨t0, t1, t2, t3, t4, t5, t6, rfl, ht, hb7⟩; have hx7 := hx6.below hb7)
        | (go_at_call 43; go_split_ands; with_reducible (refine (order_any _ _ _ _ _ hx7 ht HLQ.out.1 HLQ.out.2.1).mono ?_); rintro e w8 ⟨rfl, hb8⟩))
    rw [HCT.out]
    have HM8 : Hid (Mem w [(w1.heap.size + 1, #[.int .i64 c, .int .i64 f], 23), (w1.heap.size, #[.int .i64 a, .int .i64 b], 23), (w.heap.size + 1, #[.int .i64 0, .int .i64 0], 23), (w.heap.size, #[.int .i64 n, .int .i64 d], 23)] w8) := Lib.hid (by
      first | exact ((((((HM1.out.step hb2).step hb3).step hb4).step hb5).step hb6).step hb7).step hb8 | exact ((((((HM1.out.drew.step hb2).step hb3).step hb4).step hb5).step hb6).step hb7).step hb8)
    rename_i hL
    clear hL hb2 hb3 hb4 hb5 hb6 hb7 hb8 hM HC a0 a1 a2 a3 a4 b0 b1 b2 b3 b4 hz hy hx hv hu ht hx5 hx6 hv6 hx7
    obtain ⟨a0, a1, b0, b1, c0, c1⟩ := HM8.out.all3
    obtain ⟨-, -, c2, c3, c4⟩ := HM8.out.tail.tail.c2
    by_cases hc : ct < 0
    · have HX := Lib.hid hc
      go_wp2
      refine bodyPost_ret (v := .tuple #[.agg #[.int .i64 c, .int .i64 f], .int .i64 0]) (by simp [results, Try.results54, go_sem, c0, c1]) rfl ⟨_, _, _, rfl, Lib.hid ⟨fun h => (by rw [HV.out] at h; cases h), fun _ => ⟨rfl, a, b, c, f, HN.out, .inl ⟨by rw [HCT.out]; exact HX.out, rfl, rfl⟩⟩⟩, ?_⟩
      exact (HM8.out.tail.tail.put2 _ _).b
    · have HX : Hid (0 ≤ ct) := Lib.hid (by omega)
      go_wp2
      refine bodyPost_ret (v := .tuple #[.agg #[.int .i64 a, .int .i64 b], .int .i64 0]) (by simp [results, Try.results54, go_sem, c0, c1]) rfl ⟨_, _, _, rfl, Lib.hid ⟨fun h => (by rw [HV.out] at h; cases h), fun _ => ⟨rfl, a, b, c, f, HN.out, .inr ⟨by rw [HCT.out]; have := HX.out; omega, rfl, rfl⟩⟩⟩, ?_⟩
      exact (HM8.out.tail.tail.put2 _ _).b

end Go.Proofs.Ytjnfgjaiahnfgaa

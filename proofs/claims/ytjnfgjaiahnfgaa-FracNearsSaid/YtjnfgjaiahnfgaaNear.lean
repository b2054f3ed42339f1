/- The reference's Around; Near of both sides. -/
import Derived.Test.YtjnfgjaiahnfgaaNbR
import Derived.Test.YtjnfgjaiahnfgaaRndJ
namespace Go.Proofs.Ytjnfgjaiahnfgaa
open Go.RowKit
set_option linter.unusedSimpArgs false

theorem of_vf (n d : Int) (h : VF n d) (w : World) :
    Calls Try.prog 38 #[.agg #[.int .i64 n, .int .i64 d]] w fun e w' => ∃ b u k c u2 k2 c2, e = .returned (.agg #[.bool b, .slice u k c, .slice u2 k2 c2]) ∧ IsQ w' (.agg #[.bool b, .slice u k c, .slice u2 k2 c2]) (qof n d) ∧ Below w.heap.size w w' :=
  calls_q (of_q n d (by have := h.n1; omega) (by have := h.n2; omega) (by have := h.d1; omega) (by have := h.d2; omega) (by have := h.d1; omega) w)

/-- Bounds of what is left of n / d, moved back. -/
theorem NB.move {n d D a b c e low : Int} (h : NB (n - low * d) d D a b c e) : NB n d D (a + low * b) b (c + low * e) e := by
  have h1 := h.lo; have h2 := h.hi; have h3 := h.det
  exact ⟨h.b1, h.d1, h.bD, h.dD, by have : n * b - (a + low * b) * d = (n - low * d) * b - a * d := (by grind); omega, by have : (c + low * e) * d - n * e = c * d - (n - low * d) * e := (by grind); omega, by grind⟩

def AroR (n d D x0 x1 y0 y1 z : Int) : Prop := (bdB n d D = false → x0 = 0 ∧ x1 = 0 ∧ y0 = 0 ∧ y1 = 0 ∧ z = 2) ∧ (bdB n d D = true → z = 0 ∧ NbR n d D x0 x1 y0 y1)

theorem left_facts {n d D : Int} (hv : VF n d) (h1 : 1 ≤ D) (hd : D < d) : 0 < n - n / d * d ∧ n - n / d * d < d ∧ Int.gcd (n - n / d * d) d = 1 ∧ -1000000000 ≤ n / d ∧ n / d ≤ 1000000000 := by
  have e := Int.emod_add_mul_ediv n d
  have e1 := Int.emod_nonneg n (show d ≠ 0 by omega)
  have e2 := Int.emod_lt_of_pos n (show 0 < d by omega)
  have e3 : n / d * d = d * (n / d) := Int.mul_comm _ _
  have hg : Int.gcd n d = 1 := by have := hv.g; simpa [Int.gcd] using this
  have h5 := Int.gcd_add_mul_left_left d (n % d) (n / d)
  rw [e, hg] at h5
  have e4 : n - n / d * d = n % d := by omega
  rw [e4]
  have h6 : n % d ≠ 0 := fun h0 => by
    rw [h0, Int.gcd_comm, Int.gcd_zero_right] at h5
    omega
  have n1 := hv.n1; have n2 := hv.n2
  refine ⟨by omega, by omega, h5.symm, ?_, ?_⟩
  · rcases Int.lt_or_le (n / d) (-1000000000) with h | h
    · have := Int.mul_le_mul_of_nonneg_right (show n / d ≤ -1000000001 by omega) (show 0 ≤ d by omega)
      omega
    · exact h
  · rcases Int.lt_or_le 1000000000 (n / d) with h | h
    · have := Int.mul_le_mul_of_nonneg_right (show 1000000001 ≤ n / d by omega) (show 0 ≤ d by omega)
      omega
    · exact h

set_option maxRecDepth 100000 in
set_option maxHeartbeats 3200000 in
theorem around_any (n d D : Int) (w : World) :
    Calls Try.prog 53 #[.agg #[.int .i64 n, .int .i64 d], .int .i64 D] w fun e w' => ∃ x0 x1 y0 y1 z, e = .returned (.tuple #[.agg #[.int .i64 x0, .int .i64 x1], .agg #[.int .i64 y0, .int .i64 y1], .int .i64 z]) ∧ Hid (AroR n d D x0 x1 y0 y1 z) ∧ Below w.heap.size w w' := by
  have hM := (((Mem.nil w).alloc #[.int .i64 n, .int .i64 d] 23).alloc #[.int .i64 0, .int .i64 0] 23).alloc #[.int .i64 0, .int .i64 0] 23
  simp only [World.size_alloc] at hM
  have HM := Lib.hid hM
  clear hM
  cases hv : bdB n d D
  · have HV := Lib.hid hv
    have hcase : vfB n d = false ∨ (vfB n d = true ∧ D < 1) ∨ (vfB n d = true ∧ 1 ≤ D ∧ 1000000000 < D) := by
      unfold bdB at hv
      cases hc : vfB n d
      · exact .inl rfl
      · rw [hc] at hv; simp at hv
        rcases Int.lt_or_le D 1 with hD | hD
        · exact .inr (.inl ⟨rfl, hD⟩)
        · exact .inr (.inr ⟨rfl, hD, hv hD⟩)
    clear hv
    rcases hcase with h | ⟨h, h1⟩ | ⟨h, h1, h2⟩
    all_goals
      have HC := Lib.hid h
      clear h
      go_enter Try.func53, Try.ntmps53
      go_wp2_with fail
      refine (valid_r n d _).mono ?_
      rintro e w3 ⟨rfl, hb⟩
      rw [HC.out]
      have hM3 := HM.out.step hb
      have HM3 := Lib.hid hM3
      obtain ⟨a0, a1, a2, a3, a4⟩ := hM3.c2
      obtain ⟨b0, b1, b2, b3, b4⟩ := hM3.tail.c2
      clear hb hM3
      go_wp2
      refine bodyPost_ret (v := .tuple #[.agg #[.int .i64 0, .int .i64 0], .agg #[.int .i64 0, .int .i64 0], .int .i64 2]) (by simp [results, Try.results53, go_sem, a0, a1, b0, b1]) rfl ⟨_, _, _, _, _, rfl, Lib.hid ⟨fun _ => ⟨rfl, rfl, rfl, rfl, rfl⟩, fun h => by rw [HV.out] at h; cases h⟩, ?_⟩
      exact ((HM3.out.put2s _ _).put2 _ _).b
  · have hbd := (bdB_iff _ _ _).1 hv
    have HV := Lib.hid hv
    have HVF := Lib.hid hbd.1
    have HVB : Hid (vfB n d = true) := Lib.hid ((vfB_iff _ _).2 hbd.1)
    have hD1 := hbd.2.1
    have hD2 := hbd.2.2
    have hd1 := hbd.1.d1
    have hd2 := hbd.1.d2
    clear hv hbd
    by_cases hd : d ≤ D
    · go_enter Try.func53, Try.ntmps53
      go_wp2_with fail
      refine (valid_r n d _).mono ?_
      rintro e w3 ⟨rfl, hb⟩
      rw [HVB.out]
      have hM3 := HM.out.step hb
      have HM3 := Lib.hid hM3
      obtain ⟨a0, a1, a2, a3, a4⟩ := hM3.c2
      obtain ⟨b0, b1, b2, b3, b4⟩ := hM3.tail.c2
      obtain ⟨c0, c1, c2, c3, c4⟩ := hM3.tail.tail.c2
      clear hb hM3
      have HX := Lib.hid hd
      go_wp2
      go_region
      go_wp2
      refine bodyPost_ret (v := .tuple #[.agg #[.int .i64 n, .int .i64 d], .agg #[.int .i64 n, .int .i64 d], .int .i64 0]) (by simp [results, Try.results53, go_sem, a0, a1, b0, b1]) rfl ⟨_, _, _, _, _, rfl, Lib.hid ⟨fun h => (by rw [HV.out] at h; cases h), fun _ => ⟨rfl, fun _ => ⟨rfl, rfl, rfl, rfl⟩, fun h => absurd h (by have := HX.out; omega)⟩⟩, ?_⟩
      exact ((HM3.out.put2s _ _).put2 _ _).b.drew
    · have hlf := left_facts HVF.out hD1 (show D < d by omega)
      have HLF := Lib.hid hlf
      obtain ⟨l1, l2, -, l4, l5⟩ := hlf
      have hn1 := HVF.out.n1
      have hn2 := HVF.out.n2
      go_enter Try.func53, Try.ntmps53
      go_wp2_with fail
      refine (valid_r n d _).mono ?_
      rintro e w3 ⟨rfl, hb⟩
      rw [HVB.out]
      have hM3 := HM.out.step hb
      have HM3 := Lib.hid hM3
      obtain ⟨c0, c1, c2, c3, c4⟩ := hM3.tail.tail.c2
      clear hb hM3
      go_wp2_with fail
      refine (of_vf n d HVF.out _).mono ?_
      rintro e w4 ⟨z0, z1, z2, z3, z4, z5, z6, rfl, hz, hb⟩
      have HM4 := Lib.hid (HM3.out.step hb)
      have HZ := Lib.hid hz
      clear hb hz c0 c1 c2 c3 c4
      go_wp2_with fail
      refine (calls_q (down_qof _ n d (by omega) (by omega) (by omega) _ HZ.out)).mono ?_
      rintro e w5 ⟨y0, y1, y2, y3, y4, y5, y6, rfl, hz, hb⟩
      have HM5 := Lib.hid (HM4.out.step hb)
      have HY := Lib.hid hz
      clear hb hz
      go_wp2_with fail
      refine (whole_int _ (n / d) l4 l5 _ HY.out).mono ?_
      rintro e w6 ⟨rfl, hb⟩
      have hM6 := HM5.out.step hb
      have HM6 := Lib.hid hM6
      obtain ⟨c0, c1, c2, c3, c4⟩ := hM6.tail.tail.c2
      clear hb hM6
      generalize hlow : n / d = low at *
      have HLOW := Lib.hid hlow
      clear hlow
      have g1 : -3000000000 ≤ low * d := by omega
      have g2 : low * d ≤ 3000000000 := by omega
      go_wp2_with fail
      refine (between_any (n - low * d) d D (by omega) hD1 hd2 l1 l2 HLF.out.2.2.1 _).mono ?_
      rintro e w7 ⟨a, b, c, f, rfl, HB, hb⟩
      have hM7 := ((HM6.out.step hb).alloc #[.int .i64 a, .int .i64 b] 23).alloc #[.int .i64 c, .int .i64 f] 23
      simp only [World.size_alloc] at hM7
      have HM7 := Lib.hid hM7
      have HMW := Lib.hid (HM6.out.step hb)
      have hlt7 : w.heap.size + 1 + 1 < w7.heap.size := (HM6.out.step hb).head_lt
      obtain ⟨u0, u1, u2, u3, u4⟩ := (HM6.out.step hb).c2
      obtain ⟨v0, v1, v2, v3, v4⟩ := (HM6.out.step hb).tail.c2
      clear hb hM7 c0 c1 c2 c3 c4
      have hX : NbR n d D (a + low * b) b (c + low * f) f := ⟨fun h => absurd h (by omega), fun _ => ⟨HB.out.1.move, HB.out.2.1, HB.out.2.2.1⟩⟩
      have HX := Lib.hid hX
      have hxv := hX.vf HVF.out hD1
      have k1 : -2000000000 ≤ low * b := by have := hxv.1.n1; have := HB.out; omega
      have k2 : low * b ≤ 2000000000 := by have := hxv.1.n2; have := HB.out; omega
      have k3 : -2000000000 ≤ low * f := by have := hxv.2.n1; have := HB.out; omega
      have k4 : low * f ≤ 2000000000 := by have := hxv.2.n2; have := HB.out; omega
      have k5 : -1000000000 ≤ a := HB.out.2.2.2.1
      have k6 : a ≤ 1000000000 := HB.out.2.2.2.2.1
      have k7 : -1000000000 ≤ c := HB.out.2.2.2.2.2.1
      have k8 : c ≤ 1000000000 := HB.out.2.2.2.2.2.2
      clear hX hxv
      have q1 : w.heap.size + 1 < w7.heap.size + 1 := by omega
      have q2 : w.heap.size + 1 + 1 < w7.heap.size + 1 := by omega
      have q3 : w.heap.size + 1 ≠ w7.heap.size := by omega
      have q4 : w.heap.size + 1 + 1 ≠ w7.heap.size := by omega
      have q5 : w.heap.size + 1 ≠ w7.heap.size + 1 := by omega
      have q6 : w.heap.size + 1 + 1 ≠ w7.heap.size + 1 := by omega
      go_wp2_with fail
      go_region
      all_goals go_wp2_with fail
      refine bodyPost_ret (v := .tuple #[.agg #[.int .i64 (a + low * b), .int .i64 b], .agg #[.int .i64 (c + low * f), .int .i64 f], .int .i64 0]) (by simp [results, Try.results53, go_sem, u0, u1, v0, v1, v4, u4, q1, q2]) rfl ⟨_, _, _, _, _, rfl, Lib.hid ⟨fun h => (by rw [HV.out] at h; cases h), fun _ => ⟨rfl, HX.out⟩⟩, ?_⟩
      first | exact ((((HMW.out.put2s _ _).put2 _ _).skip _).skip _).drew.b | exact ((((HM7.out.b.setCell (by simp) _).setCell (by simp) _).setCell (by simp) _).setCell (by simp) _).drew

end Go.Proofs.Ytjnfgjaiahnfgaa

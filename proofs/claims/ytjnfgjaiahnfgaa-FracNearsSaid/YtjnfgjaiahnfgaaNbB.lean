/- Below and Above. -/
import Derived.Test.YtjnfgjaiahnfgaaNb
namespace Go.Proofs.Ytjnfgjaiahnfgaa
open Go.RowKit

noncomputable def bdB (n d D : Int) : Bool := vfB n d && (decide (1 ≤ D) && decide (D ≤ 1000000000))
theorem bdB_iff (n d D : Int) : bdB n d D = true ↔ VF n d ∧ 1 ≤ D ∧ D ≤ 1000000000 := by
  unfold bdB; simp [vfB_iff]

set_option maxRecDepth 100000 in
theorem bounded_p (n d D : Int) (w : World) :
    Calls Try.prog 84 #[.agg #[.int .i64 n, .int .i64 d], .int .i64 D] w fun e w' => e = .returned (.bool (bdB n d D)) ∧ Below w.heap.size w w' := by
  have HM := Lib.hid ((Mem.nil w).alloc #[.int .i64 n, .int .i64 d] 23)
  obtain ⟨b, hb⟩ : ∃ b, b = bdB n d D := ⟨_, rfl⟩
  rw [← hb]
  unfold bdB at hb
  cases hv : vfB n d
  · have HV := Lib.hid hv
    have HB : Hid (false = b) := Lib.hid (by rw [hb, hv]; rfl)
    clear hv hb
    go_enter Try.func84, Try.ntmps84
    go_wp2_with fail
    refine (valid_any n d _).mono ?_
    rintro e w1 ⟨rfl, hb⟩
    rw [HV.out]
    have HM1 := Lib.hid (HM.out.step hb)
    clear hb
    go_wp2
    go_ret
    exact ⟨by first | (rw [HB.out]; rfl) | (rw [← HB.out]; simp; omega), HM1.out.b⟩
  · have HV := Lib.hid hv
    by_cases h1 : 1 ≤ D
    · by_cases h2 : D ≤ 1000000000
      · have HB : Hid (true = b) := Lib.hid (by rw [hb, hv]; simp [h1, h2])
        clear hv hb
        go_enter Try.func84, Try.ntmps84
        go_wp2_with fail
        refine (valid_any n d _).mono ?_
        rintro e w1 ⟨rfl, hb⟩
        rw [HV.out]
        have HM1 := Lib.hid (HM.out.step hb)
        clear hb
        go_wp2
        go_ret
        exact ⟨by first | (rw [HB.out]; rfl) | (rw [← HB.out]; simp; omega), HM1.out.b⟩
      · have HB : Hid (false = b) := Lib.hid (by rw [hb, hv]; simp [h2])
        clear hv hb
        go_enter Try.func84, Try.ntmps84
        go_wp2_with fail
        refine (valid_any n d _).mono ?_
        rintro e w1 ⟨rfl, hb⟩
        rw [HV.out]
        have HM1 := Lib.hid (HM.out.step hb)
        clear hb
        go_wp2
        go_ret
        exact ⟨by first | (rw [HB.out]; rfl) | (rw [← HB.out]; simp; omega), HM1.out.b⟩
    · have HB : Hid (false = b) := Lib.hid (by rw [hb, hv]; simp [h1])
      clear hv hb
      go_enter Try.func84, Try.ntmps84
      go_wp2_with fail
      refine (valid_any n d _).mono ?_
      rintro e w1 ⟨rfl, hb⟩
      rw [HV.out]
      have HM1 := Lib.hid (HM.out.step hb)
      clear hb
      go_wp2
      go_ret
      exact ⟨by first | (rw [HB.out]; rfl) | (rw [← HB.out]; simp; omega), HM1.out.b⟩

/-- Both neighbours. -/
def NbR (n d D a b c e : Int) : Prop := (d ≤ D → a = n ∧ b = d ∧ c = n ∧ e = d) ∧ (D < d → NB n d D a b c e ∧ D < b + e ∧ 0 < e)
theorem nb_any (n d D : Int) (hv : VF n d) (h1 : 1 ≤ D) (w : World) :
    Calls Try.prog 85 #[.agg #[.int .i64 n, .int .i64 d], .int .i64 D] w fun e w' => ∃ a b c f, e = .returned (.tuple #[.agg #[.int .i64 a, .int .i64 b], .agg #[.int .i64 c, .int .i64 f]]) ∧ Hid (NbR n d D a b c f) ∧ Below w.heap.size w w' := by
  by_cases h : d ≤ D
  · exact (nb_near n d D h w).mono fun _ _ ⟨he, hb⟩ => ⟨_, _, _, _, he, Lib.hid ⟨fun _ => ⟨rfl, rfl, rfl, rfl⟩, fun h' => absurd h (by omega)⟩, hb⟩
  · have hd := hv.d2
    exact (nb_far n d D (by omega) h1 hv.d2 (by have := hv.n1; omega) (by have := hv.n2; omega) (by have := hv.g; simpa [Int.gcd] using this) w).mono fun _ _ ⟨a, b, c, f, he, hn, hb⟩ => ⟨a, b, c, f, he, Lib.hid ⟨fun h' => absurd h' h, fun _ => hn.out⟩, hb⟩

/-- What Below (lo) and Above (not lo) answer. -/
def SideR (lo : Bool) (n d D x y z : Int) : Prop :=
  (bdB n d D = false → x = 0 ∧ y = 0 ∧ z = 2) ∧ (bdB n d D = true → z = 0 ∧ ∃ a b c e, NbR n d D a b c e ∧ x = (if lo then a else c) ∧ y = (if lo then b else e))

theorem gcd_det {a b c e : Int} (h : c * b - a * e = 1) : Nat.gcd a.natAbs b.natAbs = 1 ∧ Nat.gcd c.natAbs e.natAbs = 1 := by
  have key : ∀ x y u v : Int, x * u + y * v = 1 → Nat.gcd x.natAbs y.natAbs = 1 := fun x y u v hx => by
    have h1 : ((Nat.gcd x.natAbs y.natAbs : Nat) : Int) ∣ x := Int.ofNat_dvd_left.2 (Nat.gcd_dvd_left _ _)
    have h2 : ((Nat.gcd x.natAbs y.natAbs : Nat) : Int) ∣ y := Int.ofNat_dvd_left.2 (Nat.gcd_dvd_right _ _)
    have h3 : ((Nat.gcd x.natAbs y.natAbs : Nat) : Int) ∣ 1 := by
      rw [← hx]; exact Int.dvd_add (Int.dvd_mul_of_dvd_left h1) (Int.dvd_mul_of_dvd_left h2)
    have := Int.le_of_dvd (by decide) h3
    have h4 : Nat.gcd x.natAbs y.natAbs ≠ 0 := fun h0 => by rw [h0] at h3; simp at h3
    omega
  exact ⟨key a b (-e) c (by grind), key c e b (-a) (by grind)⟩

/-- Both neighbours are fractions in lowest terms within the limits. -/
theorem NbR.vf {n d D a b c e : Int} (h : NbR n d D a b c e) (hv : VF n d) (h1 : 1 ≤ D) : VF a b ∧ VF c e := by
  by_cases hd : d ≤ D
  · obtain ⟨rfl, rfl, rfl, rfl⟩ := h.1 hd
    exact ⟨hv, hv⟩
  · obtain ⟨hn, hs, he⟩ := h.2 (by omega)
    obtain ⟨s1, s2, s3, s4⟩ := hn.small (by omega) he hv.d2 hv.n1 hv.n2
    obtain ⟨g1, g2⟩ := gcd_det hn.det
    have b1 := hn.b1; have b2 := hn.bD; have b3 := hn.dD; have b4 := hv.d2
    exact ⟨⟨b1, by omega, s1, s2, g1⟩, ⟨by omega, by omega, s3, s4, g2⟩⟩

set_option maxRecDepth 100000 in
set_option maxHeartbeats 1600000 in
theorem below_p (n d D : Int) (w : World) :
    Calls Try.prog 50 #[.agg #[.int .i64 n, .int .i64 d], .int .i64 D] w fun e w' => ∃ x y z, e = .returned (.tuple #[.agg #[.int .i64 x, .int .i64 y], .int .i64 z]) ∧ Hid (SideR true n d D x y z) ∧ Below w.heap.size w w' := by
  have HM := Lib.hid (((Mem.nil w).alloc #[.int .i64 n, .int .i64 d] 23).alloc #[.int .i64 0, .int .i64 0] 23)
  rw [World.size_alloc] at HM
  cases hv : bdB n d D
  · have HV := Lib.hid hv
    clear hv
    go_enter Try.func50, Try.ntmps50
    go_wp2_with fail
    refine (bounded_p n d D _).mono ?_
    rintro e w1 ⟨rfl, hb⟩
    rw [HV.out]
    have hM := HM.out.step hb
    have HM1 := Lib.hid hM
    obtain ⟨a0, a1, a2, a3, a4⟩ := hM.c2
    clear hb hM
    go_wp2
    refine bodyPost_ret (v := .tuple #[.agg #[.int .i64 0, .int .i64 0], .int .i64 2]) (by simp [results, Try.results50, go_sem, a0, a1]) rfl ⟨_, _, _, rfl, Lib.hid ⟨fun _ => ⟨rfl, rfl, rfl⟩, fun h => by rw [HV.out] at h; cases h⟩, ?_⟩
    exact (HM1.out.put2 _ _).b
  · have HV := Lib.hid hv
    have HVF := Lib.hid ((bdB_iff _ _ _).1 hv)
    clear hv
    go_enter Try.func50, Try.ntmps50
    go_wp2_with fail
    refine (bounded_p n d D _).mono ?_
    rintro e w1 ⟨rfl, hb⟩
    rw [HV.out]
    have hM := HM.out.step hb
    have HM1 := Lib.hid hM
    obtain ⟨b0, b1, b2, b3, b4⟩ := hM.tail.c2
    clear hb hM
    go_wp2_with fail
    refine (of_p n d _).mono ?_
    rintro e w2 ⟨rfl, hb⟩
    have HM2 := Lib.hid (HM1.out.step hb)
    clear hb b0 b1 b2 b3 b4
    go_wp2_with fail
    refine (nb_any n d D HVF.out.1 HVF.out.2.1 _).mono ?_
    rintro e w3 ⟨a, b, c, f, rfl, HR, hb⟩
    have HM3 := Lib.hid (((HM2.out.step hb).skip (.cells #[.int .i64 a, .int .i64 b] 67)).skip (.cells #[.int .i64 c, .int .i64 f] 67))
    have HV2 := Lib.hid (HR.out.vf HVF.out.1 HVF.out.2.1)
    clear hb
    go_wp2_with fail
    refine (rfrac_vf a b (by exact HV2.out.1) _).mono ?_
    rintro e w4 ⟨rfl, hb⟩
    have hM := HM3.out.step hb
    have HM4 := Lib.hid hM
    obtain ⟨a0, a1, a2, a3, a4⟩ := hM.c2
    clear hb hM
    go_wp2
    refine bodyPost_ret (v := .tuple #[.agg #[.int .i64 a, .int .i64 b], .int .i64 0]) (by simp [results, Try.results50, go_sem, a0, a1]) rfl ⟨_, _, _, rfl, Lib.hid ⟨fun h => (by rw [HV.out] at h; cases h), fun _ => ⟨rfl, a, b, c, f, HR.out, rfl, rfl⟩⟩, ?_⟩
    exact (HM4.out.put2 _ _).b

set_option maxRecDepth 100000 in
set_option maxHeartbeats 1600000 in
theorem above_p (n d D : Int) (w : World) :
    Calls Try.prog 51 #[.agg #[.int .i64 n, .int .i64 d], .int .i64 D] w fun e w' => ∃ x y z, e = .returned (.tuple #[.agg #[.int .i64 x, .int .i64 y], .int .i64 z]) ∧ Hid (SideR false n d D x y z) ∧ Below w.heap.size w w' := by
  have HM := Lib.hid (((Mem.nil w).alloc #[.int .i64 n, .int .i64 d] 23).alloc #[.int .i64 0, .int .i64 0] 23)
  rw [World.size_alloc] at HM
  cases hv : bdB n d D
  · have HV := Lib.hid hv
    clear hv
    go_enter Try.func51, Try.ntmps51
    go_wp2_with fail
    refine (bounded_p n d D _).mono ?_
    rintro e w1 ⟨rfl, hb⟩
    rw [HV.out]
    have hM := HM.out.step hb
    have HM1 := Lib.hid hM
    obtain ⟨a0, a1, a2, a3, a4⟩ := hM.c2
    clear hb hM
    go_wp2
    refine bodyPost_ret (v := .tuple #[.agg #[.int .i64 0, .int .i64 0], .int .i64 2]) (by simp [results, Try.results51, go_sem, a0, a1]) rfl ⟨_, _, _, rfl, Lib.hid ⟨fun _ => ⟨rfl, rfl, rfl⟩, fun h => by rw [HV.out] at h; cases h⟩, ?_⟩
    exact (HM1.out.put2 _ _).b
  · have HV := Lib.hid hv
    have HVF := Lib.hid ((bdB_iff _ _ _).1 hv)
    clear hv
    go_enter Try.func51, Try.ntmps51
    go_wp2_with fail
    refine (bounded_p n d D _).mono ?_
    rintro e w1 ⟨rfl, hb⟩
    rw [HV.out]
    have hM := HM.out.step hb
    have HM1 := Lib.hid hM
    obtain ⟨b0, b1, b2, b3, b4⟩ := hM.tail.c2
    clear hb hM
    go_wp2_with fail
    refine (of_p n d _).mono ?_
    rintro e w2 ⟨rfl, hb⟩
    have HM2 := Lib.hid (HM1.out.step hb)
    clear hb b0 b1 b2 b3 b4
    go_wp2_with fail
    refine (nb_any n d D HVF.out.1 HVF.out.2.1 _).mono ?_
    rintro e w3 ⟨a, b, c, f, rfl, HR, hb⟩
    have HM3 := Lib.hid (((HM2.out.step hb).skip (.cells #[.int .i64 a, .int .i64 b] 67)).skip (.cells #[.int .i64 c, .int .i64 f] 67))
    have HV2 := Lib.hid (HR.out.vf HVF.out.1 HVF.out.2.1)
    clear hb
    go_wp2_with fail
    refine (rfrac_vf c f (by exact HV2.out.2) _).mono ?_
    rintro e w4 ⟨rfl, hb⟩
    have hM := HM3.out.step hb
    have HM4 := Lib.hid hM
    obtain ⟨a0, a1, a2, a3, a4⟩ := hM.c2
    clear hb hM
    go_wp2
    refine bodyPost_ret (v := .tuple #[.agg #[.int .i64 c, .int .i64 f], .int .i64 0]) (by simp [results, Try.results51, go_sem, a0, a1]) rfl ⟨_, _, _, rfl, Lib.hid ⟨fun h => (by rw [HV.out] at h; cases h), fun _ => ⟨rfl, a, b, c, f, HR.out, rfl, rfl⟩⟩, ?_⟩
    exact (HM4.out.put2 _ _).b

end Go.Proofs.Ytjnfgjaiahnfgaa

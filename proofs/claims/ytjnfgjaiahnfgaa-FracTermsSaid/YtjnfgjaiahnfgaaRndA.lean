/- Round and RoundTo of the program. -/
import Derived.Test.YtjnfgjaiahnfgaaRnd
namespace Go.Proofs.Ytjnfgjaiahnfgaa
open Go.RowKit

def modeB (m : Int) : Bool := decide (0 ≤ m) && decide (m ≤ 4)
theorem modeB_iff (m : Int) : modeB m = true ↔ 0 ≤ m ∧ m ≤ 4 := by simp [modeB]

set_option maxRecDepth 100000 in
theorem isMode_r (m : Int) (w : World) : Calls Try.prog 72 #[.int .i64 m] w fun e w' => e = .returned (.bool (modeB m)) ∧ Below w.heap.size w w' := by
  obtain ⟨b, HB⟩ : ∃ b, Hid (modeB m = b) := ⟨_, Lib.hid rfl⟩
  rw [HB.out]
  by_cases h1 : 0 ≤ m
  · go_enter Try.func72, Try.ntmps72
    go_wp2
    go_ret
    exact ⟨by rw [← HB.out]; simp [modeB, h1], Below.refl _ _⟩
  · go_enter Try.func72, Try.ntmps72
    go_wp2
    go_ret
    exact ⟨by rw [← HB.out]; simp [modeB]; omega, Below.refl _ _⟩

/-- What Round answers. -/
noncomputable def rndS (n d m : Int) : Int × Int := if vfB n d = true ∧ modeB m = true then (rndI m n d, 0) else (0, 2)
theorem rndS_yes {n d m : Int} (h : VF n d) (hm : modeB m = true) : rndS n d m = (rndI m n d, 0) := by unfold rndS; rw [if_pos ⟨(vfB_iff n d).2 h, hm⟩]
theorem rndS_no {n d m : Int} (h : ¬ (VF n d ∧ modeB m = true)) : rndS n d m = (0, 2) := by unfold rndS; rw [if_neg (fun h2 => h ⟨(vfB_iff n d).1 h2.1, h2.2⟩)]

set_option maxRecDepth 100000 in
set_option maxHeartbeats 1600000 in
theorem round_p (n d m : Int) (w : World) :
    Calls Try.prog 33 #[.agg #[.int .i64 n, .int .i64 d], .int .i64 m] w fun e w' => ∃ a c, e = .returned (.tuple #[.int .i64 a, .int .i64 c]) ∧ Hid (rndS n d m = (a, c)) ∧ Below w.heap.size w w' := by
  have HS := Lib.hid (S10.start w n d 23)
  by_cases hv : VF n d
  · have HV := Lib.hid ((vfB_iff n d).2 hv)
    cases hm : modeB m
    · have HM := Lib.hid hm
      have HFIN := Lib.hid (rndS_no (n := n) (d := d) (m := m) (fun h => by rw [hm] at h; exact absurd h.2 (by decide)))
      clear hv hm
      go_enter Try.func33, Try.ntmps33
      go_wp2_with fail
      refine (valid_any n d _).mono ?_
      rintro e w1 ⟨rfl, hb⟩
      rw [HV.out]
      have HS1 := Lib.hid (HS.out.step hb)
      clear hb
      go_wp2_with fail
      refine (isMode_r m _).mono ?_
      rintro e w2 ⟨rfl, hb⟩
      rw [HM.out]
      have HS2 := Lib.hid (HS1.out.step hb)
      clear hb
      go_wp2
      refine bodyPost_ret (v := .tuple #[.int .i64 0, .int .i64 2]) (by simp [results, Try.results33, go_sem]) rfl ⟨_, _, rfl, HFIN, HS2.out.1⟩
    · have HM := Lib.hid hm
      have HFIN := Lib.hid (rndS_yes hv hm)
      have HR : Hid (∀ w, Calls Try.prog 73 #[.agg #[.int .i64 n, .int .i64 d], .int .i64 m] w fun e w' => e = .returned (.int .i64 (rndI m n d)) ∧ Below w.heap.size w w') :=
        Lib.hid (round_r n d m (by have := hv.d1; omega) (by have := hv.d2; omega) (by have := hv.n1; omega) (by have := hv.n2; omega))
      clear hv hm
      go_enter Try.func33, Try.ntmps33
      go_wp2_with fail
      refine (valid_any n d _).mono ?_
      rintro e w1 ⟨rfl, hb⟩
      rw [HV.out]
      have HS1 := Lib.hid (HS.out.step hb)
      clear hb
      go_wp2_with fail
      refine (isMode_r m _).mono ?_
      rintro e w2 ⟨rfl, hb⟩
      rw [HM.out]
      have hS2 := HS1.out.step hb
      obtain ⟨-, ka0, ka1⟩ := hS2.l
      have HS2 := Lib.hid hS2
      clear hb hS2
      go_wp2_with fail
      refine (of_p n d _).mono ?_
      rintro e w3 ⟨rfl, hb⟩
      have HS3 := Lib.hid (HS2.out.step hb)
      clear hb ka0 ka1
      go_wp2_with fail
      refine (HR.out _).mono ?_
      rintro e w4 ⟨rfl, hb⟩
      have HS4 := Lib.hid (HS3.out.step hb)
      clear hb
      go_wp2
      refine bodyPost_ret (v := .tuple #[.int .i64 (rndI m n d), .int .i64 0]) (by simp [results, Try.results33, go_sem]) rfl ⟨_, _, rfl, HFIN, HS4.out.1⟩
  · have HV := Lib.hid (vfB_false hv)
    have HFIN := Lib.hid (rndS_no (n := n) (d := d) (m := m) (fun h => hv h.1))
    clear hv
    go_enter Try.func33, Try.ntmps33
    go_wp2_with fail
    refine (valid_any n d _).mono ?_
    rintro e w1 ⟨rfl, hb⟩
    rw [HV.out]
    have HS1 := Lib.hid (HS.out.step hb)
    clear hb
    go_wp2
    refine bodyPost_ret (v := .tuple #[.int .i64 0, .int .i64 2]) (by simp [results, Try.results33, go_sem]) rfl ⟨_, _, rfl, HFIN, HS1.out.1⟩

end Go.Proofs.Ytjnfgjaiahnfgaa

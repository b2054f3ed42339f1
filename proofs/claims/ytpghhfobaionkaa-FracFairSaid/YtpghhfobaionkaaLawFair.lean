/- FracFair: the shares add up to the total, each is its quota rounded down or one more, and a weight of 0 gets nothing, for every number and every slice of weights; no condition. -/
import Derived.Test.YtpghhfobaionkaaRows
import Derived.ProofKit
import Derived.OpenShut
import Derived.Lib.SmallJoins
import Derived.Test.YtpghhfobaionkaaArg
import Derived.Test.YtpghhfobaionkaaAwake
import Derived.Test.YtpghhfobaionkaaSsQ
namespace Go.Proofs.Ytpghhfobaionkaa.lawFracFair
open Go.ChangeShapes Go.WideShapes Go.ChangeAt Go.RowKit Go.Joins
set_option linter.unusedVariables false

theorem shr_bd {n all : Int} {zs : List Int} {f : Nat → Int} {L : Nat} (h : ∀ k, 0 ≤ quo n all zs k ∧ quo n all zs k ≤ n) (hn : n ≤ 1000000000) (p : Nat) : quo n all zs p ≤ shr n all zs f L p ∧ shr n all zs f L p ≤ quo n all zs p + 1 ∧ 0 ≤ shr n all zs f L p ∧ shr n all zs f L p ≤ 1000000001 := by
  have h1 := h p
  have h2 := mrk_01 f L p
  unfold shr
  omega
theorem sumR_bd {N : Nat} {g : Nat → Int} (h : ∀ p, 0 ≤ g p ∧ g p ≤ 1000000001) : 0 ≤ sumR N g ∧ sumR N g ≤ 1000000001 * N := by
  induction N with
  | zero => exact ⟨Int.le_refl _, by simp [sumR]⟩
  | succ N ih => have := h N; simp only [sumR]; omega

set_option maxRecDepth 100000 in
set_option maxHeartbeats 6400000 in
theorem walk (n : Int) (_ : (Lit.int .i64 n).wf = true) (a : Option Addr) (cap : Nat) (zs : List Int) (_ : ∀ z ∈ zs, (Lit.int .i64 z).wf = true) (w : World) (h : IntS w a zs) :
    Calls Try.prog 5 #[.int .i64 n, .slice a zs.length cap] w fun e w' => e = .returned (.bool true) ∧ Below w.heap.size w w' := by
  have HF := Lib.hid h
  clear h
  obtain ⟨z, hz⟩ : ∃ z, shrE n zs = z := ⟨_, rfl⟩
  by_cases h0 : z = 0
  · subst h0
    have HZ := Lib.hid hz
    obtain ⟨hlen, n0, n1, hw, hs0⟩ := shrE_ok hz
    obtain ⟨a0, a1⟩ := sum_pos hw hlen hs0
    obtain ⟨all, hall⟩ : ∃ all, all = zs.sum := ⟨_, rfl⟩
    rw [← hall] at a0 a1
    have HQ := Lib.hid (fun k => quo_bd (n := n) (all := all) (zs := zs) n0 n1 a0 (fun z hz => ⟨(wz hw z hz).1, by rw [hall]; exact mem_le_sum (fun z hz => (wz hw z hz).1) z hz⟩) k)
    have HWZ := Lib.hid (wz hw)
    have HALL := Lib.hid hall
    have hl : (zs.length : Int) ≤ 64 := by omega
    have hall0 : ¬ all ≤ 0 := by omega
    have hal1 : all ≠ 0 := by omega
    have hal2 : (all == 0) = false := by simp; omega
    clear hz hw hs0 hall hlen
    go_enter Try.func5, Try.ntmps5
    go_wp2_with fail
    refine (share_ok a cap zs n HZ.out w HF.out).mono ?_
    rintro e w1 ⟨g, L, f, rfl, HE, HG, hb⟩
    rw [← HALL.out] at HE HG
    have HB1 := Lib.hid hb
    clear hb
    go_wp2_with fail
    go_loop [7, 40] (fun t i => ∃ (k : Nat) (s : Int), k ≤ zs.length ∧ t = .int .i64 s ∧ i = .int .i64 k ∧ 0 ≤ s ∧ s ≤ 1000000000 * k ∧ Hid ((zs.take k).sum = s)) (fun _ i => zs.length - (intOf i).toNat)
    case atStart => exact ⟨0, 0, Nat.zero_le _, rfl, rfl, by omega, by omega, Lib.hid rfl⟩
    case round =>
      obtain ⟨k, s, hk, rfl, rfl, hs1, hs2, HA⟩ := hrel
      by_cases hlt : k < zs.length
      · obtain ⟨b, off, rfl, hg, hc⟩ := (HF.out.below HB1.out).at_ hlt
        have hzb := HWZ.out _ (List.getElem_mem hlt)
        obtain ⟨x, hx⟩ : ∃ n, n = zs[k] := ⟨_, rfl⟩
        rw [← hx] at hc hzb
        obtain ⟨x0, x1⟩ := hzb
        have HA' : Hid ((zs.take (k + 1)).sum = s + x) := Lib.hid (by rw [sum_take hlt, HA.out, ← hx])
        clear hx
        have hk0 : (0 : Int) ≤ (k : Int) := by omega
        have hlt' : (k : Int) < zs.length := by omega
        go_wp2
        go_round
        case rel => exact ⟨k + 1, s + x, by omega, rfl, by go_num, by omega, by omega, HA'⟩
        case measure => simp [intOf]; omega
      · obtain rfl : k = zs.length := by omega
        have hsa : s = all := by
          have hA := HA.out
          rw [List.take_length] at hA
          rw [← hA, HALL.out]
        subst hsa
        clear HA hs1 hs2
        have hll : ((zs.length : Int) != (zs.length : Int)) = false := by simp
        go_wp2_with fail
        go_loop [8, 59] (fun t i => ∃ (k : Nat) (u : Int), k ≤ zs.length ∧ t = .int .i64 u ∧ i = .int .i64 k ∧ 0 ≤ u ∧ u ≤ 1000000001 * k ∧ Hid (sumR k (shr n s zs f L) = u)) (fun _ i => zs.length - (intOf i).toNat)
        case atStart => exact ⟨0, 0, Nat.zero_le _, rfl, rfl, by omega, by omega, Lib.hid rfl⟩
        case round =>
          obtain ⟨k, u, hk, rfl, rfl, hu1, hu2, HA⟩ := hrel
          by_cases hlt : k < zs.length
          · obtain ⟨b, off, rfl, hg, hc⟩ := (HF.out.below HB1.out).at_ hlt
            have hzb := HWZ.out _ (List.getElem_mem hlt)
            have c1 : w1.cell? ⟨g, k, none⟩ = some (.int .i64 (shr n s zs f L k)) := by
              simp only [World.cell?]; rw [HG.out.2]; exact arrC_get hlt
            have hb := shr_bd (f := f) (L := L) HQ.out n1 k
            have hzero : zs[k] = 0 → shr n s zs f L k = 0 := fun h => shr_zero HE.out.1 HALL.out.symm a0 HE.out.2.1 HE.out.2.2 (by rw [List.getD_eq_getElem?_getD, List.getElem?_eq_getElem hlt, h]; rfl)
            have hqk : quo n s zs k = n * zs[k] / s := by
              unfold quo; rw [List.getD_eq_getElem?_getD, List.getElem?_eq_getElem hlt]; rfl
            obtain ⟨x, hx⟩ : ∃ n, n = zs[k] := ⟨_, rfl⟩
            rw [← hx] at hc hzb hzero hqk
            obtain ⟨x0, x1⟩ := hzb
            have hqb := HQ.out k
            obtain ⟨y, hy⟩ : ∃ y, y = shr n s zs f L k := ⟨_, rfl⟩
            obtain ⟨q, hq⟩ : ∃ q, n * x / s = q := ⟨_, rfl⟩
            rw [hqk, hq] at hb hqb
            rw [← hy] at c1 hb hzero
            obtain ⟨b1, b2, b3, b4⟩ := hb
            obtain ⟨q0, q1⟩ := hqb
            have m0 : 0 ≤ n * x := Int.mul_nonneg n0 x0
            have m1 : n * x ≤ 1000000000000000000 := by have := Int.mul_le_mul n1 x1 x0 (by omega); simpa using this
            have hw1 : IntKind.i64.wrap (n * x) = n * x := IntWalk.i64_in _ (by omega)
            have htd : (n * x).tdiv s = q := by rw [Int.tdiv_eq_ediv_of_nonneg m0]; exact hq
            have HA' : Hid (sumR (k + 1) (shr n s zs f L) = u + y) := Lib.hid (by simp only [sumR]; rw [HA.out, hy])
            have hk0 : (0 : Int) ≤ (k : Int) := by omega
            have hlt' : (k : Int) < zs.length := by omega
            have e1 : ¬ y < q := by omega
            have e2 : ¬ q + 1 < y := by omega
            clear hy hq hqk hx
            by_cases hx0 : x = 0
            · have hy0 := hzero hx0
              subst hx0
              subst hy0
              clear hzero
              go_wp2
              go_round
              case rel => exact ⟨k + 1, u + 0, by omega, by rw [Int.add_zero], by go_num, by omega, by omega, HA'⟩
              case measure => simp [intOf]; omega
            · have hx1 : (x == 0) = false := by simpa using hx0
              clear hzero hx0
              go_wp2
              go_round
              case rel => exact ⟨k + 1, u + y, by omega, rfl, by go_num, by omega, by omega, HA'⟩
              case measure => simp [intOf]; omega
          · obtain rfl : k = zs.length := by omega
            have hun : u = n := by
              rw [← HA.out, HALL.out]
              exact shr_sum (by have := HE.out.1; rw [HALL.out] at this; exact this) (by have := HE.out.2.1; rw [HALL.out] at this; exact this) HE.out.2.2
            have hnn : (n == n) = true := by simp
            subst hun
            have HBX := Lib.hid HB1.out
            clear HA hu1 hu2
            go_wp2_with fail
            refine (awake_any _).mono ?_
            rintro e w4 ⟨rfl, hb⟩
            have HB4 := Lib.hid (HBX.out.trans (hb.mono HBX.out.size))
            clear hb
            go_wp2
            go_ret
            exact ⟨rfl, HB4.out⟩
  · have HZ := Lib.hid (And.intro hz h0)
    have hzz : (z == 0) = false := by simpa using h0
    have hzn : (z != 0) = true := by simpa using h0
    clear hz h0
    go_enter Try.func5, Try.ntmps5
    go_wp2_with fail
    refine (share_err a cap zs n z HZ.out.1 HZ.out.2 w HF.out).mono ?_
    rintro e w1 ⟨rfl, rfl⟩
    go_wp2_with fail
    refine (awake_any _).mono ?_
    rintro e w4 ⟨rfl, hb⟩
    have HB4 := Lib.hid hb
    clear hb
    go_wp2
    go_ret
    exact ⟨rfl, HB4.out⟩

theorem own : ownKnob Try.prog.godebug = none := by kernel_rfl

set_option maxRecDepth 100000 in
theorem lifted (os : Os) (started : os.Started) (H : Type) (enc : TypeId × Value → H) :
    ReturnsInHanded {} Try.checked os 5 .any (Rows.fracFairSpec.pre6 enc Try.prog Try.f5 Rows.fracFairRow.domain false) (Rows.fracFairSpec.post enc Try.prog Try.f5 false true false false) := by
  refine returnsInHanded_of_change (C := Try.checked) own started (by kernel_rfl) Try.func5
    (ChangeSpec.witness6 (enc := enc) (C := Try.checked) false ⟨#[], #[.int .i64 0, .slice none 0 0], []⟩ 8 (by kernel_rfl) (by kernel_rfl) (by kernel_rfl) (by kernel_rfl)) ?_
  intro W base args ds gs before hval0 hW hcnd _
  have hval : ∀ (j : Nat) t v, Try.f5.params[j]? = some t → args[j]? = some v → Value.okWide Try.prog W .any base t v := hval0
  have hW' := hW
  obtain ⟨p, q, hA0, hV, rfl, hfz, hnd⟩ := hW
  have hA : DataW.TrodAll enc Try.prog W 0 (fun _ => true) true Try.f5.params.toList args.toList ds p := hA0
  rw [Try.params5] at hA hval
  obtain ⟨v0, vs0, d0, ds0, p0, q0, hargs, rfl, rfl, h0, r0⟩ := trodAll_cons hA
  obtain ⟨v1, vs1, d1, ds1, p1, q1, rfl, rfl, rfl, h1, r1⟩ := trodAll_cons r0
  obtain ⟨rfl, rfl, rfl⟩ := trodAll_nil r1
  obtain rfl : args = #[v0, v1] := by cases args; simp_all
  obtain ⟨rfl, rfl⟩ := trodVars_none hV
  obtain ⟨n0, rfl, rfl, rfl, wn0⟩ := open_int Try.underlying3 (hval 0 3 v0 rfl rfl) h0
  obtain ⟨a1, len1, cap1, rfl⟩ := okWide_slice Try.underlying30 (hval 1 30 v1 rfl rfl)
  have k1 := h1
  have lt1 : ∀ x ∈ p1, x.block < W.heap.size := by obtain ⟨m, hm⟩ := k1; exact DataW.trod_lt m _ _ _ hm
  obtain ⟨fs1, hl1, hF1, wf1⟩ := open_intS h1
  subst hl1
  clear hA0 hval0
  refine (walk n0 wn0 a1 cap1 fs1 wf1 W hF1).mono fun e W' ⟨he, hb⟩ => ?_
  subst he
  exact ⟨_, rfl, _, _, _, [], _, [], hW', trodAll_mk1 (shut_bool Try.underlying4 _), (trodAll_cons_mk (shut_int Try.underlying3 wn0) (trodAll_cons_mk (Below.trod laidOut (by kernel_rfl) (of_decide_eq_true (by kernel_rfl)) k1 hb lt1) trodAll_mk0)), rfl, hb.frame _, fun h => by cases h⟩

theorem over : Rows.fracFairRow.holds Try.pinned (OpenSpec.ofChange Rows.fracFairSpec) :=
  OpenClaim.holds_of_wide 5 Try.f5 rfl rfl rfl rfl rfl rfl rfl ⟨rfl, rfl, rfl, rfl, rfl⟩ rfl rfl rfl rfl rfl (by kernel_rfl) Try.func5 (by kernel_rfl)
    (of_decide_eq_true (by kernel_rfl)) (by unfold Func.isWrapper; first | (rw [if_pos (by decide +kernel)]; kernel_rfl) | (rw [if_neg (by decide +kernel)]; exact ⟨rfl, rfl⟩))
    (fun os started H enc _ => lifted os started H enc)

/-- THE STATEMENT. -/
theorem proved : Rows.FracFairSaid := over
#print axioms proved

end Go.Proofs.Ytpghhfobaionkaa.lawFracFair

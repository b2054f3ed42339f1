/- FracClose: RoundTo's answer is a multiple of the unit, less than a unit away, at most half a unit in the Half modes; no condition. -/
import Derived.Test.YtjnfgjaiahnfgaaRows
import Derived.ProofKit
import Derived.OpenShut
import Derived.Lib.SmallJoins
import Derived.Deep.DeepCutAuto
import Derived.Deep.RegionHeld3
import Derived.Test.YtjnfgjaiahnfgaaRndJ
import Derived.Test.YtjnfgjaiahnfgaaQn
import Derived.Test.YtjnfgjaiahnfgaaAwake
namespace Go.Proofs.Ytjnfgjaiahnfgaa.lawFracClose
open Go.ChangeShapes Go.WideShapes Go.ChangeAt Go.RowKit Go.Joins
set_option linter.unusedVariables false
set_option linter.unusedSimpArgs false

/-- The cells of three blocks of two. -/
theorem cells3 {w0 w : World} {Q : List (Value × Rat)} {g1 g2 g3 : Nat} {a1 b1 a2 b2 a3 b3 : Value} {T1 T2 T3 : TypeId} {L : List (Nat × Array Value × TypeId)} (h : MQ w0 ((g1, #[a1, b1], T1) :: (g2, #[a2, b2], T2) :: (g3, #[a3, b3], T3) :: L) Q w) :
    MQ w0 ((g1, #[a1, b1], T1) :: (g2, #[a2, b2], T2) :: (g3, #[a3, b3], T3) :: L) Q w ∧ w.cell? ⟨g1, 0, none⟩ = some a1 ∧ w.cell? ⟨g1, 1, none⟩ = some b1 ∧ w.cell? ⟨g2, 0, none⟩ = some a2 ∧ w.cell? ⟨g2, 1, none⟩ = some b2 ∧ w.cell? ⟨g3, 0, none⟩ = some a3 ∧ w.cell? ⟨g3, 1, none⟩ = some b3 :=
  ⟨h, h.m.all3⟩

/-- With a block of three before them. -/
theorem cells4 {w0 w : World} {Q : List (Value × Rat)} {g g1 g2 g3 : Nat} {p q r a1 b1 a2 b2 a3 b3 : Value} {T T1 T2 T3 : TypeId} {L : List (Nat × Array Value × TypeId)} (h : MQ w0 ((g, #[p, q, r], T) :: (g1, #[a1, b1], T1) :: (g2, #[a2, b2], T2) :: (g3, #[a3, b3], T3) :: L) Q w) :
    MQ w0 ((g, #[p, q, r], T) :: (g1, #[a1, b1], T1) :: (g2, #[a2, b2], T2) :: (g3, #[a3, b3], T3) :: L) Q w ∧ w.cell? ⟨g, 0, none⟩ = some p ∧ w.cell? ⟨g, 1, none⟩ = some q ∧ w.cell? ⟨g, 2, none⟩ = some r ∧ w.cell? ⟨g1, 0, none⟩ = some a1 ∧ w.cell? ⟨g1, 1, none⟩ = some b1 ∧ w.cell? ⟨g2, 0, none⟩ = some a2 ∧ w.cell? ⟨g2, 1, none⟩ = some b2 ∧ w.cell? ⟨g3, 0, none⟩ = some a3 ∧ w.cell? ⟨g3, 1, none⟩ = some b3 :=
  ⟨h, h.m.cell 0, h.m.cell 1, h.m.cell 2, h.m.tail.all3⟩

theorem neg_n (x : Value) (a b c : Int) (hc : c = -a) (w : World) (h : IsQ w x (qof a b)) :
    Calls Try.prog 40 #[x] w fun e w' => ∃ z, e = .returned z ∧ IsQ w' z (qof c b) ∧ Below w.heap.size w w' := by
  subst hc
  rw [← qof_neg]
  exact minus_any x _ w h

set_option maxRecDepth 100000 in
set_option maxHeartbeats 6400000 in
theorem walk (n1 d1 : Int) (_ : (Lit.int .i64 n1).wf = true) (_ : (Lit.int .i64 d1).wf = true) (n2 d2 : Int) (_ : (Lit.int .i64 n2).wf = true) (_ : (Lit.int .i64 d2).wf = true) (m : Int) (_ : (Lit.int .i64 m).wf = true) (w : World) :
    Calls Try.prog 8 #[.agg #[.int .i64 n1, .int .i64 d1], .agg #[.int .i64 n2, .int .i64 d2], .int .i64 m] w fun e w' => e = .returned (.bool true) ∧ Below w.heap.size w w' := by
  have hM := ((⟨Mem.nil w, by simp⟩ : MQ w [] [] w).alloc #[.int .i64 n1, .int .i64 d1] 23).alloc #[.int .i64 n2, .int .i64 d2] 23
  simp only [World.size_alloc] at hM
  have HM := Lib.hid hM
  clear hM
  go_enter Try.func8, Try.ntmps8
  go_wp2_with fail
  refine (roundTo_p n1 d1 n2 d2 m _).mono ?_
  rintro e w1 ⟨x0, x1, x2, rfl, H1, hb⟩
  have hM1 := HM.out.step hb
  have hs1 : w.heap.size + 1 < w1.heap.size := hM1.m.head_lt
  have hs1' : w.heap.size < w1.heap.size := by omega
  have HM1 := Lib.hid (hM1.alloc #[.int .i64 x0, .int .i64 x1] 23)
  obtain ⟨kb0, kb1, ka0, ka1⟩ := hM1.m.all2
  clear hM1 hb
  by_cases hx : x2 = 0
  · subst hx
    obtain ⟨v1, v2, hp, hm0, hm4, vx, hq⟩ := rtoS_ok H1.out
    have HV : Hid (vfB n1 d1 = true ∧ vfB n2 d2 = true ∧ vfB x0 x1 = true) := Lib.hid ⟨(vfB_iff _ _).2 v1, (vfB_iff _ _).2 v2, (vfB_iff _ _).2 vx⟩
    have HVF := Lib.hid (And.intro v1 (And.intro v2 (And.intro vx hp)))
    have HM04 := Lib.hid (And.intro hm0 hm4)
    obtain ⟨⟨k, k1, k2, k3⟩, a, b, f1, f2, f3, f4, f5, f6, f7⟩ := close_all H1.out
    have HK := Lib.hid (And.intro k1 (And.intro k2 k3))
    have HF := Lib.hid (And.intro f1 (And.intro f2 (And.intro f3 (And.intro f4 (And.intro f5 (And.intro f6 f7))))))
    clear H1 v1 v2 hp hm0 hm4 vx hq k1 k2 k3 f1 f2 f3 f4 f5 f6 f7
    go_wp2_with fail
    refine (valid_r n1 d1 _).mono ?_
    rintro e w2 ⟨rfl, hb⟩
    rw [HV.out.1]
    have hM2 := HM1.out.step hb
    clear ka0 ka1 kb0 kb1
    obtain ⟨-, kg0, kg1, kb0, kb1, ka0, ka1⟩ := cells3 hM2
    have HM2 := Lib.hid hM2
    clear hb hM2
    go_wp2_with fail
    refine (valid_r n2 d2 _).mono ?_
    rintro e w3 ⟨rfl, hb⟩
    rw [HV.out.2.1]
    have hM3 := HM2.out.step hb
    clear ka0 ka1 kb0 kb1 kg0 kg1
    obtain ⟨-, kg0, kg1, kb0, kb1, ka0, ka1⟩ := cells3 hM3
    have HM3 := Lib.hid hM3
    clear hb hM3
    go_wp2_with fail
    refine (valid_r x0 x1 _).mono ?_
    rintro e w4 ⟨rfl, hb⟩
    rw [HV.out.2.2]
    have hM4 := HM3.out.step hb
    clear ka0 ka1 kb0 kb1 kg0 kg1
    obtain ⟨-, kg0, kg1, kb0, kb1, ka0, ka1⟩ := cells3 hM4
    have hs4 := hM4.m.head_lt
    have HM4 := Lib.hid hM4
    clear hb hM4
    have HR : Hid ((-9223372036854775808 ≤ n1 ∧ n1 ≤ 9223372036854775807 ∧ -9223372036854775808 ≤ d1 ∧ d1 ≤ 9223372036854775807 ∧ d1 ≠ 0) ∧ (-9223372036854775808 ≤ x0 ∧ x0 ≤ 9223372036854775807 ∧ -9223372036854775808 ≤ x1 ∧ x1 ≤ 9223372036854775807 ∧ x1 ≠ 0) ∧ (-9223372036854775808 ≤ n2 ∧ n2 ≤ 9223372036854775807 ∧ -9223372036854775808 ≤ d2 ∧ d2 ≤ 9223372036854775807 ∧ d2 ≠ 0)) := Lib.hid (by
      have h1 := HVF.out.1; have h2 := HVF.out.2.2.1; have h3 := HVF.out.2.1; have := h1.n1; have := h1.n2; have := h1.d1; have := h1.d2; have := h2.n1; have := h2.n2; have := h2.d1; have := h2.d2; have := h3.n1; have := h3.n2; have := h3.d1; have := h3.d2; omega)
    have HLS : Hid (∀ x y w, IsQ w x (qof x0 x1) → IsQ w y (qof n1 d1) → Calls Try.prog 37 #[x, y] w fun e w' => ∃ b0 u k c u2 k2 c2, e = .returned (.agg #[.bool b0, .slice u k c, .slice u2 k2 c2]) ∧ IsQ w' (.agg #[.bool b0, .slice u k c, .slice u2 k2 c2]) (qof a b) ∧ Below w.heap.size w w') := Lib.hid (fun x y w h g => by
      have := less_q_any x y _ _ w h g ((LenQ.vf HVF.out.2.2.1).mono (by decide)) ((LenQ.vf HVF.out.1).mono (by decide))
      rw [HF.out.1] at this
      exact calls_q this)
    have HC : Hid (∀ w', MQ w [(w1.heap.size, #[.int .i64 x0, .int .i64 x1], 23), (w.heap.size + 1, #[.int .i64 n2, .int .i64 d2], 23), (w.heap.size, #[.int .i64 n1, .int .i64 d1], 23)] [] w' → _) := Lib.hid (fun w' h => cells3 h)
    go_upto_region 6 with fail
    go_cut [9] (fun s9 wx => ∃ (go : Nat) (ob : Bool) (ou : Option Addr) (ok oc : Nat) (ou2 : Option Addr) (ok2 oc2 : Nat), s9 = .pointer (some ⟨go, 0, none⟩) ∧ Hid (MQ w [(go, #[.bool ob, .slice ou ok oc, .slice ou2 ok2 oc2], 43), (w1.heap.size, #[.int .i64 x0, .int .i64 x1], 23), (w.heap.size + 1, #[.int .i64 n2, .int .i64 d2], 23), (w.heap.size, #[.int .i64 n1, .int .i64 d1], 23)] [(.agg #[.bool ob, .slice ou ok oc, .slice ou2 ok2 oc2], qof a b)] wx))
    case first =>
      have hM4 := HM4.out
      go_wp2_with fail
      go_region_held3 (fun w' => MQ w [(w1.heap.size, #[.int .i64 x0, .int .i64 x1], 23), (w.heap.size + 1, #[.int .i64 n2, .int .i64 d2], 23), (w.heap.size, #[.int .i64 n1, .int .i64 d1], 23)] [] w' ∧ w'.cell? ⟨w1.heap.size, 0, none⟩ = some (.int .i64 x0) ∧ w'.cell? ⟨w1.heap.size, 1, none⟩ = some (.int .i64 x1) ∧ w'.cell? ⟨w.heap.size + 1, 0, none⟩ = some (.int .i64 n2) ∧ w'.cell? ⟨w.heap.size + 1, 1, none⟩ = some (.int .i64 d2) ∧ w'.cell? ⟨w.heap.size, 0, none⟩ = some (.int .i64 n1) ∧ w'.cell? ⟨w.heap.size, 1, none⟩ = some (.int .i64 d1))
        (first | exact HC.out _ hM4 | exact HC.out _ hM4.drew | (go_split_ands; first | exact HC.out _ (MQ.step (by assumption) (by assumption)) | exact HC.out _ (MQ.realloc (by assumption) (by omega) _) | exact HC.out _ (MQ.skip (by assumption) _) | exact HC.out _ (MQ.set_new3 (by assumption) (by omega))))
        (first
          | (go_at_call 38; go_split_ands; with_reducible (refine (of_q x0 x1 HR.out.2.1.1 HR.out.2.1.2.1 HR.out.2.1.2.2.1 HR.out.2.1.2.2.2.1 HR.out.2.1.2.2.2.2 _).mono ?_); rintro e v1 ⟨z1, rfl, hz1, hb1⟩; obtain ⟨oc1, of1, os1⟩ := old_cells hb1; (try simp only [World.size_alloc, World.size_drew] at oc1 of1 os1); (try have l41 : w4.heap.size < v1.heap.size := by omega))
          | (go_at_call 38; go_split_ands; with_reducible (refine (of_q n1 d1 HR.out.1.1 HR.out.1.2.1 HR.out.1.2.2.1 HR.out.1.2.2.2.1 HR.out.1.2.2.2.2 _).mono ?_); rintro e v2 ⟨z2, rfl, hz2, hb2⟩; obtain ⟨oc2, of2, os2⟩ := old_cells hb2; (try simp only [World.size_alloc, World.size_drew] at oc2 of2 os2); (try have l42 : w4.heap.size < v2.heap.size := by omega); (try have l12 : v1.heap.size < v2.heap.size := by omega))
          | (go_at_call 37; go_split_ands; with_reducible (refine (HLS.out _ _ _ (by first | exact hz1.below hb2 | exact (hz1.below hb2).al | exact hz1.al.below hb2) (by first | exact hz2 | exact hz2.al)).mono ?_); rintro e v3 ⟨e0, u1, f1, g1, u2, f2, g2, rfl, hz3, hb3⟩; obtain ⟨oc3, of3, os3⟩ := old_cells hb3; (try simp only [World.size_alloc, World.size_drew] at oc3 of3 os3)))
      all_goals go_wp2_with fail
      all_goals go_meet
      all_goals exact ⟨_, e0, u1, f1, g1, u2, f2, g2, rfl, Lib.hid (by
        first
          | exact ((((HM4.out.drew.step hb1).step hb2).step hb3).push hz3).alloc _ _
          | exact (((((HM4.out.drew.step hb1).step hb2).alloc #[.bool false, .slice none 0 0, .slice none 0 0] 43).step hb3).push hz3).put3 _ _ _
          | exact (((((HM4.out.drew.step hb1).alloc #[.bool false, .slice none 0 0, .slice none 0 0] 43).step hb2).step hb3).push hz3).put3 _ _ _
          | exact (((((HM4.out.alloc #[.bool false, .slice none 0 0, .slice none 0 0] 43).drew.step hb1).step hb2).step hb3).push hz3).put3 _ _ _)⟩
    case rest =>
    obtain ⟨go, ob, ou, ok, oc, ou2, ok2, oc2, rfl, HO⟩ := hcut
    clear HM4 HM3 HM2 HM1 HM HC HLS kg0 kg1 kb0 kb1 ka0 ka1 hs4
    obtain ⟨sa, hsa⟩ : ∃ s, cmpI a 0 = s := ⟨_, rfl⟩
    have HSA := Lib.hid hsa
    clear hsa
    have hf4 := HF.out.2.2.2.1
    obtain ⟨-, ko0, ko1, ko2, kg0, kg1, kb0, kb1, ka0, ka1⟩ := cells4 HO.out
    have hgo := HO.out.m.head_lt
    go_wp2_with fail
    refine (sign_n _ a b sa HF.out.2.2.2.1 HSA.out _ HO.out.q0).mono ?_
    rintro e w5 ⟨rfl, hb⟩
    have hO5 := HO.out.step hb
    clear ko0 ko1 ko2 kg0 kg1 kb0 kb1 ka0 ka1 hgo
    obtain ⟨-, ko0, ko1, ko2, kg0, kg1, kb0, kb1, ka0, ka1⟩ := cells4 hO5
    obtain ⟨-, -, -, ko3, ko4, ko5, hgo⟩ := hO5.m.c3
    have HO5 := Lib.hid hO5
    clear hb hO5
    obtain ⟨aa, haa⟩ : ∃ s : Int, s = (a.natAbs : Int) := ⟨_, rfl⟩
    have HAA := Lib.hid haa
    have haa0 : 0 ≤ aa := by omega
    clear haa
    go_upto_if 43 with fail
    go_cut [] (fun wx => ∃ (ob : Bool) (ou : Option Addr) (ok oc : Nat) (ou2 : Option Addr) (ok2 oc2 : Nat), Hid (MQ w [(go, #[.bool ob, .slice ou ok oc, .slice ou2 ok2 oc2], 43), (w1.heap.size, #[.int .i64 x0, .int .i64 x1], 23), (w.heap.size + 1, #[.int .i64 n2, .int .i64 d2], 23), (w.heap.size, #[.int .i64 n1, .int .i64 d1], 23)] [(.agg #[.bool ob, .slice ou ok oc, .slice ou2 ok2 oc2], qof aa b)] wx))
    case first =>
      by_cases hn : sa < 0
      · have HNG : Hid (aa = -a) := Lib.hid (by
          have h1 := HSA.out; have h2 := HAA.out
          rcases cmpI_cases a 0 with ⟨h3, _⟩ | ⟨_, h4⟩ | ⟨_, h4⟩ <;> omega)
        go_wp2_with fail
        refine (calls_q (neg_n _ a b aa HNG.out _ HO5.out.q0)).mono ?_
        rintro e w6 ⟨e0, u1, f1, g1, u2, f2, g2, rfl, hz, hb⟩
        have HO6 := Lib.hid (((HO5.out.step hb).push hz).sub (Q' := [(.agg #[.bool e0, .slice u1 f1 g1, .slice u2 f2 g2], qof aa b)]) (by simp))
        clear hb hz ko0 ko1 ko2 kg0 kg1 kb0 kb1 ka0 ka1 hgo ko3 ko4 ko5
        obtain ⟨ko0, ko1, ko2, ko3, ko4, ko5, hgo⟩ := HO6.out.m.c3
        go_wp2_with fail
        go_meet
        exact ⟨e0, u1, f1, g1, u2, f2, g2, Lib.hid (HO6.out.put3 _ _ _)⟩
      · have HNG : Hid (aa = a) := Lib.hid (by
          have h1 := HSA.out; have h2 := HAA.out
          rcases cmpI_cases a 0 with ⟨h3, _⟩ | ⟨_, h4⟩ | ⟨_, h4⟩ <;> omega)
        go_wp2_with fail
        go_meet
        exact ⟨_, _, _, _, _, _, _, Lib.hid (by rw [HNG.out]; exact HO5.out)⟩
    case rest =>
    clear HO5 HO ko0 ko1 ko2 kg0 kg1 kb0 kb1 ka0 ka1 hgo ko3 ko4 ko5 HSA
    obtain ⟨ob, ou, ok, oc, ou2, ok2, oc2, HO⟩ := hcut
    obtain ⟨kq, hkq⟩ : ∃ q : Rat, qof x0 x1 / qof n2 d2 = q := ⟨_, rfl⟩
    have HKQ := Lib.hid hkq
    have HOV : Hid (∀ x y w, IsQ w x (qof x0 x1) → IsQ w y (qof n2 d2) → Calls Try.prog 42 #[x, y] w fun e w' => ∃ z, e = .returned z ∧ IsQ w' z kq ∧ Below w.heap.size w w') := Lib.hid (fun x y w h g => by
      have l1 := (LenQ.vf HVF.out.2.2.1).mono (show 1 ≤ 10000000 by decide)
      have l2 := (LenQ.vf HVF.out.2.1).mono (show 1 ≤ 10000000 by decide)
      rw [← HKQ.out]
      exact over_any x y _ _ (HVF.out.2.1.ne (by have := HVF.out.2.2.2; omega)) w h g (by have := l1.n; omega) (by have := l1.d; omega) (by have := l2.n; omega) (by have := l2.d; omega))
    have HWH : Hid (∀ x w, IsQ w x kq → Calls Try.prog 41 #[x] w fun e w' => e = .returned (.tuple #[.int .i64 k, .bool true]) ∧ Below w.heap.size w w') := Lib.hid (fun x w h => by
      rw [← HKQ.out, HK.out.2.2] at h
      exact whole_big x k (by have := HK.out.1; omega) (by have := HK.out.2.1; omega) w h)
    clear hkq
    have HC : Hid (∀ w', MQ w [(go, #[.bool ob, .slice ou ok oc, .slice ou2 ok2 oc2], 43), (w1.heap.size, #[.int .i64 x0, .int .i64 x1], 23), (w.heap.size + 1, #[.int .i64 n2, .int .i64 d2], 23), (w.heap.size, #[.int .i64 n1, .int .i64 d1], 23)] [(.agg #[.bool ob, .slice ou ok oc, .slice ou2 ok2 oc2], qof aa b)] w' → _) := Lib.hid (fun w' h => cells4 h)
    go_upto_region 9 with fail
    go_cut [10, 11] (fun s10 s11 wx => s11 = .bool true ∧ Hid (MQ w [(go, #[.bool ob, .slice ou ok oc, .slice ou2 ok2 oc2], 43), (w1.heap.size, #[.int .i64 x0, .int .i64 x1], 23), (w.heap.size + 1, #[.int .i64 n2, .int .i64 d2], 23), (w.heap.size, #[.int .i64 n1, .int .i64 d1], 23)] [(.agg #[.bool ob, .slice ou ok oc, .slice ou2 ok2 oc2], qof aa b)] wx))
    case first =>
      have hO := HO.out
      go_wp2_with fail
      go_region_held3 (fun w' => MQ w [(go, #[.bool ob, .slice ou ok oc, .slice ou2 ok2 oc2], 43), (w1.heap.size, #[.int .i64 x0, .int .i64 x1], 23), (w.heap.size + 1, #[.int .i64 n2, .int .i64 d2], 23), (w.heap.size, #[.int .i64 n1, .int .i64 d1], 23)] [(.agg #[.bool ob, .slice ou ok oc, .slice ou2 ok2 oc2], qof aa b)] w' ∧ w'.cell? ⟨go, 0, none⟩ = some (.bool ob) ∧ w'.cell? ⟨go, 1, none⟩ = some (.slice ou ok oc) ∧ w'.cell? ⟨go, 2, none⟩ = some (.slice ou2 ok2 oc2) ∧ w'.cell? ⟨w1.heap.size, 0, none⟩ = some (.int .i64 x0) ∧ w'.cell? ⟨w1.heap.size, 1, none⟩ = some (.int .i64 x1) ∧ w'.cell? ⟨w.heap.size + 1, 0, none⟩ = some (.int .i64 n2) ∧ w'.cell? ⟨w.heap.size + 1, 1, none⟩ = some (.int .i64 d2) ∧ w'.cell? ⟨w.heap.size, 0, none⟩ = some (.int .i64 n1) ∧ w'.cell? ⟨w.heap.size, 1, none⟩ = some (.int .i64 d1))
        (first | exact HC.out _ hO | exact HC.out _ hO.drew | (go_split_ands; exact HC.out _ (MQ.step (by assumption) (by assumption))))
        (first
          | (go_at_call 38; go_split_ands; with_reducible (refine (of_q x0 x1 HR.out.2.1.1 HR.out.2.1.2.1 HR.out.2.1.2.2.1 HR.out.2.1.2.2.2.1 HR.out.2.1.2.2.2.2 _).mono ?_); rintro e v1 ⟨z1, rfl, hz1, hb1⟩)
          | (go_at_call 38; go_split_ands; with_reducible (refine (of_q n2 d2 HR.out.2.2.1 HR.out.2.2.2.1 HR.out.2.2.2.2.1 HR.out.2.2.2.2.2.1 HR.out.2.2.2.2.2.2 _).mono ?_); rintro e v2 ⟨z2, rfl, hz2, hb2⟩)
          | (go_at_call 42; go_split_ands; with_reducible (refine (HOV.out _ _ _ (hz1.below hb2) hz2).mono ?_); rintro e v3 ⟨z3, rfl, hz3, hb3⟩)
          | (go_at_call 41; go_split_ands; with_reducible (refine (HWH.out _ _ hz3).mono ?_); rintro e v4 ⟨rfl, hb4⟩))
      go_wp2_with fail
      go_meet
      exact ⟨rfl, Lib.hid (((((HO.out.drew.step hb1).step hb2).step hb3).step hb4))⟩
    case rest =>
    obtain ⟨rfl, HP⟩ := hcut
    clear HO HOV HWH
    obtain ⟨o2, ho2⟩ : ∃ o : Int, ordQ (qof (2 * aa) b) (qof n2 d2) = o := ⟨_, rfl⟩
    have HO2 := Lib.hid ho2
    clear ho2
    have HB := Lib.hid (And.intro HF.out.2.2.2.1 (And.intro HF.out.2.2.2.2.1 (And.intro HF.out.2.1 HF.out.2.2.1)))
    have HTW : Hid (∀ x w, IsQ w x (qof aa b) → Calls Try.prog 44 #[x, x] w fun e w' => ∃ z, e = .returned z ∧ IsQ w' z (qof (2 * aa) b) ∧ Below w.heap.size w w') := Lib.hid (fun x w h => by
      have hr := HB.out; have h2 := HAA.out
      have l := LenQ.qof (a := aa) (b := b) (by omega) (by omega) (by omega) (by omega)
      rw [← qof_two]
      exact plus_q_any x x _ _ w h h (by have := l.n; omega) (by have := l.d; omega) (by have := l.n; omega) (by have := l.d; omega))
    have HOR : Hid (∀ x y w, IsQ w x (qof (2 * aa) b) → IsQ w y (qof n2 d2) → Calls Try.prog 43 #[x, y] w fun e w' => e = .returned (.int .i64 o2) ∧ Below w.heap.size w w') := Lib.hid (fun x y w h g => by
      have hr := HB.out; have h2 := HAA.out
      rw [← HO2.out]
      exact order_any x y _ _ w h g ((LenQ.qof (a := 2 * aa) (b := b) (by omega) (by omega) (by omega) (by omega)).mono (by decide)) ((LenQ.vf HVF.out.2.1).mono (by decide)))
    have HOA : Hid (∀ x y w, IsQ w x (qof aa b) → IsQ w y (qof n2 d2) → Calls Try.prog 43 #[x, y] w fun e w' => e = .returned (.int .i64 (-1)) ∧ Below w.heap.size w w') := Lib.hid (fun x y w h g => by
      have hr := HB.out; have h2 := HAA.out
      have h3 := HF.out.2.2.2.2.2.1
      rw [← h2] at h3
      rw [← h3]
      exact order_any x y _ _ w h g ((LenQ.qof (a := aa) (b := b) (by omega) (by omega) (by omega) (by omega)).mono (by decide)) ((LenQ.vf HVF.out.2.1).mono (by decide)))
    have HHALF : Hid (3 ≤ m → o2 ≤ 0) := Lib.hid (fun h => by
      have h3 := HF.out.2.2.2.2.2.2 h
      rw [← HAA.out] at h3
      rw [HO2.out] at h3
      exact h3)
    clear haa0 hf4 HF HK
    go_upto_region 10 with fail
    go_cut [12] (fun s12 wx => s12 = .int .i64 o2 ∧ Hid (MQ w [(go, #[.bool ob, .slice ou ok oc, .slice ou2 ok2 oc2], 43), (w1.heap.size, #[.int .i64 x0, .int .i64 x1], 23), (w.heap.size + 1, #[.int .i64 n2, .int .i64 d2], 23), (w.heap.size, #[.int .i64 n1, .int .i64 d1], 23)] [(.agg #[.bool ob, .slice ou ok oc, .slice ou2 ok2 oc2], qof aa b)] wx))
    case first =>
      have hO := HP.out
      go_wp2_with fail
      go_region_held3 (fun w' => MQ w [(go, #[.bool ob, .slice ou ok oc, .slice ou2 ok2 oc2], 43), (w1.heap.size, #[.int .i64 x0, .int .i64 x1], 23), (w.heap.size + 1, #[.int .i64 n2, .int .i64 d2], 23), (w.heap.size, #[.int .i64 n1, .int .i64 d1], 23)] [(.agg #[.bool ob, .slice ou ok oc, .slice ou2 ok2 oc2], qof aa b)] w' ∧ w'.cell? ⟨go, 0, none⟩ = some (.bool ob) ∧ w'.cell? ⟨go, 1, none⟩ = some (.slice ou ok oc) ∧ w'.cell? ⟨go, 2, none⟩ = some (.slice ou2 ok2 oc2) ∧ w'.cell? ⟨w1.heap.size, 0, none⟩ = some (.int .i64 x0) ∧ w'.cell? ⟨w1.heap.size, 1, none⟩ = some (.int .i64 x1) ∧ w'.cell? ⟨w.heap.size + 1, 0, none⟩ = some (.int .i64 n2) ∧ w'.cell? ⟨w.heap.size + 1, 1, none⟩ = some (.int .i64 d2) ∧ w'.cell? ⟨w.heap.size, 0, none⟩ = some (.int .i64 n1) ∧ w'.cell? ⟨w.heap.size, 1, none⟩ = some (.int .i64 d1))
        (first | exact HC.out _ hO | exact HC.out _ hO.drew | (go_split_ands; exact HC.out _ (MQ.step (by assumption) (by assumption))))
        (first
          | (go_at_call 44; go_split_ands; with_reducible (refine (HTW.out _ _ (MQ.q0 (by assumption))).mono ?_); rintro e v1 ⟨z1, rfl, hz1, hb1⟩)
          | (go_at_call 38; go_split_ands; with_reducible (refine (of_q n2 d2 HR.out.2.2.1 HR.out.2.2.2.1 HR.out.2.2.2.2.1 HR.out.2.2.2.2.2.1 HR.out.2.2.2.2.2.2 _).mono ?_); rintro e v2 ⟨z2, rfl, hz2, hb2⟩)
          | (go_at_call 43; go_split_ands; with_reducible (refine (HOR.out _ _ _ (hz1.below hb2) hz2).mono ?_); rintro e v3 ⟨rfl, hb3⟩))
      go_wp2_with fail
      go_meet
      exact ⟨rfl, Lib.hid ((((HP.out.drew.step hb1).step hb2).step hb3))⟩
    case rest =>
    obtain ⟨rfl, HO⟩ := hcut
    clear HP HTW HOR HO2
    have hO := HO.out
    by_cases hm : m < 3
    · have hm04 := HM04.out
      clear hm04
      obtain ⟨-, ko0, ko1, ko2, kg0, kg1, kb0, kb1, ka0, ka1⟩ := cells4 hO
      clear hO
      go_wp2_with fail
      first
      | go_region_with (first
          | (go_at_call 38; (with_reducible refine (of_q n2 d2 HR.out.2.2.1 HR.out.2.2.2.1 HR.out.2.2.2.2.1 HR.out.2.2.2.2.2.1 HR.out.2.2.2.2.2.2 _).mono ?_); rintro e v2 ⟨z2, rfl, hz2, hb2⟩; have hX2 := HO.out.drew.step hb2; obtain ⟨-, jo0, jo1, jo2, -, -, -, -, -, -⟩ := cells4 hX2)
          | (go_at_call 43; (with_reducible refine (HOA.out _ _ _ hX2.q0 hz2).mono ?_); rintro e v3 ⟨rfl, hb3⟩; have hX3 := hX2.step hb3)
          | (go_at_call 15; (with_reducible refine (awake_any _).mono ?_); rintro e v4 ⟨rfl, hb4⟩; have hX4 := hX3.step hb4))
      | fail
      all_goals go_wp2
      all_goals go_ret
      all_goals exact ⟨rfl, hX4.m.b⟩
    · have hh : o2 ≤ 0 := HHALF.out (by omega)
      have hmd : decide (m < 3) = false := by simpa using hm
      have hhd : decide (o2 ≤ 0) = true := by simpa using hh
      go_wp2_with fail
      go_region_held3 (fun w' => MQ w [(go, #[.bool ob, .slice ou ok oc, .slice ou2 ok2 oc2], 43), (w1.heap.size, #[.int .i64 x0, .int .i64 x1], 23), (w.heap.size + 1, #[.int .i64 n2, .int .i64 d2], 23), (w.heap.size, #[.int .i64 n1, .int .i64 d1], 23)] [(.agg #[.bool ob, .slice ou ok oc, .slice ou2 ok2 oc2], qof aa b)] w' ∧ w'.cell? ⟨go, 0, none⟩ = some (.bool ob) ∧ w'.cell? ⟨go, 1, none⟩ = some (.slice ou ok oc) ∧ w'.cell? ⟨go, 2, none⟩ = some (.slice ou2 ok2 oc2) ∧ w'.cell? ⟨w1.heap.size, 0, none⟩ = some (.int .i64 x0) ∧ w'.cell? ⟨w1.heap.size, 1, none⟩ = some (.int .i64 x1) ∧ w'.cell? ⟨w.heap.size + 1, 0, none⟩ = some (.int .i64 n2) ∧ w'.cell? ⟨w.heap.size + 1, 1, none⟩ = some (.int .i64 d2) ∧ w'.cell? ⟨w.heap.size, 0, none⟩ = some (.int .i64 n1) ∧ w'.cell? ⟨w.heap.size, 1, none⟩ = some (.int .i64 d1))
        (first | exact HC.out _ hO | exact HC.out _ hO.drew | (go_split_ands; exact HC.out _ (MQ.step (by assumption) (by assumption))))
        (first
          | (go_at_call 38; go_split_ands; with_reducible (refine (of_q n2 d2 HR.out.2.2.1 HR.out.2.2.2.1 HR.out.2.2.2.2.1 HR.out.2.2.2.2.2.1 HR.out.2.2.2.2.2.2 _).mono ?_); rintro e v2 ⟨z2, rfl, hz2, hb2⟩)
          | (go_at_call 43; go_split_ands; with_reducible (refine (HOA.out _ _ _ (MQ.q0 (by assumption)) hz2).mono ?_); rintro e v3 ⟨rfl, hb3⟩)
          | (go_at_call 15; go_split_ands; with_reducible (refine (awake_any _).mono ?_); rintro e v4 ⟨rfl, hb4⟩))
      go_wp2
      go_ret
      exact ⟨rfl, (((HO.out.drew.step hb2).step hb3).step hb4).m.b⟩
  · have hx' : (x2 != 0) = true := by simpa using hx
    clear hx H1
    go_wp2_with fail
    refine (awake_any _).mono ?_
    rintro e w2 ⟨rfl, hb⟩
    have HM2 := Lib.hid (HM1.out.step hb)
    clear hb
    go_wp2
    go_ret
    exact ⟨rfl, HM2.out.m.b⟩

theorem own : ownKnob Try.prog.godebug = none := by kernel_rfl
theorem cellsFrac : Try.prog.cellsOf 23 = 2 := by kernel_rfl

set_option maxRecDepth 100000 in
theorem lifted (os : Os) (started : os.Started) (H : Type) (enc : TypeId × Value → H) :
    ReturnsInHanded {} Try.checked os 8 .any (Rows.fracCloseSpec.pre6 enc Try.prog Try.f8 Rows.fracCloseRow.domain false) (Rows.fracCloseSpec.post enc Try.prog Try.f8 false true false false) := by
  refine returnsInHanded_of_change (C := Try.checked) own started (by kernel_rfl) Try.func8
    (ChangeSpec.witness6 (enc := enc) (C := Try.checked) false ⟨#[], #[.agg #[.int .i64 0, .int .i64 0], .agg #[.int .i64 0, .int .i64 0], .int .i64 0], []⟩ 8 (by kernel_rfl) (by kernel_rfl) (by kernel_rfl) (by kernel_rfl)) ?_
  intro W base args ds gs before hval0 hW hcnd _
  have hval : ∀ (j : Nat) t v, Try.f8.params[j]? = some t → args[j]? = some v → Value.okWide Try.prog W .any base t v := hval0
  have hW' := hW
  obtain ⟨p, q, hA0, hV, rfl, hfz, hnd⟩ := hW
  have hA : DataW.TrodAll enc Try.prog W 0 (fun _ => true) true Try.f8.params.toList args.toList ds p := hA0
  rw [Try.params8] at hA hval
  obtain ⟨v0, vs0, d0, ds0, p0, q0, hargs, rfl, rfl, h0, r0⟩ := trodAll_cons hA
  obtain ⟨v1, vs1, d1, ds1, p1, q1, rfl, rfl, rfl, h1, r1⟩ := trodAll_cons r0
  obtain ⟨v2, vs2, d2, ds2, p2, q2, rfl, rfl, rfl, h2, r2⟩ := trodAll_cons r1
  obtain ⟨rfl, rfl, rfl⟩ := trodAll_nil r2
  obtain rfl : args = #[v0, v1, v2] := by cases args; simp_all
  obtain ⟨rfl, rfl⟩ := trodVars_none hV
  obtain ⟨c0a, c0b, y0a, y0b, m0, rfl, rfl, rfl, hy0a, hy0b⟩ := open_agg2 Try.underlying23 (by kernel_rfl) cellsFrac (hval 0 23 v0 rfl rfl) h0
  obtain ⟨n0, e0a, rfl, wn0⟩ := DataW.trod_int Try.underlying3 hy0a
  obtain ⟨k0, e0b, rfl, wk0⟩ := DataW.trod_int Try.underlying3 hy0b
  simp at e0a e0b
  subst e0a e0b
  obtain ⟨c1a, c1b, y1a, y1b, m1, rfl, rfl, rfl, hy1a, hy1b⟩ := open_agg2 Try.underlying23 (by kernel_rfl) cellsFrac (hval 1 23 v1 rfl rfl) h1
  obtain ⟨n1, e1a, rfl, wn1⟩ := DataW.trod_int Try.underlying3 hy1a
  obtain ⟨k1, e1b, rfl, wk1⟩ := DataW.trod_int Try.underlying3 hy1b
  simp at e1a e1b
  subst e1a e1b
  obtain ⟨n2, rfl, rfl, rfl, wn2⟩ := open_int Try.underlying3 (hval 2 3 v2 rfl rfl) h2
  clear hA0 hval0
  simp only [List.append_nil] at hW'
  refine (walk n0 k0 wn0 wk0 n1 k1 wn1 wk1 n2 wn2 W ).mono fun e W' ⟨he, hb⟩ => ?_
  subst he
  refine ⟨_, rfl, _, _, _, [], [], [], hW', ?_, ?_, rfl, hb.frame _, fun h => by cases h⟩
  · exact trodAll_cons_mk (shut_bool Try.underlying4 _) trodAll_mk0
  · exact (trodAll_cons_mk (shut_agg2 (y0 := (.lit (.int .i64 n0), [])) (y1 := (.lit (.int .i64 k0), [])) Try.underlying23 (by kernel_rfl) cellsFrac ⟨1, by simp [DataW.trod, Try.underlying3, wn0]⟩ ⟨1, by simp [DataW.trod, Try.underlying3, wk0]⟩) (trodAll_cons_mk (shut_agg2 (y0 := (.lit (.int .i64 n1), [])) (y1 := (.lit (.int .i64 k1), [])) Try.underlying23 (by kernel_rfl) cellsFrac ⟨1, by simp [DataW.trod, Try.underlying3, wn1]⟩ ⟨1, by simp [DataW.trod, Try.underlying3, wk1]⟩) (trodAll_cons_mk (shut_int Try.underlying3 wn2) trodAll_mk0)))

theorem over : Rows.fracCloseRow.holds Try.pinned (OpenSpec.ofChange Rows.fracCloseSpec) :=
  OpenClaim.holds_of_wide 8 Try.f8 rfl rfl rfl rfl rfl rfl rfl ⟨rfl, rfl, rfl, rfl, rfl⟩ rfl rfl rfl rfl rfl (by kernel_rfl) Try.func8 (by kernel_rfl)
    (of_decide_eq_true (by kernel_rfl)) (by unfold Func.isWrapper; first | (rw [if_pos (by decide +kernel)]; kernel_rfl) | (rw [if_neg (by decide +kernel)]; exact ⟨rfl, rfl⟩))
    (fun os started H enc _ => lifted os started H enc)

/-- THE STATEMENT. -/
theorem proved : Rows.FracCloseSaid := over
#print axioms proved

end Go.Proofs.Ytjnfgjaiahnfgaa.lawFracClose

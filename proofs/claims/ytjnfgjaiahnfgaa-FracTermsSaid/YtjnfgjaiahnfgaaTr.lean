/- The reference's Terms. -/
import Derived.Deep.RegionHeld3
import Derived.Test.YtjnfgjaiahnfgaaTm
import Derived.Test.YtjnfgjaiahnfgaaQn
import Derived.Test.YtjnfgjaiahnfgaaRndF
namespace Go.Proofs.Ytjnfgjaiahnfgaa
open Go.RowKit
set_option linter.unusedSimpArgs false
set_option linter.unusedVariables false

theorem grown_below {w w' : World} (h : w.grownBy w' none) : Below w.heap.size w w' := ⟨h.os, h.tape, h.output, h.size, fun i hi => h.block i hi (by simp)⟩

theorem IsDig.of_grown {w w' : World} {v : Value} {l : List Nat} (h : IsDig w v l) {g : Nat} (hg : ∀ n, w.cell? ⟨g, 0, none⟩ ≠ some (.int .u32 n)) (hb : w.grownBy w' (some g)) : IsDig w' v l := by
  obtain ⟨a, cap, hv, h1, h2, h3, h4⟩ := h
  refine ⟨a, cap, hv, h1, h2, h3, fun b hbb => ?_⟩
  obtain ⟨e1, e2, e3, e4⟩ := h4 b hbb
  refine ⟨e1, e2, Nat.lt_of_lt_of_le e3 hb.size, fun j hj => ?_⟩
  have hne : b.block ≠ g := by
    intro e
    have h0 : 0 < l.length := by omega
    have := e4 0 h0
    rw [e] at this
    exact hg _ this
  have hk := hb.block b.block e3 (fun e => hne (Option.some.inj e))
  have := e4 j hj
  simp only [World.cell?] at this ⊢
  rw [hk]
  exact this

theorem IsQ.grown {w w' : World} {x : Value} {q : Rat} (h : IsQ w x q) {base : Nat} {v : Value} {zs : List Int} (ho : w.ownsRow base 3 1 v zs.length (ints zs)) (hz : zs = [] → v = .slice none 0 0) (hg : w.grownBy w' v.ownBlock) : IsQ w' x q := by
  cases zs with
  | nil =>
    rw [hz rfl] at hg
    exact h.below (grown_below hg)
  | cons z t =>
    cases hk : v.ownBlock with
    | none => rw [hk] at hg; exact h.below (grown_below hg)
    | some g =>
      rw [hk] at hg
      have hc := ho.cells hk 0 (.int .i64 z) (by simp [ints])
      have hg0 : ∀ n, w.cell? ⟨g, 0, none⟩ ≠ some (.int .u32 n) := by
        intro n hn
        have e : ((⟨g, 0, none⟩ : Addr).add 0) = ⟨g, 0, none⟩ := rfl
        rw [e, hn] at hc
        simp at hc
      obtain ⟨a1, a2, n1, n2, c1, c2, rfl, hx1, hx2⟩ := h
      exact ⟨a1, a2, n1, n2, c1, c2, rfl, hx1.of_grown hg0 hg, hx2.of_grown hg0 hg⟩

theorem MQ.grown {w0 w w' : World} {L : List (Nat × Array Value × TypeId)} {Q : List (Value × Rat)} (h : MQ w0 L Q w) {base : Nat} {v : Value} {zs : List Int} (ho : w.ownsRow base 3 1 v zs.length (ints zs)) (hz : zs = [] → v = .slice none 0 0) (hg : w.grownBy w' v.ownBlock) (hne : ∀ x ∈ L, v.ownBlock ≠ some x.1) (hr : ∀ k, v.ownBlock = some k → w0.heap.size ≤ k) : MQ w0 L Q w' :=
  ⟨h.m.grown hg hne hr, fun x hx => (h.q x hx).grown ho hz hg⟩

theorem whole_n (x : Value) (q : Int) (h1 : -1000000000 ≤ q) (h2 : q ≤ 1000000000) (w : World) (h : IsQ w x (qof q 1)) :
    Calls Try.prog 41 #[x] w fun e w' => e = .returned (.tuple #[.int .i64 q, .bool true]) ∧ Below w.heap.size w w' := by
  have e1 : qof q 1 = (q : Rat) := by unfold qof; (first | (simp; done) | grind)
  rw [e1] at h
  exact whole_int x q h1 h2 w h

set_option maxRecDepth 100000 in
set_option maxHeartbeats 6400000 in
theorem terms_r (n d : Int) (w : World) :
    Calls Try.prog 46 #[.agg #[.int .i64 n, .int .i64 d]] w fun e w' => ∃ a cap l z, e = .returned (.tuple #[.slice a l.length cap, .int .i64 z]) ∧ Hid (termS n d = (l, z)) ∧ Hid (IntS w' a l ∧ l.length ≤ cap ∧ (cap : Int) ≤ 9223372036854775807) ∧ Below w.heap.size w w' := by
  obtain ⟨i0, hi, hz0, hz1, hz2⟩ := info_parts Try.infoInt
  have HI := Lib.hid (And.intro hi (And.intro hz0 (And.intro hz1 hz2)))
  clear hi hz0 hz1 hz2
  have HM0 := Lib.hid ((⟨Mem.nil w, by simp⟩ : MQ w [] [] w).alloc #[.int .i64 n, .int .i64 d] 23)
  by_cases hv : VF n d
  · have HV : Hid (vfB n d = true) := Lib.hid ((vfB_iff _ _).2 hv)
    have HS := Lib.hid (termS_yes hv)
    have v1 := hv.n1; have v2 := hv.n2; have v3 := hv.d1; have v4 := hv.d2
    obtain ⟨L, hL⟩ : ∃ L, L = cf (d.toNat + 1) n d := ⟨_, rfl⟩
    rw [← hL] at HS
    have HLL := Lib.hid hL
    have HLEN : Hid (L.length ≤ 60) := Lib.hid (by rw [hL]; exact cf_short v4 _)
    clear hv hL
    go_enter Try.func46, Try.ntmps46
    go_wp2_with fail
    refine (valid_r n d _).mono ?_
    rintro e w1 ⟨rfl, hb⟩
    rw [HV.out]
    have hM1 := HM0.out.step hb
    obtain ⟨c0, c1, -, -, c4⟩ := hM1.m.c2
    have HM1 := Lib.hid hM1
    clear hb hM1
    go_wp2_with fail
    refine (of_q n d (by omega) (by omega) (by omega) (by omega) (by omega) _).mono ?_
    rintro e w2 ⟨za, rfl, hqa, hb⟩
    obtain ⟨ab, a1, a2, a3, a4, a5, a6, rfl, hqa⟩ := hqa.agg
    have hM2 := ((HM1.out.step hb).push hqa).alloc #[.bool ab, .slice a1 a2 a3, .slice a4 a5 a6] 43
    have HM2 := Lib.hid hM2
    have hs2 : w.heap.size < w2.heap.size := (HM1.out.step hb).m.head_lt
    clear hb c0 c1 c4 hM2 hqa
    go_wp2
    go_loopg [4] (d.toNat + 1) (fun gk v wr => ∃ (N D : Int) (xs : List Int) (ab : Bool) (a1 : Option Addr) (a2 a3 : Nat) (a4 : Option Addr) (a5 a6 : Nat), 0 < D ∧ D ≤ (gk : Int) ∧ -1000000000 ≤ N ∧ N ≤ 1000000000 ∧ D ≤ 1000000000 ∧ Hid (xs ++ cf gk N D = L) ∧ Hid (xs = [] → v = .slice none 0 0) ∧ Hid (wr.ownsRow (w.heap.size + 1) 3 1 v xs.length (ints xs)) ∧ Hid (MQ w [(w2.heap.size, #[.bool ab, .slice a1 a2 a3, .slice a4 a5 a6], 43), (w.heap.size, #[.int .i64 n, .int .i64 d], 23)] [(.agg #[.bool ab, .slice a1 a2 a3, .slice a4 a5 a6], qof N D)] wr))
    case atStart => exact ⟨n, d, [], ab, a1, a2, a3, a4, a5, a6, by omega, by omega, v1, v2, v4, Lib.hid HLL.out.symm, Lib.hid (fun _ => rfl), Lib.hid (World.ownsRow_nil _ _ _ _), HM2⟩
    case round =>
      obtain ⟨N, D, xs, ab, a1, a2, a3, a4, a5, a6, hDp, hDk, hN1, hN2, hD9, HX, HNIL, HOWN, HR⟩ := hrel
      obtain ⟨gk', rfl⟩ : ∃ m, gk = m + 1 := ⟨gk - 1, by omega⟩
      have he := Int.emod_add_mul_ediv N D
      have he1 := Int.emod_nonneg N (show D ≠ 0 by omega)
      have he2 := Int.emod_lt_of_pos N hDp
      obtain ⟨q, hq⟩ : ∃ q, q = N / D := ⟨_, rfl⟩
      obtain ⟨R, hR⟩ : ∃ R, R = N % D := ⟨_, rfl⟩
      have hqb : -1000000000 ≤ q ∧ q ≤ 1000000000 := by
        rw [hq]
        exact ⟨Int.le_ediv_of_mul_le hDp (by
          have := Int.mul_le_mul_of_nonneg_left (show 1 ≤ D by omega) (show (0 : Int) ≤ 1000000000 by decide)
          omega), by
          rcases Int.lt_or_le 0 N with h | h
          · exact Int.le_trans (Int.ediv_le_self D (by omega)) hN2
          · exact Int.le_trans (Int.ediv_le_ediv hDp h) (by simp)⟩
      rw [← hq, ← hR] at he
      rw [← hR] at he1 he2
      have hqD : q * D = N - R := by rw [Int.mul_comm]; omega
      have HX2 : Hid ((xs ++ [q]) ++ cf gk' D R = L) := Lib.hid (by
        have := HX.out
        rw [cf_pos hDp, ← hq, ← hR] at this
        rw [List.append_assoc]; exact this)
      have HQ : Hid (N / D = q) := Lib.hid hq.symm
      have HRE : Hid (R = N - q * D) := Lib.hid (by omega)
      have hxl : xs.length + 1 ≤ 60 := by
        have h1 := HLEN.out
        rw [← HX2.out] at h1
        simp only [List.length_append, List.length_cons, List.length_nil] at h1
        omega
      clear he hq hR hqD
      obtain ⟨c0, c1, c2, -, -, -, c6⟩ := HR.out.m.c3
      go_wp2_with fail
      refine (calls_q (down_n _ N D q hDp HQ.out (by omega) (by omega) _ HR.out.q0)).mono ?_
      rintro e w3 ⟨lb, l1, l2, l3, l4, l5, l6, rfl, hql, hb⟩
      have hR3 := (HR.out.step hb).push hql
      have hs3 := hR3.m.head_lt
      have HR3 := Lib.hid (hR3.alloc #[.bool lb, .slice l1 l2 l3, .slice l4 l5 l6] 43)
      have HOWN3 := Lib.hid ((owns_step HOWN.out hb).alloc (.cells #[.bool lb, .slice l1 l2 l3, .slice l4 l5 l6] 43))
      clear hb hql hR3 c0 c1 c2 c6
      go_wp2_with fail
      refine (whole_n _ q hqb.1 hqb.2 _ HR3.out.q0).mono ?_
      rintro e w4 ⟨rfl, hb⟩
      have hR4 := HR3.out.step hb
      have hown := owns_step HOWN3.out hb
      have HR4 := Lib.hid hR4
      have hge4 : w.heap.size + 1 ≤ w4.heap.size := by have := hR4.m.head_lt; omega
      clear hb hR4
      go_wp2_with (at_builtin; refine wpList_append_own _ rfl _ _ 51 rfl (w.heap.size + 1) 3 i0 (.int .i64 0) 1 8 Try.underlying51 HI.out.1 HI.out.2.1 HI.out.2.2.1 HI.out.2.2.2 rfl (by decide) _ _ _ rfl (hown.alloc _) ⟨w4.heap.size, 0, none⟩ 1 1 [.int .i64 q] rfl rfl (cell_one_new _ _ _) (by intro u hu; simp at hu; subst hu; rfl) (by unfold maxLen; omega) (by omega) (by simp; omega) ?_)
      intro v' w5 hown' hgrow hnil
      have hR5 := (HR4.out.skip (.cells #[.int .i64 q] 3)).grown (hown.alloc _) HNIL.out hgrow (by
        intro x hx
        simp only [List.mem_cons, List.not_mem_nil, or_false] at hx
        rcases hx with rfl | rfl | rfl
        · exact own_ne (hown.alloc (.cells #[.int .i64 q] 3)) ((HR4.out.skip _).m.h _ (by simp)).2 (show (43 : Nat) ≠ 3 by decide)
        · exact own_ne (hown.alloc (.cells #[.int .i64 q] 3)) ((HR4.out.skip _).m.h _ (by simp)).2 (show (43 : Nat) ≠ 3 by decide)
        · exact own_ne (hown.alloc (.cells #[.int .i64 q] 3)) ((HR4.out.skip _).m.h _ (by simp)).2 (show (23 : Nat) ≠ 3 by decide)) (fun k hk => by have := ((hown.alloc (.cells #[.int .i64 q] 3)).lt k hk).1; omega)
      have HOWN5 : Hid (w5.ownsRow (w.heap.size + 1) 3 1 v' (xs ++ [q]).length (ints (xs ++ [q]))) := Lib.hid (by
        rw [ints_append, List.length_append]; exact hown')
      have HR5 := Lib.hid hR5
      clear hown hown' hgrow hnil
      obtain ⟨l0', l1', l2', -, -, -, l6'⟩ := hR5.m.c3
      obtain ⟨c0, c1, c2, -, -, -, c6⟩ := hR5.m.tail.c3
      clear hR5
      go_wp2_with fail
      refine (calls_q (less_n _ _ N D q R hDp HRE.out (by omega) (by omega) (by omega) _ HR5.out.q1 HR5.out.q0)).mono ?_
      rintro e w6 ⟨rb, r1, r2, r3, r4, r5, r6, rfl, hqr, hb⟩
      have hR6 := (HR5.out.step hb).push hqr
      have HR6 := Lib.hid (hR6.alloc #[.bool rb, .slice r1 r2 r3, .slice r4 r5 r6] 43)
      have HOWN6 := Lib.hid ((owns_step HOWN5.out hb).alloc (.cells #[.bool rb, .slice r1 r2 r3, .slice r4 r5 r6] 43))
      have hs6 := hR6.m.head_lt
      have hs6' := hR6.m.tail.head_lt
      clear hb hqr hR6 l0' l1' l2' l6' c0 c1 c2 c6
      obtain ⟨s, hs⟩ : ∃ s, cmpI R 0 = s := ⟨_, rfl⟩
      have HSG := Lib.hid hs
      clear hs
      go_wp2_with fail
      refine (sign_n _ R D s hDp HSG.out _ HR6.out.q0).mono ?_
      rintro e w7 ⟨rfl, hb⟩
      have hR7 := HR6.out.step hb
      have HR7 := Lib.hid hR7
      have HOWN7 := Lib.hid (owns_step HOWN6.out hb)
      have hs7 := hR7.m.head_lt
      clear hb hR7
      by_cases hz : s = 0
      · subst hz
        have HXL : Hid (xs ++ [q] = L) := Lib.hid (by
          have h0 : R ≤ 0 := by
            have := HSG.out
            rcases cmpI_cases R 0 with ⟨h, _⟩ | ⟨_, h⟩ | ⟨h, _⟩ <;> omega
          have := HX2.out
          rw [cf_zero h0, List.append_nil] at this
          exact this)
        obtain ⟨a, cap, rfl, hcap, hcm, hints⟩ := IntS.of_owns HOWN7.out
        have HE := Lib.hid (And.intro hints (And.intro hcap hcm))
        clear hcap hcm hints HOWN7 HOWN6 HOWN5
        go_wp2
        go_ret2
        exact ⟨a, cap, xs ++ [q], 0, by rw [List.length_append]; rfl, Lib.hid (by rw [HS.out, HXL.out]), HE, HR7.out.m.b⟩
      · have hs0 : (s == 0) = false := by simpa using hz
        have hRp : 0 < R := by
          have := HSG.out
          rcases cmpI_cases R 0 with ⟨h, _⟩ | ⟨h, _⟩ | ⟨_, h⟩ <;> omega
        have HIV := Lib.hid (fun x y w h g => calls_q (inv_q x y R D hRp hDp (by omega) (by omega) w h g))
        have HQR := Lib.hid HR7.out.q0
        have HM7 : Hid (MQ w [(w6.heap.size, #[.bool rb, .slice r1 r2 r3, .slice r4 r5 r6], 43)] [] w7) := Lib.hid ((HR7.out.sub (by simp)).sl (.cons_cons _ (List.nil_sublist _)))
        have hM7 := HM7.out
        have HC : Hid (∀ w', MQ w [(w6.heap.size, #[.bool rb, .slice r1 r2 r3, .slice r4 r5 r6], 43)] [] w' → MQ w [(w6.heap.size, #[.bool rb, .slice r1 r2 r3, .slice r4 r5 r6], 43)] [] w' ∧ w'.cell? ⟨w6.heap.size, 0, none⟩ = some (.bool rb) ∧ w'.cell? ⟨w6.heap.size, 1, none⟩ = some (.slice r1 r2 r3) ∧ w'.cell? ⟨w6.heap.size, 2, none⟩ = some (.slice r4 r5 r6)) := Lib.hid (fun w' h => ⟨h, h.m.cell 0, h.m.cell 1, h.m.cell 2⟩)
        have HNE : Hid (∀ x ∈ ([(w6.heap.size, #[.bool rb, .slice r1 r2 r3, .slice r4 r5 r6], 43)] : List (Nat × Array Value × TypeId)), x.1 ≠ w2.heap.size) := Lib.hid (by
          intro x hx
          simp only [List.mem_cons, List.not_mem_nil, or_false] at hx
          rcases hx with rfl; simp only; omega)
        clear hz
        go_wp2_with fail
        go_region_held3 (fun w' => MQ w [(w6.heap.size, #[.bool rb, .slice r1 r2 r3, .slice r4 r5 r6], 43)] [] w' ∧ w'.cell? ⟨w6.heap.size, 0, none⟩ = some (.bool rb) ∧ w'.cell? ⟨w6.heap.size, 1, none⟩ = some (.slice r1 r2 r3) ∧ w'.cell? ⟨w6.heap.size, 2, none⟩ = some (.slice r4 r5 r6))
          (first | exact HC.out _ hM7 | exact HC.out _ hM7.drew | (go_split_ands; first | exact HC.out _ (MQ.step (by assumption) (by assumption)) | exact HC.out _ (MQ.far3 (by assumption) (by omega) HNE.out)))
          (first
            | (go_at_call 61; go_split_ands; with_reducible (refine (one_q _).mono ?_); rintro e x1 ⟨t0, t1, t2, t3, t4, t5, t6, rfl, hz1, hb1⟩)
            | (go_at_call 42; go_split_ands; with_reducible (refine (HIV.out _ _ _ hz1 (HQR.out.dr.below hb1)).mono ?_); rintro e x2 ⟨y0, y1, y2, y3, y4, y5, y6, rfl, hz2, hb2⟩; obtain ⟨q0, q1, q2, q3, q4, q5, q6⟩ := ((HR7.out.drew.step hb1).step hb2).tail.tail.m.c3))
        have HEND := Lib.hid (((((HR7.out.drew.step hb1).step hb2).tail.tail.push hz2).put3 y0 (.slice y1 y2 y3) (.slice y4 y5 y6)).sub (Q' := [(.agg #[.bool y0, .slice y1 y2 y3, .slice y4 y5 y6], qof D R)]) (by simp))
        have HOX := Lib.hid (owns_step (owns_step HOWN7.out.drew hb1) hb2)
        have HNB := Lib.hid (own_ne HOX.out (((HR7.out.drew.step hb1).step hb2).tail.tail.m.h _ (List.mem_cons_self ..)).2 (show (43 : Nat) ≠ 3 by decide))
        have hRB := HRE.out
        go_wp2
        go_roundg gk'
        case measure => omega
        case rel => exact ⟨D, R, xs ++ [q], y0, y1, y2, y3, y4, y5, y6, hRp, by omega, by omega, by omega, by omega, HX2, Lib.hid (fun h => by simp at h), Lib.hid (owns_set (owns_set (owns_set HOX.out HNB.out 0 _) HNB.out 1 _) HNB.out 2 _), HEND⟩
  · have HV : Hid (vfB n d = false) := Lib.hid (vfB_false hv)
    have HS := Lib.hid (termS_no hv)
    clear hv
    go_enter Try.func46, Try.ntmps46
    go_wp2_with fail
    refine (valid_r n d _).mono ?_
    rintro e w1 ⟨rfl, hb⟩
    rw [HV.out]
    have HM1 := Lib.hid (HM0.out.step hb)
    clear hb
    go_wp2
    go_ret2
    exact ⟨none, 0, [], 2, rfl, HS, Lib.hid ⟨.inl rfl, Nat.le_refl _, by decide⟩, HM1.out.m.b⟩

end Go.Proofs.Ytjnfgjaiahnfgaa

/- The reference's Parse: its walk. -/
import Derived.Deep.DeepCutAuto
import Derived.Test.YtmgbecfodinhhaaDoorTxI
namespace Go.Proofs.YtmgbecfodinhhaaDoor
open Go.RowKit
set_option linter.unusedSimpArgs false

theorem sign_len {l r : List UInt8} {g : Bool} (hg : signS l = (g, r)) : r.length ≤ l.length := by
  cases l with
  | nil => unfold signS at hg; simp at hg; rw [← hg.2]; simp
  | cons c t =>
    by_cases h : c = 45
    · subst h; rw [sign_neg] at hg; simp at hg; rw [← hg.2]; simp
    · have : signS (c :: t) = (false, c :: t) := by
        unfold signS
        split
        · rename_i r heq; simp only [List.cons.injEq] at heq; exact absurd heq.1 h
        · rfl
      rw [this] at hg; simp at hg; rw [← hg.2]; simp

theorem digits_l (l : List UInt8) (w : World) : Calls Tryd.prog 19 #[.string ⟨l.toArray⟩] w fun e w' => ∃ v b, e = .returned (.tuple #[.int .i64 v, .bool b]) ∧ Hid (DigR l v b) ∧ Below w.heap.size w w' := digits_s ⟨l.toArray⟩ w

theorem Mem.q3 {w0 w : World} {L : List (Nat × Array Value × TypeId)} {g : Nat} {a b c : Value} {T : TypeId} (h : Mem w0 ((g, #[a, b, c], T) :: L) w) : w.cell? ⟨g, 0, none⟩ = some a ∧ w.cell? ⟨g, 1, none⟩ = some b ∧ w.cell? ⟨g, 2, none⟩ = some c ∧ w.frozen? ⟨g, 0, none⟩ = false ∧ w.frozen? ⟨g, 1, none⟩ = false ∧ w.frozen? ⟨g, 2, none⟩ = false ∧ g < w.heap.size := ⟨h.cell 0, h.cell 1, h.cell 2, h.frozen 0, h.frozen 1, h.frozen 2, h.head_lt⟩

set_option maxRecDepth 100000 in
set_option maxHeartbeats 6400000 in
theorem rparse_A (l r a0 b0 u v a b : List UInt8) (g k : Bool) (hg : Hid (signS l = (g, r))) (h32 : Hid (Lib.cut r [32] = (a0, b0, true))) (hu : Hid (splitR r = (u, v))) (hq : u = a0 ∧ v = b0 ∧ v ≠ []) (hc : Hid (Lib.cut v [47] = (a, b, k))) (hl : Hid ((r.length : Int) ≤ 4611686018427387904 ∧ (v.length : Int) ≤ 4611686018427387904)) (w : World) (he : Env w) :
    Calls Tryd.prog 9 #[.string ⟨l.toArray⟩] w fun e w' => ∃ x y z, e = .returned (.tuple #[.agg #[.int .i64 x, .int .i64 y], .int .i64 z]) ∧ Hid (ParQ l x y z) ∧ Below w.heap.size w w' := by
  have HM0 := Lib.hid ((Mem.nil w).alloc #[.int .i64 0, .int .i64 0] 23)
  have HE := Lib.hid he
  have HG := Lib.hid hg
  have HU := Lib.hid hu.out
  have HC := Lib.hid hc
  have HL := Lib.hid hl.out
  have H32 := Lib.hid h32
  clear he hg hu hc hl h32
  obtain ⟨rfl, rfl, hv⟩ := hq
  have hv1 : (v == []) = false := by simpa using hv
  have hv2 : v.isEmpty = false := by cases v <;> simp_all
  clear hv
  go_enter Tryd.func9, Tryd.ntmps9
  go_wp2_with fail
  refine (prefix_one l r g HG.out _).mono ?_
  rintro e w1 ⟨rfl, rfl⟩
  go_wp2_with fail
  refine (cut_one r 32 _ _ _ H32.out HL.out.1 _).mono ?_
  rintro e w2 ⟨rfl, hb⟩
  have HM1 := Lib.hid (HM0.out.step hb)
  clear hb 
  go_wp2_with fail
  refine (digits_l _ _).mono ?_
  rintro e v1 ⟨x1, b1, rfl, HD1, hb⟩
  have HM2 := Lib.hid (HM1.out.step hb)
  clear hb
  go_wp2_with fail
  refine (cut_one _ 47 a b k HC.out HL.out.2 _).mono ?_
  rintro e v2 ⟨rfl, hb⟩
  have HM3 := Lib.hid (HM2.out.step hb)
  clear hb
  go_wp2_with fail
  refine (digits_l a _).mono ?_
  rintro e v3 ⟨x2, b2, rfl, HD2, hb⟩
  have HM4 := Lib.hid (HM3.out.step hb)
  clear hb
  go_wp2_with fail
  refine (digits_l b _).mono ?_
  rintro e v4 ⟨x3, b3, rfl, HD3, hb⟩
  have hM5 := HM4.out.step hb
  have HM5 := Lib.hid hM5
  obtain ⟨c0, c1, f0, f1, hlt⟩ := hM5.c2
  clear hb hM5 HM1 HM2 HM3 HM4
  by_cases hall : b1 = true ∧ b2 = true ∧ b3 = true ∧ x3 ≠ 0
  · obtain ⟨rfl, rfl, rfl, hx3⟩ := hall
    obtain ⟨p1, p2, p3⟩ := HD1.out.1 rfl
    obtain ⟨q1, q2, q3⟩ := HD2.out.1 rfl
    obtain ⟨r1, r2, r3⟩ := HD3.out.1 rfl
    have hx3b : (x3 == 0) = false := by simpa using hx3
    have hx3p : 0 < x3 := by omega
    obtain ⟨qa, ea⟩ : ∃ q : Rat, q = (x1 : Rat) := ⟨_, rfl⟩
    obtain ⟨qb, eb⟩ : ∃ q : Rat, q = (x2 : Rat) := ⟨_, rfl⟩
    obtain ⟨qc, ec⟩ : ∃ q : Rat, q = (x3 : Rat) := ⟨_, rfl⟩
    obtain ⟨qd, ed⟩ : ∃ q : Rat, q = qof x2 x3 := ⟨_, rfl⟩
    obtain ⟨qe, ee⟩ : ∃ q : Rat, q = qa + qd := ⟨_, rfl⟩
    obtain ⟨qf, ef⟩ : ∃ q : Rat, q = -qe := ⟨_, rfl⟩
    have HVR : Hid (valR l = some (if g = true then qf else qe)) := Lib.hid (by
      rw [valR_some HG.out.out HU.out HC.out.out p3 q3 r3 (by omega), ef, ee, ea, ed]
      rw [show ((x1.toNat : Nat) : Int) = x1 by omega, show ((x2.toNat : Nat) : Int) = x2 by omega, show ((x3.toNat : Nat) : Int) = x3 by omega])
    have HQ := Lib.hid (And.intro (Lib.hid ea) (And.intro (Lib.hid eb) (And.intro (Lib.hid ec) (And.intro (Lib.hid ed) (And.intro (Lib.hid ee) (Lib.hid ef))))))
    clear ea eb ec ed ee ef p3 q3 r3 HD1 HD2 HD3 hx3
    go_wp2_with fail
    refine (int_v x1 qa HQ.out.1 (by omega) (by omega) _).mono ?_
    rintro e t1 ⟨z1, rfl, I1, hb1⟩
    go_wp2_with fail
    refine (int_v x2 qb HQ.out.2.1 (by omega) (by omega) _).mono ?_
    rintro e t2 ⟨z2, rfl, I2, hb2⟩
    go_wp2_with fail
    refine (int_v x3 qc HQ.out.2.2.1 (by omega) (by omega) _).mono ?_
    rintro e t3 ⟨z3, rfl, I3, hb3⟩
    go_wp2_with fail
    refine (over_v z2 z3 x2 x3 qb qc qd HQ.out.2.1 HQ.out.2.2.1 HQ.out.2.2.2.1 hx3p (by omega) (by omega) (by omega) _ (I2.below hb3) I3).mono ?_
    rintro e t4 ⟨z4, rfl, I4, hb4⟩
    go_wp2_with fail
    refine (plus_v z1 z4 x1 x2 x3 qa qd qe HQ.out.1 HQ.out.2.2.2.1 HQ.out.2.2.2.2.1 hx3p (by omega) (by omega) (by omega) (by omega) (by omega) _ (((I1.below hb2).below hb3).below hb4) I4).mono ?_
    rintro e t5 ⟨k0, k1, k2, k3, k4, k5, k6, rfl, I5, hb5⟩
    have HM6 := Lib.hid (((((HM5.out.step hb1).step hb2).step hb3).step hb4).step hb5)
    have hM7 := HM6.out.alloc #[.bool k0, .slice k1 k2 k3, .slice k4 k5 k6] 45
    have HM7 := Lib.hid hM7
    have HI5 := Lib.hid (I5.below ((Below.refl _ _).alloc (Nat.le_refl _) (.cells #[.bool k0, .slice k1 k2 k3, .slice k4 k5 k6] 45)))
    obtain ⟨m0, m1, m2, n0, n1, n2, hlt7⟩ := hM7.q3
    clear hM7 I1 I2 I3 I4 I5 hb1 hb2 hb3 hb4 hb5 c0 c1 f0 f1 hlt
    cases g
    · obtain ⟨q, hq⟩ : ∃ q, q = qe := ⟨_, rfl⟩
      have HVQ : Hid (valR l = some q) := Lib.hid (by rw [HVR.out, hq]; rfl)
      rw [← hq] at HI5
      clear hq HVR HQ
      have HM8 := Lib.hid HM7.out
      have HI8 := Lib.hid HI5.out
      by_cases hr : Rep q
      · obtain ⟨x, hx⟩ : ∃ x, q.num = x := ⟨_, rfl⟩
        obtain ⟨y, hy⟩ : ∃ x, (q.den : Int) = x := ⟨_, rfl⟩
        have HXY := Lib.hid (Lib.hid (And.intro hx hy))
        have HVF : Hid (VF x y) := Lib.hid (by rw [← hx, ← hy]; exact hr.vf)
        have HRQ := Lib.hid (Lib.hid hr)
        clear hx hy hr
        go_wp2_with fail
        refine (fracq_yes _ q x y HXY.out _ HI8.out HRQ.out).mono ?_
        rintro e t7 ⟨rfl, hb7⟩
        have HM9 := Lib.hid ((HM8.out.step hb7).alloc #[.int .i64 x, .int .i64 y] 23)
        have HE9 := Lib.hid (HE.out.below HM9.out.b)
        clear m0 m1 m2 n0 n1 n2 hlt7 hb7 HI8
        obtain ⟨d0, d1, -, -, hlt2⟩ := HM9.out.c2
        go_wp2_with fail
        refine (rprint x y _ HE9.out).mono ?_
        rintro e t8 ⟨t, zz, rfl, HT, hb8⟩
        have hMa := HM9.out.step hb8
        have HMa := Lib.hid hMa
        clear d0 d1 hlt2 hb8
        obtain ⟨d0, d1, -, -, hlt2⟩ := hMa.c2
        obtain ⟨c0, c1, f0, f1, hlt⟩ := hMa.tail.tail.c2
        clear hMa
        have HPQ : Hid ((t ≠ l → ParQ l 0 0 6) ∧ (t = l → ParQ l x y 0)) := Lib.hid (by
          have ht : t = printS x y := by
            have := HT.out
            rw [printT_yes ((vfB_iff x y).2 HVF.out)] at this
            simp only [Prod.mk.injEq] at this
            exact this.1.symm
          rw [ht]
          refine ⟨fun h => ParQ.rother HVQ.out ?_, fun h => ParQ.good HVF.out h⟩
          rw [HXY.out.out.1, HXY.out.out.2]; exact h)
        clear HT
        go_wp2
        · have h : (!t == l) = true := by assumption
          have hne : t ≠ l := by simpa using h
          refine bodyPost_ret (v := .tuple #[.agg #[.int .i64 0, .int .i64 0], .int .i64 6]) (by simp [results, Tryd.results9, go_sem, c0, c1]) rfl ⟨_, _, _, rfl, Lib.hid (HPQ.out.1 hne), ?_⟩
          exact (HMa.out.tail.tail.put2 _ _).b
        · have h : (!t == l) = false := by assumption
          have heq : t = l := by simpa using h
          refine bodyPost_ret (v := .tuple #[.agg #[.int .i64 x, .int .i64 y], .int .i64 0]) (by simp [results, Tryd.results9, go_sem, c0, c1]) rfl ⟨_, _, _, rfl, Lib.hid (HPQ.out.2 heq), ?_⟩
          exact (HMa.out.tail.tail.put2 _ _).b
      · have HP6 : Hid (ParQ l 0 0 6) := Lib.hid (ParQ.rbad HVQ.out hr)
        have HRQ := Lib.hid (Lib.hid hr)
        clear hr
        go_wp2_with fail
        refine (frac_no _ q _ HI8.out HRQ.out.out).mono ?_
        rintro e t7 ⟨rfl, hb7⟩
        have HM9 := Lib.hid ((HM8.out.step hb7).alloc #[.int .i64 0, .int .i64 0] 23)
        clear m0 m1 m2 n0 n1 n2 hlt7 hb7 HI8
        obtain ⟨c0, c1, f0, f1, hlt⟩ := HM9.out.tail.tail.c2
        go_wp2
        refine bodyPost_ret (v := .tuple #[.agg #[.int .i64 0, .int .i64 0], .int .i64 6]) (by simp [results, Tryd.results9, go_sem, c0, c1]) rfl ⟨_, _, _, rfl, HP6, ?_⟩
        exact (HM9.out.tail.tail.put2 _ _).b
    · obtain ⟨q, hq⟩ : ∃ q, q = qf := ⟨_, rfl⟩
      have HVQ : Hid (valR l = some q) := Lib.hid (by rw [HVR.out, hq]; rfl)
      go_wp2_with fail
      refine (minus_v _ qe qf HQ.out.2.2.2.2.2 _ HI5.out).mono ?_
      rintro e t6 ⟨j0, j1, j2, j3, j4, j5, j6, rfl, I6, hb6⟩
      have hM6 := HM7.out.step hb6
      have HM8 := Lib.hid (hM6.put3 (.bool j0) (.slice j1 j2 j3) (.slice j4 j5 j6))
      have HI8 : Hid (IsQ (((t6.setCell ⟨t5.heap.size, 0, none⟩ (.bool j0)).setCell ⟨t5.heap.size, 1, none⟩ (.slice j1 j2 j3)).setCell ⟨t5.heap.size, 2, none⟩ (.slice j4 j5 j6)) (.agg #[.bool j0, .slice j1 j2 j3, .slice j4 j5 j6]) q) := Lib.hid (by
        rw [hq]
        refine I6.store fun n hn => ?_
        have hc := hM6.cell 0
        rw [hn] at hc
        simp at hc)
      clear hq HVR HQ m0 m1 m2 n0 n1 n2 hlt7 I6 hb6
      obtain ⟨m0, m1, m2, n0, n1, n2, hlt7⟩ := hM6.q3
      obtain ⟨o0, o1, o2, -, -, -, -⟩ := HM8.out.q3
      clear hM6
      by_cases hr : Rep q
      · obtain ⟨x, hx⟩ : ∃ x, q.num = x := ⟨_, rfl⟩
        obtain ⟨y, hy⟩ : ∃ x, (q.den : Int) = x := ⟨_, rfl⟩
        have HXY := Lib.hid (Lib.hid (And.intro hx hy))
        have HVF : Hid (VF x y) := Lib.hid (by rw [← hx, ← hy]; exact hr.vf)
        have HRQ := Lib.hid (Lib.hid hr)
        clear hx hy hr
        go_wp2_with fail
        refine (fracq_yes _ q x y HXY.out _ HI8.out HRQ.out).mono ?_
        rintro e t7 ⟨rfl, hb7⟩
        have HM9 := Lib.hid ((HM8.out.step hb7).alloc #[.int .i64 x, .int .i64 y] 23)
        have HE9 := Lib.hid (HE.out.below HM9.out.b)
        clear m0 m1 m2 n0 n1 n2 hlt7 hb7 HI8
        obtain ⟨d0, d1, -, -, hlt2⟩ := HM9.out.c2
        go_wp2_with fail
        refine (rprint x y _ HE9.out).mono ?_
        rintro e t8 ⟨t, zz, rfl, HT, hb8⟩
        have hMa := HM9.out.step hb8
        have HMa := Lib.hid hMa
        clear d0 d1 hlt2 hb8
        obtain ⟨d0, d1, -, -, hlt2⟩ := hMa.c2
        obtain ⟨c0, c1, f0, f1, hlt⟩ := hMa.tail.tail.c2
        clear hMa
        have HPQ : Hid ((t ≠ l → ParQ l 0 0 6) ∧ (t = l → ParQ l x y 0)) := Lib.hid (by
          have ht : t = printS x y := by
            have := HT.out
            rw [printT_yes ((vfB_iff x y).2 HVF.out)] at this
            simp only [Prod.mk.injEq] at this
            exact this.1.symm
          rw [ht]
          refine ⟨fun h => ParQ.rother HVQ.out ?_, fun h => ParQ.good HVF.out h⟩
          rw [HXY.out.out.1, HXY.out.out.2]; exact h)
        clear HT
        go_wp2
        · have h : (!t == l) = true := by assumption
          have hne : t ≠ l := by simpa using h
          refine bodyPost_ret (v := .tuple #[.agg #[.int .i64 0, .int .i64 0], .int .i64 6]) (by simp [results, Tryd.results9, go_sem, c0, c1]) rfl ⟨_, _, _, rfl, Lib.hid (HPQ.out.1 hne), ?_⟩
          exact (HMa.out.tail.tail.put2 _ _).b
        · have h : (!t == l) = false := by assumption
          have heq : t = l := by simpa using h
          refine bodyPost_ret (v := .tuple #[.agg #[.int .i64 x, .int .i64 y], .int .i64 0]) (by simp [results, Tryd.results9, go_sem, c0, c1]) rfl ⟨_, _, _, rfl, Lib.hid (HPQ.out.2 heq), ?_⟩
          exact (HMa.out.tail.tail.put2 _ _).b
      · have HP6 : Hid (ParQ l 0 0 6) := Lib.hid (ParQ.rbad HVQ.out hr)
        have HRQ := Lib.hid (Lib.hid hr)
        clear hr
        go_wp2_with fail
        refine (frac_no _ q _ HI8.out HRQ.out.out).mono ?_
        rintro e t7 ⟨rfl, hb7⟩
        have HM9 := Lib.hid ((HM8.out.step hb7).alloc #[.int .i64 0, .int .i64 0] 23)
        clear m0 m1 m2 n0 n1 n2 hlt7 hb7 HI8
        obtain ⟨c0, c1, f0, f1, hlt⟩ := HM9.out.tail.tail.c2
        go_wp2
        refine bodyPost_ret (v := .tuple #[.agg #[.int .i64 0, .int .i64 0], .int .i64 6]) (by simp [results, Tryd.results9, go_sem, c0, c1]) rfl ⟨_, _, _, rfl, HP6, ?_⟩
        exact (HM9.out.tail.tail.put2 _ _).b
  · have HRN : Hid (ParQ l 0 0 6) := Lib.hid (ParQ.rnone (valR_none HG.out.out HU.out HC.out.out (by
      cases b1
      · exact .inl (HD1.out.2 rfl)
      · cases b2
        · exact .inr (.inl (HD2.out.2 rfl))
        · cases b3
          · exact .inr (.inr (.inl (HD3.out.2 rfl)))
          · have h0 : x3 = 0 := by
              simp only [true_and, ne_eq, Classical.not_not] at hall
              exact hall
            exact .inr (.inr (.inr (by have := (HD3.out.1 rfl).2.2; rw [h0] at this; exact this))))))
    have HMX := Lib.hid (HM5.out.put2 (.int .i64 0) (.int .i64 0))
    have hx : b1 = true → b2 = true → b3 = true → (x3 == 0) = true := fun h1 h2 h3 => by
      by_cases h0 : x3 = 0
      · simpa using h0
      · exact absurd ⟨h1, h2, h3, h0⟩ hall
    have HX := Lib.hid hx
    clear HD1 HD2 HD3 hall hx
    cases b1 <;> cases b2 <;> cases b3
    all_goals (
      first
        | (have hx0 := HX.out rfl rfl rfl; clear HX)
        | clear HX
      go_wp2
      refine bodyPost_ret (v := .tuple #[.agg #[.int .i64 0, .int .i64 0], .int .i64 6]) (by simp [results, Tryd.results9, go_sem, c0, c1]) rfl ⟨_, _, _, rfl, HRN, ?_⟩
      exact HMX.out.b)

set_option maxRecDepth 100000 in
set_option maxHeartbeats 6400000 in
theorem rparse_B (l r a0 b0 u v a b : List UInt8) (g k : Bool) (hg : Hid (signS l = (g, r))) (h32 : Hid (Lib.cut r [32] = (a0, b0, true))) (hu : Hid (splitR r = (u, v))) (hq : u = a0 ∧ b0 = [] ∧ v = [48, 47, 49]) (hc : Hid (Lib.cut v [47] = (a, b, k))) (hl : Hid ((r.length : Int) ≤ 4611686018427387904 ∧ (v.length : Int) ≤ 4611686018427387904)) (w : World) (he : Env w) :
    Calls Tryd.prog 9 #[.string ⟨l.toArray⟩] w fun e w' => ∃ x y z, e = .returned (.tuple #[.agg #[.int .i64 x, .int .i64 y], .int .i64 z]) ∧ Hid (ParQ l x y z) ∧ Below w.heap.size w w' := by
  have HM0 := Lib.hid ((Mem.nil w).alloc #[.int .i64 0, .int .i64 0] 23)
  have HE := Lib.hid he
  have HG := Lib.hid hg
  have HU := Lib.hid hu.out
  have HC := Lib.hid hc
  have HL := Lib.hid hl.out
  have H32 := Lib.hid h32
  clear he hg hu hc hl h32
  obtain ⟨rfl, rfl, rfl⟩ := hq
  go_enter Tryd.func9, Tryd.ntmps9
  go_wp2_with fail
  refine (prefix_one l r g HG.out _).mono ?_
  rintro e w1 ⟨rfl, rfl⟩
  go_wp2_with fail
  refine (cut_one r 32 _ _ _ H32.out HL.out.1 _).mono ?_
  rintro e w2 ⟨rfl, hb⟩
  have HM1 := Lib.hid (HM0.out.step hb)
  clear hb 
  go_wp2_with fail
  refine (digits_l _ _).mono ?_
  rintro e v1 ⟨x1, b1, rfl, HD1, hb⟩
  have HM2 := Lib.hid (HM1.out.step hb)
  clear hb
  go_wp2_with fail
  refine (cut_one _ 47 a b k HC.out HL.out.2 _).mono ?_
  rintro e v2 ⟨rfl, hb⟩
  have HM3 := Lib.hid (HM2.out.step hb)
  clear hb
  go_wp2_with fail
  refine (digits_l a _).mono ?_
  rintro e v3 ⟨x2, b2, rfl, HD2, hb⟩
  have HM4 := Lib.hid (HM3.out.step hb)
  clear hb
  go_wp2_with fail
  refine (digits_l b _).mono ?_
  rintro e v4 ⟨x3, b3, rfl, HD3, hb⟩
  have hM5 := HM4.out.step hb
  have HM5 := Lib.hid hM5
  obtain ⟨c0, c1, f0, f1, hlt⟩ := hM5.c2
  clear hb hM5 HM1 HM2 HM3 HM4
  by_cases hall : b1 = true ∧ b2 = true ∧ b3 = true ∧ x3 ≠ 0
  · obtain ⟨rfl, rfl, rfl, hx3⟩ := hall
    obtain ⟨p1, p2, p3⟩ := HD1.out.1 rfl
    obtain ⟨q1, q2, q3⟩ := HD2.out.1 rfl
    obtain ⟨r1, r2, r3⟩ := HD3.out.1 rfl
    have hx3b : (x3 == 0) = false := by simpa using hx3
    have hx3p : 0 < x3 := by omega
    obtain ⟨qa, ea⟩ : ∃ q : Rat, q = (x1 : Rat) := ⟨_, rfl⟩
    obtain ⟨qb, eb⟩ : ∃ q : Rat, q = (x2 : Rat) := ⟨_, rfl⟩
    obtain ⟨qc, ec⟩ : ∃ q : Rat, q = (x3 : Rat) := ⟨_, rfl⟩
    obtain ⟨qd, ed⟩ : ∃ q : Rat, q = qof x2 x3 := ⟨_, rfl⟩
    obtain ⟨qe, ee⟩ : ∃ q : Rat, q = qa + qd := ⟨_, rfl⟩
    obtain ⟨qf, ef⟩ : ∃ q : Rat, q = -qe := ⟨_, rfl⟩
    have HVR : Hid (valR l = some (if g = true then qf else qe)) := Lib.hid (by
      rw [valR_some HG.out.out HU.out HC.out.out p3 q3 r3 (by omega), ef, ee, ea, ed]
      rw [show ((x1.toNat : Nat) : Int) = x1 by omega, show ((x2.toNat : Nat) : Int) = x2 by omega, show ((x3.toNat : Nat) : Int) = x3 by omega])
    have HQ := Lib.hid (And.intro (Lib.hid ea) (And.intro (Lib.hid eb) (And.intro (Lib.hid ec) (And.intro (Lib.hid ed) (And.intro (Lib.hid ee) (Lib.hid ef))))))
    clear ea eb ec ed ee ef p3 q3 r3 HD1 HD2 HD3 hx3
    go_wp2_with fail
    refine (int_v x1 qa HQ.out.1 (by omega) (by omega) _).mono ?_
    rintro e t1 ⟨z1, rfl, I1, hb1⟩
    go_wp2_with fail
    refine (int_v x2 qb HQ.out.2.1 (by omega) (by omega) _).mono ?_
    rintro e t2 ⟨z2, rfl, I2, hb2⟩
    go_wp2_with fail
    refine (int_v x3 qc HQ.out.2.2.1 (by omega) (by omega) _).mono ?_
    rintro e t3 ⟨z3, rfl, I3, hb3⟩
    go_wp2_with fail
    refine (over_v z2 z3 x2 x3 qb qc qd HQ.out.2.1 HQ.out.2.2.1 HQ.out.2.2.2.1 hx3p (by omega) (by omega) (by omega) _ (I2.below hb3) I3).mono ?_
    rintro e t4 ⟨z4, rfl, I4, hb4⟩
    go_wp2_with fail
    refine (plus_v z1 z4 x1 x2 x3 qa qd qe HQ.out.1 HQ.out.2.2.2.1 HQ.out.2.2.2.2.1 hx3p (by omega) (by omega) (by omega) (by omega) (by omega) _ (((I1.below hb2).below hb3).below hb4) I4).mono ?_
    rintro e t5 ⟨k0, k1, k2, k3, k4, k5, k6, rfl, I5, hb5⟩
    have HM6 := Lib.hid (((((HM5.out.step hb1).step hb2).step hb3).step hb4).step hb5)
    have hM7 := HM6.out.alloc #[.bool k0, .slice k1 k2 k3, .slice k4 k5 k6] 45
    have HM7 := Lib.hid hM7
    have HI5 := Lib.hid (I5.below ((Below.refl _ _).alloc (Nat.le_refl _) (.cells #[.bool k0, .slice k1 k2 k3, .slice k4 k5 k6] 45)))
    obtain ⟨m0, m1, m2, n0, n1, n2, hlt7⟩ := hM7.q3
    clear hM7 I1 I2 I3 I4 I5 hb1 hb2 hb3 hb4 hb5 c0 c1 f0 f1 hlt
    cases g
    · obtain ⟨q, hq⟩ : ∃ q, q = qe := ⟨_, rfl⟩
      have HVQ : Hid (valR l = some q) := Lib.hid (by rw [HVR.out, hq]; rfl)
      rw [← hq] at HI5
      clear hq HVR HQ
      have HM8 := Lib.hid HM7.out
      have HI8 := Lib.hid HI5.out
      by_cases hr : Rep q
      · obtain ⟨x, hx⟩ : ∃ x, q.num = x := ⟨_, rfl⟩
        obtain ⟨y, hy⟩ : ∃ x, (q.den : Int) = x := ⟨_, rfl⟩
        have HXY := Lib.hid (Lib.hid (And.intro hx hy))
        have HVF : Hid (VF x y) := Lib.hid (by rw [← hx, ← hy]; exact hr.vf)
        have HRQ := Lib.hid (Lib.hid hr)
        clear hx hy hr
        go_wp2_with fail
        refine (fracq_yes _ q x y HXY.out _ HI8.out HRQ.out).mono ?_
        rintro e t7 ⟨rfl, hb7⟩
        have HM9 := Lib.hid ((HM8.out.step hb7).alloc #[.int .i64 x, .int .i64 y] 23)
        have HE9 := Lib.hid (HE.out.below HM9.out.b)
        clear m0 m1 m2 n0 n1 n2 hlt7 hb7 HI8
        obtain ⟨d0, d1, -, -, hlt2⟩ := HM9.out.c2
        go_wp2_with fail
        refine (rprint x y _ HE9.out).mono ?_
        rintro e t8 ⟨t, zz, rfl, HT, hb8⟩
        have hMa := HM9.out.step hb8
        have HMa := Lib.hid hMa
        clear d0 d1 hlt2 hb8
        obtain ⟨d0, d1, -, -, hlt2⟩ := hMa.c2
        obtain ⟨c0, c1, f0, f1, hlt⟩ := hMa.tail.tail.c2
        clear hMa
        have HPQ : Hid ((t ≠ l → ParQ l 0 0 6) ∧ (t = l → ParQ l x y 0)) := Lib.hid (by
          have ht : t = printS x y := by
            have := HT.out
            rw [printT_yes ((vfB_iff x y).2 HVF.out)] at this
            simp only [Prod.mk.injEq] at this
            exact this.1.symm
          rw [ht]
          refine ⟨fun h => ParQ.rother HVQ.out ?_, fun h => ParQ.good HVF.out h⟩
          rw [HXY.out.out.1, HXY.out.out.2]; exact h)
        clear HT
        go_wp2
        · have h : (!t == l) = true := by assumption
          have hne : t ≠ l := by simpa using h
          refine bodyPost_ret (v := .tuple #[.agg #[.int .i64 0, .int .i64 0], .int .i64 6]) (by simp [results, Tryd.results9, go_sem, c0, c1]) rfl ⟨_, _, _, rfl, Lib.hid (HPQ.out.1 hne), ?_⟩
          exact (HMa.out.tail.tail.put2 _ _).b
        · have h : (!t == l) = false := by assumption
          have heq : t = l := by simpa using h
          refine bodyPost_ret (v := .tuple #[.agg #[.int .i64 x, .int .i64 y], .int .i64 0]) (by simp [results, Tryd.results9, go_sem, c0, c1]) rfl ⟨_, _, _, rfl, Lib.hid (HPQ.out.2 heq), ?_⟩
          exact (HMa.out.tail.tail.put2 _ _).b
      · have HP6 : Hid (ParQ l 0 0 6) := Lib.hid (ParQ.rbad HVQ.out hr)
        have HRQ := Lib.hid (Lib.hid hr)
        clear hr
        go_wp2_with fail
        refine (frac_no _ q _ HI8.out HRQ.out.out).mono ?_
        rintro e t7 ⟨rfl, hb7⟩
        have HM9 := Lib.hid ((HM8.out.step hb7).alloc #[.int .i64 0, .int .i64 0] 23)
        clear m0 m1 m2 n0 n1 n2 hlt7 hb7 HI8
        obtain ⟨c0, c1, f0, f1, hlt⟩ := HM9.out.tail.tail.c2
        go_wp2
        refine bodyPost_ret (v := .tuple #[.agg #[.int .i64 0, .int .i64 0], .int .i64 6]) (by simp [results, Tryd.results9, go_sem, c0, c1]) rfl ⟨_, _, _, rfl, HP6, ?_⟩
        exact (HM9.out.tail.tail.put2 _ _).b
    · obtain ⟨q, hq⟩ : ∃ q, q = qf := ⟨_, rfl⟩
      have HVQ : Hid (valR l = some q) := Lib.hid (by rw [HVR.out, hq]; rfl)
      go_wp2_with fail
      refine (minus_v _ qe qf HQ.out.2.2.2.2.2 _ HI5.out).mono ?_
      rintro e t6 ⟨j0, j1, j2, j3, j4, j5, j6, rfl, I6, hb6⟩
      have hM6 := HM7.out.step hb6
      have HM8 := Lib.hid (hM6.put3 (.bool j0) (.slice j1 j2 j3) (.slice j4 j5 j6))
      have HI8 : Hid (IsQ (((t6.setCell ⟨t5.heap.size, 0, none⟩ (.bool j0)).setCell ⟨t5.heap.size, 1, none⟩ (.slice j1 j2 j3)).setCell ⟨t5.heap.size, 2, none⟩ (.slice j4 j5 j6)) (.agg #[.bool j0, .slice j1 j2 j3, .slice j4 j5 j6]) q) := Lib.hid (by
        rw [hq]
        refine I6.store fun n hn => ?_
        have hc := hM6.cell 0
        rw [hn] at hc
        simp at hc)
      clear hq HVR HQ m0 m1 m2 n0 n1 n2 hlt7 I6 hb6
      obtain ⟨m0, m1, m2, n0, n1, n2, hlt7⟩ := hM6.q3
      obtain ⟨o0, o1, o2, -, -, -, -⟩ := HM8.out.q3
      clear hM6
      by_cases hr : Rep q
      · obtain ⟨x, hx⟩ : ∃ x, q.num = x := ⟨_, rfl⟩
        obtain ⟨y, hy⟩ : ∃ x, (q.den : Int) = x := ⟨_, rfl⟩
        have HXY := Lib.hid (Lib.hid (And.intro hx hy))
        have HVF : Hid (VF x y) := Lib.hid (by rw [← hx, ← hy]; exact hr.vf)
        have HRQ := Lib.hid (Lib.hid hr)
        clear hx hy hr
        go_wp2_with fail
        refine (fracq_yes _ q x y HXY.out _ HI8.out HRQ.out).mono ?_
        rintro e t7 ⟨rfl, hb7⟩
        have HM9 := Lib.hid ((HM8.out.step hb7).alloc #[.int .i64 x, .int .i64 y] 23)
        have HE9 := Lib.hid (HE.out.below HM9.out.b)
        clear m0 m1 m2 n0 n1 n2 hlt7 hb7 HI8
        obtain ⟨d0, d1, -, -, hlt2⟩ := HM9.out.c2
        go_wp2_with fail
        refine (rprint x y _ HE9.out).mono ?_
        rintro e t8 ⟨t, zz, rfl, HT, hb8⟩
        have hMa := HM9.out.step hb8
        have HMa := Lib.hid hMa
        clear d0 d1 hlt2 hb8
        obtain ⟨d0, d1, -, -, hlt2⟩ := hMa.c2
        obtain ⟨c0, c1, f0, f1, hlt⟩ := hMa.tail.tail.c2
        clear hMa
        have HPQ : Hid ((t ≠ l → ParQ l 0 0 6) ∧ (t = l → ParQ l x y 0)) := Lib.hid (by
          have ht : t = printS x y := by
            have := HT.out
            rw [printT_yes ((vfB_iff x y).2 HVF.out)] at this
            simp only [Prod.mk.injEq] at this
            exact this.1.symm
          rw [ht]
          refine ⟨fun h => ParQ.rother HVQ.out ?_, fun h => ParQ.good HVF.out h⟩
          rw [HXY.out.out.1, HXY.out.out.2]; exact h)
        clear HT
        go_wp2
        · have h : (!t == l) = true := by assumption
          have hne : t ≠ l := by simpa using h
          refine bodyPost_ret (v := .tuple #[.agg #[.int .i64 0, .int .i64 0], .int .i64 6]) (by simp [results, Tryd.results9, go_sem, c0, c1]) rfl ⟨_, _, _, rfl, Lib.hid (HPQ.out.1 hne), ?_⟩
          exact (HMa.out.tail.tail.put2 _ _).b
        · have h : (!t == l) = false := by assumption
          have heq : t = l := by simpa using h
          refine bodyPost_ret (v := .tuple #[.agg #[.int .i64 x, .int .i64 y], .int .i64 0]) (by simp [results, Tryd.results9, go_sem, c0, c1]) rfl ⟨_, _, _, rfl, Lib.hid (HPQ.out.2 heq), ?_⟩
          exact (HMa.out.tail.tail.put2 _ _).b
      · have HP6 : Hid (ParQ l 0 0 6) := Lib.hid (ParQ.rbad HVQ.out hr)
        have HRQ := Lib.hid (Lib.hid hr)
        clear hr
        go_wp2_with fail
        refine (frac_no _ q _ HI8.out HRQ.out.out).mono ?_
        rintro e t7 ⟨rfl, hb7⟩
        have HM9 := Lib.hid ((HM8.out.step hb7).alloc #[.int .i64 0, .int .i64 0] 23)
        clear m0 m1 m2 n0 n1 n2 hlt7 hb7 HI8
        obtain ⟨c0, c1, f0, f1, hlt⟩ := HM9.out.tail.tail.c2
        go_wp2
        refine bodyPost_ret (v := .tuple #[.agg #[.int .i64 0, .int .i64 0], .int .i64 6]) (by simp [results, Tryd.results9, go_sem, c0, c1]) rfl ⟨_, _, _, rfl, HP6, ?_⟩
        exact (HM9.out.tail.tail.put2 _ _).b
  · have HRN : Hid (ParQ l 0 0 6) := Lib.hid (ParQ.rnone (valR_none HG.out.out HU.out HC.out.out (by
      cases b1
      · exact .inl (HD1.out.2 rfl)
      · cases b2
        · exact .inr (.inl (HD2.out.2 rfl))
        · cases b3
          · exact .inr (.inr (.inl (HD3.out.2 rfl)))
          · have h0 : x3 = 0 := by
              simp only [true_and, ne_eq, Classical.not_not] at hall
              exact hall
            exact .inr (.inr (.inr (by have := (HD3.out.1 rfl).2.2; rw [h0] at this; exact this))))))
    have HMX := Lib.hid (HM5.out.put2 (.int .i64 0) (.int .i64 0))
    have hx : b1 = true → b2 = true → b3 = true → (x3 == 0) = true := fun h1 h2 h3 => by
      by_cases h0 : x3 = 0
      · simpa using h0
      · exact absurd ⟨h1, h2, h3, h0⟩ hall
    have HX := Lib.hid hx
    clear HD1 HD2 HD3 hall hx
    cases b1 <;> cases b2 <;> cases b3
    all_goals (
      first
        | (have hx0 := HX.out rfl rfl rfl; clear HX)
        | clear HX
      go_wp2
      refine bodyPost_ret (v := .tuple #[.agg #[.int .i64 0, .int .i64 0], .int .i64 6]) (by simp [results, Tryd.results9, go_sem, c0, c1]) rfl ⟨_, _, _, rfl, HRN, ?_⟩
      exact HMX.out.b)

set_option maxRecDepth 100000 in
set_option maxHeartbeats 6400000 in
theorem rparse_C (l r a0 b0 u v a b : List UInt8) (g k : Bool) (hg : Hid (signS l = (g, r))) (h32 : Hid (Lib.cut r [32] = (a0, b0, false))) (hk : Hid (Lib.contains a0 [47] = true)) (hu : Hid (splitR r = (u, v))) (hq : u = [48] ∧ v = a0 ∧ v ≠ []) (hc : Hid (Lib.cut v [47] = (a, b, k))) (hl : Hid ((r.length : Int) ≤ 4611686018427387904 ∧ (v.length : Int) ≤ 4611686018427387904)) (w : World) (he : Env w) :
    Calls Tryd.prog 9 #[.string ⟨l.toArray⟩] w fun e w' => ∃ x y z, e = .returned (.tuple #[.agg #[.int .i64 x, .int .i64 y], .int .i64 z]) ∧ Hid (ParQ l x y z) ∧ Below w.heap.size w w' := by
  have HM0 := Lib.hid ((Mem.nil w).alloc #[.int .i64 0, .int .i64 0] 23)
  have HE := Lib.hid he
  have HG := Lib.hid hg
  have HU := Lib.hid hu.out
  have HC := Lib.hid hc
  have HL := Lib.hid hl.out
  have H32 := Lib.hid h32
  clear he hg hu hc hl h32
  obtain ⟨rfl, rfl, hv⟩ := hq
  have HK := Lib.hid hk
  have hv1 : (v == []) = false := by simpa using hv
  have hv2 : v.isEmpty = false := by cases v <;> simp_all
  clear hv hk
  go_enter Tryd.func9, Tryd.ntmps9
  go_wp2_with fail
  refine (prefix_one l r g HG.out _).mono ?_
  rintro e w1 ⟨rfl, rfl⟩
  go_wp2_with fail
  refine (cut_one r 32 _ _ _ H32.out HL.out.1 _).mono ?_
  rintro e w2 ⟨rfl, hb⟩
  have HM1 := Lib.hid (HM0.out.step hb)
  clear hb 
  go_wp2_with fail
  refine (contains_one _ 47 _ HK.out _).mono ?_
  rintro e w3 ⟨rfl, rfl⟩
  go_wp2_with fail
  refine (digits_l _ _).mono ?_
  rintro e v1 ⟨x1, b1, rfl, HD1, hb⟩
  have HM2 := Lib.hid (HM1.out.step hb)
  clear hb
  go_wp2_with fail
  refine (cut_one _ 47 a b k HC.out HL.out.2 _).mono ?_
  rintro e v2 ⟨rfl, hb⟩
  have HM3 := Lib.hid (HM2.out.step hb)
  clear hb
  go_wp2_with fail
  refine (digits_l a _).mono ?_
  rintro e v3 ⟨x2, b2, rfl, HD2, hb⟩
  have HM4 := Lib.hid (HM3.out.step hb)
  clear hb
  go_wp2_with fail
  refine (digits_l b _).mono ?_
  rintro e v4 ⟨x3, b3, rfl, HD3, hb⟩
  have hM5 := HM4.out.step hb
  have HM5 := Lib.hid hM5
  obtain ⟨c0, c1, f0, f1, hlt⟩ := hM5.c2
  clear hb hM5 HM1 HM2 HM3 HM4
  by_cases hall : b1 = true ∧ b2 = true ∧ b3 = true ∧ x3 ≠ 0
  · obtain ⟨rfl, rfl, rfl, hx3⟩ := hall
    obtain ⟨p1, p2, p3⟩ := HD1.out.1 rfl
    obtain ⟨q1, q2, q3⟩ := HD2.out.1 rfl
    obtain ⟨r1, r2, r3⟩ := HD3.out.1 rfl
    have hx3b : (x3 == 0) = false := by simpa using hx3
    have hx3p : 0 < x3 := by omega
    obtain ⟨qa, ea⟩ : ∃ q : Rat, q = (x1 : Rat) := ⟨_, rfl⟩
    obtain ⟨qb, eb⟩ : ∃ q : Rat, q = (x2 : Rat) := ⟨_, rfl⟩
    obtain ⟨qc, ec⟩ : ∃ q : Rat, q = (x3 : Rat) := ⟨_, rfl⟩
    obtain ⟨qd, ed⟩ : ∃ q : Rat, q = qof x2 x3 := ⟨_, rfl⟩
    obtain ⟨qe, ee⟩ : ∃ q : Rat, q = qa + qd := ⟨_, rfl⟩
    obtain ⟨qf, ef⟩ : ∃ q : Rat, q = -qe := ⟨_, rfl⟩
    have HVR : Hid (valR l = some (if g = true then qf else qe)) := Lib.hid (by
      rw [valR_some HG.out.out HU.out HC.out.out p3 q3 r3 (by omega), ef, ee, ea, ed]
      rw [show ((x1.toNat : Nat) : Int) = x1 by omega, show ((x2.toNat : Nat) : Int) = x2 by omega, show ((x3.toNat : Nat) : Int) = x3 by omega])
    have HQ := Lib.hid (And.intro (Lib.hid ea) (And.intro (Lib.hid eb) (And.intro (Lib.hid ec) (And.intro (Lib.hid ed) (And.intro (Lib.hid ee) (Lib.hid ef))))))
    clear ea eb ec ed ee ef p3 q3 r3 HD1 HD2 HD3 hx3
    go_wp2_with fail
    refine (int_v x1 qa HQ.out.1 (by omega) (by omega) _).mono ?_
    rintro e t1 ⟨z1, rfl, I1, hb1⟩
    go_wp2_with fail
    refine (int_v x2 qb HQ.out.2.1 (by omega) (by omega) _).mono ?_
    rintro e t2 ⟨z2, rfl, I2, hb2⟩
    go_wp2_with fail
    refine (int_v x3 qc HQ.out.2.2.1 (by omega) (by omega) _).mono ?_
    rintro e t3 ⟨z3, rfl, I3, hb3⟩
    go_wp2_with fail
    refine (over_v z2 z3 x2 x3 qb qc qd HQ.out.2.1 HQ.out.2.2.1 HQ.out.2.2.2.1 hx3p (by omega) (by omega) (by omega) _ (I2.below hb3) I3).mono ?_
    rintro e t4 ⟨z4, rfl, I4, hb4⟩
    go_wp2_with fail
    refine (plus_v z1 z4 x1 x2 x3 qa qd qe HQ.out.1 HQ.out.2.2.2.1 HQ.out.2.2.2.2.1 hx3p (by omega) (by omega) (by omega) (by omega) (by omega) _ (((I1.below hb2).below hb3).below hb4) I4).mono ?_
    rintro e t5 ⟨k0, k1, k2, k3, k4, k5, k6, rfl, I5, hb5⟩
    have HM6 := Lib.hid (((((HM5.out.step hb1).step hb2).step hb3).step hb4).step hb5)
    have hM7 := HM6.out.alloc #[.bool k0, .slice k1 k2 k3, .slice k4 k5 k6] 45
    have HM7 := Lib.hid hM7
    have HI5 := Lib.hid (I5.below ((Below.refl _ _).alloc (Nat.le_refl _) (.cells #[.bool k0, .slice k1 k2 k3, .slice k4 k5 k6] 45)))
    obtain ⟨m0, m1, m2, n0, n1, n2, hlt7⟩ := hM7.q3
    clear hM7 I1 I2 I3 I4 I5 hb1 hb2 hb3 hb4 hb5 c0 c1 f0 f1 hlt
    cases g
    · obtain ⟨q, hq⟩ : ∃ q, q = qe := ⟨_, rfl⟩
      have HVQ : Hid (valR l = some q) := Lib.hid (by rw [HVR.out, hq]; rfl)
      rw [← hq] at HI5
      clear hq HVR HQ
      have HM8 := Lib.hid HM7.out
      have HI8 := Lib.hid HI5.out
      by_cases hr : Rep q
      · obtain ⟨x, hx⟩ : ∃ x, q.num = x := ⟨_, rfl⟩
        obtain ⟨y, hy⟩ : ∃ x, (q.den : Int) = x := ⟨_, rfl⟩
        have HXY := Lib.hid (Lib.hid (And.intro hx hy))
        have HVF : Hid (VF x y) := Lib.hid (by rw [← hx, ← hy]; exact hr.vf)
        have HRQ := Lib.hid (Lib.hid hr)
        clear hx hy hr
        go_wp2_with fail
        refine (fracq_yes _ q x y HXY.out _ HI8.out HRQ.out).mono ?_
        rintro e t7 ⟨rfl, hb7⟩
        have HM9 := Lib.hid ((HM8.out.step hb7).alloc #[.int .i64 x, .int .i64 y] 23)
        have HE9 := Lib.hid (HE.out.below HM9.out.b)
        clear m0 m1 m2 n0 n1 n2 hlt7 hb7 HI8
        obtain ⟨d0, d1, -, -, hlt2⟩ := HM9.out.c2
        go_wp2_with fail
        refine (rprint x y _ HE9.out).mono ?_
        rintro e t8 ⟨t, zz, rfl, HT, hb8⟩
        have hMa := HM9.out.step hb8
        have HMa := Lib.hid hMa
        clear d0 d1 hlt2 hb8
        obtain ⟨d0, d1, -, -, hlt2⟩ := hMa.c2
        obtain ⟨c0, c1, f0, f1, hlt⟩ := hMa.tail.tail.c2
        clear hMa
        have HPQ : Hid ((t ≠ l → ParQ l 0 0 6) ∧ (t = l → ParQ l x y 0)) := Lib.hid (by
          have ht : t = printS x y := by
            have := HT.out
            rw [printT_yes ((vfB_iff x y).2 HVF.out)] at this
            simp only [Prod.mk.injEq] at this
            exact this.1.symm
          rw [ht]
          refine ⟨fun h => ParQ.rother HVQ.out ?_, fun h => ParQ.good HVF.out h⟩
          rw [HXY.out.out.1, HXY.out.out.2]; exact h)
        clear HT
        go_wp2
        · have h : (!t == l) = true := by assumption
          have hne : t ≠ l := by simpa using h
          refine bodyPost_ret (v := .tuple #[.agg #[.int .i64 0, .int .i64 0], .int .i64 6]) (by simp [results, Tryd.results9, go_sem, c0, c1]) rfl ⟨_, _, _, rfl, Lib.hid (HPQ.out.1 hne), ?_⟩
          exact (HMa.out.tail.tail.put2 _ _).b
        · have h : (!t == l) = false := by assumption
          have heq : t = l := by simpa using h
          refine bodyPost_ret (v := .tuple #[.agg #[.int .i64 x, .int .i64 y], .int .i64 0]) (by simp [results, Tryd.results9, go_sem, c0, c1]) rfl ⟨_, _, _, rfl, Lib.hid (HPQ.out.2 heq), ?_⟩
          exact (HMa.out.tail.tail.put2 _ _).b
      · have HP6 : Hid (ParQ l 0 0 6) := Lib.hid (ParQ.rbad HVQ.out hr)
        have HRQ := Lib.hid (Lib.hid hr)
        clear hr
        go_wp2_with fail
        refine (frac_no _ q _ HI8.out HRQ.out.out).mono ?_
        rintro e t7 ⟨rfl, hb7⟩
        have HM9 := Lib.hid ((HM8.out.step hb7).alloc #[.int .i64 0, .int .i64 0] 23)
        clear m0 m1 m2 n0 n1 n2 hlt7 hb7 HI8
        obtain ⟨c0, c1, f0, f1, hlt⟩ := HM9.out.tail.tail.c2
        go_wp2
        refine bodyPost_ret (v := .tuple #[.agg #[.int .i64 0, .int .i64 0], .int .i64 6]) (by simp [results, Tryd.results9, go_sem, c0, c1]) rfl ⟨_, _, _, rfl, HP6, ?_⟩
        exact (HM9.out.tail.tail.put2 _ _).b
    · obtain ⟨q, hq⟩ : ∃ q, q = qf := ⟨_, rfl⟩
      have HVQ : Hid (valR l = some q) := Lib.hid (by rw [HVR.out, hq]; rfl)
      go_wp2_with fail
      refine (minus_v _ qe qf HQ.out.2.2.2.2.2 _ HI5.out).mono ?_
      rintro e t6 ⟨j0, j1, j2, j3, j4, j5, j6, rfl, I6, hb6⟩
      have hM6 := HM7.out.step hb6
      have HM8 := Lib.hid (hM6.put3 (.bool j0) (.slice j1 j2 j3) (.slice j4 j5 j6))
      have HI8 : Hid (IsQ (((t6.setCell ⟨t5.heap.size, 0, none⟩ (.bool j0)).setCell ⟨t5.heap.size, 1, none⟩ (.slice j1 j2 j3)).setCell ⟨t5.heap.size, 2, none⟩ (.slice j4 j5 j6)) (.agg #[.bool j0, .slice j1 j2 j3, .slice j4 j5 j6]) q) := Lib.hid (by
        rw [hq]
        refine I6.store fun n hn => ?_
        have hc := hM6.cell 0
        rw [hn] at hc
        simp at hc)
      clear hq HVR HQ m0 m1 m2 n0 n1 n2 hlt7 I6 hb6
      obtain ⟨m0, m1, m2, n0, n1, n2, hlt7⟩ := hM6.q3
      obtain ⟨o0, o1, o2, -, -, -, -⟩ := HM8.out.q3
      clear hM6
      by_cases hr : Rep q
      · obtain ⟨x, hx⟩ : ∃ x, q.num = x := ⟨_, rfl⟩
        obtain ⟨y, hy⟩ : ∃ x, (q.den : Int) = x := ⟨_, rfl⟩
        have HXY := Lib.hid (Lib.hid (And.intro hx hy))
        have HVF : Hid (VF x y) := Lib.hid (by rw [← hx, ← hy]; exact hr.vf)
        have HRQ := Lib.hid (Lib.hid hr)
        clear hx hy hr
        go_wp2_with fail
        refine (fracq_yes _ q x y HXY.out _ HI8.out HRQ.out).mono ?_
        rintro e t7 ⟨rfl, hb7⟩
        have HM9 := Lib.hid ((HM8.out.step hb7).alloc #[.int .i64 x, .int .i64 y] 23)
        have HE9 := Lib.hid (HE.out.below HM9.out.b)
        clear m0 m1 m2 n0 n1 n2 hlt7 hb7 HI8
        obtain ⟨d0, d1, -, -, hlt2⟩ := HM9.out.c2
        go_wp2_with fail
        refine (rprint x y _ HE9.out).mono ?_
        rintro e t8 ⟨t, zz, rfl, HT, hb8⟩
        have hMa := HM9.out.step hb8
        have HMa := Lib.hid hMa
        clear d0 d1 hlt2 hb8
        obtain ⟨d0, d1, -, -, hlt2⟩ := hMa.c2
        obtain ⟨c0, c1, f0, f1, hlt⟩ := hMa.tail.tail.c2
        clear hMa
        have HPQ : Hid ((t ≠ l → ParQ l 0 0 6) ∧ (t = l → ParQ l x y 0)) := Lib.hid (by
          have ht : t = printS x y := by
            have := HT.out
            rw [printT_yes ((vfB_iff x y).2 HVF.out)] at this
            simp only [Prod.mk.injEq] at this
            exact this.1.symm
          rw [ht]
          refine ⟨fun h => ParQ.rother HVQ.out ?_, fun h => ParQ.good HVF.out h⟩
          rw [HXY.out.out.1, HXY.out.out.2]; exact h)
        clear HT
        go_wp2
        · have h : (!t == l) = true := by assumption
          have hne : t ≠ l := by simpa using h
          refine bodyPost_ret (v := .tuple #[.agg #[.int .i64 0, .int .i64 0], .int .i64 6]) (by simp [results, Tryd.results9, go_sem, c0, c1]) rfl ⟨_, _, _, rfl, Lib.hid (HPQ.out.1 hne), ?_⟩
          exact (HMa.out.tail.tail.put2 _ _).b
        · have h : (!t == l) = false := by assumption
          have heq : t = l := by simpa using h
          refine bodyPost_ret (v := .tuple #[.agg #[.int .i64 x, .int .i64 y], .int .i64 0]) (by simp [results, Tryd.results9, go_sem, c0, c1]) rfl ⟨_, _, _, rfl, Lib.hid (HPQ.out.2 heq), ?_⟩
          exact (HMa.out.tail.tail.put2 _ _).b
      · have HP6 : Hid (ParQ l 0 0 6) := Lib.hid (ParQ.rbad HVQ.out hr)
        have HRQ := Lib.hid (Lib.hid hr)
        clear hr
        go_wp2_with fail
        refine (frac_no _ q _ HI8.out HRQ.out.out).mono ?_
        rintro e t7 ⟨rfl, hb7⟩
        have HM9 := Lib.hid ((HM8.out.step hb7).alloc #[.int .i64 0, .int .i64 0] 23)
        clear m0 m1 m2 n0 n1 n2 hlt7 hb7 HI8
        obtain ⟨c0, c1, f0, f1, hlt⟩ := HM9.out.tail.tail.c2
        go_wp2
        refine bodyPost_ret (v := .tuple #[.agg #[.int .i64 0, .int .i64 0], .int .i64 6]) (by simp [results, Tryd.results9, go_sem, c0, c1]) rfl ⟨_, _, _, rfl, HP6, ?_⟩
        exact (HM9.out.tail.tail.put2 _ _).b
  · have HRN : Hid (ParQ l 0 0 6) := Lib.hid (ParQ.rnone (valR_none HG.out.out HU.out HC.out.out (by
      cases b1
      · exact .inl (HD1.out.2 rfl)
      · cases b2
        · exact .inr (.inl (HD2.out.2 rfl))
        · cases b3
          · exact .inr (.inr (.inl (HD3.out.2 rfl)))
          · have h0 : x3 = 0 := by
              simp only [true_and, ne_eq, Classical.not_not] at hall
              exact hall
            exact .inr (.inr (.inr (by have := (HD3.out.1 rfl).2.2; rw [h0] at this; exact this))))))
    have HMX := Lib.hid (HM5.out.put2 (.int .i64 0) (.int .i64 0))
    have hx : b1 = true → b2 = true → b3 = true → (x3 == 0) = true := fun h1 h2 h3 => by
      by_cases h0 : x3 = 0
      · simpa using h0
      · exact absurd ⟨h1, h2, h3, h0⟩ hall
    have HX := Lib.hid hx
    clear HD1 HD2 HD3 hall hx
    cases b1 <;> cases b2 <;> cases b3
    all_goals (
      first
        | (have hx0 := HX.out rfl rfl rfl; clear HX)
        | clear HX
      go_wp2
      refine bodyPost_ret (v := .tuple #[.agg #[.int .i64 0, .int .i64 0], .int .i64 6]) (by simp [results, Tryd.results9, go_sem, c0, c1]) rfl ⟨_, _, _, rfl, HRN, ?_⟩
      exact HMX.out.b)

set_option maxRecDepth 100000 in
set_option maxHeartbeats 6400000 in
theorem rparse_D (l r a0 b0 u v a b : List UInt8) (g k : Bool) (hg : Hid (signS l = (g, r))) (h32 : Hid (Lib.cut r [32] = (a0, b0, false))) (hk : Hid (Lib.contains a0 [47] = false)) (hb0 : b0 = []) (hu : Hid (splitR r = (u, v))) (hq : u = a0 ∧ v = [48, 47, 49]) (hc : Hid (Lib.cut v [47] = (a, b, k))) (hl : Hid ((r.length : Int) ≤ 4611686018427387904 ∧ (v.length : Int) ≤ 4611686018427387904)) (w : World) (he : Env w) :
    Calls Tryd.prog 9 #[.string ⟨l.toArray⟩] w fun e w' => ∃ x y z, e = .returned (.tuple #[.agg #[.int .i64 x, .int .i64 y], .int .i64 z]) ∧ Hid (ParQ l x y z) ∧ Below w.heap.size w w' := by
  have HM0 := Lib.hid ((Mem.nil w).alloc #[.int .i64 0, .int .i64 0] 23)
  have HE := Lib.hid he
  have HG := Lib.hid hg
  have HU := Lib.hid hu.out
  have HC := Lib.hid hc
  have HL := Lib.hid hl.out
  have H32 := Lib.hid h32
  clear he hg hu hc hl h32
  obtain ⟨rfl, rfl⟩ := hq
  subst hb0
  have HK := Lib.hid hk
  clear hk
  go_enter Tryd.func9, Tryd.ntmps9
  go_wp2_with fail
  refine (prefix_one l r g HG.out _).mono ?_
  rintro e w1 ⟨rfl, rfl⟩
  go_wp2_with fail
  refine (cut_one r 32 _ _ _ H32.out HL.out.1 _).mono ?_
  rintro e w2 ⟨rfl, hb⟩
  have HM1 := Lib.hid (HM0.out.step hb)
  clear hb 
  go_wp2_with fail
  refine (contains_one _ 47 _ HK.out _).mono ?_
  rintro e w3 ⟨rfl, rfl⟩
  go_wp2_with fail
  refine (digits_l _ _).mono ?_
  rintro e v1 ⟨x1, b1, rfl, HD1, hb⟩
  have HM2 := Lib.hid (HM1.out.step hb)
  clear hb
  go_wp2_with fail
  refine (cut_one _ 47 a b k HC.out HL.out.2 _).mono ?_
  rintro e v2 ⟨rfl, hb⟩
  have HM3 := Lib.hid (HM2.out.step hb)
  clear hb
  go_wp2_with fail
  refine (digits_l a _).mono ?_
  rintro e v3 ⟨x2, b2, rfl, HD2, hb⟩
  have HM4 := Lib.hid (HM3.out.step hb)
  clear hb
  go_wp2_with fail
  refine (digits_l b _).mono ?_
  rintro e v4 ⟨x3, b3, rfl, HD3, hb⟩
  have hM5 := HM4.out.step hb
  have HM5 := Lib.hid hM5
  obtain ⟨c0, c1, f0, f1, hlt⟩ := hM5.c2
  clear hb hM5 HM1 HM2 HM3 HM4
  by_cases hall : b1 = true ∧ b2 = true ∧ b3 = true ∧ x3 ≠ 0
  · obtain ⟨rfl, rfl, rfl, hx3⟩ := hall
    obtain ⟨p1, p2, p3⟩ := HD1.out.1 rfl
    obtain ⟨q1, q2, q3⟩ := HD2.out.1 rfl
    obtain ⟨r1, r2, r3⟩ := HD3.out.1 rfl
    have hx3b : (x3 == 0) = false := by simpa using hx3
    have hx3p : 0 < x3 := by omega
    obtain ⟨qa, ea⟩ : ∃ q : Rat, q = (x1 : Rat) := ⟨_, rfl⟩
    obtain ⟨qb, eb⟩ : ∃ q : Rat, q = (x2 : Rat) := ⟨_, rfl⟩
    obtain ⟨qc, ec⟩ : ∃ q : Rat, q = (x3 : Rat) := ⟨_, rfl⟩
    obtain ⟨qd, ed⟩ : ∃ q : Rat, q = qof x2 x3 := ⟨_, rfl⟩
    obtain ⟨qe, ee⟩ : ∃ q : Rat, q = qa + qd := ⟨_, rfl⟩
    obtain ⟨qf, ef⟩ : ∃ q : Rat, q = -qe := ⟨_, rfl⟩
    have HVR : Hid (valR l = some (if g = true then qf else qe)) := Lib.hid (by
      rw [valR_some HG.out.out HU.out HC.out.out p3 q3 r3 (by omega), ef, ee, ea, ed]
      rw [show ((x1.toNat : Nat) : Int) = x1 by omega, show ((x2.toNat : Nat) : Int) = x2 by omega, show ((x3.toNat : Nat) : Int) = x3 by omega])
    have HQ := Lib.hid (And.intro (Lib.hid ea) (And.intro (Lib.hid eb) (And.intro (Lib.hid ec) (And.intro (Lib.hid ed) (And.intro (Lib.hid ee) (Lib.hid ef))))))
    clear ea eb ec ed ee ef p3 q3 r3 HD1 HD2 HD3 hx3
    go_wp2_with fail
    refine (int_v x1 qa HQ.out.1 (by omega) (by omega) _).mono ?_
    rintro e t1 ⟨z1, rfl, I1, hb1⟩
    go_wp2_with fail
    refine (int_v x2 qb HQ.out.2.1 (by omega) (by omega) _).mono ?_
    rintro e t2 ⟨z2, rfl, I2, hb2⟩
    go_wp2_with fail
    refine (int_v x3 qc HQ.out.2.2.1 (by omega) (by omega) _).mono ?_
    rintro e t3 ⟨z3, rfl, I3, hb3⟩
    go_wp2_with fail
    refine (over_v z2 z3 x2 x3 qb qc qd HQ.out.2.1 HQ.out.2.2.1 HQ.out.2.2.2.1 hx3p (by omega) (by omega) (by omega) _ (I2.below hb3) I3).mono ?_
    rintro e t4 ⟨z4, rfl, I4, hb4⟩
    go_wp2_with fail
    refine (plus_v z1 z4 x1 x2 x3 qa qd qe HQ.out.1 HQ.out.2.2.2.1 HQ.out.2.2.2.2.1 hx3p (by omega) (by omega) (by omega) (by omega) (by omega) _ (((I1.below hb2).below hb3).below hb4) I4).mono ?_
    rintro e t5 ⟨k0, k1, k2, k3, k4, k5, k6, rfl, I5, hb5⟩
    have HM6 := Lib.hid (((((HM5.out.step hb1).step hb2).step hb3).step hb4).step hb5)
    have hM7 := HM6.out.alloc #[.bool k0, .slice k1 k2 k3, .slice k4 k5 k6] 45
    have HM7 := Lib.hid hM7
    have HI5 := Lib.hid (I5.below ((Below.refl _ _).alloc (Nat.le_refl _) (.cells #[.bool k0, .slice k1 k2 k3, .slice k4 k5 k6] 45)))
    obtain ⟨m0, m1, m2, n0, n1, n2, hlt7⟩ := hM7.q3
    clear hM7 I1 I2 I3 I4 I5 hb1 hb2 hb3 hb4 hb5 c0 c1 f0 f1 hlt
    cases g
    · obtain ⟨q, hq⟩ : ∃ q, q = qe := ⟨_, rfl⟩
      have HVQ : Hid (valR l = some q) := Lib.hid (by rw [HVR.out, hq]; rfl)
      rw [← hq] at HI5
      clear hq HVR HQ
      have HM8 := Lib.hid HM7.out
      have HI8 := Lib.hid HI5.out
      by_cases hr : Rep q
      · obtain ⟨x, hx⟩ : ∃ x, q.num = x := ⟨_, rfl⟩
        obtain ⟨y, hy⟩ : ∃ x, (q.den : Int) = x := ⟨_, rfl⟩
        have HXY := Lib.hid (Lib.hid (And.intro hx hy))
        have HVF : Hid (VF x y) := Lib.hid (by rw [← hx, ← hy]; exact hr.vf)
        have HRQ := Lib.hid (Lib.hid hr)
        clear hx hy hr
        go_wp2_with fail
        refine (fracq_yes _ q x y HXY.out _ HI8.out HRQ.out).mono ?_
        rintro e t7 ⟨rfl, hb7⟩
        have HM9 := Lib.hid ((HM8.out.step hb7).alloc #[.int .i64 x, .int .i64 y] 23)
        have HE9 := Lib.hid (HE.out.below HM9.out.b)
        clear m0 m1 m2 n0 n1 n2 hlt7 hb7 HI8
        obtain ⟨d0, d1, -, -, hlt2⟩ := HM9.out.c2
        go_wp2_with fail
        refine (rprint x y _ HE9.out).mono ?_
        rintro e t8 ⟨t, zz, rfl, HT, hb8⟩
        have hMa := HM9.out.step hb8
        have HMa := Lib.hid hMa
        clear d0 d1 hlt2 hb8
        obtain ⟨d0, d1, -, -, hlt2⟩ := hMa.c2
        obtain ⟨c0, c1, f0, f1, hlt⟩ := hMa.tail.tail.c2
        clear hMa
        have HPQ : Hid ((t ≠ l → ParQ l 0 0 6) ∧ (t = l → ParQ l x y 0)) := Lib.hid (by
          have ht : t = printS x y := by
            have := HT.out
            rw [printT_yes ((vfB_iff x y).2 HVF.out)] at this
            simp only [Prod.mk.injEq] at this
            exact this.1.symm
          rw [ht]
          refine ⟨fun h => ParQ.rother HVQ.out ?_, fun h => ParQ.good HVF.out h⟩
          rw [HXY.out.out.1, HXY.out.out.2]; exact h)
        clear HT
        go_wp2
        · have h : (!t == l) = true := by assumption
          have hne : t ≠ l := by simpa using h
          refine bodyPost_ret (v := .tuple #[.agg #[.int .i64 0, .int .i64 0], .int .i64 6]) (by simp [results, Tryd.results9, go_sem, c0, c1]) rfl ⟨_, _, _, rfl, Lib.hid (HPQ.out.1 hne), ?_⟩
          exact (HMa.out.tail.tail.put2 _ _).b
        · have h : (!t == l) = false := by assumption
          have heq : t = l := by simpa using h
          refine bodyPost_ret (v := .tuple #[.agg #[.int .i64 x, .int .i64 y], .int .i64 0]) (by simp [results, Tryd.results9, go_sem, c0, c1]) rfl ⟨_, _, _, rfl, Lib.hid (HPQ.out.2 heq), ?_⟩
          exact (HMa.out.tail.tail.put2 _ _).b
      · have HP6 : Hid (ParQ l 0 0 6) := Lib.hid (ParQ.rbad HVQ.out hr)
        have HRQ := Lib.hid (Lib.hid hr)
        clear hr
        go_wp2_with fail
        refine (frac_no _ q _ HI8.out HRQ.out.out).mono ?_
        rintro e t7 ⟨rfl, hb7⟩
        have HM9 := Lib.hid ((HM8.out.step hb7).alloc #[.int .i64 0, .int .i64 0] 23)
        clear m0 m1 m2 n0 n1 n2 hlt7 hb7 HI8
        obtain ⟨c0, c1, f0, f1, hlt⟩ := HM9.out.tail.tail.c2
        go_wp2
        refine bodyPost_ret (v := .tuple #[.agg #[.int .i64 0, .int .i64 0], .int .i64 6]) (by simp [results, Tryd.results9, go_sem, c0, c1]) rfl ⟨_, _, _, rfl, HP6, ?_⟩
        exact (HM9.out.tail.tail.put2 _ _).b
    · obtain ⟨q, hq⟩ : ∃ q, q = qf := ⟨_, rfl⟩
      have HVQ : Hid (valR l = some q) := Lib.hid (by rw [HVR.out, hq]; rfl)
      go_wp2_with fail
      refine (minus_v _ qe qf HQ.out.2.2.2.2.2 _ HI5.out).mono ?_
      rintro e t6 ⟨j0, j1, j2, j3, j4, j5, j6, rfl, I6, hb6⟩
      have hM6 := HM7.out.step hb6
      have HM8 := Lib.hid (hM6.put3 (.bool j0) (.slice j1 j2 j3) (.slice j4 j5 j6))
      have HI8 : Hid (IsQ (((t6.setCell ⟨t5.heap.size, 0, none⟩ (.bool j0)).setCell ⟨t5.heap.size, 1, none⟩ (.slice j1 j2 j3)).setCell ⟨t5.heap.size, 2, none⟩ (.slice j4 j5 j6)) (.agg #[.bool j0, .slice j1 j2 j3, .slice j4 j5 j6]) q) := Lib.hid (by
        rw [hq]
        refine I6.store fun n hn => ?_
        have hc := hM6.cell 0
        rw [hn] at hc
        simp at hc)
      clear hq HVR HQ m0 m1 m2 n0 n1 n2 hlt7 I6 hb6
      obtain ⟨m0, m1, m2, n0, n1, n2, hlt7⟩ := hM6.q3
      obtain ⟨o0, o1, o2, -, -, -, -⟩ := HM8.out.q3
      clear hM6
      by_cases hr : Rep q
      · obtain ⟨x, hx⟩ : ∃ x, q.num = x := ⟨_, rfl⟩
        obtain ⟨y, hy⟩ : ∃ x, (q.den : Int) = x := ⟨_, rfl⟩
        have HXY := Lib.hid (Lib.hid (And.intro hx hy))
        have HVF : Hid (VF x y) := Lib.hid (by rw [← hx, ← hy]; exact hr.vf)
        have HRQ := Lib.hid (Lib.hid hr)
        clear hx hy hr
        go_wp2_with fail
        refine (fracq_yes _ q x y HXY.out _ HI8.out HRQ.out).mono ?_
        rintro e t7 ⟨rfl, hb7⟩
        have HM9 := Lib.hid ((HM8.out.step hb7).alloc #[.int .i64 x, .int .i64 y] 23)
        have HE9 := Lib.hid (HE.out.below HM9.out.b)
        clear m0 m1 m2 n0 n1 n2 hlt7 hb7 HI8
        obtain ⟨d0, d1, -, -, hlt2⟩ := HM9.out.c2
        go_wp2_with fail
        refine (rprint x y _ HE9.out).mono ?_
        rintro e t8 ⟨t, zz, rfl, HT, hb8⟩
        have hMa := HM9.out.step hb8
        have HMa := Lib.hid hMa
        clear d0 d1 hlt2 hb8
        obtain ⟨d0, d1, -, -, hlt2⟩ := hMa.c2
        obtain ⟨c0, c1, f0, f1, hlt⟩ := hMa.tail.tail.c2
        clear hMa
        have HPQ : Hid ((t ≠ l → ParQ l 0 0 6) ∧ (t = l → ParQ l x y 0)) := Lib.hid (by
          have ht : t = printS x y := by
            have := HT.out
            rw [printT_yes ((vfB_iff x y).2 HVF.out)] at this
            simp only [Prod.mk.injEq] at this
            exact this.1.symm
          rw [ht]
          refine ⟨fun h => ParQ.rother HVQ.out ?_, fun h => ParQ.good HVF.out h⟩
          rw [HXY.out.out.1, HXY.out.out.2]; exact h)
        clear HT
        go_wp2
        · have h : (!t == l) = true := by assumption
          have hne : t ≠ l := by simpa using h
          refine bodyPost_ret (v := .tuple #[.agg #[.int .i64 0, .int .i64 0], .int .i64 6]) (by simp [results, Tryd.results9, go_sem, c0, c1]) rfl ⟨_, _, _, rfl, Lib.hid (HPQ.out.1 hne), ?_⟩
          exact (HMa.out.tail.tail.put2 _ _).b
        · have h : (!t == l) = false := by assumption
          have heq : t = l := by simpa using h
          refine bodyPost_ret (v := .tuple #[.agg #[.int .i64 x, .int .i64 y], .int .i64 0]) (by simp [results, Tryd.results9, go_sem, c0, c1]) rfl ⟨_, _, _, rfl, Lib.hid (HPQ.out.2 heq), ?_⟩
          exact (HMa.out.tail.tail.put2 _ _).b
      · have HP6 : Hid (ParQ l 0 0 6) := Lib.hid (ParQ.rbad HVQ.out hr)
        have HRQ := Lib.hid (Lib.hid hr)
        clear hr
        go_wp2_with fail
        refine (frac_no _ q _ HI8.out HRQ.out.out).mono ?_
        rintro e t7 ⟨rfl, hb7⟩
        have HM9 := Lib.hid ((HM8.out.step hb7).alloc #[.int .i64 0, .int .i64 0] 23)
        clear m0 m1 m2 n0 n1 n2 hlt7 hb7 HI8
        obtain ⟨c0, c1, f0, f1, hlt⟩ := HM9.out.tail.tail.c2
        go_wp2
        refine bodyPost_ret (v := .tuple #[.agg #[.int .i64 0, .int .i64 0], .int .i64 6]) (by simp [results, Tryd.results9, go_sem, c0, c1]) rfl ⟨_, _, _, rfl, HP6, ?_⟩
        exact (HM9.out.tail.tail.put2 _ _).b
  · have HRN : Hid (ParQ l 0 0 6) := Lib.hid (ParQ.rnone (valR_none HG.out.out HU.out HC.out.out (by
      cases b1
      · exact .inl (HD1.out.2 rfl)
      · cases b2
        · exact .inr (.inl (HD2.out.2 rfl))
        · cases b3
          · exact .inr (.inr (.inl (HD3.out.2 rfl)))
          · have h0 : x3 = 0 := by
              simp only [true_and, ne_eq, Classical.not_not] at hall
              exact hall
            exact .inr (.inr (.inr (by have := (HD3.out.1 rfl).2.2; rw [h0] at this; exact this))))))
    have HMX := Lib.hid (HM5.out.put2 (.int .i64 0) (.int .i64 0))
    have hx : b1 = true → b2 = true → b3 = true → (x3 == 0) = true := fun h1 h2 h3 => by
      by_cases h0 : x3 = 0
      · simpa using h0
      · exact absurd ⟨h1, h2, h3, h0⟩ hall
    have HX := Lib.hid hx
    clear HD1 HD2 HD3 hall hx
    cases b1 <;> cases b2 <;> cases b3
    all_goals (
      first
        | (have hx0 := HX.out rfl rfl rfl; clear HX)
        | clear HX
      go_wp2
      refine bodyPost_ret (v := .tuple #[.agg #[.int .i64 0, .int .i64 0], .int .i64 6]) (by simp [results, Tryd.results9, go_sem, c0, c1]) rfl ⟨_, _, _, rfl, HRN, ?_⟩
      exact HMX.out.b)


end Go.Proofs.YtmgbecfodinhhaaDoor

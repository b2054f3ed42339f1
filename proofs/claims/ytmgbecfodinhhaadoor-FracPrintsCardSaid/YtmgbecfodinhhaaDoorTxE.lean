/- The program's read and Parse. -/
import Derived.Test.YtmgbecfodinhhaaDoorTxD
namespace Go.Proofs.YtmgbecfodinhhaaDoor
open Go.RowKit

/-- What read answers. -/
def ReadR (l : List UInt8) (x y z : Int) : Prop := (readS l = none ∧ z ≠ 0) ∨ (∃ p q, readS l = some (p, q) ∧ newS p q = (x, y, z))

theorem read_none {l u v a b r : List UInt8} {g : Bool} {k : Bool} (h1 : signS l = (g, r)) (h2 : splitS r = (u, v)) (h3 : Lib.cut v [47] = (a, b, k)) (h : partS u = none ∨ partS a = none ∨ partS b = none) : readS l = none := by
  unfold readS piecesS
  rw [h1]
  simp only [h2, h3]
  rcases h with h | h | h
  · rw [h]
  · rw [h]; cases partS u <;> rfl
  · rw [h]; cases partS u <;> cases partS a <;> rfl

theorem read_some {l u v a b r : List UInt8} {g : Bool} {k : Bool} {x y z : Nat} (h1 : signS l = (g, r)) (h2 : splitS r = (u, v)) (h3 : Lib.cut v [47] = (a, b, k)) (hx : partS u = some x) (hy : partS a = some y) (hz : partS b = some z) :
    readS l = some (if g = true then -((x : Int) * z + y) else (x : Int) * z + y, (z : Int)) := by
  unfold readS piecesS
  rw [h1]
  simp only [h2, h3]
  rw [hx, hy, hz]

set_option maxRecDepth 100000 in
set_option maxHeartbeats 3200000 in
theorem read_p (l : List UInt8) (hs : l.length ≤ 140737488355328) (w : World) (he : Env w) :
    Calls Tryd.prog 15 #[.string ⟨l.toArray⟩] w fun e w' => ∃ x y z, e = .returned (.tuple #[.agg #[.int .i64 x, .int .i64 y], .int .i64 z]) ∧ Hid (ReadR l x y z) ∧ Below w.heap.size w w' := by
  obtain ⟨⟨g, r⟩, hg⟩ : ∃ x, signS l = x := ⟨_, rfl⟩
  have hrl : r.length ≤ l.length := by
    cases l with
    | nil => unfold signS at hg; simp at hg; rw [← hg.2]; simp
    | cons c t =>
      by_cases h : c = 45
      · subst h; rw [sign_neg] at hg; simp at hg; rw [← hg.2]; simp
      · have : signS (c :: t) = (false, c :: t) := by
          unfold signS
          split
          · rename_i r heq; simp only [List.cons.injEq] at heq; exact absurd heq.1 h
          · rfl
        rw [this] at hg; simp at hg; rw [← hg.2]; simp
  obtain ⟨⟨u, v⟩, hu⟩ : ∃ x, splitS r = x := ⟨_, rfl⟩
  have hsl := split_len r
  rw [hu] at hsl
  obtain ⟨⟨a, b, k⟩, hc⟩ : ∃ x, Lib.cut v [47] = x := ⟨_, rfl⟩
  have hcl := cut_len v [47]
  rw [hc] at hcl
  have HL : Hid (((r.length : Int) ≤ 4611686018427387904 ∧ (v.length : Int) ≤ 4611686018427387904) ∧ u.length ≤ 281474976710656 ∧ a.length ≤ 281474976710656 ∧ b.length ≤ 281474976710656) := Lib.hid (by simp only at hsl hcl; omega)
  have HG := Lib.hid (Lib.hid hg)
  have HU := Lib.hid (Lib.hid hu)
  have HC := Lib.hid (Lib.hid hc)
  have HM0 := Lib.hid ((Mem.nil w).alloc #[.int .i64 0, .int .i64 0] 23)
  have HE := Lib.hid (EnvS.start he)
  clear hrl hsl hcl hs he hg hu hc
  go_enter Tryd.func15, Tryd.ntmps15
  go_wp2_with fail
  refine (prefix_one l r g HG.out _).mono ?_
  rintro e w1 ⟨rfl, rfl⟩
  go_wp2_with fail
  refine (split_p r u v HU.out HL.out.1.1 _).mono ?_
  rintro e w2 ⟨rfl, hb⟩
  have HM1 := Lib.hid (HM0.out.step hb)
  clear hb
  go_wp2_with fail
  refine (cut_one v 47 a b k HC.out HL.out.1.2 _).mono ?_
  rintro e w3 ⟨rfl, hb⟩
  have HM2 := Lib.hid (HM1.out.step hb)
  clear hb
  have HE2 := Lib.hid (EnvS.start (HE.out.2.below HM2.out.b))
  go_wp2_with fail
  refine (part_p _ u HL.out.2.1 _ HE2.out).mono ?_
  rintro e w4 ⟨x1, b1, rfl, HP1, hb⟩
  have HM3 := Lib.hid (HM2.out.step hb)
  clear hb
  have HE3 := Lib.hid (EnvS.start (HE.out.2.below HM3.out.b))
  go_wp2_with fail
  refine (part_p _ a HL.out.2.2.1 _ HE3.out).mono ?_
  rintro e w5 ⟨x2, b2, rfl, HP2, hb⟩
  have HM4 := Lib.hid (HM3.out.step hb)
  clear hb
  have HE4 := Lib.hid (EnvS.start (HE.out.2.below HM4.out.b))
  go_wp2_with fail
  refine (part_p _ b HL.out.2.2.2 _ HE4.out).mono ?_
  rintro e w6 ⟨x3, b3, rfl, HP3, hb⟩
  have hM5 := HM4.out.step hb
  have HM5 := Lib.hid hM5
  obtain ⟨c0, c1, f0, f1, hlt⟩ := hM5.c2
  clear hb hM5 HM0 HM1 HM2 HM3 HM4 HE2 HE3 HE4 HE
  by_cases hall : b1 = true ∧ b2 = true ∧ b3 = true
  · obtain ⟨rfl, rfl, rfl⟩ := hall
    obtain ⟨p1, p2, p3⟩ := HP1.out.1 rfl
    obtain ⟨q1, q2, q3⟩ := HP2.out.1 rfl
    obtain ⟨r1, r2, r3⟩ := HP3.out.1 rfl
    have hmul0 : 0 ≤ x1 * x3 := Int.mul_nonneg p1 r1
    have hmul1 : x1 * x3 ≤ 1000000000000000000 := by
      have := Int.mul_le_mul p2 r2 r1 (by omega)
      simpa using this
    have HRS : Hid (readS l = some (if g = true then -(x1 * x3 + x2) else x1 * x3 + x2, x3)) := Lib.hid (by
      rw [read_some HG.out.out HU.out.out HC.out.out p3 q3 r3]
      rw [show ((x1.toNat : Nat) : Int) = x1 by omega, show ((x2.toNat : Nat) : Int) = x2 by omega, show ((x3.toNat : Nat) : Int) = x3 by omega])
    clear p3 q3 r3 HP1 HP2 HP3
    have hw1 : IntKind.i64.wrap (x1 * x3) = x1 * x3 := IntWalk.i64_in _ (by omega)
    obtain ⟨p, hp⟩ : ∃ p, p = x1 * x3 + x2 := ⟨_, rfl⟩
    have hp0 : 0 ≤ p := by omega
    have hp1 : p ≤ 2000000000000000000 := by omega
    rw [← hp] at HRS
    have HPE := Lib.hid hp
    clear hp
    cases g
    · have HRS' : Hid (readS l = some (p, x3)) := Lib.hid (by rw [HRS.out, if_neg (by decide)])
      go_wp2_with fail
      rw [← HPE.out]
      refine (new_p p x3 (by omega) (by omega) (by omega) (by omega) _).mono ?_
      rintro e w7 ⟨ra, rb, rc, rfl, HN, hb⟩
      have hM7 := (HM5.out.alloc #[.int .i64 p, .int .i64 x3] 59).step hb
      have HM7 := Lib.hid hM7
      clear hb c0 c1 f0 f1 hlt hM7
      obtain ⟨c0, c1, f0, f1, hlt⟩ := HM7.out.tail.c2
      go_wp2
      refine bodyPost_ret (v := .tuple #[.agg #[.int .i64 ra, .int .i64 rb], .int .i64 rc]) (by simp [results, Tryd.results15, go_sem, c0, c1]) rfl ⟨_, _, _, rfl, Lib.hid (.inr ⟨p, x3, HRS'.out, HN.out⟩), ?_⟩
      exact (HM7.out.tail.put2 _ _).b
    · have HRS' : Hid (readS l = some (-p, x3)) := Lib.hid (by rw [HRS.out, if_pos rfl])
      go_wp2_with fail
      rw [← HPE.out]
      refine (neg_r p x3 (by omega) (by omega) _).mono ?_
      rintro e w7 ⟨rfl, hb⟩
      have hM7 := (HM5.out.alloc #[.int .i64 p, .int .i64 x3] 59).step hb
      have HM7 := Lib.hid (hM7.put2 (.int .i64 (-p)) (.int .i64 x3))
      clear hb c0 c1 f0 f1 hlt
      obtain ⟨c0, c1, f0, f1, hlt⟩ := hM7.c2
      obtain ⟨d0, d1, -, -, -⟩ := HM7.out.c2
      clear hM7
      go_wp2_with fail
      refine (new_p (-p) x3 (by omega) (by omega) (by omega) (by omega) _).mono ?_
      rintro e w8 ⟨ra, rb, rc, rfl, HN, hb⟩
      have HM8 := Lib.hid (HM7.out.step hb)
      clear hb c0 c1 f0 f1 hlt d0 d1
      obtain ⟨c0, c1, f0, f1, hlt⟩ := HM8.out.tail.c2
      go_wp2
      refine bodyPost_ret (v := .tuple #[.agg #[.int .i64 ra, .int .i64 rb], .int .i64 rc]) (by simp [results, Tryd.results15, go_sem, c0, c1]) rfl ⟨_, _, _, rfl, Lib.hid (.inr ⟨-p, x3, HRS'.out, HN.out⟩), ?_⟩
      exact (HM8.out.tail.put2 _ _).b
  · have HRN : Hid (readS l = none) := Lib.hid (read_none HG.out.out HU.out.out HC.out.out (by
      cases b1
      · exact .inl (HP1.out.2 rfl)
      · cases b2
        · exact .inr (.inl (HP2.out.2 rfl))
        · cases b3
          · exact .inr (.inr (HP3.out.2 rfl))
          · simp at hall))
    have HMX := Lib.hid (HM5.out.put2 (.int .i64 0) (.int .i64 0))
    clear HP1 HP2 HP3
    cases b1 <;> cases b2 <;> cases b3
    all_goals first
      | exact absurd ⟨rfl, rfl, rfl⟩ hall
      | (clear hall
         go_wp2
         refine bodyPost_ret (v := .tuple #[.agg #[.int .i64 0, .int .i64 0], .int .i64 6]) (by simp [results, Tryd.results15, go_sem, c0, c1]) rfl ⟨_, _, _, rfl, Lib.hid (.inl ⟨HRN.out, by decide⟩), ?_⟩
         exact HMX.out.b)

end Go.Proofs.YtmgbecfodinhhaaDoor

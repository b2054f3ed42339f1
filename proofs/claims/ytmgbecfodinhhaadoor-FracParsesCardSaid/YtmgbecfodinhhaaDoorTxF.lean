/- The program's Parse. -/
import Derived.Test.YtmgbecfodinhhaaDoorTxE
namespace Go.Proofs.YtmgbecfodinhhaaDoor
open Go.RowKit

set_option maxRecDepth 100000 in
set_option maxHeartbeats 3200000 in
theorem parse_p (l : List UInt8) (hs : l.length ≤ 140737488355328) (w : World) (he : Env w) :
    Calls Tryd.prog 8 #[.string ⟨l.toArray⟩] w fun e w' => ∃ x y z, e = .returned (.tuple #[.agg #[.int .i64 x, .int .i64 y], .int .i64 z]) ∧ Hid (ParQ l x y z) ∧ Below w.heap.size w w' := by
  have HM0 := Lib.hid ((Mem.nil w).alloc #[.int .i64 0, .int .i64 0] 23)
  have HE := Lib.hid he
  have HE0 := Lib.hid (he.below HM0.out.b)
  have HS := Lib.hid hs
  clear he hs
  go_enter Tryd.func8, Tryd.ntmps8
  go_wp2_with fail
  refine (read_p l HS.out _ HE0.out).mono ?_
  rintro e w1 ⟨x, y, z, rfl, HR, hb⟩
  have HM1 := Lib.hid (HM0.out.step hb)
  have hM2 := HM1.out.alloc #[.int .i64 x, .int .i64 y] 23
  have HM2 := Lib.hid hM2
  obtain ⟨c0, c1, f0, f1, hlt⟩ := hM2.tail.c2
  obtain ⟨d0, d1, -, -, hlt2⟩ := hM2.c2
  clear hb hM2
  by_cases hz : z = 0
  · subst hz
    have HE2 := Lib.hid (HE.out.below HM2.out.b)
    go_wp2_with fail
    refine (print_p x y _ HE2.out).mono ?_
    rintro e w2 ⟨t, q, rfl, HT, hb⟩
    have hM3 := HM2.out.step hb
    have HM3 := Lib.hid hM3
    clear c0 c1 f0 f1 hlt d0 d1 hlt2 hb
    obtain ⟨d0, d1, -, -, hlt2⟩ := hM3.c2
    obtain ⟨c0, c1, f0, f1, hlt⟩ := hM3.tail.c2
    clear hM3
    have HQ : Hid ((t ≠ l → ParQ l 0 0 6) ∧ (t = l → ParQ l x y 0)) := Lib.hid (by
      rcases HR.out with ⟨_, h1⟩ | ⟨p, q', h1, h2⟩
      · exact absurd rfl h1
      · have hv := newS_ok h2
        have ht : t = printS x y := by
          have := HT.out
          rw [printT_yes ((vfB_iff x y).2 hv)] at this
          simp only [Prod.mk.injEq] at this
          exact this.1.symm
        rw [ht]
        exact ⟨fun h => ParQ.other h1 h2 h, fun h => ParQ.good hv h⟩)
    clear HT HR
    go_wp2
    · have h : (!t == l) = true := by assumption
      have hne : t ≠ l := by simpa using h
      refine bodyPost_ret (v := .tuple #[.agg #[.int .i64 0, .int .i64 0], .int .i64 6]) (by simp [results, Tryd.results8, go_sem, c0, c1]) rfl ⟨_, _, _, rfl, Lib.hid (HQ.out.1 hne), ?_⟩
      exact (HM3.out.tail.put2 _ _).b
    · have h : (!t == l) = false := by assumption
      have heq : t = l := by simpa using h
      refine bodyPost_ret (v := .tuple #[.agg #[.int .i64 x, .int .i64 y], .int .i64 0]) (by simp [results, Tryd.results8, go_sem, c0, c1]) rfl ⟨_, _, _, rfl, Lib.hid (HQ.out.2 heq), ?_⟩
      exact (HM3.out.tail.put2 _ _).b
  · have hzb : (z != 0) = true := by simpa using hz
    have HP : Hid (ParQ l 0 0 6) := Lib.hid (by
      rcases HR.out with ⟨h1, _⟩ | ⟨p, q, h1, h2⟩
      · exact ParQ.none_ h1
      · exact ParQ.bad h1 h2 hz)
    clear hz
    go_wp2
    refine bodyPost_ret (v := .tuple #[.agg #[.int .i64 0, .int .i64 0], .int .i64 6]) (by simp [results, Tryd.results8, go_sem, c0, c1]) rfl ⟨_, _, _, rfl, HP, ?_⟩
    exact (HM2.out.tail.put2 _ _).b

end Go.Proofs.YtmgbecfodinhhaaDoor

/- Skins: the closure of Parts, at a cell that is not usable or was seen. (The third way: a new part: its region draws, holds connected, measure and an append: to do.) -/
import Derived.Test.YtndhnpljdldlpabSkO
import Derived.Deep.AppendLies
namespace Go.Proofs.Ytndhnpljdldlpab
open Go.RowKit

set_option maxRecDepth 100000 in
set_option maxHeartbeats 3200000 in
theorem partsClo_old (w0 : World) (X : PL) (ss : List ByteArray) (hs : skB ss = true) (hg : 1 ≤ X.g) (st : List Pt × List (Int × Int)) (v : Value) (x y : Nat) (w : World) (h : PM w0 X ss st v w) (hold : usB ss X.g x y = false ∨ ((x : Int), (y : Int)) ∈ st.2) :
    Calls Try.prog 64 #[.agg #[.int .i64 x, .int .i64 y], .pointer (some ⟨X.pu, 0, none⟩), .pointer (some ⟨X.pm, 0, none⟩), .pointer (some ⟨X.pl, 0, none⟩)] w fun e w' => e = .returned (.tuple #[]) ∧ ∃ v', PM w0 X ss (partStep (usB ss X.g) st (x, y)) v' w' := by
  obtain ⟨n1, n2, n3⟩ := h.ne
  obtain ⟨us, hus⟩ : ∃ us, us = usB ss X.g := ⟨_, rfl⟩
  have HU : Hid (∀ w', PM w0 X ss st v w' → Calls Try.prog 67 #[.agg #[.int .i64 x, .int .i64 y], .pointer (some ⟨X.ps, 0, none⟩), .pointer (some ⟨X.pg, 0, none⟩)] w' fun e w'' => e = .returned (.bool (us x y)) ∧ Below w'.heap.size w' w'') := Lib.hid (fun w' hp => by
    rw [hus]; exact usable_any X.ps X.pg X.a X.cap ss hs X.g x y w' hp.lea)
  have hst : ∀ b, us x y = b → b = false → partStep us st ((x : Int), (y : Int)) = st := fun b h1 h2 => by
    unfold partStep; rw [if_neg]; simp [h1, h2]
  have hst2 : ((x : Int), (y : Int)) ∈ st.2 → partStep us st ((x : Int), (y : Int)) = st := fun h1 => by
    unfold partStep; rw [if_neg]; simp [h1]
  have HST := Lib.hid (And.intro hst hst2)
  have HP := Lib.hid h
  have HIN : Hid (us x y = true → (x : Int) < 48 ∧ (y : Int) < 48) := Lib.hid (fun hh => by
    rw [hus] at hh
    have := usB_in hg hh
    obtain ⟨⟨hl1, hl2⟩, ⟨hw1, hw2⟩, -⟩ := skB_iff.1 hs
    obtain ⟨a1, a2, a3, a4⟩ := this
    simp only at a1 a2 a3 a4
    omega)
  rw [← hus]
  have HM := Lib.hid ((Mem.nil w).alloc #[.int .i64 x, .int .i64 y] 93)
  have HP1 := Lib.hid (h.step ((Below.refl _ _).alloc (Nat.le_refl _) (.cells #[.int .i64 x, .int .i64 y] 93)))
  have c0 := cell_of_one h.hu
  have c1 := block_lt h.hu
  have HOLD : Hid (us x y = false ∨ ((x : Int), (y : Int)) ∈ st.2) := Lib.hid (by rw [hus]; exact hold)
  clear hst hst2 h n1 n2 n3 hs hold
  go_enter Try.func64, Try.ntmps64
  go_wp2_with fail
  refine (HU.out _ HP1.out).mono ?_
  rintro e w1 ⟨rfl, hb1⟩
  have HP2 := Lib.hid (HP1.out.step hb1)
  have HM2 := Lib.hid (HM.out.step hb1)
  obtain ⟨d0, d1, -, -, d2⟩ := HM2.out.c2
  have e0 := cell_of_one HP2.out.hm
  have e1 := cell_of_one HP2.out.hl
  have e2 := cell_of_one HP2.out.hu
  clear hb1 c0 c1
  cases huu : us x y with
  | false =>
    have HE := Lib.hid (HST.out.1 false huu rfl)
    clear huu
    go_wp2
    go_end0
    exact ⟨rfl, v, by rw [HE.out]; exact HP2.out⟩
  | true =>
    obtain ⟨hx48, hy48⟩ := HIN.out huu
    have hlk := HP2.out.seen.lookup (InI.of (x := x) (y := y) (by omega) (by omega))
    by_cases hmem : ((x : Int), (y : Int)) ∈ st.2
    · have HE := Lib.hid (HST.out.2 hmem)
      rw [decide_eq_true hmem] at hlk
      clear huu hmem
      go_wp2
      go_end0
      exact ⟨rfl, v, by rw [HE.out]; exact HP2.out⟩
    · exact absurd HOLD.out (by simp [huu, hmem])

end Go.Proofs.Ytndhnpljdldlpab

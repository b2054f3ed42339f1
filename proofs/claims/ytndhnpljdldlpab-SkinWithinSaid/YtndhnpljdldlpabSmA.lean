/- Skins: the closure of tableOf. -/
import Derived.Test.YtndhnpljdldlpabSlZ
import Derived.Test.YtndhnpljdldlpabSmC
import Derived.BigQuiet
import Derived.StillTailTactics
namespace Go.Proofs.Ytndhnpljdldlpab
open Go.RowKit

set_option maxRecDepth 100000 in
set_option maxHeartbeats 3200000 in
theorem tabClo (w0 : World) (pu pt p n B W H : Nat) (vu : Value) (hW : W ≤ 48) (hH : H ≤ 48) (f : Nat → Nat → Int) (hf : ∀ y x, y ≤ H → x ≤ W → 0 ≤ f y x ∧ f y x ≤ 2304) (x y : Nat) (hx : x < W) (hy : y < H) (U : Int → Int → Bool) (ps pg : Nat)
    (hvu : vu = .func (.func 67) #[] #[.pointer (some ⟨ps, 0, none⟩), .pointer (some ⟨pg, 0, none⟩)])
    (HU : ∀ w' (x y : Int), Below w0.heap.size w0 w' → Calls Try.prog 67 #[.agg #[.int .i64 x, .int .i64 y], .pointer (some ⟨ps, 0, none⟩), .pointer (some ⟨pg, 0, none⟩)] w' fun e w'' => e = .returned (.bool (U x y)) ∧ Below w'.heap.size w' w'')
    (w : World) (h : GM w0 pu pt p n B W H (H + 1) vu f w) :
    Calls Try.prog 68 #[.agg #[.int .i64 x, .int .i64 y], .pointer (some ⟨pt, 0, none⟩), .pointer (some ⟨pu, 0, none⟩)] w fun e w' => e = .returned (.tuple #[]) ∧ GM w0 pu pt p n B W H (H + 1) vu (tabStep U f x y) w' := by
  subst hvu
  have hM := (show Mem w0 [] w from ⟨h.b, by simp, .nil⟩).alloc #[.int .i64 x, .int .i64 y] 93
  have h1 := h.step ((Below.refl _ _).alloc (Nat.le_refl _) (.cells #[.int .i64 x, .int .i64 y] 93))
  have HG1 := Lib.hid h1
  have HMM := Lib.hid hM
  obtain ⟨l1, l2, l3, l4⟩ := h.lts
  have m1 := h.lm (y := y) (by omega)
  have m2 := h.lm (y := y + 1) (by omega)
  have c1 := h.ct
  have c2 := h.cp
  have c3 := h.cn (y := y) (by omega) (by omega)
  have c4 := h.cn (y := y + 1) (by omega) (by omega)
  have i1 : (y : Int) < ((H + 1 : Nat) : Int) := by omega
  have i2 : ((y + 1 : Nat) : Int) < ((H + 1 : Nat) : Int) := by omega
  have i3 : y < H + 1 := by omega
  have i4 : y + 1 < H + 1 := by omega
  have hw1 : IntKind.i64.wrap ((y : Int) + 1) = ((y + 1 : Nat) : Int) := by rw [IntWalk.i64_in _ (by omega)]; omega
  have hw2 : IntKind.i64.wrap ((x : Int) + 1) = ((x + 1 : Nat) : Int) := by rw [IntWalk.i64_in _ (by omega)]; omega
  have j1 : (x : Int) < ((W + 1 : Nat) : Int) := by omega
  have j2 : ((x + 1 : Nat) : Int) < ((W + 1 : Nat) : Int) := by omega
  have j3 : x < W + 1 := by omega
  have j4 : x + 1 < W + 1 := by omega
  have hle := h.le
  obtain ⟨L, hL⟩ : ∃ L : Nat, L = H + 1 := ⟨_, rfl⟩
  obtain ⟨K, hK⟩ : ∃ K : Nat, K = W + 1 := ⟨_, rfl⟩
  obtain ⟨S, hS⟩ : ∃ S : Nat, S = x + 1 := ⟨_, rfl⟩
  obtain ⟨T, hT⟩ : ∃ T : Nat, T = y + 1 := ⟨_, rfl⟩
  obtain ⟨By, hBy⟩ : ∃ b : Nat, b = B + y := ⟨_, rfl⟩
  obtain ⟨Bt, hBt⟩ : ∃ b : Nat, b = B + T := ⟨_, rfl⟩
  rw [← hL] at c2 i1 i2 i3 i4
  rw [← hK] at c3 c4 j1 j2 j3 j4
  rw [← hS] at hw2 j2 j4
  rw [← hT] at hw1 i2 i4 c4 m2
  rw [← hBy] at c3 m1
  rw [← hBt] at c4 m2
  have HF := Lib.hid (And.intro hL (And.intro hK (And.intro hS (And.intro hT (And.intro hBy hBt)))))
  have HX := Lib.hid (And.intro hx (And.intro hy (And.intro hf HU)))
  have HH := Lib.hid (And.intro h.lt (And.intro hle m2))
  clear hL hK hS hT hBy hBt hM h1 h hx hy hf HU hle
  go_enter Try.func68, Try.ntmps68
  go_wp2_with fail
  go_quiet (fail)
  go_wp2_with fail
  rename_i nq Kk ak
  have hb2 := below_drewN (Below.refl (w.alloc (.cells #[.int .i64 x, .int .i64 y] 93)).heap.size (w.alloc (.cells #[.int .i64 x, .int .i64 y] 93))) nq
  have h2 := HG1.out.step hb2
  have hm2 := HMM.out.step hb2
  obtain ⟨wr, hwr⟩ : ∃ wr, wr = (w.alloc (.cells #[.int .i64 x, .int .i64 y] 93)).drewN nq := ⟨_, rfl⟩
  rw [← hwr] at h2 hm2 ⊢
  clear hb2 hwr l1 l2 l3 l4 m1 m2 c1 c2 c3 c4
  obtain ⟨hL, hK, hS, hT, hBy, hBt⟩ := HF.out
  obtain ⟨hx, hy, hf, -⟩ := HX.out
  have a1 := h2.cm (y := y) (x := x) (by omega) (by omega)
  have a2 := h2.cm (y := y) (x := S) (by omega) (by omega)
  have a3 := h2.cm (y := T) (x := x) (by omega) (by omega)
  have a4 := h2.fm (y := T) (by omega) S
  have a5 := h2.cm (y := T) (x := S) (by omega) (by omega)
  have a6 := h2.cu
  have m1 := h2.lm (y := y) (by omega)
  have m2 := h2.lm (y := T) (by omega)
  obtain ⟨lu, -, -, -⟩ := h2.lts
  have b1 := hf y x (by omega) (by omega)
  have b2 := hf y S (by omega) (by omega)
  have b3 := hf T x (by omega) (by omega)
  have q1 := hm2.cell 0
  have q2 := hm2.cell 1
  have lq := hm2.head_lt
  simp at q1 q2
  obtain ⟨f1, hf1⟩ : ∃ a, a = f T x := ⟨_, rfl⟩
  obtain ⟨f2, hf2⟩ : ∃ a, a = f y S := ⟨_, rfl⟩
  obtain ⟨f3, hf3⟩ : ∃ a, a = f y x := ⟨_, rfl⟩
  rw [← hf1] at a3 b3
  rw [← hf2] at a2 b2
  rw [← hf3] at a1 b1
  rw [← hBy] at a1 a2 m1
  rw [← hBt] at a3 a4 a5 m2
  obtain ⟨v, hv⟩ : ∃ v, v = f1 + f2 - f3 := ⟨_, rfl⟩
  have hvb : -2304 ≤ v ∧ v ≤ 4608 := by omega
  have hx1 : IntKind.i64.wrap (f1 + f2) = f1 + f2 := IntWalk.i64_in _ (by omega)
  have hx2 : IntKind.i64.wrap (f1 + f2 - f3) = v := by rw [hv]; exact IntWalk.i64_in _ (by omega)
  have hx3 : IntKind.i64.wrap (v + 1) = v + 1 := IntWalk.i64_in _ (by omega)
  have HF2 := Lib.hid (And.intro hf1 (And.intro hf2 (And.intro hf3 hv)))
  have hs := h2.set (y := T) (by omega) S v
  rw [← hBt] at hs
  have HS2 := Lib.hid (hs.step (Below.refl _ _).drew)
  have hms := hm2.set_old (H := Bt) (by have := HH.out.2.1; have := HH.out.1; omega) HH.out.2.2 S (.int .i64 v)
  have HM2 := Lib.hid (hms.step (Below.refl _ _).drew)
  obtain ⟨hvb1, hvb2⟩ := hvb
  clear hf1 hf2 hf3 hv h2 hm2 b1 b2 b3 hL hK hS hT hBy hBt hx hy hf hs hms
  go_still_tail 23, (by kernel_rfl)
  go_upto_region 3 with fail
  have q3 := HM2.out.cell 0
  have q4 := HM2.out.cell 1
  have lq2 := HM2.out.head_lt
  have a7 := HS2.out.cu
  have lu2 := HS2.out.lts.1
  obtain ⟨wq, hwq⟩ : ∃ wq, wq = (wr.setCell ⟨Bt, S, none⟩ (.int .i64 v)).drew := ⟨_, rfl⟩
  rw [← hwq] at HM2 HS2 q3 q4 lq2 a7 lu2 ⊢
  clear hwq a1 a2 a3 a4 a5 a6 q1 q2 lq m1 m2 lu
  simp at q3 q4
  have HCU := Lib.hid (HX.out.2.2.2 wq x y HM2.out.b)
  cases hU : U x y with
  | true =>
    rw [hU] at HCU
    have HUU := Lib.hid hU
    clear hU
    go_wp2_with fail
    refine HCU.out.mono ?_
    rintro e w5 ⟨rfl, hb5⟩
    have h5 := HS2.out.step hb5
    have hm5 := HM2.out.step hb5
    obtain ⟨hL, hK, hS, hT, hBy, hBt⟩ := HF.out
    obtain ⟨hx, hy, hf, -⟩ := HX.out
    have a1 := h5.cm (y := T) (x := S) (by omega) (by omega)
    rw [if_pos ⟨rfl, rfl⟩] at a1
    have a2 := h5.fm (y := T) (by omega) S
    have m2 := h5.lm (y := T) (by omega)
    have k1 := hm5.cell 0
    have k2 := hm5.cell 1
    have lk := hm5.head_lt
    simp at k1 k2
    have hs5 := h5.set (y := T) (by omega) S (v + 1)
    rw [← hBt] at a1 a2 m2 hs5
    have HE := Lib.hid (hs5.congr (f' := tabStep U f x y) (fun y' x' _ _ => by
      obtain ⟨e1, e2, e3, e4⟩ := HF2.out
      unfold tabStep
      rw [← hT, ← hS, HUU.out]
      by_cases e : y' = T ∧ x' = S
      · rw [if_pos e, if_pos e]
        show _ = _ + (1 : Int)
        omega
      · rw [if_neg e, if_neg e, if_neg e]))
    clear q3 q4 lq2 a7 lu2 hb5 hs5 h5 hm5 hL hK hS hT hBy hBt hx hy hf
    go_wp2
    go_end0
    exact ⟨rfl, HE.out⟩
  | false =>
    rw [hU] at HCU
    have HUU := Lib.hid hU
    clear hU
    go_wp2_with fail
    refine HCU.out.mono ?_
    rintro e w5 ⟨rfl, hb5⟩
    have h5 := HS2.out.step hb5
    have HE := Lib.hid (h5.congr (f' := tabStep U f x y) (fun y' x' _ _ => by
      obtain ⟨e1, e2, e3, e4⟩ := HF2.out
      obtain ⟨hL, hK, hS, hT, hBy, hBt⟩ := HF.out
      unfold tabStep
      rw [← hT, ← hS, HUU.out]
      by_cases e : y' = T ∧ x' = S
      · rw [if_pos e, if_pos e]
        show _ = _ + (0 : Int)
        omega
      · rw [if_neg e, if_neg e]))
    clear q3 q4 lq2 a7 lu2 hb5 h5
    go_wp2
    go_end0
    exact ⟨rfl, HE.out⟩

end Go.Proofs.Ytndhnpljdldlpab

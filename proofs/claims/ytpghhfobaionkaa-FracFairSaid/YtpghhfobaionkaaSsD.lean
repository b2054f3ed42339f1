/- Sorting in place: a rotation; the comparison. -/
import Derived.Test.YtpghhfobaionkaaSsC
namespace Go.Proofs.Ytpghhfobaionkaa
open Go.RowKit

set_option maxRecDepth 100000 in
set_option maxHeartbeats 1600000 in
theorem rotate_any (g N C a m b : Nat) (T : TypeId) (fn : Value) (h1 : a < m) (h2 : m < b) (hb : b ≤ N) (hN : N ≤ 1000000) (f : Nat → Int) (w : World) (h : St w g N T f w) :
    Calls Try.prog 52 #[.slice (some ⟨g, 0, none⟩) N C, .int .i64 a, .int .i64 m, .int .i64 b, fn] w fun e w' => e = .returned (.tuple #[]) ∧ ∃ f', Hid (Rot N a m b f f') ∧ St w g N T f' w' := by
  have H := Lib.hid h
  have HR0 := Lib.hid (RotI.start N a m b f h1 h2)
  have e1 : (m : Int) - a = ((m - a : Nat) : Int) := by omega
  have e2 : (b : Int) - m = ((b - m : Nat) : Int) := by omega
  have e3 := IntWalk.i64_in ((m : Int) - a) (by omega)
  have e4 := IntWalk.i64_in ((b : Int) - m) (by omega)
  clear h
  go_enter Try.func52, Try.ntmps52
  go_wp2
  clear e1 e2 e3 e4
  go_loopw [10, 11] (fun x y wr => ∃ (i j : Nat) (c : Nat → Int), x = .int .i64 i ∧ y = .int .i64 j ∧ Hid (RotI N a m b f c i j) ∧ Hid (St w g N T c wr)) (fun x y _ => (intOf x).toNat + (intOf y).toNat)
  case atStart => exact ⟨_, _, f, rfl, rfl, HR0, H⟩
  case round =>
    obtain ⟨i, j, c, rfl, rfl, HI, HW⟩ := hrel
    have i0 := HI.out.i0
    have j0 := HI.out.j0
    have ia := HI.out.ia
    have jb := HI.out.jb
    have e5 : (m : Int) - i = ((m - i : Nat) : Int) := by omega
    by_cases hij : i = j
    · subst hij
      have hne : ((i : Int) != (i : Int)) = false := by simp
      go_wp2_with fail
      refine (swapRange_any g N C (m - i) m i T fn (by omega) (by omega) hN c _ HW.out.self).mono ?_
      rintro e w1 ⟨rfl, d, HS, hW1⟩
      go_wp2
      go_end0
      exact ⟨rfl, d, Lib.hid (HI.out.done hb HS.out), HW.out.trans hW1⟩
    · have hne : ((i : Int) != (j : Int)) = true := by rw [bne_iff_ne]; omega
      have hij' : (i : Int) ≠ j := by omega
      by_cases hlt : j < i
      · have e6 : (i : Int) - j = ((i - j : Nat) : Int) := by omega
        go_wp2_with fail
        refine (swapRange_any g N C (m - i) m j T fn (by omega) (by omega) hN c _ HW.out.self).mono ?_
        rintro e w1 ⟨rfl, d, HS, hW1⟩
        have HI' := Lib.hid (HI.out.left hlt hb HS.out)
        have HW' := Lib.hid (HW.out.trans hW1)
        clear e5 hW1
        go_wp2
        go_roundw
        case rel => exact ⟨i - j, j, d, rfl, rfl, HI', HW'⟩
        case measure => simp [intOf]; omega
      · have e6 : (j : Int) - i = ((j - i : Nat) : Int) := by omega
        have e7 : (m : Int) + j - i = ((m + j - i : Nat) : Int) := by omega
        have hge : ¬ (j : Int) < i := by omega
        go_wp2_with fail
        refine (swapRange_any g N C (m - i) (m + j - i) i T fn (by omega) (by omega) hN c _ HW.out.self).mono ?_
        rintro e w1 ⟨rfl, d, HS, hW1⟩
        have HI' := Lib.hid (HI.out.right (by omega) hb HS.out)
        have HW' := Lib.hid (HW.out.trans hW1)
        clear e5 e7 hW1
        go_wp2
        go_roundw
        case rel => exact ⟨i, j - i, d, rfl, rfl, HI', HW'⟩
        case measure => simp [intOf]; omega

/-- The remainder of n * w[x] / all, the key of position x. -/
def keyOf (n all : Int) (ws : List Int) (x : Int) : Int := (n * ws.getD x.toNat 0) % all

/-- What the comparison has captured. -/
structure Cap (w0 : World) (g b3 b4 b5 : Nat) (av : Option Addr) (cap : Nat) (n all : Int) (ws : List Int) : Prop where
  h3 : b3 ≠ g
  h4 : b4 ≠ g
  h5 : b5 ≠ g
  c3 : w0.cell? ⟨b3, 0, none⟩ = some (.int .i64 n)
  c4 : w0.cell? ⟨b4, 0, none⟩ = some (.slice av ws.length cap)
  c5 : w0.cell? ⟨b5, 0, none⟩ = some (.int .i64 all)
  cw : ∀ k (h : k < ws.length), ∃ b off, av = some ⟨b, off, none⟩ ∧ b ≠ g ∧ w0.cell? ⟨b, off + k, none⟩ = some (.int .i64 ws[k])
  n0 : 0 ≤ n
  n1 : n ≤ 1000000000
  a0 : 0 < all
  a1 : all ≤ 1000000000000
  z : ∀ z ∈ ws, 0 ≤ z ∧ z ≤ 1000000000
  len : ws.length ≤ 64

theorem Cap.st {w0 w : World} {g b3 b4 b5 N : Nat} {T : TypeId} {f : Nat → Int} {av : Option Addr} {cap : Nat} {n all : Int} {ws : List Int} (h : Cap w0 g b3 b4 b5 av cap n all ws) (s : St w0 g N T f w) : Cap w g b3 b4 b5 av cap n all ws :=
  ⟨h.h3, h.h4, h.h5, by rw [s.ocell h.h3]; exact h.c3, by rw [s.ocell h.h4]; exact h.c4, by rw [s.ocell h.h5]; exact h.c5,
    fun k hk => by obtain ⟨b, off, e, hb, hc⟩ := h.cw k hk; exact ⟨b, off, e, hb, by rw [s.ocell hb]; exact hc⟩, h.n0, h.n1, h.a0, h.a1, h.z, h.len⟩

/-- The comparison's value. -/
def cmpV (fid b3 b4 b5 : Nat) : Value := .func (.func fid) #[] #[.pointer (some ⟨b3, 0, none⟩), .pointer (some ⟨b4, 0, none⟩), .pointer (some ⟨b5, 0, none⟩)]

/-- -1, 0, 1. -/
def cmp3 (a b : Int) : Int := if a < b then -1 else if b < a then 1 else 0
theorem cmp3_neg {a b : Int} : cmp3 a b < 0 ↔ a < b := by
  unfold cmp3
  split
  · omega
  · split <;> omega

set_option maxRecDepth 100000 in
set_option maxHeartbeats 1600000 in
theorem compare_i3 (a b : Int) (c : Int) (hc : Hid (cmp3 a b = c)) (w : World) : Calls Try.prog 29 #[.int .i64 a, .int .i64 b] w fun e w' => e = .returned (.int .i64 c) ∧ w' = w := by
  rw [← hc.out]
  unfold cmp3
  by_cases h1 : a < b
  · rw [if_pos h1]
    go_enter Try.func29, Try.ntmps29
    go_wp2
    go_ret
    exact ⟨rfl, rfl⟩
  · rw [if_neg h1]
    by_cases h2 : b < a
    · rw [if_pos h2]
      go_enter Try.func29, Try.ntmps29
      go_wp2
      go_ret
      exact ⟨rfl, rfl⟩
    · rw [if_neg h2]
      go_enter Try.func29, Try.ntmps29
      go_wp2
      go_ret
      exact ⟨rfl, rfl⟩

set_option maxRecDepth 100000 in
set_option maxHeartbeats 1600000 in
theorem cmp_c (g b3 b4 b5 : Nat) (av : Option Addr) (cap : Nat) (n all : Int) (ws : List Int) (x y c : Int) (hx : 0 ≤ x) (hx2 : x < ws.length) (hy : 0 ≤ y) (hy2 : y < ws.length) (w : World) (h : Cap w g b3 b4 b5 av cap n all ws) (hc : Hid (cmp3 (keyOf n all ws y) (keyOf n all ws x) = c)) :
    Calls Try.prog 28 #[.int .i64 x, .int .i64 y, .pointer (some ⟨b3, 0, none⟩), .pointer (some ⟨b4, 0, none⟩), .pointer (some ⟨b5, 0, none⟩)] w fun e w' => e = .returned (.int .i64 c) ∧ ∃ k, w' = w.drewN k := by
  obtain ⟨b, off, rfl, -, cx⟩ := h.cw x.toNat (by omega)
  obtain ⟨b', off', he, -, cy⟩ := h.cw y.toNat (by omega)
  simp only [Option.some.injEq, Addr.mk.injEq, and_true] at he
  obtain ⟨rfl, rfl⟩ := he
  have zx := h.z _ (List.getElem_mem (show x.toNat < ws.length by omega))
  have zy := h.z _ (List.getElem_mem (show y.toNat < ws.length by omega))
  have kx : keyOf n all ws x = (n * ws[x.toNat]) % all := by
    unfold keyOf; rw [List.getD_eq_getElem?_getD, List.getElem?_eq_getElem (show x.toNat < ws.length by omega)]; rfl
  have ky : keyOf n all ws y = (n * ws[y.toNat]) % all := by
    unfold keyOf; rw [List.getD_eq_getElem?_getD, List.getElem?_eq_getElem (show y.toNat < ws.length by omega)]; rfl
  rw [kx, ky] at hc
  obtain ⟨u, hu⟩ : ∃ u, u = ws[x.toNat] := ⟨_, rfl⟩
  obtain ⟨v, hv⟩ : ∃ u, u = ws[y.toNat] := ⟨_, rfl⟩
  rw [← hu] at cx zx hc
  rw [← hv] at cy zy hc
  have n0 := h.n0
  have n1 := h.n1
  have a0 := h.a0
  have a1 := h.a1
  have m0 : 0 ≤ n * u := Int.mul_nonneg n0 zx.1
  have m1 : n * u ≤ 1000000000000000000 := by have := Int.mul_le_mul n1 zx.2 zx.1 (by omega); simpa using this
  have m2 : 0 ≤ n * v := Int.mul_nonneg n0 zy.1
  have m3 : n * v ≤ 1000000000000000000 := by have := Int.mul_le_mul n1 zy.2 zy.1 (by omega); simpa using this
  have w1 : IntKind.i64.wrap (n * u) = n * u := IntWalk.i64_in _ (by omega)
  have w2 : IntKind.i64.wrap (n * v) = n * v := IntWalk.i64_in _ (by omega)
  have q1 : (n * u).tmod all = (n * u) % all := Int.tmod_eq_emod_of_nonneg m0
  have q2 : (n * v).tmod all = (n * v) % all := Int.tmod_eq_emod_of_nonneg m2
  have hz : all ≠ 0 := by omega
  have hzb : (all == 0) = false := by simpa using hz
  have k3 := h.c3
  have k4 := h.c4
  have k5 := h.c5
  clear hu hv kx ky h zx zy
  go_enter Try.func28, Try.ntmps28
  go_wp2_with fail
  go_quiet ((go_at_call 29; exact Calls.quiet_of_same (compare_i3 _ _ c hc _)))
  go_wp2
  go_ret
  exact ⟨rfl, _, rfl⟩

end Go.Proofs.Ytpghhfobaionkaa

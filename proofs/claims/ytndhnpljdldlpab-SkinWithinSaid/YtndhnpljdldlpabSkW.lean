/- Skins: count, Grades. -/
import Derived.Test.YtndhnpljdldlpabSkV
import Derived.Laws.EntriesVeiled
import Derived.WideLaws
namespace Go.Proofs.Ytndhnpljdldlpab
open Go.RowKit

set_option maxRecDepth 100000 in
set_option maxHeartbeats 1600000 in
theorem walk_count (a : Option Addr) (cap : Nat) (ss : List ByteArray) (hs : skB ss = true) (p1 p2 : Value) (I : Nat → Nat → World → Prop) (w : World) (h : StrS w a ss) (h0 : I 0 0 w)
    (hrow : ∀ y w', I y (wid ss) w' → I (y + 1) 0 w')
    (hstep : ∀ x y w', x < wid ss → y < ss.length → I y x w' → Calls Try.prog 91 #[.agg #[.int .i64 x, .int .i64 y], p1, p2] w' fun e w'' => e = .returned (.tuple #[]) ∧ I y (x + 1) w'') :
    Calls Try.prog 63 #[.slice a ss.length cap, .func (.func 91) #[] #[p1, p2]] w fun e w' => e = .returned (.tuple #[]) ∧ I ss.length 0 w' := by
  obtain ⟨⟨hl1, hl2⟩, ⟨hw1, hw2⟩, -⟩ := skB_iff.1 hs
  have HSZ : Hid (Calls Try.prog 58 #[.slice a ss.length cap] w fun e w'' => e = .returned (.tuple #[.int .i64 (wid ss), .int .i64 ss.length]) ∧ w = w'') := Lib.hid (skSize_any a cap ss (by omega) (by omega) w h)
  obtain ⟨W, hW⟩ : ∃ W, W = wid ss := ⟨_, rfl⟩
  obtain ⟨H, hH⟩ : ∃ H, H = ss.length := ⟨_, rfl⟩
  rw [← hW] at HSZ hrow hstep hw1 hw2
  rw [← hH] at hstep hl1 hl2 ⊢
  have hSZ := HSZ.out
  rw [← hH] at hSZ
  have HSZ2 := Lib.hid hSZ
  have HROW := Lib.hid hrow
  have HSTEP := Lib.hid hstep
  have H0 := Lib.hid h0
  clear hrow hstep h0 hW hH h hs HSZ hSZ
  go_enter Try.func63, Try.ntmps63
  go_wp2_with fail
  refine HSZ2.out.mono ?_
  rintro e w1 ⟨rfl, rfl⟩
  go_wp2
  go_loopg [14] H (fun gk i wr => ∃ y : Nat, y + gk = H ∧ i = .int .i64 y ∧ Hid (I y 0 wr))
  case atStart => exact ⟨0, by omega, rfl, H0⟩
  case round =>
    obtain ⟨y, hy, rfl, HI⟩ := hrel
    by_cases hlt : y < H
    · obtain ⟨gk', rfl⟩ : ∃ m, gk = m + 1 := ⟨gk - 1, by omega⟩
      have hlt' : (y : Int) < H := by omega
      go_wp2
      go_loopg [18] W (fun gj i wr => ∃ x : Nat, x + gj = W ∧ i = .int .i64 x ∧ Hid (I y x wr))
      case atStart => exact ⟨0, by omega, rfl, HI⟩
      case round =>
        obtain ⟨x, hx, rfl, HI2⟩ := hrel
        by_cases hlx : x < W
        · obtain ⟨gj', rfl⟩ : ∃ m, gk = m + 1 := ⟨gk - 1, by omega⟩
          have hlx' : (x : Int) < W := by omega
          go_wp2_with fail
          refine (HSTEP.out x y _ hlx hlt HI2.out).mono ?_
          rintro e w3 ⟨rfl, hi3⟩
          have HI3 := Lib.hid hi3
          clear hi3
          go_wp2
          go_roundg gj'
          case measure => exact Nat.lt_succ_self _
          case rel => exact ⟨x + 1, by omega, by go_num, HI3⟩
        · obtain rfl : x = W := by omega
          have hlx' : ¬ (x : Int) < x := by omega
          go_wp2
          go_roundg gk'
          case measure => exact Nat.lt_succ_self _
          case rel => exact ⟨y + 1, by omega, by go_num, Lib.hid (HROW.out _ _ HI2.out)⟩
    · obtain rfl : y = H := by omega
      go_wp2
      go_end0
      exact ⟨rfl, HI.out⟩

theorem cA_zero : cA 10 (fun _ => 0) = #[.int .i64 0, .int .i64 0, .int .i64 0, .int .i64 0, .int .i64 0, .int .i64 0, .int .i64 0, .int .i64 0, .int .i64 0, .int .i64 0] := rfl
theorem cA_ten (f : Nat → Int) : cA 10 f = #[.int .i64 (f 0), .int .i64 (f 1), .int .i64 (f 2), .int .i64 (f 3), .int .i64 (f 4), .int .i64 (f 5), .int .i64 (f 6), .int .i64 (f 7), .int .i64 (f 8), .int .i64 (f 9)] := rfl

set_option maxRecDepth 100000 in
set_option maxHeartbeats 1600000 in
theorem count_any (a : Option Addr) (cap : Nat) (ss : List ByteArray) (hs : skB ss = true) (w : World) (h : StrS w a ss) :
    Calls Try.prog 62 #[.slice a ss.length cap] w fun e w' => e = .returned (.agg (cA 10 (cntTo ss (wid ss) ss.length 0))) ∧ Below w.heap.size w w' := by
  obtain ⟨⟨hl1, hl2⟩, ⟨hw1, hw2⟩, -⟩ := skB_iff.1 hs
  have HW : Hid (∀ w0 w1 n ps T, CT w0 n 10 T (fun _ => 0) w1 → w0.cell? ⟨ps, 0, none⟩ = some (.slice a ss.length cap) → ps < w0.heap.size → StrS w0 a ss → Calls Try.prog 63 #[.slice a ss.length cap, .func (.func 91) #[] #[.pointer (some ⟨n, 0, none⟩), .pointer (some ⟨ps, 0, none⟩)]] w1 fun e w' => e = .returned (.tuple #[]) ∧ CT w0 n 10 T (cntTo ss (wid ss) ss.length 0) w') := Lib.hid (fun w0 w1 n ps T hc hp hlt hS => by
    refine walk_count a cap ss hs _ _ (fun y x w' => CT w0 n 10 T (cntTo ss (wid ss) y x) w') w1 (hS.below hc.b) hc (fun y w' hi => by rw [cntTo_row]; exact hi) (fun x y w' hx hy hi => ?_)
    have hmul : y * wid ss ≤ 47 * 48 := Nat.mul_le_mul (by omega) hw2
    rw [cntTo_next]
    exact countClo_any w0 ps n a cap ss hs T _ (fun k => by have := cntTo_bounds ss (wid ss) y x k; omega) x y w' hi hp hlt hS)
  obtain ⟨F, hF⟩ : ∃ F, F = cntTo ss (wid ss) ss.length 0 := ⟨_, rfl⟩
  rw [← hF] at HW ⊢
  have HS := Lib.hid h
  clear hs h hF
  go_enter Try.func62, Try.ntmps62
  go_wp2_with fail
  have hc0 : CT ((w.alloc (.cells #[.slice a ss.length cap] 22)).alloc (.cells (cA 10 fun _ => 0) 112)) (w.heap.size + 1 + 1) 10 112 (fun _ => 0) (((w.alloc (.cells #[.slice a ss.length cap] 22)).alloc (.cells (cA 10 fun _ => 0) 112)).alloc (.cells (cA 10 fun _ => 0) 112)) :=
    ⟨(Below.refl _ _).alloc (Nat.le_refl _) _, by simp, by
      have h := heap_alloc_new ((w.alloc (.cells #[.slice a ss.length cap] 22)).alloc (.cells (cA 10 fun _ => 0) 112)) (.cells (cA 10 fun _ => 0) 112)
      simp only [World.size_alloc] at h
      exact h⟩
  have hps : ((w.alloc (.cells #[.slice a ss.length cap] 22)).alloc (.cells (cA 10 fun _ => 0) 112)).cell? ⟨w.heap.size, 0, none⟩ = some (.slice a ss.length cap) := by simp
  have hb0 : Below w.heap.size w ((w.alloc (.cells #[.slice a ss.length cap] 22)).alloc (.cells (cA 10 fun _ => 0) 112)) := ((Below.refl _ _).alloc (Nat.le_refl _) _).alloc (by simp) _
  have hrb : ((w.alloc (.cells #[.slice a ss.length cap] 22)).alloc (.cells (cA 10 fun _ => 0) 112)).heap[w.heap.size + 1]? = some (.cells (cA 10 fun _ => 0) 112 (0, 0)) := by
    have h := heap_alloc_new (w.alloc (.cells #[.slice a ss.length cap] 22)) (.cells (cA 10 fun _ => 0) 112)
    simp only [World.size_alloc] at h
    exact h
  refine (HW.out _ _ _ _ _ hc0 hps (by simp; omega) (HS.out.below hb0)).mono ?_
  rintro e w2 ⟨rfl, hct⟩
  have HB := Lib.hid (hb0.trans (hct.b.mono hb0.size))
  have hR : CT w (w.heap.size + 1) 10 112 (fun _ => 0) w2 := ⟨HB.out, Nat.le_succ _, (hct.b.block _ (by simp)).trans hrb⟩
  have HR := Lib.hid hR
  have r0 := hR.cell (i := 0) (by omega)
  have r1 := hR.cell (i := 1) (by omega)
  have r2 := hR.cell (i := 2) (by omega)
  have r3 := hR.cell (i := 3) (by omega)
  have r4 := hR.cell (i := 4) (by omega)
  have r5 := hR.cell (i := 5) (by omega)
  have r6 := hR.cell (i := 6) (by omega)
  have r7 := hR.cell (i := 7) (by omega)
  have r8 := hR.cell (i := 8) (by omega)
  have r9 := hR.cell (i := 9) (by omega)
  have rf := hR.frozen
  have rl := hR.lt
  have e0 := hct.cell (i := 0) (by omega)
  have e1 := hct.cell (i := 1) (by omega)
  have e2 := hct.cell (i := 2) (by omega)
  have e3 := hct.cell (i := 3) (by omega)
  have e4 := hct.cell (i := 4) (by omega)
  have e5 := hct.cell (i := 5) (by omega)
  have e6 := hct.cell (i := 6) (by omega)
  have e7 := hct.cell (i := 7) (by omega)
  have e8 := hct.cell (i := 8) (by omega)
  have e9 := hct.cell (i := 9) (by omega)
  have el := hct.lt
  clear hct hc0 hps hb0 hrb hR
  go_wp2
  refine bodyPost_ret (v := .agg (cA 10 F)) (by rw [cA_ten]; simp [results, Try.results62, go_sem, r0, r1, r2, r3, r4, r5, r6, r7, r8, r9]) rfl ⟨rfl, ?_⟩
  exact (((((((((HB.out.setCell (Nat.le_succ _) _).setCell (Nat.le_succ _) _).setCell (Nat.le_succ _) _).setCell (Nat.le_succ _) _).setCell (Nat.le_succ _) _).setCell (Nat.le_succ _) _).setCell (Nat.le_succ _) _).setCell (Nat.le_succ _) _).setCell (Nat.le_succ _) _).setCell (Nat.le_succ _) _

end Go.Proofs.Ytndhnpljdldlpab

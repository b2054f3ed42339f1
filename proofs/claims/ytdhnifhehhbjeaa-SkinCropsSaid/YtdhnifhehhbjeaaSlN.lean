/- Skins: Trim of the program. -/
import Derived.Test.YtdhnifhehhbjeaaSlM
import Derived.Test.YtdhnifhehhbjeaaSkI
import Derived.Test.YtdhnifhehhbjeaaSkS
namespace Go.Proofs.Ytdhnifhehhbjeaa
open Go.RowKit

/-- What Trim answers of the cells with leather. -/
def trimV (l : List (Int × Int)) : Int × Int × Int × Int × Int :=
  if l = [] then (0, 0, 0, 0, 7) else
    let b := boxS ((l.getD 0 (0, 0)).1, (l.getD 0 (0, 0)).2, (l.getD 0 (0, 0)).1, (l.getD 0 (0, 0)).2) l
    (b.1, b.2.1, b.2.2.1 - b.1 + 1, b.2.2.2 - b.2.1 + 1, 0)
theorem trimV_nil : trimV [] = (0, 0, 0, 0, 7) := rfl
theorem trimV_some {l : List (Int × Int)} (h : 0 < l.length) {p q r s : Int} (hb : boxS (l[0].1, l[0].2, l[0].1, l[0].2) l = (p, q, r, s)) : trimV l = (p, q, r - p + 1, s - q + 1, 0) := by
  have hg0 : l.getD 0 (0, 0) = l[0] := by rw [List.getD_eq_getElem?_getD, List.getElem?_eq_getElem h]; rfl
  unfold trimV
  rw [if_neg (fun e => by rw [e] at h; simp at h), hg0, hb]

set_option maxRecDepth 100000 in
set_option maxHeartbeats 1600000 in
theorem trim_yes (a : Option Addr) (cap : Nat) (ss : List ByteArray) (hs : skB ss = true) (w : World) (h : StrS w a ss) (v1 v2 v3 v4 v5 : Int) (hv : trimV (trimTo ss (wid ss) ss.length 0) = (v1, v2, v3, v4, v5)) :
    Calls Try.prog 36 #[.slice a ss.length cap] w fun e w' => e = .returned (.tuple #[.agg #[.int .i64 v1, .int .i64 v2, .int .i64 v3, .int .i64 v4], .int .i64 v5]) ∧ Below w.heap.size w w' := by
  obtain ⟨⟨hl1, hl2⟩, ⟨hw1, hw2⟩, -⟩ := skB_iff.1 hs
  have HV : Hid (∀ w', Below w.heap.size w w' → Calls Try.prog 17 #[.slice a ss.length cap] w' fun e w'' => e = .returned (.bool true) ∧ w' = w'') := Lib.hid (fun w' hb => by
    rw [← hs]; exact skValid_any a cap ss (sk_long hs).1 (sk_long hs).2 w' (h.below hb))
  have hM := ((Mem.nil w).alloc #[.slice a ss.length cap] 22).alloc_at (H := w.heap.size + 1) (by simp) #[.int .i64 0, .int .i64 0, .int .i64 0, .int .i64 0] 39
  have HM := Lib.hid hM
  obtain ⟨L, hL⟩ : ∃ L, L = trimTo ss (wid ss) ss.length 0 := ⟨_, rfl⟩
  have HW : Hid (∀ w0 w1, Mem w [(w.heap.size + 1, #[.int .i64 0, .int .i64 0, .int .i64 0, .int .i64 0], 39), (w.heap.size, #[.slice a ss.length cap], 22)] w0 → TM w0 w0.heap.size (.slice none 0 0) [] w1 → Calls Try.prog 72 #[.slice a ss.length cap, .func (.func 73) #[] #[.pointer (some ⟨w.heap.size, 0, none⟩), .pointer (some ⟨w0.heap.size, 0, none⟩)]] w1 fun e w' => e = .returned (.tuple #[]) ∧ ∃ v, TM w0 w0.heap.size v L w') := Lib.hid (fun w0 w1 hm ht => by
    rw [hL]
    refine walk_trim a cap ss hs _ _ (fun y x w' => ∃ v, TM w0 w0.heap.size v (trimTo ss (wid ss) y x) w') w1 ((h.mem hm).below ht.b) ⟨_, ht⟩ (fun y w' hi => by rw [trimTo_row]; exact hi) (fun x y w' hx hy hi => ?_)
    obtain ⟨v, hi⟩ := hi
    have hmul : y * wid ss ≤ 47 * 48 := Nat.mul_le_mul (by omega) hw2
    have hln := trimTo_len ss (wid ss) y x
    rw [trimTo_next]
    exact trimClo_any w0 w.heap.size w0.heap.size a cap ss hs v _ (by omega) x y w' hi (hm.tail.cell 0) hm.tail.head_lt (h.mem hm))
  have hLb : L.length ≤ 2304 := by
    have h1 := trimTo_len ss (wid ss) ss.length 0
    have h2 : ss.length * wid ss ≤ 48 * 48 := Nat.mul_le_mul hl2 hw2
    rw [hL]; omega
  have hLi : ∀ c ∈ L, (0 ≤ c.1 ∧ c.1 ≤ 48) ∧ 0 ≤ c.2 ∧ c.2 ≤ 48 := fun c hc => by
    rw [hL] at hc
    obtain ⟨r1, r2, r3, r4⟩ := trimTo_in hc
    omega
  rw [← hL] at hv
  have HSB := Lib.hid (And.intro hLb (And.intro hLi hv))
  clear hs h hL hM hLb hLi hv
  go_enter Try.func36, Try.ntmps36
  go_wp2_with fail
  refine (HV.out _ HM.out.b).mono ?_
  rintro e w1 ⟨rfl, rfl⟩
  have ht := TM.start ((w.alloc (.cells #[.slice a ss.length cap] 22)).alloc (.cells #[.int .i64 0, .int .i64 0, .int .i64 0, .int .i64 0] 39))
  have hwc := HW.out _ _ HM.out ht
  have HB0 := Lib.hid ht.b
  simp only [World.size_alloc] at hwc
  have HWC := Lib.hid hwc
  clear ht hwc
  go_wp2_with fail
  refine HWC.out.mono ?_
  rintro e w2 ⟨rfl, v, ht⟩
  have hm2 := HM.out.step ht.b
  have HM2 := Lib.hid hm2
  have z0 := hm2.cell 0
  have z1 := hm2.cell 1
  have z2 := hm2.cell 2
  have z3 := hm2.cell 3
  have f0 := hm2.frozen 0
  have f1 := hm2.frozen 1
  have f2 := hm2.frozen 2
  have f3 := hm2.frozen 3
  have zl := hm2.head_lt
  simp at z0 z1 z2 z3
  have e0 := (block_box ht.hl).1
  have e1 := (block_box ht.hl).2.2
  obtain ⟨a2, c2, rfl, hcs⟩ := ht.form
  have HCS := Lib.hid hcs
  clear ht hm2 hcs
  by_cases hn : L.length = 0
  · obtain rfl := List.length_eq_zero_iff.1 hn
    have hv := HSB.out.2.2
    rw [trimV_nil] at hv
    simp only [Prod.mk.injEq] at hv
    obtain ⟨rfl, rfl, rfl, rfl, rfl⟩ := hv
    clear HW HWC
    go_wp2
    refine bodyPost_ret (v := .tuple #[.agg #[.int .i64 0, .int .i64 0, .int .i64 0, .int .i64 0], .int .i64 7]) (by simp [results, Try.results36, go_sem, z0, z1, z2, z3]) rfl ⟨rfl, ?_⟩
    exact (((HM2.out.b.setCell (Nat.le_succ _) _).setCell (Nat.le_succ _) _).setCell (Nat.le_succ _) _).setCell (Nat.le_succ _) _
  · obtain ⟨g, rfl, hc⟩ := HCS.out (by omega)
    have HBX := Lib.hid (box_any g c2 L (by omega) HSB.out.1 HSB.out.2.1 w2 hc)
    obtain ⟨BF, hBF⟩ : ∃ BF, BF = boxS ((L[0]'(by omega)).1, (L[0]'(by omega)).2, (L[0]'(by omega)).1, (L[0]'(by omega)).2) L := ⟨_, rfl⟩
    rw [← hBF] at HBX
    have HBFF := Lib.hid hBF
    have hn0 : ¬ ((L.length : Int) = 0) := by omega
    have hn1 : ((L.length : Int) == 0) = false := by simpa using hn0
    obtain ⟨n, hnn⟩ : ∃ n, n = L.length := ⟨_, rfl⟩
    rw [← hnn] at HBX hn1 hn0 e0
    have HNN := Lib.hid hnn
    clear hc hBF hnn
    go_wp2_with fail
    refine HBX.out.mono ?_
    rintro e w3 ⟨p, q, r, s, rfl, hbf, hb3⟩
    have hv := HSB.out.2.2
    rw [trimV_some (by rw [← HNN.out]; omega) (HBFF.out.symm.trans hbf)] at hv
    simp only [Prod.mk.injEq] at hv
    obtain ⟨rfl, rfl, rfl, rfl, rfl⟩ := hv
    have hm3 := HM2.out.step hb3
    have HM3 := Lib.hid hm3
    have y0 := hm3.cell 0
    have y1 := hm3.cell 1
    have y2 := hm3.cell 2
    have y3 := hm3.cell 3
    have g0 := hm3.frozen 0
    have g1 := hm3.frozen 1
    have g2 := hm3.frozen 2
    have g3 := hm3.frozen 3
    have yl := hm3.head_lt
    simp at y0 y1 y2 y3
    clear hb3 hbf hm3 z0 z1 z2 z3 f0 f1 f2 f3 zl e0 e1 HW HWC
    go_wp2
    refine bodyPost_ret (v := .tuple #[.agg #[.int .i64 p, .int .i64 q, .int .i64 (r - p + 1), .int .i64 (s - q + 1)], .int .i64 0]) (by simp [results, Try.results36, go_sem, y0, y1, y2, y3]) rfl ⟨rfl, ?_⟩
    exact (((HM3.out.b.setCell (Nat.le_succ _) _).setCell (Nat.le_succ _) _).setCell (Nat.le_succ _) _).setCell (Nat.le_succ _) _

set_option maxRecDepth 100000 in
set_option maxHeartbeats 1600000 in
theorem trim_no (a : Option Addr) (cap : Nat) (ss : List ByteArray) (hs : skB ss = false) (hl : (ss.length : Int) ≤ 9223372036854775807) (hz : ∀ s ∈ ss, s.size ≤ 9223372036854775807) (w : World) (h : StrS w a ss) :
    Calls Try.prog 36 #[.slice a ss.length cap] w fun e w' => e = .returned (.tuple #[.agg #[.int .i64 0, .int .i64 0, .int .i64 0, .int .i64 0], .int .i64 2]) ∧ Below w.heap.size w w' := by
  have HV : Hid (∀ w', Below w.heap.size w w' → Calls Try.prog 17 #[.slice a ss.length cap] w' fun e w'' => e = .returned (.bool false) ∧ w' = w'') := Lib.hid (fun w' hb => by
    rw [← hs]; exact skValid_any a cap ss hl hz w' (h.below hb))
  have HM := Lib.hid (((Mem.nil w).alloc #[.slice a ss.length cap] 22).alloc_at (H := w.heap.size + 1) (by simp) #[.int .i64 0, .int .i64 0, .int .i64 0, .int .i64 0] 39)
  clear hs h
  go_enter Try.func36, Try.ntmps36
  go_wp2_with fail
  refine (HV.out _ HM.out.b).mono ?_
  rintro e w1 ⟨rfl, rfl⟩
  go_wp2
  refine bodyPost_ret (v := .tuple #[.agg #[.int .i64 0, .int .i64 0, .int .i64 0, .int .i64 0], .int .i64 2]) (by simp [results, Try.results36, go_sem]) rfl ⟨rfl, ?_⟩
  exact HM.out.b

end Go.Proofs.Ytdhnifhehhbjeaa

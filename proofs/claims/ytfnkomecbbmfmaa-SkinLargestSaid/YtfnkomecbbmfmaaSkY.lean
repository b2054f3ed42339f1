/- Skins: Grades and Worth, the program's and the reference's. -/
import Derived.Test.YtfnkomecbbmfmaaSkW
import Derived.Test.YtfnkomecbbmfmaaSkX
import Derived.Laws.MakeOwn
namespace Go.Proofs.Ytfnkomecbbmfmaa
open Go.RowKit

theorem sk_made (n : Nat) : madeCells (Value.int .i64 0).cells n = cA n fun _ => 0 := by
  apply Array.ext'
  apply List.ext_getElem
  · simp [madeCells, cA]
  · intro i h1 h2
    simp [madeCells, cA, Value.cells, Nat.mod_one]

theorem sk_infoInt : (Try.prog.info? 3).map (fun i => (i.zero, i.size, i.bytes)) = some (some (.int .i64 0), 1, 8) := by kernel_rfl

theorem sk_make (n : Nat) (hn : (n : Int) ≤ 1000000) (w : World) :
    (Instr.makeSlice 23 (.int .i64 n) (.int .i64 n)).run Try.prog w = .ok (.slice (some ⟨w.heap.size, 0, none⟩) n n) (w.alloc (.cells (cA n fun _ => 0) 3)) := by
  obtain ⟨i0, hi, hz0, hz1, hz2⟩ := info_parts sk_infoInt
  have h := run_make (P := Try.prog) w 23 3 i0 (.int .i64 0) Try.underlying23 hi hz0 .i64 .i64 n n (by omega) (by omega) (by rw [hz2]; omega) (by omega)
  rw [h]
  simp only [Int.toNat_natCast, hz1, Nat.mul_one, sk_made]

theorem sk_long {ss : List ByteArray} (hs : skB ss = true) : (ss.length : Int) ≤ 9223372036854775807 ∧ ∀ s ∈ ss, s.size ≤ 9223372036854775807 := by
  obtain ⟨⟨hl1, hl2⟩, ⟨hw1, hw2⟩, hr⟩ := skB_iff.1 hs
  refine ⟨by omega, fun s hsm => ?_⟩
  obtain ⟨k, hk, rfl⟩ := List.mem_iff_getElem.1 hsm
  have := (hr k hk).1
  omega

set_option maxRecDepth 100000 in
set_option maxHeartbeats 1600000 in
theorem grades_yes (a : Option Addr) (cap : Nat) (ss : List ByteArray) (hs : skB ss = true) (w : World) (h : StrS w a ss) :
    Calls Try.prog 13 #[.slice a ss.length cap] w fun e w' => ∃ n, e = .returned (.tuple #[.slice (some ⟨n, 0, none⟩) 10 10, .int .i64 0]) ∧ CT w n 10 71 (cntTo ss (wid ss) ss.length 0) w' := by
  have HV : Hid (Calls Try.prog 17 #[.slice a ss.length cap] w fun e w'' => e = .returned (.bool true) ∧ w = w'') := Lib.hid (by
    rw [← hs]; exact skValid_any a cap ss (sk_long hs).1 (sk_long hs).2 w h)
  have HC := Lib.hid (count_any a cap ss hs w h)
  obtain ⟨F, hF⟩ : ∃ F, F = cntTo ss (wid ss) ss.length 0 := ⟨_, rfl⟩
  rw [← hF] at HC ⊢
  have HE : Hid (∀ w1, Below w.heap.size w w1 → CT w w1.heap.size 10 71 F (w1.alloc (.cells (cA 10 F) 71))) := Lib.hid (fun w1 hb => ⟨hb.alloc hb.size _, hb.size, heap_alloc_new _ _⟩)
  rw [cA_ten] at HC HE
  clear hs h hF
  go_enter Try.func13, Try.ntmps13
  go_wp2_with fail
  refine HV.out.mono ?_
  rintro e w1 ⟨rfl, rfl⟩
  go_wp2_with fail
  refine HC.out.mono ?_
  rintro e w1 ⟨rfl, hb⟩
  have HE1 := Lib.hid (HE.out w1 hb)
  clear hb
  go_wp2
  go_ret2
  exact ⟨_, rfl, HE1.out⟩

set_option maxRecDepth 100000 in
theorem grades_no (a : Option Addr) (cap : Nat) (ss : List ByteArray) (hs : skB ss = false) (hl : (ss.length : Int) ≤ 9223372036854775807) (hz : ∀ s ∈ ss, s.size ≤ 9223372036854775807) (w : World) (h : StrS w a ss) :
    Calls Try.prog 13 #[.slice a ss.length cap] w fun e w' => e = .returned (.tuple #[.slice none 0 0, .int .i64 2]) ∧ w = w' := by
  have HV : Hid (Calls Try.prog 17 #[.slice a ss.length cap] w fun e w'' => e = .returned (.bool false) ∧ w = w'') := Lib.hid (by
    rw [← hs]; exact skValid_any a cap ss hl hz w h)
  clear hs h
  go_enter Try.func13, Try.ntmps13
  go_wp2_with fail
  refine HV.out.mono ?_
  rintro e w1 ⟨rfl, rfl⟩
  go_wp2
  go_ret2
  exact ⟨rfl, rfl⟩

set_option maxRecDepth 100000 in
theorem rGrades_no (a : Option Addr) (cap : Nat) (ss : List ByteArray) (hs : skB ss = false) (hl : (ss.length : Int) ≤ 9223372036854775807) (hz : ∀ s ∈ ss, s.size ≤ 9223372036854775807) (w : World) (h : StrS w a ss) :
    Calls Try.prog 14 #[.slice a ss.length cap] w fun e w' => e = .returned (.tuple #[.slice none 0 0, .int .i64 2]) ∧ w = w' := by
  have HV : Hid (Calls Try.prog 18 #[.slice a ss.length cap] w fun e w'' => e = .returned (.bool false) ∧ w = w'') := Lib.hid (by
    rw [← hs]; exact rValid_any a cap ss hl hz w h)
  clear hs h
  go_enter Try.func14, Try.ntmps14
  go_wp2_with fail
  refine HV.out.mono ?_
  rintro e w1 ⟨rfl, rfl⟩
  go_wp2
  go_ret2
  exact ⟨rfl, rfl⟩

set_option maxRecDepth 100000 in
set_option maxHeartbeats 1600000 in
theorem rGrades_yes (a : Option Addr) (cap : Nat) (ss : List ByteArray) (hs : skB ss = true) (w : World) (h : StrS w a ss) :
    Calls Try.prog 14 #[.slice a ss.length cap] w fun e w' => ∃ n, e = .returned (.tuple #[.slice (some ⟨n, 0, none⟩) 10 10, .int .i64 0]) ∧ CT w n 10 3 (cntTo ss (wid ss) ss.length 0) w' := by
  obtain ⟨⟨hl1, hl2⟩, ⟨hw1, hw2⟩, hr⟩ := skB_iff.1 hs
  have HV : Hid (Calls Try.prog 18 #[.slice a ss.length cap] w fun e w'' => e = .returned (.bool true) ∧ w = w'') := Lib.hid (by
    rw [← hs]; exact rValid_any a cap ss (sk_long hs).1 (sk_long hs).2 w h)
  have HG : Hid (∀ w' (x y : Nat), Below w.heap.size w w' → ∃ g : Nat, g ≤ 9 ∧ grd ss x y = g ∧ Calls Try.prog 51 #[.slice a ss.length cap, .int .i64 x, .int .i64 y] w' fun e w'' => e = .returned (.int .i64 g) ∧ w' = w'') := Lib.hid (fun w' x y hb => by
    obtain ⟨g, hg, hg9⟩ := grd_nat hs x y
    refine ⟨g, hg9, hg, ?_⟩
    rw [← hg]; exact rGrade_any a cap ss hs x y w' (h.below hb))
  obtain ⟨b, off, rfl, hb, hc⟩ := h.at_ (k := 0) (by omega)
  obtain ⟨s0, hs0⟩ : ∃ s, s = ss[0] := ⟨_, rfl⟩
  obtain ⟨W, hW⟩ : ∃ W, W = wid ss := ⟨_, rfl⟩
  have hz0 : s0.size = W := by rw [hs0, hW]; exact (hr 0 (by omega)).1
  rw [← hs0, Nat.add_zero] at hc
  rw [← hW] at hw1 hw2 ⊢
  have hz0' : (s0.size : Int) = W := by rw [hz0]
  have HC := Lib.hid (And.intro hb hc)
  obtain ⟨H, hH⟩ : ∃ H, H = ss.length := ⟨_, rfl⟩
  rw [← hH] at hl1 hl2 HV HG ⊢
  have hH0 : (0 : Int) < H := by omega
  have HCT : Hid (CT w w.heap.size 10 3 (cntTo ss W 0 0) (w.alloc (.cells (cA 10 fun _ => 0) 3))) := Lib.hid ⟨(Below.refl _ _).alloc (Nat.le_refl _) _, Nat.le_refl _, heap_alloc_new _ _⟩
  have hmk := sk_make 10 (by omega) w
  rw [cA_zero] at HCT hmk
  rw [show ((10 : Nat) : Int) = 10 from rfl] at hmk
  clear hs h hr hs0 hW hz0 hb hc hH
  go_enter Try.func14, Try.ntmps14
  go_wp2_with fail
  refine HV.out.mono ?_
  rintro e w1 ⟨rfl, rfl⟩
  go_wp2
  go_loopg [13] H (fun gk i wr => ∃ y : Nat, y + gk = H ∧ i = .int .i64 y ∧ Hid (CT w w.heap.size 10 3 (cntTo ss W y 0) wr))
  case atStart => exact ⟨0, by omega, rfl, HCT⟩
  case round =>
    obtain ⟨y, hy, rfl, HI⟩ := hrel
    by_cases hlt : y < H
    · obtain ⟨gk', rfl⟩ : ∃ m, gk = m + 1 := ⟨gk - 1, by omega⟩
      have hlt' : (y : Int) < H := by omega
      have c0 := (HI.out.b.cell (p := ⟨b, off, none⟩) HC.out.1).trans HC.out.2
      have c1 := Nat.lt_of_lt_of_le HC.out.1 HI.out.b.size
      go_wp2
      go_loopg [20] W (fun gj i wr => ∃ x : Nat, x + gj = W ∧ i = .int .i64 x ∧ Hid (CT w w.heap.size 10 3 (cntTo ss W y x) wr))
      case atStart => exact ⟨0, by omega, rfl, HI⟩
      case round =>
        obtain ⟨x, hx, rfl, HI2⟩ := hrel
        clear c0 c1
        by_cases hlx : x < W
        · obtain ⟨gj', rfl⟩ : ∃ m, gk = m + 1 := ⟨gk - 1, by omega⟩
          have hlx' : (x : Int) < W := by omega
          obtain ⟨g, hg9, hg, hcall⟩ := HG.out wr x y HI2.out.b
          have HCL := Lib.hid hcall
          have hmul : y * W ≤ 47 * 48 := Nat.mul_le_mul (by omega) hw2
          obtain ⟨b1, b2⟩ := cntTo_bounds ss W y x g
          obtain ⟨v, hv⟩ : ∃ v, v = cntTo ss W y x g := ⟨_, rfl⟩
          rw [← hv] at b1 b2
          have b3 : v ≤ 2304 := by omega
          have d0 := HI2.out.cell (i := g) (by omega)
          rw [← hv] at d0
          have d1 := HI2.out.frozen g
          have d2 := HI2.out.lt
          have hgi : (g : Int) < 10 := by omega
          have HN : Hid (CT w w.heap.size 10 3 (cntTo ss W y (x + 1)) (wr.setCell ⟨w.heap.size, g, none⟩ (.int .i64 (v + 1)))) := Lib.hid ((HI2.out.set g (v + 1)).congr (by
            rw [cntTo_next]
            funext k
            unfold cntStep
            rw [hg, hv]
            simp only [Int.toNat_natCast]
            by_cases hk : k = g
            · subst hk; simp
            · rw [if_neg hk, if_neg hk]))
          clear hcall hg hv b2 hmul
          go_wp2_with fail
          refine HCL.out.mono ?_
          rintro e w3 ⟨rfl, rfl⟩
          go_wp2
          go_roundg gj'
          case measure => exact Nat.lt_succ_self _
          case rel => exact ⟨x + 1, by omega, by go_num, HN⟩
        · obtain rfl : x = W := by omega
          have HR : Hid (CT w w.heap.size 10 3 (cntTo ss x (y + 1) 0) wr) := Lib.hid (by rw [cntTo_row]; exact HI2.out)
          have hlx' : ¬ (x : Int) < x := by omega
          go_wp2
          go_roundg gk'
          case measure => exact Nat.lt_succ_self _
          case rel => exact ⟨y + 1, by omega, by go_num, HR⟩
    · obtain rfl : y = H := by omega
      go_wp2
      go_ret2
      exact ⟨_, rfl, HI.out⟩

end Go.Proofs.Ytfnkomecbbmfmaa

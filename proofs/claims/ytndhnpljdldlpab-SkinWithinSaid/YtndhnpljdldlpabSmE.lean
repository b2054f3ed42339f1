/- Skins: the reference's Count and Good. -/
import Derived.Test.YtndhnpljdldlpabSlX
import Derived.Test.YtndhnpljdldlpabSlH
import Derived.Test.YtndhnpljdldlpabSkV
import Derived.Test.YtndhnpljdldlpabSkX
namespace Go.Proofs.Ytndhnpljdldlpab
open Go.RowKit

theorem grd_le9 {ss : List ByteArray} (hs : skB ss = true) (x y : Int) : 0 ≤ grd ss x y ∧ grd ss x y ≤ 9 := by
  obtain ⟨g, hg, h9⟩ := grd_nat hs x y
  omega

set_option maxRecDepth 100000 in
set_option maxHeartbeats 1600000 in
theorem rCount_any (a : Option Addr) (cap : Nat) (ss : List ByteArray) (hs : skB ss = true) (g : Int) (X Y U V : Nat) (hXU : X + U ≤ wid ss) (hYV : Y + V ≤ ss.length) (w : World) (h : StrS w a ss) :
    Calls Try.prog 17 #[.slice a ss.length cap, .int .i64 g, .agg #[.int .i64 X, .int .i64 Y, .int .i64 U, .int .i64 V]] w fun e w' => e = .returned (.int .i64 (cBox (usB ss g) X U Y V)) ∧ Below w.heap.size w w' := by
  obtain ⟨⟨hl1, hl2⟩, ⟨hw1, hw2⟩, -⟩ := skB_iff.1 hs
  have HGR : Hid (∀ w' (x y : Nat), Below w.heap.size w w' → ∃ z : Int, z = grd ss x y ∧ 0 ≤ z ∧ z ≤ 9 ∧ Calls Try.prog 22 #[.slice a ss.length cap, .int .i64 x, .int .i64 y] w' fun e w'' => e = .returned (.int .i64 z) ∧ w' = w'') := Lib.hid (fun w' x y hb =>
    ⟨_, rfl, (grd_le9 hs x y).1, (grd_le9 hs x y).2, rGrade_any a cap ss hs x y w' (h.below hb)⟩)
  obtain ⟨T, hT⟩ : ∃ T, T = Y + V := ⟨_, rfl⟩
  obtain ⟨S, hS⟩ : ∃ S, S = X + U := ⟨_, rfl⟩
  have hwT : IntKind.i64.wrap ((Y : Int) + V) = (T : Int) := by rw [IntWalk.i64_in _ (by omega)]; omega
  have hwS : IntKind.i64.wrap ((X : Int) + U) = (S : Int) := by rw [IntWalk.i64_in _ (by omega)]; omega
  have HM := Lib.hid ((Mem.nil w).alloc #[.int .i64 X, .int .i64 Y, .int .i64 U, .int .i64 V] 29)
  have HT := Lib.hid hT
  have HS := Lib.hid hS
  have hYT : Y ≤ T := by omega
  have hXS : X ≤ S := by omega
  have hT48 : T ≤ 48 := by omega
  have hS48 : S ≤ 48 := by omega
  have hU48 : U ≤ 48 := by omega
  have hV : Y + V = T := hT.symm
  have hU : X + U = S := hS.symm
  have HE : Hid (cBox (usB ss g) X U Y V = cBox (usB ss g) X U Y (T - Y)) := Lib.hid (by rw [show T - Y = V by omega])
  rw [HE.out]
  have HC0 : Hid (0 = cBox (usB ss g) X U Y (Y - Y)) := Lib.hid (by rw [Nat.sub_self]; rfl)
  clear hs h hT hS hXU hYV
  have HV := Lib.hid hV
  have HU := Lib.hid hU
  clear hV hU
  go_enter Try.func17, Try.ntmps17
  go_wp2
  go_loopg [7, 8] V (fun gk n i wr => ∃ y c : Nat, y + gk = T ∧ Y ≤ y ∧ c ≤ (y - Y) * 48 ∧ i = .int .i64 y ∧ n = .int .i64 c ∧ Hid (c = cBox (usB ss g) X U Y (y - Y)) ∧ Hid (Mem w [(w.heap.size, #[.int .i64 X, .int .i64 Y, .int .i64 U, .int .i64 V], 29)] wr))
  case atStart => exact ⟨Y, 0, HV.out, Nat.le_refl _, by omega, rfl, rfl, HC0, HM⟩
  case round =>
    obtain ⟨y, c, hy, hYy, hc, rfl, rfl, HC, HI⟩ := hrel
    have q0 := HI.out.cell 0
    have q1 := HI.out.cell 1
    have q3 := HI.out.cell 3
    have ql := HI.out.head_lt
    simp at q0 q1 q3
    by_cases hlt : y < T
    · obtain ⟨gk', rfl⟩ : ∃ m, gk = m + 1 := ⟨gk - 1, by omega⟩
      have hlt' : (y : Int) < T := by omega
      have HD0 : Hid (c = c + cRow (usB ss g) y X (X - X)) := Lib.hid (by rw [Nat.sub_self]; rfl)
      go_wp2
      go_loopg [7, 9] U (fun gj n i wr => ∃ x d : Nat, x + gj = S ∧ X ≤ x ∧ d ≤ c + (x - X) ∧ i = .int .i64 x ∧ n = .int .i64 d ∧ Hid (d = c + cRow (usB ss g) y X (x - X)) ∧ Hid (Mem w [(w.heap.size, #[.int .i64 X, .int .i64 Y, .int .i64 U, .int .i64 V], 29)] wr))
      case atStart => exact ⟨X, c, HU.out, Nat.le_refl _, by omega, rfl, rfl, HD0, HI⟩
      case round =>
        obtain ⟨x, d, hx, hXx, hd, rfl, rfl, HD, HI2⟩ := hrel
        clear q0 q1 q3 ql
        have q0 := HI2.out.cell 0
        have q2 := HI2.out.cell 2
        have ql := HI2.out.head_lt
        simp at q0 q2
        by_cases hlx : x < S
        · obtain ⟨gj', rfl⟩ : ∃ m, gk = m + 1 := ⟨gk - 1, by omega⟩
          have hlx' : (x : Int) < S := by omega
          obtain ⟨z, hz, hz0, hz9, hcall⟩ := HGR.out wr x y HI2.out.b
          have HCL := Lib.hid hcall
          have HNX : Hid (c + cRow (usB ss g) y X (x + 1 - X) = d + bz (decide (g ≤ z))) := Lib.hid (by
            rw [show x + 1 - X = (x - X) + 1 by omega, cRow, ← Nat.add_assoc, ← HD.out, show (X : Int) + ((x - X : Nat) : Int) = x by omega, hz]
            rfl)
          clear hcall hz
          by_cases hgz : g ≤ z
          · have HN : Hid (d + 1 = c + cRow (usB ss g) y X (x + 1 - X)) := Lib.hid (by rw [HNX.out, bz, if_pos (by simpa using hgz)])
            clear HNX
            go_wp2_with fail
            refine HCL.out.mono ?_
            rintro e w3 ⟨rfl, rfl⟩
            go_wp2
            go_roundg gj'
            case measure => exact Nat.lt_succ_self _
            case rel => exact ⟨x + 1, d + 1, by omega, by omega, by omega, by go_num, by go_num, HN, HI2⟩
          · have HN : Hid (d = c + cRow (usB ss g) y X (x + 1 - X)) := Lib.hid (by rw [HNX.out, bz, if_neg (by simpa using hgz)]; rfl)
            clear HNX
            go_wp2_with fail
            refine HCL.out.mono ?_
            rintro e w3 ⟨rfl, rfl⟩
            go_wp2
            go_roundg gj'
            case measure => exact Nat.lt_succ_self _
            case rel => exact ⟨x + 1, d, by omega, by omega, by omega, by go_num, rfl, HN, HI2⟩
        · obtain rfl : x = S := by omega
          have HR : Hid (d = cBox (usB ss g) X U Y (y + 1 - Y)) := Lib.hid (by
            rw [show y + 1 - Y = (y - Y) + 1 by omega, cBox, ← HC.out, show (Y : Int) + ((y - Y : Nat) : Int) = y by omega, HD.out, show x - X = U by have := HU.out; omega])
          have hlx' : ¬ (x : Int) < x := by omega
          have hdl : d ≤ (y + 1 - Y) * 48 := by
            have h1 : (y + 1 - Y) * 48 = (y - Y) * 48 + 48 := by rw [show y + 1 - Y = (y - Y) + 1 by omega, Nat.add_mul]
            omega
          go_wp2
          go_roundg gk'
          case measure => exact Nat.lt_succ_self _
          case rel => exact ⟨y + 1, d, by omega, by omega, hdl, by go_num, rfl, HR, HI2⟩
    · obtain rfl : y = T := by omega
      have HZ : Hid ((cBox (usB ss g) X U Y (y - Y) : Int) = c) := Lib.hid (by rw [← HC.out])
      go_wp2
      go_ret
      exact ⟨by rw [HZ.out]; rfl, HI.out.b⟩

set_option maxRecDepth 100000 in
theorem rGood_any (a : Option Addr) (cap : Nat) (ss : List ByteArray) (hl : (ss.length : Int) ≤ 9223372036854775807) (hz : ∀ s ∈ ss, s.size ≤ 9223372036854775807) (g : Int) (w : World) (h : StrS w a ss) :
    Calls Try.prog 13 #[.slice a ss.length cap, .int .i64 g] w fun e w' => e = .returned (.bool (skB ss && (decide (1 ≤ g) && decide (g ≤ 9)))) ∧ w = w' := by
  have HV := Lib.hid (rValid_any a cap ss hl hz w h)
  obtain ⟨b, hb⟩ : ∃ b, b = (skB ss && (decide (1 ≤ g) && decide (g ≤ 9))) := ⟨_, rfl⟩
  have hi : b = true ↔ skB ss = true ∧ 1 ≤ g ∧ g ≤ 9 := by rw [hb]; simp
  rw [← hb]
  cases hs : skB ss with
  | false =>
    have HB : Hid (b = false) := Lib.hid (by rw [hb, hs]; rfl)
    rw [hs] at HV
    clear hb hi hs h hl hz
    go_enter Try.func13, Try.ntmps13
    go_wp2_with fail
    refine HV.out.mono ?_
    rintro e w1 ⟨rfl, rfl⟩
    go_wp2
    go_ret
    exact ⟨by rw [HB.out]; rfl, rfl⟩
  | true =>
    have HI : Hid (b = true ↔ 1 ≤ g ∧ g ≤ 9) := Lib.hid (by rw [hi, hs]; simp)
    rw [hs] at HV
    clear hb hi hs h hl hz
    go_enter Try.func13, Try.ntmps13
    go_wp2_with fail
    refine HV.out.mono ?_
    rintro e w1 ⟨rfl, rfl⟩
    go_wp2
    all_goals
      go_ret
      refine ⟨ret_bool ?_, rfl⟩
      rw [bool_of HI.out]
      first
        | (refine decide_eq_decide.2 ?_; omega)
        | (refine (decide_eq_false ?_).symm; omega)
        | (refine (decide_eq_true ?_).symm; omega)

end Go.Proofs.Ytndhnpljdldlpab

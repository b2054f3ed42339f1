/- Pairs: sides. -/
import Derived.Test.YtchhadkmemckbabPaE
namespace Go.Proofs.Ytchhadkmemckbab
open Go.RowKit
set_option linter.unusedSimpArgs false
set_option linter.unusedVariables false

def allB (gs : List Gl) : Bool := gs.all okB
def sidB (gs : List Gl) : Bool := decide (gs.length ≤ 32) && allB gs
theorem allB_iff {gs : List Gl} : allB gs = true ↔ ∀ k (h : k < gs.length), okB gs[k] = true := by
  unfold allB
  rw [List.all_eq_true]
  constructor
  · intro h k hk; exact h _ (List.getElem_mem hk)
  · intro h g hg
    obtain ⟨k, hk, rfl⟩ := List.mem_iff_getElem.1 hg
    exact h k hk
theorem allB_bad {gs : List Gl} {k : Nat} (h : k < gs.length) (hb : okB gs[k] = false) : allB gs = false := by
  cases he : allB gs with
  | false => rfl
  | true => rw [allB_iff.1 he k h] at hb; cases hb
/-- A glove's numbers. -/
theorem Rc.ex (g : Gl) : ∃ a b c d, g = (a, b, c, d) := ⟨g.1, g.2.1, g.2.2.1, g.2.2.2, rfl⟩

set_option maxRecDepth 100000 in
theorem badClo_any (a b c d : Int) (w : World) : Calls Try.prog 68 #[.agg #[.int .i64 a, .int .i64 b, .int .i64 c, .int .i64 d]] w fun e w' => e = .returned (.bool (!okB (a, b, c, d))) ∧ Below w.heap.size w w' := by
  have HM0 := Lib.hid ((Mem.nil w).alloc #[.int .i64 a, .int .i64 b, .int .i64 c, .int .i64 d] 32)
  have HV := Lib.hid (fun w' => isGlove_any a b c d w')
  obtain ⟨x, hx⟩ : ∃ x, x = okB (a, b, c, d) := ⟨_, rfl⟩
  rw [← hx] at HV ⊢
  clear hx
  go_enter Try.func68, Try.ntmps68
  go_wp2_with fail
  refine (HV.out _).mono ?_
  rintro e w1 ⟨rfl, hb1⟩
  have HM1 := Lib.hid (HM0.out.step hb1).b
  go_wp2
  go_ret
  exact ⟨rfl, HM1.out⟩

set_option maxRecDepth 100000 in
set_option maxHeartbeats 1600000 in
theorem indexBad_any (a : Option Addr) (cap : Nat) (gs : List Gl) (hl : (gs.length : Int) ≤ 9223372036854775807) (w : World) (h : RecS w a gs) :
    Calls Try.prog 73 #[.slice a gs.length cap, .func (.func 68) #[] #[]] w fun e w' => ∃ z : Int, e = .returned (.int .i64 z) ∧ decide (0 ≤ z) = !(allB gs) ∧ Below w.heap.size w w' := by
  have H1 := Lib.hid h
  have HBAD := Lib.hid (fun k hk hb => allB_bad (gs := gs) (k := k) hk hb)
  have HOK := Lib.hid (fun hh => allB_iff (gs := gs) |>.2 hh)
  obtain ⟨V, hV⟩ : ∃ V, V = allB gs := ⟨_, rfl⟩
  rw [← hV] at HBAD HOK ⊢
  clear h hV
  go_enter Try.func73, Try.ntmps73
  go_wp2_with fail
  go_loopg [5, 8] gs.length (fun gk s i wr => ∃ k : Nat, k + gk = gs.length ∧ i = .int .i64 k ∧ Hid (∀ j (h : j < gs.length), j < k → okB gs[j] = true) ∧ Hid (Below w.heap.size w wr))
  case atStart => exact ⟨0, by omega, rfl, Lib.hid (fun j _ hj => by omega), Lib.hid (Below.refl _ _)⟩
  case round =>
    obtain ⟨k, hk, rfl, HP, HB⟩ := hrel
    by_cases hlt : k < gs.length
    · obtain ⟨gk', rfl⟩ : ∃ m, gk = m + 1 := ⟨gk - 1, by omega⟩
      have hlt' : (k : Int) < gs.length := by omega
      have hk0 : (0 : Int) ≤ k := by omega
      obtain ⟨b, off, rfl, hb, c0, c1, c2, c3⟩ := H1.out.at_ hlt
      obtain ⟨x0, x1, x2, x3, hg⟩ := Rc.ex gs[k]
      have hbd := HBAD.out k hlt
      have HPN : Hid (okB gs[k] = true → ∀ j (h : j < gs.length), j < k + 1 → okB gs[j] = true) := Lib.hid (fun e j h hj => by
        by_cases hjk : j = k
        · subst hjk; exact e
        · exact HP.out j h (by omega))
      rw [hg] at c0 c1 c2 c3 hbd HPN
      simp only at c0 c1 c2 c3
      have d0 := (HB.out.cell (p := ⟨b, off + k * 4, none⟩) hb).trans c0
      have d1 := (HB.out.cell (p := ⟨b, off + k * 4 + 1, none⟩) hb).trans c1
      have d2 := (HB.out.cell (p := ⟨b, off + k * 4 + 2, none⟩) hb).trans c2
      have d3 := (HB.out.cell (p := ⟨b, off + k * 4 + 3, none⟩) hb).trans c3
      have l1 := Nat.lt_of_lt_of_le hb HB.out.size
      have HV := Lib.hid (fun w' => badClo_any x0 x1 x2 x3 w')
      obtain ⟨x, hx⟩ : ∃ x, x = okB (x0, x1, x2, x3) := ⟨_, rfl⟩
      rw [← hx] at HV HPN hbd
      have HBD := Lib.hid hbd
      clear hx hg c0 c1 c2 c3 hbd
      go_wp2_with fail
      refine (HV.out _).mono ?_
      rintro e w1 ⟨rfl, hb1⟩
      have HB1 := Lib.hid (HB.out.trans (hb1.mono HB.out.size))
      clear d0 d1 d2 d3 l1 hb1
      cases x with
      | false =>
        obtain rfl : V = false := HBD.out rfl
        go_wp2
        go_ret
        exact ⟨k, rfl, by simp, HB1.out⟩
      | true =>
        have HP2 := Lib.hid (HPN.out rfl)
        clear HPN HBD
        go_wp2
        go_roundg gk'
        case measure => exact Nat.lt_succ_self _
        case rel => exact ⟨k + 1, by omega, by go_num, HP2, HB1⟩
    · obtain rfl : V = true := HOK.out (fun j h => HP.out j h (by omega))
      obtain rfl : k = gs.length := by omega
      go_wp2
      go_ret
      exact ⟨-1, rfl, by decide, HB.out⟩

set_option maxRecDepth 100000 in
theorem containsBad_any (a : Option Addr) (cap : Nat) (gs : List Gl) (hl : (gs.length : Int) ≤ 9223372036854775807) (w : World) (h : RecS w a gs) :
    Calls Try.prog 67 #[.slice a gs.length cap, .func (.func 68) #[] #[]] w fun e w' => e = .returned (.bool (!(allB gs))) ∧ Below w.heap.size w w' := by
  have H1 := Lib.hid (indexBad_any a cap gs hl w h)
  clear h
  go_enter Try.func67, Try.ntmps67
  go_wp2_with fail
  refine H1.out.mono ?_
  rintro e w1 ⟨z, rfl, hz, hb1⟩
  have HZ := Lib.hid hz
  have HB := Lib.hid hb1
  clear hz hb1
  go_wp2
  go_ret
  exact ⟨by rw [HZ.out]; rfl, HB.out⟩

set_option maxRecDepth 100000 in
theorem pSide_any (a : Option Addr) (cap : Nat) (gs : List Gl) (hl : (gs.length : Int) ≤ 9223372036854775807) (w : World) (h : RecS w a gs) :
    Calls Try.prog 52 #[.slice a gs.length cap] w fun e w' => e = .returned (.bool (sidB gs)) ∧ Below w.heap.size w w' := by
  have H1 := Lib.hid (containsBad_any a cap gs hl w h)
  obtain ⟨V, hV⟩ : ∃ V, V = allB gs := ⟨_, rfl⟩
  unfold sidB
  rw [← hV] at H1 ⊢
  clear h hV
  by_cases hn : gs.length ≤ 32
  · have t0 : decide ((gs.length : Int) ≤ 32) = true := decide_eq_true (by omega)
    have t1 : decide (gs.length ≤ 32) = true := decide_eq_true hn
    rw [t1]
    go_enter Try.func52, Try.ntmps52
    go_wp2_with fail
    refine H1.out.mono ?_
    rintro e w1 ⟨rfl, hb1⟩
    have HB := Lib.hid hb1
    clear hb1
    go_wp2
    go_ret
    exact ⟨by simp, HB.out⟩
  · have t0 : decide ((gs.length : Int) ≤ 32) = false := decide_eq_false (by omega)
    have t1 : decide (gs.length ≤ 32) = false := decide_eq_false hn
    rw [t1]
    go_enter Try.func52, Try.ntmps52
    go_wp2
    go_ret
    exact ⟨by simp, Below.refl _ _⟩

set_option maxRecDepth 100000 in
set_option maxHeartbeats 1600000 in
theorem qSide_any (a : Option Addr) (cap : Nat) (gs : List Gl) (hl : (gs.length : Int) ≤ 9223372036854775807) (w : World) (h : RecS w a gs) :
    Calls Try.prog 26 #[.slice a gs.length cap] w fun e w' => e = .returned (.bool (sidB gs)) ∧ Below w.heap.size w w' := by
  have H1 := Lib.hid h
  clear h
  by_cases hn : 32 < gs.length
  · have t0 : decide ((32 : Int) < gs.length) = true := decide_eq_true (by omega)
    have t1 : sidB gs = false := by unfold sidB; rw [decide_eq_false (by omega)]; rfl
    rw [t1]
    go_enter Try.func26, Try.ntmps26
    go_wp2
    go_ret
    exact ⟨rfl, Below.refl _ _⟩
  have t0 : decide ((32 : Int) < gs.length) = false := decide_eq_false (by omega)
  have t1 : sidB gs = allB gs := by unfold sidB; rw [decide_eq_true (by omega)]; rfl
  rw [t1]
  have HBAD := Lib.hid (fun k hk hb => allB_bad (gs := gs) (k := k) hk hb)
  have HOK := Lib.hid (fun hh => allB_iff (gs := gs) |>.2 hh)
  obtain ⟨V, hV⟩ : ∃ V, V = allB gs := ⟨_, rfl⟩
  rw [← hV] at HBAD HOK ⊢
  clear t1 hV
  go_enter Try.func26, Try.ntmps26
  go_wp2_with fail
  go_loopg [4, 10] gs.length (fun gk s i wr => ∃ k : Nat, k + gk = gs.length ∧ i = .int .i64 k ∧ Hid (∀ j (h : j < gs.length), j < k → okB gs[j] = true) ∧ Hid (Below w.heap.size w wr))
  case atStart => exact ⟨0, by omega, rfl, Lib.hid (fun j _ hj => by omega), Lib.hid (Below.refl _ _)⟩
  case round =>
    obtain ⟨k, hk, rfl, HP, HB⟩ := hrel
    by_cases hlt : k < gs.length
    · obtain ⟨gk', rfl⟩ : ∃ m, gk = m + 1 := ⟨gk - 1, by omega⟩
      have hlt' : (k : Int) < gs.length := by omega
      have hk0 : (0 : Int) ≤ k := by omega
      obtain ⟨b, off, rfl, hb, c0, c1, c2, c3⟩ := H1.out.at_ hlt
      obtain ⟨x0, x1, x2, x3, hg⟩ := Rc.ex gs[k]
      have hbd := HBAD.out k hlt
      have HPN : Hid (okB gs[k] = true → ∀ j (h : j < gs.length), j < k + 1 → okB gs[j] = true) := Lib.hid (fun e j h hj => by
        by_cases hjk : j = k
        · subst hjk; exact e
        · exact HP.out j h (by omega))
      rw [hg] at c0 c1 c2 c3 hbd HPN
      simp only at c0 c1 c2 c3
      have d0 := (HB.out.cell (p := ⟨b, off + k * 4, none⟩) hb).trans c0
      have d1 := (HB.out.cell (p := ⟨b, off + k * 4 + 1, none⟩) hb).trans c1
      have d2 := (HB.out.cell (p := ⟨b, off + k * 4 + 2, none⟩) hb).trans c2
      have d3 := (HB.out.cell (p := ⟨b, off + k * 4 + 3, none⟩) hb).trans c3
      have l1 := Nat.lt_of_lt_of_le hb HB.out.size
      have HBA := Lib.hid (HB.out.alloc HB.out.size (.cells #[.int .i64 x0, .int .i64 x1, .int .i64 x2, .int .i64 x3] 24))
      have HV := Lib.hid (fun w' => qValid_any x0 x1 x2 x3 w')
      obtain ⟨x, hx⟩ : ∃ x, x = okB (x0, x1, x2, x3) := ⟨_, rfl⟩
      rw [← hx] at HV HPN hbd
      have HBD := Lib.hid hbd
      clear hx hg c0 c1 c2 c3 hbd
      go_wp2_with fail
      refine (HV.out _).mono ?_
      rintro e w1 ⟨rfl, hb1⟩
      have HB1 := Lib.hid (HBA.out.trans (hb1.mono HBA.out.size))
      clear d0 d1 d2 d3 l1 hb1
      cases x with
      | false =>
        obtain rfl : V = false := HBD.out rfl
        go_wp2
        go_ret
        exact ⟨rfl, HB1.out⟩
      | true =>
        have HP2 := Lib.hid (HPN.out rfl)
        clear HPN HBD
        go_wp2
        go_roundg gk'
        case measure => exact Nat.lt_succ_self _
        case rel => exact ⟨k + 1, by omega, by go_num, HP2, HB1⟩
    · obtain rfl : V = true := HOK.out (fun j h => HP.out j h (by omega))
      obtain rfl : k = gs.length := by omega
      go_wp2
      go_ret
      exact ⟨rfl, HB.out⟩

end Go.Proofs.Ytchhadkmemckbab

/- Skins: slices.Equal on ints; prices; Worth, the program's and the reference's. -/
import Derived.Test.YtdhnifhehhbjeaaSkY
namespace Go.Proofs.Ytdhnifhehhbjeaa
open Go.RowKit

theorem skEqual_nil (w : World) : Calls Try.prog 19 #[.slice none 0 0, .slice none 0 0] w fun e w' => e = .returned (.bool true) ∧ Below w.heap.size w w' := by
  go_enter Try.func19, Try.ntmps19
  go_wp2
  go_loopw [13] (fun i wr => i = .int .i64 0 ∧ wr = w) (fun _ _ => 0)
  case atStart => exact ⟨rfl, rfl⟩
  case round =>
    obtain ⟨rfl, rfl⟩ := hrel
    go_wp2
    go_ret
    exact ⟨rfl, Below.refl _ _⟩

set_option maxRecDepth 100000 in
set_option maxHeartbeats 1600000 in
theorem skEqual_ten (g g2 : Nat) (T T2 : TypeId) (f : Nat → Int) (w : World) (h1 : w.heap[g]? = some (.cells (cA 10 f) T (0, 0))) (h2 : w.heap[g2]? = some (.cells (cA 10 f) T2 (0, 0))) :
    Calls Try.prog 19 #[.slice (some ⟨g, 0, none⟩) 10 10, .slice (some ⟨g2, 0, none⟩) 10 10] w fun e w' => e = .returned (.bool true) ∧ Below w.heap.size w w' := by
  have HA : Hid (∀ i, i < 10 → w.cell? ⟨g, i, none⟩ = some (.int .i64 (f i)) ∧ w.cell? ⟨g2, i, none⟩ = some (.int .i64 (f i))) := Lib.hid (fun i hi => by
    simp only [World.cell?]; rw [h1, h2]; exact ⟨cA_get hi, cA_get hi⟩)
  have hlt : g < w.heap.size := (Array.getElem?_eq_some_iff.1 h1).1
  have hlt2 : g2 < w.heap.size := (Array.getElem?_eq_some_iff.1 h2).1
  clear h1 h2
  go_enter Try.func19, Try.ntmps19
  go_wp2_with fail
  go_loopw [13] (fun i wr => ∃ k : Nat, k ≤ 10 ∧ i = .int .i64 k ∧ Hid (Below w.heap.size w wr)) (fun i _ => 10 - (intOf i).toNat)
  case atStart => exact ⟨0, Nat.zero_le _, rfl, Lib.hid (Below.refl _ _)⟩
  case round =>
    obtain ⟨k, hk, rfl, HB⟩ := hrel
    by_cases hkN : k < 10
    · have hkN' : (k : Int) < 10 := by omega
      have c1 := (HB.out.cell (p := ⟨g, k, none⟩) hlt).trans (HA.out k hkN).1
      have c2 := (HB.out.cell (p := ⟨g2, k, none⟩) hlt2).trans (HA.out k hkN).2
      obtain ⟨v, hv⟩ : ∃ v, v = f k := ⟨_, rfl⟩
      rw [← hv] at c1 c2
      have hk0 : (0 : Int) ≤ (k : Int) := by omega
      have hvv : (v != v) = false := by simp
      have HD := Lib.hid HB.out.drew
      clear hv
      go_wp2_with fail
      go_region
      go_wp2
      go_roundw
      case rel => exact ⟨k + 1, by omega, by go_num, HD⟩
      case measure => simp [intOf]; omega
    · obtain rfl : k = 10 := by omega
      go_wp2
      go_ret
      exact ⟨rfl, HB.out⟩

/-- Prices that are. -/
def aprB (zs : List Int) : Bool := zs.all (fun z => decide (0 ≤ z) && decide (z ≤ 1000000)) && decide (zs.length = 10)
theorem aprB_iff {zs : List Int} : aprB zs = true ↔ (∀ k (h : k < zs.length), 0 ≤ zs[k] ∧ zs[k] ≤ 1000000) ∧ zs.length = 10 := by
  unfold aprB
  simp only [Bool.and_eq_true, List.all_eq_true, decide_eq_true_eq]
  constructor
  · rintro ⟨h1, h2⟩
    exact ⟨fun k h => h1 _ (List.getElem_mem h), h2⟩
  · rintro ⟨h1, h2⟩
    refine ⟨fun z hz => ?_, h2⟩
    obtain ⟨k, hk, rfl⟩ := List.mem_iff_getElem.1 hz
    exact h1 k hk
theorem aprB_bad {zs : List Int} {k : Nat} (h : k < zs.length) (hb : zs[k] < 0 ∨ 1000000 < zs[k]) : aprB zs = false := by
  cases he : aprB zs with
  | false => rfl
  | true =>
    have := (aprB_iff.1 he).1 k h
    omega
theorem aprB_len {zs : List Int} (hb : zs.length ≠ 10) : aprB zs = false := by
  cases he : aprB zs with
  | false => rfl
  | true => exact absurd (aprB_iff.1 he).2 hb

set_option maxRecDepth 100000 in
set_option maxHeartbeats 1600000 in
theorem arePrices_any (a : Option Addr) (cap : Nat) (zs : List Int) (hl : (zs.length : Int) ≤ 9223372036854775807) (w : World) (h : IntK w a zs) :
    Calls Try.prog 52 #[.slice a zs.length cap] w fun e w' => e = .returned (.bool (aprB zs)) ∧ w = w' := by
  obtain ⟨v, hv⟩ : ∃ v, v = aprB zs := ⟨_, rfl⟩
  rw [← hv]
  have HV := Lib.hid hv
  have HF := Lib.hid h
  clear h hv
  go_enter Try.func52, Try.ntmps52
  go_wp2
  go_loop [7] (fun i => ∃ k : Nat, k ≤ zs.length ∧ i = .int .i64 k ∧ Hid (∀ j (h : j < zs.length), j < k → 0 ≤ zs[j] ∧ zs[j] ≤ 1000000)) (fun i => zs.length - (intOf i).toNat)
  case atStart => exact ⟨0, Nat.zero_le _, rfl, Lib.hid (fun j _ h => by omega)⟩
  case round =>
    obtain ⟨k, hk, rfl, HA⟩ := hrel
    by_cases hlt : k < zs.length
    · obtain ⟨b, off, rfl, -, hck⟩ := HF.out.at_ hlt
      obtain ⟨z, hz⟩ : ∃ z, z = zs[k] := ⟨_, rfl⟩
      rw [← hz] at hck
      have hk0 : (0 : Int) ≤ (k : Int) := by omega
      have hlt' : (k : Int) < zs.length := by omega
      by_cases hok : 0 ≤ z ∧ z ≤ 1000000
      · have HA' : Hid (∀ j (h : j < zs.length), j < k + 1 → 0 ≤ zs[j] ∧ zs[j] ≤ 1000000) := Lib.hid (fun j h hj => by
          by_cases e : j = k
          · subst e; rw [← hz]; exact hok
          · exact HA.out j h (by omega))
        obtain ⟨o1, o2⟩ := hok
        clear hz
        go_wp2
        all_goals first | (exfalso; omega) | skip
        go_round
        case rel => exact ⟨k + 1, by omega, by go_num, HA'⟩
        case measure => simp [intOf]; omega
      · have HVF : Hid (v = false) := Lib.hid (by rw [HV.out]; exact aprB_bad hlt (by rw [← hz]; omega))
        clear hz
        go_wp2
        all_goals first | (exfalso; omega) | skip
        all_goals
          go_ret
          exact ⟨by rw [HVF.out]; rfl, rfl⟩
    · obtain rfl : k = zs.length := by omega
      have HVE : Hid (v = ((zs.length : Int) == 10)) := Lib.hid (by
        rw [HV.out]
        by_cases h10 : zs.length = 10
        · rw [aprB_iff.2 ⟨fun j hj => HA.out j hj hj, h10⟩]
          simp [h10]
        · rw [aprB_len h10]
          have : ¬ (zs.length : Int) = 10 := by omega
          simp [this])
      go_wp2
      go_ret
      exact ⟨by rw [HVE.out]; rfl, rfl⟩

/-- The worth of the first k grades. -/
def wsum (F : Nat → Int) (zs : List Int) : Nat → Int
  | 0 => 0
  | k + 1 => wsum F zs k + F k * zs.getD k 0
theorem wsum_bounds {F : Nat → Int} {zs : List Int} (hF : ∀ k, 0 ≤ F k ∧ F k ≤ 2304) (hz : ∀ k (h : k < zs.length), 0 ≤ zs[k] ∧ zs[k] ≤ 1000000) : ∀ k, 0 ≤ wsum F zs k ∧ wsum F zs k ≤ 2304000000 * k
  | 0 => by simp [wsum]
  | k + 1 => by
    have ih := wsum_bounds hF hz k
    have hg : 0 ≤ zs.getD k 0 ∧ zs.getD k 0 ≤ 1000000 := by
      by_cases hk : k < zs.length
      · rw [List.getD_eq_getElem?_getD, List.getElem?_eq_getElem hk]
        exact hz k hk
      · rw [List.getD_eq_getElem?_getD, List.getElem?_eq_none (by omega)]
        simp
    have h1 := hF k
    have h2 : 0 ≤ F k * zs.getD k 0 := Int.mul_nonneg h1.1 hg.1
    have h3 : F k * zs.getD k 0 ≤ 2304 * 1000000 := Int.mul_le_mul h1.2 hg.2 hg.1 (by omega)
    unfold wsum
    omega

theorem index_ten (F : Nat → Int) (k : Nat) (hk : k < 10) (w : World) : (Instr.index 71 (.agg (cA 10 F)) (.int .i64 k)).run Try.prog w = .ok (.int .i64 (F k)) w := by
  rw [cA_ten]
  rcases (show k = 0 ∨ k = 1 ∨ k = 2 ∨ k = 3 ∨ k = 4 ∨ k = 5 ∨ k = 6 ∨ k = 7 ∨ k = 8 ∨ k = 9 by omega) with rfl | rfl | rfl | rfl | rfl | rfl | rfl | rfl | rfl | rfl <;> kernel_rfl

theorem cntAll_bounds {ss : List ByteArray} (hs : skB ss = true) (k : Nat) : 0 ≤ cntTo ss (wid ss) ss.length 0 k ∧ cntTo ss (wid ss) ss.length 0 k ≤ 2304 := by
  obtain ⟨⟨hl1, hl2⟩, ⟨hw1, hw2⟩, -⟩ := skB_iff.1 hs
  have h := cntTo_bounds ss (wid ss) ss.length 0 k
  have hmul : ss.length * wid ss ≤ 48 * 48 := Nat.mul_le_mul hl2 hw2
  omega

set_option maxRecDepth 100000 in
set_option maxHeartbeats 1600000 in
theorem worth_yes (a : Option Addr) (cap : Nat) (ss : List ByteArray) (hs : skB ss = true) (a2 : Option Addr) (cap2 : Nat) (zs : List Int) (hz : aprB zs = true) (w : World) (h : StrS w a ss) (h2 : IntK w a2 zs) :
    Calls Try.prog 15 #[.slice a ss.length cap, .slice a2 zs.length cap2] w fun e w' => e = .returned (.tuple #[.int .i64 (wsum (cntTo ss (wid ss) ss.length 0) zs 10), .int .i64 0]) ∧ Below w.heap.size w w' := by
  have HV : Hid (Calls Try.prog 17 #[.slice a ss.length cap] w fun e w'' => e = .returned (.bool true) ∧ w = w'') := Lib.hid (by
    rw [← hs]; exact skValid_any a cap ss (sk_long hs).1 (sk_long hs).2 w h)
  obtain ⟨hz1, hz2⟩ := aprB_iff.1 hz
  have HP : Hid (Calls Try.prog 52 #[.slice a2 zs.length cap2] w fun e w'' => e = .returned (.bool true) ∧ w = w'') := Lib.hid (by
    rw [← hz]; exact arePrices_any a2 cap2 zs (by omega) w h2)
  have HC := Lib.hid (count_any a cap ss hs w h)
  have HBF := cntAll_bounds hs
  obtain ⟨F, hF⟩ : ∃ F, F = cntTo ss (wid ss) ss.length 0 := ⟨_, rfl⟩
  rw [← hF] at HC HBF ⊢
  obtain ⟨b, off, rfl, hb, -⟩ := h2.at_ (k := 0) (by omega)
  have HZ : Hid (∀ k, k < 10 → ∃ z, 0 ≤ z ∧ z ≤ 1000000 ∧ zs.getD k 0 = z ∧ w.cell? ⟨b, off + k, none⟩ = some (.int .i64 z)) := Lib.hid (fun k hk => by
    obtain ⟨b', off', he, -, hck⟩ := h2.at_ (k := k) (by omega)
    simp only [Option.some.injEq, Addr.mk.injEq, and_true] at he
    obtain ⟨rfl, rfl⟩ := he
    have hk2 : k < zs.length := by omega
    exact ⟨zs[k], (hz1 k hk2).1, (hz1 k hk2).2, by rw [List.getD_eq_getElem?_getD, List.getElem?_eq_getElem hk2]; rfl, hck⟩)
  have HW := Lib.hid (wsum_bounds HBF hz1)
  have HB2 := Lib.hid HBF
  have HL := Lib.hid hb
  rw [hz2] at HP ⊢
  clear hs hz h h2 hF hz1 hz2 HBF hb
  go_enter Try.func15, Try.ntmps15
  go_wp2_with fail
  refine HV.out.mono ?_
  rintro e w1 ⟨rfl, rfl⟩
  go_wp2_with fail
  refine HP.out.mono ?_
  rintro e w1 ⟨rfl, rfl⟩
  go_wp2_with fail
  refine HC.out.mono ?_
  rintro e w1 ⟨rfl, hb⟩
  have HB := Lib.hid hb
  have hb1 := Nat.lt_of_lt_of_le HL.out hb.size
  clear hb
  go_wp2
  go_loopg [6, 19] 10 (fun gk s i wr => ∃ k : Nat, k + gk = 10 ∧ i = .int .i64 k ∧ s = .int .i64 (wsum F zs k) ∧ wr = w1)
  case atStart => exact ⟨0, rfl, rfl, rfl, rfl⟩
  case round =>
    obtain ⟨k, hk, rfl, rfl, rfl⟩ := hrel
    by_cases hlt : k < 10
    · obtain ⟨gk', rfl⟩ : ∃ m, gk = m + 1 := ⟨gk - 1, by omega⟩
      have hlt' : (k : Int) < 10 := by omega
      have hk0 : (0 : Int) ≤ (k : Int) := by omega
      obtain ⟨z, z1, z2, hzg, hcz⟩ := HZ.out k hlt
      have hc := (HB.out.cell (p := ⟨b, off + k, none⟩) HL.out).trans hcz
      have hix := index_ten F k hlt wr
      obtain ⟨x, hx⟩ : ∃ x, x = F k := ⟨_, rfl⟩
      obtain ⟨f1, f2⟩ := HB2.out k
      obtain ⟨s1, s2⟩ := HW.out k
      obtain ⟨s, hs⟩ : ∃ s, s = wsum F zs k := ⟨_, rfl⟩
      have HN : Hid (wsum F zs (k + 1) = s + x * z) := Lib.hid (by rw [hs, hx, ← hzg]; rfl)
      rw [← hx] at f1 f2 hix
      rw [← hs] at s1 s2 ⊢
      have m1 : 0 ≤ x * z := Int.mul_nonneg f1 z1
      have m2 : x * z ≤ 2304 * 1000000 := Int.mul_le_mul f2 z2 z1 (by omega)
      have hw1 : IntKind.i64.wrap (x * z) = x * z := IntWalk.i64_in _ (by omega)
      have hw2 : IntKind.i64.wrap (s + x * z) = s + x * z := IntWalk.i64_in _ (by omega)
      clear hcz hzg hx hs
      go_wp2
      go_roundg gk'
      case measure => exact Nat.lt_succ_self _
      case rel => exact ⟨k + 1, by omega, by go_num, by rw [HN.out], rfl⟩
    · obtain rfl : k = 10 := by omega
      go_wp2
      go_ret2
      exact ⟨rfl, HB.out⟩

set_option maxRecDepth 100000 in
theorem worth_no1 (a : Option Addr) (cap : Nat) (ss : List ByteArray) (hs : skB ss = false) (hl : (ss.length : Int) ≤ 9223372036854775807) (hz : ∀ s ∈ ss, s.size ≤ 9223372036854775807) (v2 : Value) (w : World) (h : StrS w a ss) :
    Calls Try.prog 15 #[.slice a ss.length cap, v2] w fun e w' => e = .returned (.tuple #[.int .i64 0, .int .i64 2]) ∧ w = w' := by
  have HV : Hid (Calls Try.prog 17 #[.slice a ss.length cap] w fun e w'' => e = .returned (.bool false) ∧ w = w'') := Lib.hid (by
    rw [← hs]; exact skValid_any a cap ss hl hz w h)
  clear hs h
  go_enter Try.func15, Try.ntmps15
  go_wp2_with fail
  refine HV.out.mono ?_
  rintro e w1 ⟨rfl, rfl⟩
  go_wp2
  go_ret2
  exact ⟨rfl, rfl⟩

set_option maxRecDepth 100000 in
theorem worth_no2 (a : Option Addr) (cap : Nat) (ss : List ByteArray) (hs : skB ss = true) (a2 : Option Addr) (cap2 : Nat) (zs : List Int) (hl : (zs.length : Int) ≤ 9223372036854775807) (hz : aprB zs = false) (w : World) (h : StrS w a ss) (h2 : IntK w a2 zs) :
    Calls Try.prog 15 #[.slice a ss.length cap, .slice a2 zs.length cap2] w fun e w' => e = .returned (.tuple #[.int .i64 0, .int .i64 2]) ∧ w = w' := by
  have HV : Hid (Calls Try.prog 17 #[.slice a ss.length cap] w fun e w'' => e = .returned (.bool true) ∧ w = w'') := Lib.hid (by
    rw [← hs]; exact skValid_any a cap ss (sk_long hs).1 (sk_long hs).2 w h)
  have HP : Hid (Calls Try.prog 52 #[.slice a2 zs.length cap2] w fun e w'' => e = .returned (.bool false) ∧ w = w'') := Lib.hid (by
    rw [← hz]; exact arePrices_any a2 cap2 zs hl w h2)
  clear hs hz h h2
  go_enter Try.func15, Try.ntmps15
  go_wp2_with fail
  refine HV.out.mono ?_
  rintro e w1 ⟨rfl, rfl⟩
  go_wp2_with fail
  refine HP.out.mono ?_
  rintro e w1 ⟨rfl, rfl⟩
  go_wp2
  go_ret2
  exact ⟨rfl, rfl⟩

set_option maxRecDepth 100000 in
theorem rWorth_no1 (a : Option Addr) (cap : Nat) (ss : List ByteArray) (hs : skB ss = false) (hl : (ss.length : Int) ≤ 9223372036854775807) (hz : ∀ s ∈ ss, s.size ≤ 9223372036854775807) (v2 : Value) (w : World) (h : StrS w a ss) :
    Calls Try.prog 16 #[.slice a ss.length cap, v2] w fun e w' => e = .returned (.tuple #[.int .i64 0, .int .i64 2]) ∧ w = w' := by
  have HV := Lib.hid (rGrades_no a cap ss hs hl hz w h)
  clear hs h
  go_enter Try.func16, Try.ntmps16
  go_wp2_with fail
  refine HV.out.mono ?_
  rintro e w1 ⟨rfl, rfl⟩
  go_wp2
  go_ret2
  exact ⟨rfl, rfl⟩

set_option maxRecDepth 100000 in
set_option maxHeartbeats 1600000 in
theorem rWorth_any (a : Option Addr) (cap : Nat) (ss : List ByteArray) (hs : skB ss = true) (a2 : Option Addr) (cap2 : Nat) (zs : List Int) (w : World) (h : StrS w a ss) (h2 : IntK w a2 zs) :
    Calls Try.prog 16 #[.slice a ss.length cap, .slice a2 zs.length cap2] w fun e w' => e = .returned (.tuple #[.int .i64 (if aprB zs = true then wsum (cntTo ss (wid ss) ss.length 0) zs 10 else 0), .int .i64 (if aprB zs = true then 0 else 2)]) ∧ Below w.heap.size w w' := by
  have HC := Lib.hid (rGrades_yes a cap ss hs w h)
  have HBF := cntAll_bounds hs
  obtain ⟨F, hF⟩ : ∃ F, F = cntTo ss (wid ss) ss.length 0 := ⟨_, rfl⟩
  rw [← hF] at HC HBF ⊢
  have HB2 := Lib.hid HBF
  have HFZ := Lib.hid h2
  by_cases h10 : zs.length = 10
  · have HIF : Hid (aprB zs = false → (if aprB zs = true then wsum F zs 10 else 0) = 0 ∧ (if aprB zs = true then (0 : Int) else 2) = 2) := Lib.hid (fun e => by rw [e]; exact ⟨rfl, rfl⟩)
    have HIT : Hid (aprB zs = true → (if aprB zs = true then wsum F zs 10 else 0) = wsum F zs 10 ∧ (if aprB zs = true then (0 : Int) else 2) = 0) := Lib.hid (fun e => by rw [e]; exact ⟨rfl, rfl⟩)
    obtain ⟨R1, hR1⟩ : ∃ r, r = (if aprB zs = true then wsum F zs 10 else 0) := ⟨_, rfl⟩
    obtain ⟨R2, hR2⟩ : ∃ r, r = (if aprB zs = true then (0 : Int) else 2) := ⟨_, rfl⟩
    rw [← hR1, ← hR2] at HIF HIT ⊢
    have HL10 := Lib.hid h10
    rw [h10]
    clear hs h h2 hF hR1 hR2 HBF h10
    go_enter Try.func16, Try.ntmps16
    go_wp2_with fail
    refine HC.out.mono ?_
    rintro e w1 ⟨n, rfl, hct⟩
    have HCT := Lib.hid hct
    have hnl := hct.lt
    clear hct
    go_wp2
    go_loopg [8, 25] 10 (fun gk s i wr => ∃ k : Nat, k + gk = 10 ∧ i = .int .i64 k ∧ s = .int .i64 (wsum F zs k) ∧ wr = w1 ∧ Hid (∀ j (h : j < zs.length), j < k → 0 ≤ zs[j] ∧ zs[j] ≤ 1000000) ∧ (0 ≤ wsum F zs k ∧ wsum F zs k ≤ 2304000000 * k))
    case atStart => exact ⟨0, rfl, rfl, rfl, rfl, Lib.hid (fun j _ h => by omega), by simp [wsum]⟩
    case round =>
      obtain ⟨k, hk, rfl, rfl, rfl, HA, s1, s2⟩ := hrel
      by_cases hlt : k < 10
      · obtain ⟨gk', rfl⟩ : ∃ m, gk = m + 1 := ⟨gk - 1, by omega⟩
        have hlt' : (k : Int) < 10 := by omega
        have hk0 : (0 : Int) ≤ (k : Int) := by omega
        have hkz : k < zs.length := by rw [HL10.out]; exact hlt
        obtain ⟨b, off, rfl, hbz, hcz⟩ := HFZ.out.at_ hkz
        have hc := (HCT.out.b.cell (p := ⟨b, off + k, none⟩) hbz).trans hcz
        obtain ⟨z, hz⟩ : ∃ z, z = zs[k] := ⟨_, rfl⟩
        have hb1 := Nat.lt_of_lt_of_le hbz HCT.out.b.size
        have hcn := HCT.out.cell (i := k) hlt
        obtain ⟨x, hx⟩ : ∃ x, x = F k := ⟨_, rfl⟩
        obtain ⟨f1, f2⟩ := HB2.out k
        obtain ⟨s, hs⟩ : ∃ s, s = wsum F zs k := ⟨_, rfl⟩
        have HN : Hid (wsum F zs (k + 1) = s + z * x) := Lib.hid (by
          rw [hs, hx, hz, Int.mul_comm zs[k]]
          show wsum F zs k + F k * zs.getD k 0 = _
          rw [List.getD_eq_getElem?_getD, List.getElem?_eq_getElem hkz]
          rfl)
        rw [← hx] at f1 f2 hcn
        rw [← hs] at s1 s2 ⊢
        rw [← hz] at hc
        by_cases hok : 0 ≤ z ∧ z ≤ 1000000
        · have HA' : Hid (∀ j (h : j < zs.length), j < k + 1 → 0 ≤ zs[j] ∧ zs[j] ≤ 1000000) := Lib.hid (fun j h hj => by
            by_cases e : j = k
            · subst e; rw [← hz]; exact hok
            · exact HA.out j h (by omega))
          obtain ⟨z1, z2⟩ := hok
          have m1 : 0 ≤ z * x := Int.mul_nonneg z1 f1
          have m2 : z * x ≤ 1000000 * 2304 := Int.mul_le_mul z2 f2 f1 (by omega)
          have hw1 : IntKind.i64.wrap (z * x) = z * x := IntWalk.i64_in _ (by omega)
          have hw2 : IntKind.i64.wrap (s + z * x) = s + z * x := IntWalk.i64_in _ (by omega)
          clear hcz hz hx hs
          go_wp2
          all_goals first | (exfalso; omega) | skip
          go_roundg gk'
          case measure => exact Nat.lt_succ_self _
          case rel => exact ⟨k + 1, by omega, by go_num, by rw [HN.out], rfl, HA', by rw [HN.out]; omega⟩
        · obtain ⟨E1, E2⟩ := HIF.out (aprB_bad hkz (by rw [← hz]; omega))
          have HE := Lib.hid (And.intro E1 E2)
          clear hcz hz hx hs E1 E2
          go_wp2
          all_goals first | (exfalso; omega) | skip
          all_goals
            go_ret2
            exact ⟨by rw [HE.out.1, HE.out.2]; rfl, HCT.out.b⟩
      · obtain rfl : k = 10 := by omega
        obtain ⟨E1, E2⟩ := HIT.out (aprB_iff.2 ⟨fun j hj => HA.out j hj (by rw [← HL10.out]; exact hj), HL10.out⟩)
        have HE := Lib.hid (And.intro E1 E2)
        clear E1 E2
        go_wp2
        go_ret2
        exact ⟨by rw [HE.out.1, HE.out.2]; rfl, HCT.out.b⟩
  · have hap := aprB_len h10
    have h10' : ((zs.length : Int) != 10) = true := by rw [bne_iff_ne]; omega
    rw [hap]
    clear hs h h2 hF h10 hap
    go_enter Try.func16, Try.ntmps16
    go_wp2_with fail
    refine HC.out.mono ?_
    rintro e w1 ⟨n, rfl, hct⟩
    have HCT := Lib.hid hct
    clear hct
    go_wp2
    go_ret2
    exact ⟨rfl, HCT.out.b⟩

end Go.Proofs.Ytdhnifhehhbjeaa

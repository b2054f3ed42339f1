/- Pairs: slices.Concat of two slices of ints. -/
import Derived.Test.YtpihokfamcdbeaaPbB
namespace Go.Proofs.Ytpihokfamcdbeaa
open Go.RowKit
set_option linter.unusedSimpArgs false
set_option linter.unusedVariables false

set_option maxRecDepth 100000 in
set_option maxHeartbeats 3200000 in
theorem concatI_any (gb : Nat) (a a2 : Option Addr) (ca cb : Nat) (xs ys : List Int) (hx : xs.length ≤ 100) (hy : ys.length ≤ 100) (w : World) (hgb : gb < w.heap.size) (h0 : w.cell? ⟨gb, 0, none⟩ = some (.slice a xs.length ca)) (h1 : w.cell? ⟨gb, 1, none⟩ = some (.slice a2 ys.length cb)) (k1 : IntK w a xs) (k2 : IntK w a2 ys) :
    Calls Try.prog 66 #[.slice (some ⟨gb, 0, none⟩) 2 2] w fun e w' => ∃ x c, e = .returned (.slice x (xs ++ ys).length c) ∧ IntK w' x (xs ++ ys) ∧ Below w.heap.size w w' := by
  have HC0 := Lib.hid h0
  have HC1 := Lib.hid h1
  have HGB := Lib.hid hgb
  have HK1 := Lib.hid k1
  have HK2 := Lib.hid k2
  have l0 := hgb
  obtain ⟨la, hla⟩ : ∃ z, z = xs.length := ⟨_, rfl⟩
  obtain ⟨lb, hlb⟩ : ∃ z, z = ys.length := ⟨_, rfl⟩
  have HLA := Lib.hid hla
  have HLB := Lib.hid hlb
  rw [← hla] at h0 HC0 hx
  rw [← hlb] at h1 HC1 hy
  have v1 : IntKind.i64.wrap (la : Int) = (la : Int) := IntWalk.i64_in _ (by omega)
  have v2 : IntKind.i64.wrap ((la : Int) + (lb : Int)) = ((la + lb : Nat) : Int) := by rw [IntWalk.i64_in _ (by omega)]; simp
  have t0 : decide ((la : Int) < 0) = false := decide_eq_false (by omega)
  have t1 : decide (((la + lb : Nat) : Int) < 0) = false := decide_eq_false (by omega)
  have HG := Lib.hid (fun w' => growI_nil (la + lb) (by omega) w')
  clear hla hlb hgb k1 k2
  obtain ⟨n, hn⟩ : ∃ n, n = la + lb := ⟨_, rfl⟩
  rw [← hn] at v2 t1 HG
  clear hn
  go_enter Try.func66, Try.ntmps66
  go_wp2_with fail
  go_loopg [3, 11] 2 (fun gk s x wr => ∃ k : Nat, k + gk = 2 ∧ x = .int .i64 k ∧ s = .int .i64 (if k = 0 then 0 else if k = 1 then (la : Int) else (n : Int)) ∧ wr = w)
  case atStart => exact ⟨0, by omega, rfl, rfl, rfl⟩
  case round =>
    obtain ⟨k, hk, rfl, rfl, rfl⟩ := hrel
    obtain rfl | rfl | rfl : k = 0 ∨ k = 1 ∨ k = 2 := by omega
    · obtain rfl : gk = 2 := by omega
      go_wp2
      go_roundg 1
      case measure => omega
      case rel => exact ⟨1, by omega, by go_num, rfl, rfl⟩
    · obtain rfl : gk = 1 := by omega
      go_wp2
      go_roundg 0
      case measure => omega
      case rel => exact ⟨2, by omega, by go_num, rfl, rfl⟩
    · clear h0 h1 l0 v1 v2 t0 t1
      obtain ⟨w0, rfl⟩ : ∃ z, z = wr := ⟨wr, rfl⟩
      go_wp2_with fail
      refine (HG.out _).mono ?_
      rintro e w1 ⟨v, rfl, hov⟩
      have HO := Lib.hid hov
      clear hov HG
      go_wp2_with fail
      go_loopg [6, 27] 2 (fun gk s x wr2 => ∃ (k : Nat) (zs : List Int), k + gk = 2 ∧ x = .int .i64 k ∧ Hid (zs = if k = 0 then [] else if k = 1 then xs else xs ++ ys) ∧ Hid (OV w0 3 s (zs.map (Value.int .i64)) wr2))
      case atStart => exact ⟨0, [], by omega, rfl, Lib.hid rfl, HO⟩
      case round =>
        obtain ⟨k, zs, hk, rfl, HZ, HI⟩ := hrel
        obtain rfl | rfl | rfl : k = 0 ∨ k = 1 ∨ k = 2 := by omega
        · obtain rfl : gk = 2 := by omega
          have d0 := (HI.out.b.cell (p := ⟨gb, 0, none⟩) HGB.out).trans HC0.out
          have l1 := Nat.lt_of_lt_of_le HGB.out HI.out.b.size
          obtain ⟨v', w5, hr, ho, hg⟩ := append_ints HI.out 38 a ca xs (HK1.out.below HI.out.b) (by have := HLA.out; have := HZ.out; subst this; simp; omega)
          rw [← HLA.out] at hr
          have HN : Hid (OV w0 3 v' (xs.map (Value.int .i64)) w5) := Lib.hid (by have := HZ.out; subst this; simpa using ho)
          clear ho hg
          go_wp2_with (at_builtin; refine Lib.wpList_append_run _ rfl _ _ _ _ rfl _ _ rfl rfl _ _ hr ?_)
          go_roundg 1
          case measure => omega
          case rel => exact ⟨1, xs, by omega, by go_num, Lib.hid rfl, HN⟩
        · obtain rfl : gk = 1 := by omega
          have d0 := (HI.out.b.cell (p := ⟨gb, 1, none⟩) HGB.out).trans HC1.out
          have l1 := Nat.lt_of_lt_of_le HGB.out HI.out.b.size
          obtain ⟨v', w5, hr, ho, hg⟩ := append_ints HI.out 38 a2 cb ys (HK2.out.below HI.out.b) (by have := HLA.out; have := HLB.out; have := HZ.out; subst this; simp; omega)
          rw [← HLB.out] at hr
          have HN : Hid (OV w0 3 v' ((xs ++ ys).map (Value.int .i64)) w5) := Lib.hid (by have := HZ.out; subst this; simpa using ho)
          clear ho hg
          go_wp2_with (at_builtin; refine Lib.wpList_append_run _ rfl _ _ _ _ rfl _ _ rfl rfl _ _ hr ?_)
          go_roundg 0
          case measure => omega
          case rel => exact ⟨2, xs ++ ys, by omega, by go_num, Lib.hid rfl, HN⟩
        · have HE : Hid (∃ x c, u6 = .slice x (xs ++ ys).length c ∧ IntK wr x (xs ++ ys)) := Lib.hid (by have := HZ.out; subst this; exact HI.out.ints)
          obtain ⟨x, c, rfl, hik⟩ := HE.out
          have HE2 := Lib.hid (And.intro hik HI.out.b)
          clear hik HE
          go_wp2
          go_ret
          exact ⟨x, c, rfl, HE2.out.1, HE2.out.2⟩

end Go.Proofs.Ytpihokfamcdbeaa

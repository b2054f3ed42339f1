/- Sum: the program's and the reference's, by one specification. -/
import Derived.Test.YtpghhfobaionkaaMem
namespace Go.Proofs.Ytpghhfobaionkaa
open Go.RowKit

/-- Sums from a / b on. -/
noncomputable def sumF : Int → Int → List (Int × Int) → Int × Int × Int
  | a, b, [] => (a, b, 0)
  | a, b, f :: l =>
    if (opS a b f.1 f.2 (qof a b + qof f.1 f.2)).2.2 = 0 then sumF (opS a b f.1 f.2 (qof a b + qof f.1 f.2)).1 (opS a b f.1 f.2 (qof a b + qof f.1 f.2)).2.1 l
    else (0, 0, (opS a b f.1 f.2 (qof a b + qof f.1 f.2)).2.2)

theorem sumF_ok {a b x y : Int} {fs : List (Int × Int)} {k : Nat} (hk : k < fs.length) (h : opS a b fs[k].1 fs[k].2 (qof a b + qof fs[k].1 fs[k].2) = (x, y, 0)) : sumF a b (fs.drop k) = sumF x y (fs.drop (k + 1)) := by
  rw [List.drop_eq_getElem_cons hk]
  conv => lhs; unfold sumF
  rw [h]; rfl
theorem sumF_no {a b x y z : Int} {fs : List (Int × Int)} {k : Nat} (hk : k < fs.length) (hz : z ≠ 0) (h : opS a b fs[k].1 fs[k].2 (qof a b + qof fs[k].1 fs[k].2) = (x, y, z)) : sumF a b (fs.drop k) = (0, 0, z) := by
  rw [List.drop_eq_getElem_cons hk]
  unfold sumF
  rw [h]
  exact if_neg hz

noncomputable def sumS (fs : List (Int × Int)) : Int × Int × Int :=
  if 64 < fs.length then (0, 0, 3) else if allB fs = false then (0, 0, 2) else sumF 0 1 fs

set_option maxRecDepth 100000 in
set_option maxHeartbeats 1600000 in
theorem allValid_sl (a : Option Addr) (cap : Nat) (fs : List (Int × Int)) (hl : (fs.length : Int) ≤ 1000000) (w : World) (h : FrS w a fs) :
    Calls Try.prog 12 #[.slice a fs.length cap] w fun e w' => e = .returned (.bool (allB fs)) ∧ Below w.heap.size w w' := by
  have HF := Lib.hid h
  clear h
  obtain ⟨b, hb⟩ : ∃ b, b = allB fs := ⟨_, rfl⟩
  rw [← hb]
  have HBB := Lib.hid hb
  clear hb
  go_enter Try.func12, Try.ntmps12
  go_wp2
  go_loopw [7] (fun i wr => ∃ k : Nat, k ≤ fs.length ∧ i = .int .i64 k ∧ Hid (allB (fs.take k) = true) ∧ Hid (Below w.heap.size w wr)) (fun i _ => fs.length - (intOf i).toNat)
  case atStart => exact ⟨0, Nat.zero_le _, rfl, rfl, Below.refl _ _⟩
  case round =>
    obtain ⟨k, hk, rfl, HA, HB⟩ := hrel
    by_cases hlt : k < fs.length
    · obtain ⟨g, off, rfl, hg, hc0, hc1⟩ := (HF.out.below HB.out).at_ hlt
      obtain ⟨n, hn⟩ : ∃ n, n = fs[k].1 := ⟨_, rfl⟩
      obtain ⟨d, hd⟩ : ∃ n, n = fs[k].2 := ⟨_, rfl⟩
      rw [← hn] at hc0
      rw [← hd] at hc1
      have HND := Lib.hid (And.intro hn hd)
      clear hn hd
      have hk0 : (0 : Int) ≤ (k : Int) := by omega
      go_wp2_with fail
      refine (valid_any n d _).mono ?_
      rintro e w1 ⟨rfl, hb1⟩
      have hb2 : Below w.heap.size w w1 := (HB.out.alloc HB.out.size _).trans (hb1.mono (by have := HB.out.size; simp; omega))
      have HB2 := Lib.hid hb2
      clear hb1 hb2
      cases hv : vfB n d
      · have HV := Lib.hid hv
        clear hv
        go_wp2
        go_ret
        exact ⟨by rw [HBB.out, allB_false hlt (by rw [← HND.out.1, ← HND.out.2]; exact HV.out)]; rfl, HB2.out⟩
      · have HV := Lib.hid hv
        clear hv
        go_wp2
        go_roundw
        case rel => exact ⟨k + 1, by omega, by go_num, Lib.hid (by rw [allB_succ hlt HA.out, ← HND.out.1, ← HND.out.2]; exact HV.out), HB2⟩
        case measure => simp [intOf]; omega
    · have hkl : k = fs.length := by omega
      have HKL := Lib.hid hkl
      clear hkl
      go_wp2
      go_ret
      have h := HA.out
      rw [HKL.out, List.take_length] at h
      exact ⟨by rw [HBB.out, h]; rfl, HB.out⟩

theorem wholeFrac_p (n : Int) (w : World) :
    Calls Try.prog 13 #[.int .i64 n] w fun e w' => e = .returned (.agg #[.int .i64 n, .int .i64 1]) ∧ Below w.heap.size w w' := by
  go_enter Try.func13, Try.ntmps13
  go_wp2
  refine bodyPost_ret (v := .agg #[.int .i64 n, .int .i64 1]) (by simp [results, Try.results13, go_sem]) rfl ⟨rfl, (Below.refl _ _).alloc (Nat.le_refl _) _⟩

set_option maxRecDepth 100000 in
set_option maxHeartbeats 1600000 in
theorem psum_any (a : Option Addr) (cap : Nat) (fs : List (Int × Int)) (w : World) (h : FrS w a fs) :
    Calls Try.prog 6 #[.slice a fs.length cap] w fun e w' => ∃ x y z, e = .returned (.tuple #[.agg #[.int .i64 x, .int .i64 y], .int .i64 z]) ∧ Hid (sumS fs = (x, y, z)) ∧ Below w.heap.size w w' := by
  have HF := Lib.hid h
  have HM0 := Lib.hid ((Mem.nil w).alloc #[.int .i64 0, .int .i64 0] 24)
  clear h
  by_cases h64 : 64 < fs.length
  · have HS : Hid (sumS fs = (0, 0, 3)) := Lib.hid (by unfold sumS; rw [if_pos h64])
    have hi : (64 : Int) < (fs.length : Int) := by omega
    clear h64
    go_enter Try.func6, Try.ntmps6
    go_wp2
    refine bodyPost_ret (v := .tuple #[.agg #[.int .i64 0, .int .i64 0], .int .i64 3]) (by simp [results, Try.results6, go_sem]) rfl ⟨_, _, _, rfl, HS, ?_⟩
    exact HM0.out.b
  · have hi : (fs.length : Int) ≤ 64 := by omega
    obtain ⟨b, hb⟩ : ∃ b, b = allB fs := ⟨_, rfl⟩
    have HBB := Lib.hid hb
    have HA : Hid (∀ w', FrS w' a fs → Calls Try.prog 12 #[.slice a fs.length cap] w' fun e w'' => e = .returned (.bool b) ∧ Below w'.heap.size w' w'') := Lib.hid (fun w' h' => by rw [hb]; exact allValid_sl a cap fs (by omega) w' h')
    obtain ⟨⟨x, y, z⟩, hS⟩ : ∃ t, sumS fs = t := ⟨_, rfl⟩
    have HS := Lib.hid hS
    clear hb hS
    cases b
    · have HZ : Hid (sumS fs = (0, 0, 2)) := Lib.hid (by unfold sumS; rw [if_neg h64, if_pos HBB.out.symm])
      clear h64
      go_enter Try.func6, Try.ntmps6
      go_wp2_with fail
      refine (HA.out _ (HF.out.mem HM0.out)).mono ?_
      rintro e w1 ⟨rfl, hb1⟩
      have hM := HM0.out.step hb1
      have HM := Lib.hid hM
      obtain ⟨c0, c1, f0, f1, hlt⟩ := hM.c2
      clear hb1 hM
      go_wp2
      refine bodyPost_ret (v := .tuple #[.agg #[.int .i64 0, .int .i64 0], .int .i64 2]) (by simp [results, Try.results6, go_sem, c0, c1]) rfl ⟨_, _, _, rfl, HZ, ?_⟩
      exact (HM.out.put2 _ _).b
    · have HZ : Hid (sumF 0 1 fs = (x, y, z)) := Lib.hid (by have := HS.out; unfold sumS at this; rw [if_neg h64, if_neg (by rw [← HBB.out]; decide)] at this; exact this)
      clear h64
      go_enter Try.func6, Try.ntmps6
      go_wp2_with fail
      refine (HA.out _ (HF.out.mem HM0.out)).mono ?_
      rintro e w1 ⟨rfl, hb1⟩
      have HM := Lib.hid (HM0.out.step hb1)
      clear hb1
      go_wp2_with fail
      refine (wholeFrac_p 0 _).mono ?_
      rintro e w2 ⟨rfl, hb2⟩
      have hM := (HM.out.step hb2).alloc #[.int .i64 0, .int .i64 1] 24
      have HM2 := Lib.hid hM
      clear hb2 hM
      go_wp2
      go_loopw [19] (fun i wr => ∃ (k : Nat) (p q : Int), k ≤ fs.length ∧ i = .int .i64 k ∧ Hid (sumF p q (fs.drop k) = (x, y, z)) ∧ Hid (Mem w [(w2.heap.size, #[.int .i64 p, .int .i64 q], 24), (w.heap.size, #[.int .i64 0, .int .i64 0], 24)] wr)) (fun i _ => fs.length - (intOf i).toNat)
      case atStart => exact ⟨0, 0, 1, Nat.zero_le _, rfl, HZ, HM2⟩
      case round =>
        obtain ⟨k, p, q, hk, rfl, HT, HR⟩ := hrel
        by_cases hlt : k < fs.length
        · obtain ⟨g, off, rfl, hg, hc0, hc1⟩ := (HF.out.mem HR.out).at_ hlt
          obtain ⟨n, hn⟩ : ∃ n, n = fs[k].1 := ⟨_, rfl⟩
          obtain ⟨d, hd⟩ : ∃ n, n = fs[k].2 := ⟨_, rfl⟩
          rw [← hn] at hc0
          rw [← hd] at hc1
          have HND := Lib.hid (And.intro hn hd)
          clear hn hd
          have hk0 : (0 : Int) ≤ (k : Int) := by omega
          obtain ⟨c0, c1, f0, f1, hl1⟩ := HR.out.c2
          have HRA := Lib.hid (HR.out.skip (.cells #[.int .i64 n, .int .i64 d] 24))
          go_wp2_with fail
          refine (padd_any p q n d _).mono ?_
          rintro e w3 ⟨x0, x1, x2, rfl, HO, hb3⟩
          have hM3 := HRA.out.step hb3
          have HM3 := Lib.hid hM3
          clear hc0 hc1 c0 c1 f0 f1 hl1 hb3 hg
          obtain ⟨c0, c1, f0, f1, hl1⟩ := hM3.c2
          clear hM3
          by_cases hz : x2 = 0
          · subst hz
            have HN : Hid (sumF x0 x1 (fs.drop (k + 1)) = (x, y, z)) := Lib.hid (by rw [← sumF_ok hlt (by rw [← HND.out.1, ← HND.out.2]; exact HO.out)]; exact HT.out)
            go_wp2
            go_roundw
            case rel => exact ⟨k + 1, x0, x1, by omega, by go_num, HN, Lib.hid (HM3.out.put2 _ _)⟩
            case measure => simp [intOf]; omega
          · have hz' : (x2 != 0) = true := by simpa using hz
            have HN : Hid ((0, 0, x2) = (x, y, z)) := Lib.hid (by rw [← HT.out, sumF_no hlt hz (by rw [← HND.out.1, ← HND.out.2]; exact HO.out)])
            clear hz
            have HE := Lib.hid (HM3.out.put2 (.int .i64 x0) (.int .i64 x1))
            obtain ⟨r0, r1, r2, r3, r4⟩ := HE.out.tail.c2
            go_wp2
            refine bodyPost_ret (v := .tuple #[.agg #[.int .i64 0, .int .i64 0], .int .i64 x2]) (by simp [results, Try.results6, go_sem, r0, r1]) rfl ⟨_, _, _, rfl, Lib.hid (HS.out.trans HN.out.symm), ?_⟩
            exact (HE.out.tail.put2 _ _).b
        · have hkl : k = fs.length := by omega
          have HN : Hid ((p, q, 0) = (x, y, z)) := Lib.hid (by rw [← HT.out, hkl, List.drop_length]; rfl)
          clear hkl
          obtain ⟨c0, c1, f0, f1, hl1⟩ := HR.out.c2
          obtain ⟨r0, r1, r2, r3, r4⟩ := HR.out.tail.c2
          go_wp2
          refine bodyPost_ret (v := .tuple #[.agg #[.int .i64 p, .int .i64 q], .int .i64 0]) (by simp [results, Try.results6, go_sem, r0, r1]) rfl ⟨_, _, _, rfl, Lib.hid (HS.out.trans HN.out.symm), ?_⟩
          exact (HR.out.tail.put2 _ _).b

set_option maxRecDepth 100000 in
set_option maxHeartbeats 1600000 in
theorem rall_sl (a : Option Addr) (cap : Nat) (fs : List (Int × Int)) (hl : (fs.length : Int) ≤ 1000000) (w : World) (h : FrS w a fs) :
    Calls Try.prog 15 #[.slice a fs.length cap] w fun e w' => e = .returned (.bool (allB fs)) ∧ Below w.heap.size w w' := by
  have HF := Lib.hid h
  clear h
  obtain ⟨b, hb⟩ : ∃ b, b = allB fs := ⟨_, rfl⟩
  rw [← hb]
  have HBB := Lib.hid hb
  clear hb
  go_enter Try.func15, Try.ntmps15
  go_wp2
  go_loopw [7] (fun i wr => ∃ k : Nat, k ≤ fs.length ∧ i = .int .i64 k ∧ Hid (allB (fs.take k) = true) ∧ Hid (Below w.heap.size w wr)) (fun i _ => fs.length - (intOf i).toNat)
  case atStart => exact ⟨0, Nat.zero_le _, rfl, rfl, Below.refl _ _⟩
  case round =>
    obtain ⟨k, hk, rfl, HA, HB⟩ := hrel
    by_cases hlt : k < fs.length
    · obtain ⟨g, off, rfl, hg, hc0, hc1⟩ := (HF.out.below HB.out).at_ hlt
      obtain ⟨n, hn⟩ : ∃ n, n = fs[k].1 := ⟨_, rfl⟩
      obtain ⟨d, hd⟩ : ∃ n, n = fs[k].2 := ⟨_, rfl⟩
      rw [← hn] at hc0
      rw [← hd] at hc1
      have HND := Lib.hid (And.intro hn hd)
      clear hn hd
      have hk0 : (0 : Int) ≤ (k : Int) := by omega
      go_wp2_with fail
      refine (valid_r n d _).mono ?_
      rintro e w1 ⟨rfl, hb1⟩
      have hb2 : Below w.heap.size w w1 := (HB.out.alloc HB.out.size _).trans (hb1.mono (by have := HB.out.size; simp; omega))
      have HB2 := Lib.hid hb2
      clear hb1 hb2
      cases hv : vfB n d
      · have HV := Lib.hid hv
        clear hv
        go_wp2
        go_ret
        exact ⟨by rw [HBB.out, allB_false hlt (by rw [← HND.out.1, ← HND.out.2]; exact HV.out)]; rfl, HB2.out⟩
      · have HV := Lib.hid hv
        clear hv
        go_wp2
        go_roundw
        case rel => exact ⟨k + 1, by omega, by go_num, Lib.hid (by rw [allB_succ hlt HA.out, ← HND.out.1, ← HND.out.2]; exact HV.out), HB2⟩
        case measure => simp [intOf]; omega
    · have hkl : k = fs.length := by omega
      have HKL := Lib.hid hkl
      clear hkl
      go_wp2
      go_ret
      have h := HA.out
      rw [HKL.out, List.take_length] at h
      exact ⟨by rw [HBB.out, h]; rfl, HB.out⟩

set_option maxRecDepth 100000 in
set_option maxHeartbeats 1600000 in
theorem rsum_any (a : Option Addr) (cap : Nat) (fs : List (Int × Int)) (w : World) (h : FrS w a fs) :
    Calls Try.prog 7 #[.slice a fs.length cap] w fun e w' => ∃ x y z, e = .returned (.tuple #[.agg #[.int .i64 x, .int .i64 y], .int .i64 z]) ∧ Hid (sumS fs = (x, y, z)) ∧ Below w.heap.size w w' := by
  have HF := Lib.hid h
  have HM0 := Lib.hid ((Mem.nil w).alloc #[.int .i64 0, .int .i64 0] 24)
  clear h
  by_cases h64 : 64 < fs.length
  · have HS : Hid (sumS fs = (0, 0, 3)) := Lib.hid (by unfold sumS; rw [if_pos h64])
    have hi : (64 : Int) < (fs.length : Int) := by omega
    clear h64
    go_enter Try.func7, Try.ntmps7
    go_wp2
    refine bodyPost_ret (v := .tuple #[.agg #[.int .i64 0, .int .i64 0], .int .i64 3]) (by simp [results, Try.results7, go_sem]) rfl ⟨_, _, _, rfl, HS, ?_⟩
    exact HM0.out.b
  · have hi : (fs.length : Int) ≤ 64 := by omega
    obtain ⟨b, hb⟩ : ∃ b, b = allB fs := ⟨_, rfl⟩
    have HBB := Lib.hid hb
    have HA : Hid (∀ w', FrS w' a fs → Calls Try.prog 15 #[.slice a fs.length cap] w' fun e w'' => e = .returned (.bool b) ∧ Below w'.heap.size w' w'') := Lib.hid (fun w' h' => by rw [hb]; exact rall_sl a cap fs (by omega) w' h')
    obtain ⟨⟨x, y, z⟩, hS⟩ : ∃ t, sumS fs = t := ⟨_, rfl⟩
    have HS := Lib.hid hS
    clear hb hS
    cases b
    · have HZ : Hid (sumS fs = (0, 0, 2)) := Lib.hid (by unfold sumS; rw [if_neg h64, if_pos HBB.out.symm])
      clear h64
      go_enter Try.func7, Try.ntmps7
      go_wp2_with fail
      refine (HA.out _ (HF.out.mem HM0.out)).mono ?_
      rintro e w1 ⟨rfl, hb1⟩
      have hM := HM0.out.step hb1
      have HM := Lib.hid hM
      obtain ⟨c0, c1, f0, f1, hlt⟩ := hM.c2
      clear hb1 hM
      go_wp2
      refine bodyPost_ret (v := .tuple #[.agg #[.int .i64 0, .int .i64 0], .int .i64 2]) (by simp [results, Try.results7, go_sem, c0, c1]) rfl ⟨_, _, _, rfl, HZ, ?_⟩
      exact (HM.out.put2 _ _).b
    · have HZ : Hid (sumF 0 1 fs = (x, y, z)) := Lib.hid (by have := HS.out; unfold sumS at this; rw [if_neg h64, if_neg (by rw [← HBB.out]; decide)] at this; exact this)
      clear h64
      go_enter Try.func7, Try.ntmps7
      go_wp2_with fail
      refine (HA.out _ (HF.out.mem HM0.out)).mono ?_
      rintro e w1 ⟨rfl, hb1⟩
      have HM := Lib.hid (HM0.out.step hb1)
      clear hb1
      have hM := HM.out.alloc #[.int .i64 0, .int .i64 1] 24
      have HM2 := Lib.hid hM
      clear hM
      go_wp2
      go_loopw [20] (fun i wr => ∃ (k : Nat) (p q : Int), k ≤ fs.length ∧ i = .int .i64 k ∧ Hid (sumF p q (fs.drop k) = (x, y, z)) ∧ Hid (Mem w [(w1.heap.size, #[.int .i64 p, .int .i64 q], 24), (w.heap.size, #[.int .i64 0, .int .i64 0], 24)] wr)) (fun i _ => fs.length - (intOf i).toNat)
      case atStart => exact ⟨0, 0, 1, Nat.zero_le _, rfl, HZ, HM2⟩
      case round =>
        obtain ⟨k, p, q, hk, rfl, HT, HR⟩ := hrel
        by_cases hlt : k < fs.length
        · obtain ⟨g, off, rfl, hg, hc0, hc1⟩ := (HF.out.mem HR.out).at_ hlt
          obtain ⟨n, hn⟩ : ∃ n, n = fs[k].1 := ⟨_, rfl⟩
          obtain ⟨d, hd⟩ : ∃ n, n = fs[k].2 := ⟨_, rfl⟩
          rw [← hn] at hc0
          rw [← hd] at hc1
          have HND := Lib.hid (And.intro hn hd)
          clear hn hd
          have hk0 : (0 : Int) ≤ (k : Int) := by omega
          obtain ⟨c0, c1, f0, f1, hl1⟩ := HR.out.c2
          have HRA := Lib.hid (HR.out.skip (.cells #[.int .i64 n, .int .i64 d] 24))
          go_wp2_with fail
          refine (radd_any p q n d _).mono ?_
          rintro e w3 ⟨x0, x1, x2, rfl, HO, hb3⟩
          have hM3 := HRA.out.step hb3
          have HM3 := Lib.hid (hM3.alloc #[.int .i64 x0, .int .i64 x1] 24)
          have HM5 := Lib.hid hM3
          have HM4 := Lib.hid (hM3.skip (.cells #[.int .i64 x0, .int .i64 x1] 24))
          clear hc0 hc1 c0 c1 f0 f1 hl1 hb3 hg
          obtain ⟨c0, c1, f0, f1, hl1⟩ := hM3.c2
          clear hM3
          by_cases hz : x2 = 0
          · subst hz
            have HN : Hid (sumF x0 x1 (fs.drop (k + 1)) = (x, y, z)) := Lib.hid (by rw [← sumF_ok hlt (by rw [← HND.out.1, ← HND.out.2]; exact HO.out)]; exact HT.out)
            go_wp2
            go_roundw
            case rel => exact ⟨k + 1, x0, x1, by omega, by go_num, HN, Lib.hid ((HM5.out.put2 _ _).skip _)⟩
            case measure => simp [intOf]; omega
          · have hz' : (x2 != 0) = true := by simpa using hz
            have HN : Hid ((0, 0, x2) = (x, y, z)) := Lib.hid (by rw [← HT.out, sumF_no hlt hz (by rw [← HND.out.1, ← HND.out.2]; exact HO.out)])
            clear hz
            have HE := HM4
            obtain ⟨r0, r1, r2, r3, r4⟩ := HE.out.tail.c2
            go_wp2
            refine bodyPost_ret (v := .tuple #[.agg #[.int .i64 0, .int .i64 0], .int .i64 x2]) (by simp [results, Try.results7, go_sem, r0, r1]) rfl ⟨_, _, _, rfl, Lib.hid (HS.out.trans HN.out.symm), ?_⟩
            exact (HE.out.tail.put2 _ _).b
        · have hkl : k = fs.length := by omega
          have HN : Hid ((p, q, 0) = (x, y, z)) := Lib.hid (by rw [← HT.out, hkl, List.drop_length]; rfl)
          clear hkl
          obtain ⟨c0, c1, f0, f1, hl1⟩ := HR.out.c2
          obtain ⟨r0, r1, r2, r3, r4⟩ := HR.out.tail.c2
          go_wp2
          refine bodyPost_ret (v := .tuple #[.agg #[.int .i64 p, .int .i64 q], .int .i64 0]) (by simp [results, Try.results7, go_sem, r0, r1]) rfl ⟨_, _, _, rfl, Lib.hid (HS.out.trans HN.out.symm), ?_⟩
          exact (HR.out.tail.put2 _ _).b

end Go.Proofs.Ytpghhfobaionkaa

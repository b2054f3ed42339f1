/- The program's FromTerms: the walk. -/
import Derived.BigRegion
import Derived.Test.YtjnfgjaiahnfgaaFT
import Derived.Test.YtjnfgjaiahnfgaaBackA
namespace Go.Proofs.Ytjnfgjaiahnfgaa
open Go.RowKit
set_option linter.unusedSimpArgs false
set_option linter.unusedVariables false

/-- FromTerms, by its definition. -/
noncomputable def ftS (zs : List Int) : Int × Int × Int := if 64 < zs.length then (0, 0, 3) else if areT zs = true then ansQ (qof (ft zs).1 (ft zs).2) else (0, 0, 2)

theorem ftS_long {zs : List Int} (h : 64 < zs.length) : ftS zs = (0, 0, 3) := by unfold ftS; rw [if_pos h]
theorem ftS_no {zs : List Int} (h : ¬ 64 < zs.length) (h1 : areT zs = false) : ftS zs = (0, 0, 2) := by unfold ftS; rw [if_neg h, if_neg (by rw [h1]; decide)]
theorem ftS_yes {zs : List Int} (h : ¬ 64 < zs.length) (h1 : areT zs = true) : ftS zs = ansQ (qof (ft zs).1 (ft zs).2) := by unfold ftS; rw [if_neg h, if_pos h1]

theorem not_rep {n d : Int} (hg : Int.gcd n d = 1) (hd : 0 < d) (h : 1000000000 < (n.natAbs : Int) ∨ 1000000000 < d) : ¬ Rep (qof n d) := by
  intro hr
  obtain ⟨g1, g2⟩ := qof_parts (n := n) (d := d) (by omega)
  have h1 := hr.n
  have h2 := hr.d
  have hg' : Nat.gcd n.natAbs d.natAbs = 1 := hg
  rw [hg', Nat.div_one] at g1 g2
  omega

theorem areT_tail {zs : List Int} (h : areT zs = true) : zs ≠ [] ∧ (∀ a ∈ zs.tail, 1 ≤ a) ∧ zs.tail.getLast? ≠ some 1 := by
  cases zs with
  | nil => cases h
  | cons z t => exact ⟨by simp, (areT_iff.1 h).2, (areT_iff.1 h).1⟩

/-- The list parted at a place. -/
theorem parted {zs : List Int} {k : Nat} (hk : k < zs.length) : zs = zs.take k ++ zs[k] :: zs.drop (k + 1) := by
  rw [← List.drop_eq_getElem_cons hk, List.take_append_drop]

theorem drop_pos {zs : List Int} (h : ∀ a ∈ zs.tail, 1 ≤ a) {k : Nat} (hk : 1 ≤ k) : ∀ a ∈ zs.drop k, 1 ≤ a := by
  intro a ha
  apply h
  rw [← List.drop_one]
  have : zs.drop k = (zs.drop 1).drop (k - 1) := by rw [List.drop_drop]; congr 1; omega
  rw [this] at ha
  exact List.mem_of_mem_drop ha

theorem drop_last {zs : List Int} (h : zs.tail.getLast? ≠ some 1) {k : Nat} (hk : 1 ≤ k) : (zs.drop k).getLast? ≠ some 1 := by
  intro hc
  apply h
  have e : zs.drop k = zs.tail.drop (k - 1) := by rw [← List.drop_one, List.drop_drop]; congr 1; omega
  rw [e, List.getLast?_drop] at hc
  split at hc
  · cases hc
  · exact hc

/-- Where the program stops early. -/
theorem ft_stop {zs : List Int} (ha : areT zs = true) (hl : ¬ 64 < zs.length) {k : Nat} (hk : k < zs.length) (h : 1000000000 < (zs[k].natAbs : Int) ∨ 1000000000 < (ft (zs.drop (k + 1))).1) : ftS zs = (0, 0, 5) := by
  obtain ⟨hne, h1, h2⟩ := areT_tail ha
  have hp := parted hk
  have ho := ft_out (p := zs.take k) (l := zs.drop (k + 1)) (a := zs[k]) (by rw [← hp]; exact h1) (drop_last h2 (by omega)) h
  rw [← hp] at ho
  rw [ftS_yes hl ha]
  refine ansQ_no (not_rep (ft_gcd zs) ?_ ho)
  cases zs with
  | nil => exact absurd rfl hne
  | cons z t => rw [ft_cons]; exact (ft_pos t h1).1

theorem ft_den {zs : List Int} (ha : areT zs = true) : 0 < (ft zs).2 := by
  obtain ⟨hne, h1, h2⟩ := areT_tail ha
  cases zs with
  | nil => exact absurd rfl hne
  | cons z t => rw [ft_cons]; exact (ft_pos t h1).1

set_option maxRecDepth 100000 in
set_option maxHeartbeats 3200000 in
theorem fromTerms_p (a : Option Addr) (cap : Nat) (zs : List Int) (hwf : ∀ z ∈ zs, -9223372036854775808 ≤ z ∧ z ≤ 9223372036854775807) (hcap : zs.length ≤ cap) (hcm : (cap : Int) ≤ 9223372036854775807) (w : World) (h : IntS w a zs) :
    Calls Try.prog 48 #[.slice a zs.length cap] w fun e w' => ∃ x y z, e = .returned (.tuple #[.agg #[.int .i64 x, .int .i64 y], .int .i64 z]) ∧ Hid (ftS zs = (x, y, z)) ∧ Below w.heap.size w w' := by
  have HF := Lib.hid h
  have HM0 := Lib.hid ((Mem.nil w).alloc #[.int .i64 0, .int .i64 0] 23)
  have HWF := Lib.hid hwf
  clear h hwf
  by_cases h64 : 64 < zs.length
  · have HS := Lib.hid (ftS_long h64)
    have hi : (64 : Int) < (zs.length : Int) := by omega
    clear h64
    go_enter Try.func48, Try.ntmps48
    go_wp2
    refine bodyPost_ret (v := .tuple #[.agg #[.int .i64 0, .int .i64 0], .int .i64 3]) (by simp [results, Try.results48, go_sem]) rfl ⟨_, _, _, rfl, HS, ?_⟩
    exact HM0.out.b
  · have hi : (zs.length : Int) ≤ 64 := by omega
    obtain ⟨b, hb⟩ : ∃ b, b = areT zs := ⟨_, rfl⟩
    have HBB := Lib.hid hb
    have HA : Hid (∀ w', IntS w' a zs → Calls Try.prog 83 #[.slice a zs.length cap] w' fun e w'' => e = .returned (.bool b) ∧ w' = w'') := Lib.hid (fun w' h' => by rw [hb]; exact areTerms_any a cap zs hi hcap hcm w' h')
    have H64 := Lib.hid h64
    clear hb h64
    cases b
    · have HZ := Lib.hid (ftS_no H64.out HBB.out.symm)
      go_enter Try.func48, Try.ntmps48
      go_wp2_with fail
      refine (HA.out _ (HF.out.mem HM0.out)).mono ?_
      rintro e w1 ⟨rfl, rfl⟩
      go_wp2
      refine bodyPost_ret (v := .tuple #[.agg #[.int .i64 0, .int .i64 0], .int .i64 2]) (by simp [results, Try.results48, go_sem]) rfl ⟨_, _, _, rfl, HZ, ?_⟩
      exact HM0.out.b
    · have HY := Lib.hid (ftS_yes H64.out HBB.out.symm)
      have HT := Lib.hid (areT_tail HBB.out.symm)
      have HDEN := Lib.hid (ft_den HBB.out.symm)
      have hne : 0 < zs.length := List.length_pos_iff.2 HT.out.1
      obtain ⟨n, hn⟩ : ∃ n, n = zs.length := ⟨_, rfl⟩
      rw [← hn] at HA hne hi hcap ⊢
      have HN := Lib.hid hn
      have hM1 := HM0.out.alloc #[.int .i64 1, .int .i64 0] 67
      simp only [World.size_alloc] at hM1
      have HM1 := Lib.hid hM1
      clear hn hM1
      go_enter Try.func48, Try.ntmps48
      go_wp2_with fail
      refine (HA.out _ (HF.out.mem HM0.out)).mono ?_
      rintro e w1 ⟨rfl, rfl⟩
      go_wp2
      go_loopw [5] (fun i wr => ∃ (j N D : Int), -1 ≤ j ∧ j < (n : Int) ∧ i = .int .i64 j ∧ -2000000000000000000 ≤ N ∧ N ≤ 2000000000000000000 ∧ 0 ≤ D ∧ D ≤ 1000000000 ∧ Hid (ft (zs.drop (j + 1).toNat) = (N, D)) ∧ Hid (Mem w [(w.heap.size + 1, #[.int .i64 N, .int .i64 D], 67), (w.heap.size, #[.int .i64 0, .int .i64 0], 23)] wr)) (fun i _ => (intOf i + 1).toNat)
      case atStart =>
        refine ⟨(n : Int) - 1, 1, 0, by omega, by omega, rfl, by decide, by decide, by decide, by decide, Lib.hid ?_, ?_⟩
        · rw [show ((n : Int) - 1 + 1).toNat = zs.length by rw [← HN.out]; omega, List.drop_length]; rfl
        · exact HM1
      case round =>
        obtain ⟨j, N, D, hj1, hj2, rfl, hN1, hN2, hD1, hD2, HFT, HR⟩ := hrel
        by_cases hj : 0 ≤ j
        · obtain ⟨k, rfl⟩ := Int.eq_ofNat_of_zero_le hj
          have hk : k < zs.length := by have := HN.out; omega
          obtain ⟨g, off, rfl, hg, hc⟩ := (HF.out.mem HR.out).at_ hk
          obtain ⟨x, hx⟩ : ∃ n, n = zs[k] := ⟨_, rfl⟩
          rw [← hx] at hc
          have HX := Lib.hid hx
          obtain ⟨x1, x2⟩ := HWF.out _ (List.getElem_mem hk)
          rw [← hx] at x1 x2
          have HXX := Lib.hid (And.intro x1 x2)
          have HFT' : Hid (ft (zs.drop (k + 1)) = (N, D)) := HFT
          obtain ⟨ax, hax⟩ : ∃ y : Int, y = (x.natAbs : Int) := ⟨_, rfl⟩
          have HAX := Lib.hid hax
          have HK := Lib.hid hk
          have hax0 : 0 ≤ ax := by omega
          obtain ⟨c0, c1, f0, f1, hl1⟩ := HR.out.c2
          obtain ⟨r0, r1, r2, r3, r4⟩ := HR.out.tail.c2
          have hk0 : (0 : Int) ≤ (k : Int) := by omega
          have hkn : (k : Int) < (n : Int) := by omega
          clear hx hax hj HFT hj1 hj2
          by_cases hbig : 1000000000 < ax
          · have HE : Hid (ftS zs = (0, 0, 5)) := Lib.hid (ft_stop HBB.out.symm H64.out HK.out (.inl (by rw [← HX.out, ← HAX.out]; exact hbig)))
            go_wp2_with fail
            refine (size_var x ax HAX.out HXX.out.1 HXX.out.2 _).mono ?_
            rintro e w2 ⟨rfl, rfl⟩
            go_wp2
            refine bodyPost_ret (v := .tuple #[.agg #[.int .i64 0, .int .i64 0], .int .i64 5]) (by simp [results, Try.results48, go_sem, r0, r1]) rfl ⟨_, _, _, rfl, HE, ?_⟩
            exact (HR.out.tail.put2 _ _).b
          · by_cases hNb : 1000000000 < N
            · have HE : Hid (ftS zs = (0, 0, 5)) := Lib.hid (ft_stop HBB.out.symm H64.out HK.out (.inr (by rw [HFT'.out]; exact hNb)))
              go_wp2_with fail
              refine (size_var x ax HAX.out HXX.out.1 HXX.out.2 _).mono ?_
              rintro e w2 ⟨rfl, rfl⟩
              go_wp2
              refine bodyPost_ret (v := .tuple #[.agg #[.int .i64 0, .int .i64 0], .int .i64 5]) (by simp [results, Try.results48, go_sem, r0, r1]) rfl ⟨_, _, _, rfl, HE, ?_⟩
              exact (HR.out.tail.put2 _ _).b
            · have hNp : 1 ≤ N := by
                have := (ft_pos _ (drop_pos HT.out.2.1 (k := k + 1) (by omega))).1
                rw [HFT'.out] at this
                exact this
              have hx1 : -1000000000 ≤ x := by have := HAX.out; omega
              have hx2 : x ≤ 1000000000 := by have := HAX.out; omega
              obtain ⟨p1, p2⟩ := mul_bd (a := x) (b := N) hx1 hx2 (by omega) (by omega)
              have HNX : Hid (ft (zs.drop k) = (x * N + D, N)) := Lib.hid (by
                rw [List.drop_eq_getElem_cons hk, ft_cons, HFT'.out, ← HX.out])
              have HKZ : Hid (((k : Int) - 1 + 1).toNat = k) := Lib.hid (by omega)
              go_wp2_with fail
              refine (size_var x ax HAX.out HXX.out.1 HXX.out.2 _).mono ?_
              rintro e w2 ⟨rfl, rfl⟩
              go_wp2
              go_region
              go_wp2
              go_roundw
              case rel => exact ⟨(k : Int) - 1, x * N + D, N, by omega, by omega, rfl, by omega, by omega, by omega, by omega, Lib.hid (by rw [HKZ.out]; exact HNX.out), Lib.hid (HR.out.drew.put2 _ _)⟩
              case measure => simp [intOf]
        · have hjm : j = -1 := by omega
          subst hjm
          have HFZ : Hid (ft zs = (N, D)) := Lib.hid (by have := HFT.out; simpa using this)
          have hD : 0 < D := by have := HDEN.out; rw [HFZ.out] at this; exact this
          obtain ⟨c0, c1, f0, f1, hl1⟩ := HR.out.c2
          clear hj1 hj2
          go_wp2_with fail
          refine (rfrac_var N D (by omega) (by omega) (by omega) (by omega) (by omega) _ rfl _).mono ?_
          rintro e w2 ⟨ra, rb, rc, rfl, HANS, hb⟩
          have HR2 := Lib.hid (HR.out.step hb)
          clear hb c0 c1 f0 f1 hl1
          obtain ⟨r0, r1, r2, r3, r4⟩ := HR2.out.tail.c2
          go_wp2
          refine bodyPost_ret (v := .tuple #[.agg #[.int .i64 ra, .int .i64 rb], .int .i64 rc]) (by simp [results, Try.results48, go_sem, r0, r1]) rfl ⟨_, _, _, rfl, Lib.hid (by rw [HY.out, HFZ.out]; exact HANS.out), ?_⟩
          exact (HR2.out.tail.put2 _ _).b

end Go.Proofs.Ytjnfgjaiahnfgaa

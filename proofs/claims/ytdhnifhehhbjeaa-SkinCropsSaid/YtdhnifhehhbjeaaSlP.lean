/- Skins: the reference's box, Trim. -/
import Derived.Test.YtdhnifhehhbjeaaSlO
import Derived.Deep.DeepCutAuto
namespace Go.Proofs.Ytdhnifhehhbjeaa
open Go.RowKit

set_option maxRecDepth 100000 in
set_option maxHeartbeats 1600000 in
theorem rBox_empty (a : Option Addr) (c : Nat) (w : World) : Calls Try.prog 75 #[.slice a 0 c] w fun e w' => e = .returned (.tuple #[.agg #[.int .i64 0, .int .i64 0, .int .i64 0, .int .i64 0], .bool false]) ∧ Below w.heap.size w w' := by
  go_enter Try.func75, Try.ntmps75
  go_wp2
  refine bodyPost_ret (v := .tuple #[.agg #[.int .i64 0, .int .i64 0, .int .i64 0, .int .i64 0], .bool false]) (by simp [results, Try.results75, go_sem]) rfl ⟨rfl, ?_⟩
  exact (Below.refl _ _).alloc (Nat.le_refl _) _

set_option maxRecDepth 100000 in
set_option maxHeartbeats 6400000 in
theorem rBox_any (g cap : Nat) (l : List (Int × Int)) (hl : 0 < l.length) (hl2 : l.length ≤ 2304) (hr : ∀ c ∈ l, (0 ≤ c.1 ∧ c.1 ≤ 48) ∧ 0 ≤ c.2 ∧ c.2 ≤ 48) (w : World) (h : CellS w g l) :
    Calls Try.prog 75 #[.slice (some ⟨g, 0, none⟩) l.length cap] w fun e w' => ∃ p q r s, e = .returned (.tuple #[.agg #[.int .i64 p, .int .i64 q, .int .i64 (r - p + 1), .int .i64 (s - q + 1)], .bool true]) ∧ boxS (l[0].1, l[0].2, l[0].1, l[0].2) l = (p, q, r, s) ∧ Below w.heap.size w w' := by
  have HH := Lib.hid h
  have HR := Lib.hid hr
  have hg := h.1
  obtain ⟨FIN, hF⟩ : ∃ F, F = boxS (l[0].1, l[0].2, l[0].1, l[0].2) l := ⟨_, rfl⟩
  rw [← hF]
  obtain ⟨⟨fx, fy⟩, hf⟩ : ∃ c, c = l[0] := ⟨_, rfl⟩
  rw [← hf] at hF
  simp only at hF
  have hfr := hr _ (List.getElem_mem hl)
  rw [← hf] at hfr
  simp only at hfr
  obtain ⟨⟨x1, x2⟩, y1, y2⟩ := hfr
  have HM0 := Lib.hid ((Mem.nil w).alloc #[.int .i64 0, .int .i64 0, .int .i64 0, .int .i64 0] 39)
  obtain ⟨d0, d1⟩ := (h.below HM0.out.b).2 0 hl
  rw [← hf] at d0 d1
  simp only [Nat.zero_mul, Nat.zero_add] at d0 d1
  have dg := (h.below HM0.out.b).1
  have HF := Lib.hid hF
  obtain ⟨n, hn⟩ : ∃ n, n = l.length := ⟨_, rfl⟩
  have HN := Lib.hid hn
  rw [← hn] at hl hl2 ⊢
  have hn0 : (0 : Int) < n := by omega
  have hn1 : ((n : Int) == 0) = false := by simp; omega
  have hn3 : (n : Int) ≤ 2304 := by omega
  clear h hr hf hF hn
  go_enter Try.func75, Try.ntmps75
  go_wp2
  go_quiet (fail)
  go_wp2
  clear d0 d1 dg
  go_loopg [4, 5, 6, 7, 32] n (fun gk p q r s i wr => ∃ (k : Nat) (P Q R S : Int), k + gk = n ∧ i = .int .i64 k ∧ (p = .int .i64 P ∧ q = .int .i64 Q ∧ r = .int .i64 R ∧ s = .int .i64 S) ∧ ((0 ≤ P ∧ P ≤ 48) ∧ 0 ≤ Q ∧ Q ≤ 48) ∧ ((0 ≤ R ∧ R ≤ 48) ∧ 0 ≤ S ∧ S ≤ 48) ∧ Hid (boxS (P, Q, R, S) (l.drop k) = FIN) ∧ Hid (Mem w [(w.heap.size, #[.int .i64 0, .int .i64 0, .int .i64 0, .int .i64 0], 39)] wr))
  case atStart => exact ⟨0, fx, fy, fx, fy, by omega, rfl, ⟨rfl, rfl, rfl, rfl⟩, by omega, by omega, Lib.hid HF.out.symm, Lib.hid (HM0.out.step (below_drewN (Below.refl _ _) _))⟩
  case round =>
    obtain ⟨k, P, Q, R, S, hk, rfl, ⟨rfl, rfl, rfl, rfl⟩, ⟨⟨p1, p2⟩, q1, q2⟩, ⟨⟨r1, r2⟩, s1, s2⟩, HFL, HM⟩ := hrel
    by_cases hlt : k < n
    · obtain ⟨gk', rfl⟩ : ∃ m, gk = m + 1 := ⟨gk - 1, by omega⟩
      have hlt' : (k : Int) < n := by omega
      have hk0 : (0 : Int) ≤ k := by omega
      have hkl : k < l.length := by rw [← HN.out]; exact hlt
      obtain ⟨d0, d1⟩ := (HH.out.below HM.out.b).2 k hkl
      have dg := (HH.out.below HM.out.b).1
      obtain ⟨⟨ux, uy⟩, hu⟩ : ∃ c, c = l[k] := ⟨_, rfl⟩
      have hub := HR.out _ (List.getElem_mem hkl)
      rw [← hu] at d0 d1 hub
      simp only at d0 d1 hub
      obtain ⟨⟨t1, t2⟩, t3, t4⟩ := hub
      have HFL2 : Hid (boxS (if ux < P then ux else P, if uy < Q then uy else Q, if R < ux then ux else R, if S < uy then uy else S) (l.drop (k + 1)) = FIN) := Lib.hid (by
        rw [← HFL.out, List.drop_eq_getElem_cons hkl, ← hu]; rfl)
      clear hu hkl
      go_upto_region 7 with fail
      have HM7 := Lib.hid (HM.out.alloc #[.int .i64 ux, .int .i64 uy] 107)
      go_quiet (fail)
      have HM8 := Lib.hid (fun n => HM7.out.tail.step (below_drewN (Below.refl _ _) n))
      have b1 : 0 ≤ (if ux < P then ux else P) ∧ (if ux < P then ux else P) ≤ 48 := by split <;> omega
      have b2 : 0 ≤ (if uy < Q then uy else Q) ∧ (if uy < Q then uy else Q) ≤ 48 := by split <;> omega
      have b3 : 0 ≤ (if R < ux then ux else R) ∧ (if R < ux then ux else R) ≤ 48 := by split <;> omega
      have b4 : 0 ≤ (if S < uy then uy else S) ∧ (if S < uy then uy else S) ≤ 48 := by split <;> omega
      obtain ⟨P', hP'⟩ : ∃ z, z = (if ux < P then ux else P) := ⟨_, rfl⟩
      obtain ⟨Q', hQ'⟩ : ∃ z, z = (if uy < Q then uy else Q) := ⟨_, rfl⟩
      obtain ⟨R', hR'⟩ : ∃ z, z = (if R < ux then ux else R) := ⟨_, rfl⟩
      obtain ⟨S', hS'⟩ : ∃ z, z = (if S < uy then uy else S) := ⟨_, rfl⟩
      rw [← hP', ← hQ', ← hR', ← hS'] at HFL2 ⊢
      rw [← hP'] at b1
      rw [← hQ'] at b2
      rw [← hR'] at b3
      rw [← hS'] at b4
      clear hP' hQ' hR' hS' d0 d1 dg
      go_wp2
      go_roundg gk'
      case measure => exact Nat.lt_succ_self _
      case rel => exact ⟨k + 1, _, _, _, _, by omega, by go_num, ⟨rfl, rfl, rfl, rfl⟩, ⟨b1, b2⟩, ⟨b3, b4⟩, HFL2, Lib.hid (HM8.out _)⟩
    · obtain rfl : k = n := by omega
      have HEND : Hid (FIN = (P, Q, R, S)) := Lib.hid (by
        rw [← HFL.out, List.drop_eq_nil_of_le (by rw [← HN.out]; exact Nat.le_refl _)]; rfl)
      have z0 := HM.out.cell 0
      have z1 := HM.out.cell 1
      have z2 := HM.out.cell 2
      have z3 := HM.out.cell 3
      have f0 := HM.out.frozen 0
      have f1 := HM.out.frozen 1
      have f2 := HM.out.frozen 2
      have f3 := HM.out.frozen 3
      have zl := HM.out.head_lt
      simp at z0 z1 z2 z3
      have e1 : IntKind.i64.wrap (R - P) = R - P := IntWalk.i64_in _ (by omega)
      have e2 : IntKind.i64.wrap (R - P + 1) = R - P + 1 := IntWalk.i64_in _ (by omega)
      have e3 : IntKind.i64.wrap (S - Q) = S - Q := IntWalk.i64_in _ (by omega)
      have e4 : IntKind.i64.wrap (S - Q + 1) = S - Q + 1 := IntWalk.i64_in _ (by omega)
      go_wp2
      refine bodyPost_ret (v := .tuple #[.agg #[.int .i64 P, .int .i64 Q, .int .i64 (R - P + 1), .int .i64 (S - Q + 1)], .bool true]) (by simp [results, Try.results75, go_sem, z0, z1, z2, z3]) rfl ⟨_, _, _, _, rfl, HEND.out, ?_⟩
      exact (((HM.out.b.setCell (Nat.le_refl _) _).setCell (Nat.le_refl _) _).setCell (Nat.le_refl _) _).setCell (Nat.le_refl _) _

set_option maxRecDepth 100000 in
set_option maxHeartbeats 1600000 in
theorem rTrim_no (a : Option Addr) (cap : Nat) (ss : List ByteArray) (hs : skB ss = false) (hl : (ss.length : Int) ≤ 9223372036854775807) (hz : ∀ s ∈ ss, s.size ≤ 9223372036854775807) (w : World) (h : StrS w a ss) :
    Calls Try.prog 37 #[.slice a ss.length cap] w fun e w' => e = .returned (.tuple #[.agg #[.int .i64 0, .int .i64 0, .int .i64 0, .int .i64 0], .int .i64 2]) ∧ Below w.heap.size w w' := by
  have HV : Hid (∀ w', Below w.heap.size w w' → Calls Try.prog 18 #[.slice a ss.length cap] w' fun e w'' => e = .returned (.bool false) ∧ w' = w'') := Lib.hid (fun w' hb => by
    rw [← hs]; exact rValid_any a cap ss hl hz w' (h.below hb))
  have HM := Lib.hid ((Mem.nil w).alloc #[.int .i64 0, .int .i64 0, .int .i64 0, .int .i64 0] 39)
  clear hs h
  go_enter Try.func37, Try.ntmps37
  go_wp2_with fail
  refine (HV.out _ HM.out.b).mono ?_
  rintro e w1 ⟨rfl, rfl⟩
  go_wp2
  refine bodyPost_ret (v := .tuple #[.agg #[.int .i64 0, .int .i64 0, .int .i64 0, .int .i64 0], .int .i64 2]) (by simp [results, Try.results37, go_sem]) rfl ⟨rfl, ?_⟩
  exact HM.out.b

set_option maxRecDepth 100000 in
set_option maxHeartbeats 3200000 in
theorem rTrim_yes (a : Option Addr) (cap : Nat) (ss : List ByteArray) (hs : skB ss = true) (w : World) (h : StrS w a ss) (v1 v2 v3 v4 v5 : Int) (hv : trimV (trimTo ss (wid ss) ss.length 0) = (v1, v2, v3, v4, v5)) :
    Calls Try.prog 37 #[.slice a ss.length cap] w fun e w' => e = .returned (.tuple #[.agg #[.int .i64 v1, .int .i64 v2, .int .i64 v3, .int .i64 v4], .int .i64 v5]) ∧ Below w.heap.size w w' := by
  obtain ⟨⟨hl1, hl2⟩, ⟨hw1, hw2⟩, -⟩ := skB_iff.1 hs
  have HV : Hid (∀ w', Below w.heap.size w w' → Calls Try.prog 18 #[.slice a ss.length cap] w' fun e w'' => e = .returned (.bool true) ∧ w' = w'') := Lib.hid (fun w' hb => by
    rw [← hs]; exact rValid_any a cap ss (sk_long hs).1 (sk_long hs).2 w' (h.below hb))
  have HM := Lib.hid ((Mem.nil w).alloc #[.int .i64 0, .int .i64 0, .int .i64 0, .int .i64 0] 39)
  have HU := Lib.hid (fun w' (hb : Below w.heap.size w w') => rUsable_one a cap ss hs w' (h.below hb))
  obtain ⟨L, hL⟩ : ∃ L, L = trimTo ss (wid ss) ss.length 0 := ⟨_, rfl⟩
  rw [← hL] at HU
  have hLb : L.length ≤ 2304 := by
    have h1 := trimTo_len ss (wid ss) ss.length 0
    have h2 : ss.length * wid ss ≤ 48 * 48 := Nat.mul_le_mul hl2 hw2
    rw [hL]; omega
  have hLi : ∀ c ∈ L, (0 ≤ c.1 ∧ c.1 ≤ 48) ∧ 0 ≤ c.2 ∧ c.2 ≤ 48 := fun c hc => by
    rw [hL] at hc
    obtain ⟨r1, r2, r3, r4⟩ := trimTo_in hc
    omega
  rw [← hL] at hv
  have HSB := Lib.hid (And.intro hLb (And.intro hLi hv))
  clear hs h hL hLb hLi hv
  go_enter Try.func37, Try.ntmps37
  go_wp2_with fail
  refine (HV.out _ HM.out.b).mono ?_
  rintro e w1 ⟨rfl, rfl⟩
  go_wp2_with fail
  refine (HU.out _ HM.out.b).mono ?_
  rintro e w2 ⟨v, rfl, hu⟩
  have HM2 := Lib.hid (HM.out.step hu.b)
  obtain ⟨a2, c2, rfl, hcs⟩ := hu.form
  have HCS := Lib.hid hcs
  clear hu hcs
  by_cases hn : L.length = 0
  · obtain rfl := List.length_eq_zero_iff.1 hn
    have hv := HSB.out.2.2
    rw [trimV_nil] at hv
    simp only [Prod.mk.injEq] at hv
    obtain ⟨rfl, rfl, rfl, rfl, rfl⟩ := hv
    have HBX : Hid (Calls Try.prog 75 #[.slice a2 0 c2] w2 fun e w' => e = .returned (.tuple #[.agg #[.int .i64 0, .int .i64 0, .int .i64 0, .int .i64 0], .bool false]) ∧ Below w2.heap.size w2 w') := Lib.hid (rBox_empty a2 c2 w2)
    go_wp2_with fail
    refine HBX.out.mono ?_
    rintro e w3 ⟨rfl, hb3⟩
    have hm3 := HM2.out.step hb3
    have HM3 := Lib.hid hm3
    have z0 := hm3.cell 0
    have z1 := hm3.cell 1
    have z2 := hm3.cell 2
    have z3 := hm3.cell 3
    have f0 := hm3.frozen 0
    have f1 := hm3.frozen 1
    have f2 := hm3.frozen 2
    have f3 := hm3.frozen 3
    have zl := hm3.head_lt
    simp at z0 z1 z2 z3
    clear hb3 hm3
    go_wp2
    refine bodyPost_ret (v := .tuple #[.agg #[.int .i64 0, .int .i64 0, .int .i64 0, .int .i64 0], .int .i64 7]) (by simp [results, Try.results37, go_sem, z0, z1, z2, z3, zl]) rfl ⟨rfl, ?_⟩
    exact ((((HM3.out.b.setCell (Nat.le_refl _) _).setCell (Nat.le_refl _) _).setCell (Nat.le_refl _) _).setCell (Nat.le_refl _) _).alloc ((((HM3.out.b.setCell (Nat.le_refl _) _).setCell (Nat.le_refl _) _).setCell (Nat.le_refl _) _).setCell (Nat.le_refl _) _).size _
  · obtain ⟨g, rfl, hc⟩ := HCS.out (by omega)
    have HBX := Lib.hid (rBox_any g c2 L (by omega) HSB.out.1 HSB.out.2.1 w2 hc)
    obtain ⟨BF, hBF⟩ : ∃ BF, BF = boxS ((L[0]'(by omega)).1, (L[0]'(by omega)).2, (L[0]'(by omega)).1, (L[0]'(by omega)).2) L := ⟨_, rfl⟩
    rw [← hBF] at HBX
    have HBFF := Lib.hid hBF
    clear hc hBF
    go_wp2_with fail
    refine HBX.out.mono ?_
    rintro e w3 ⟨p, q, r, s, rfl, hbf, hb3⟩
    have hv := HSB.out.2.2
    rw [trimV_some (by omega) (HBFF.out.symm.trans hbf)] at hv
    simp only [Prod.mk.injEq] at hv
    obtain ⟨rfl, rfl, rfl, rfl, rfl⟩ := hv
    have hm3 := HM2.out.step hb3
    have HM3 := Lib.hid hm3
    have y0 := hm3.cell 0
    have y1 := hm3.cell 1
    have y2 := hm3.cell 2
    have y3 := hm3.cell 3
    have g0 := hm3.frozen 0
    have g1 := hm3.frozen 1
    have g2 := hm3.frozen 2
    have g3 := hm3.frozen 3
    have yl := hm3.head_lt
    simp at y0 y1 y2 y3
    obtain ⟨u3, hu3⟩ : ∃ u, u = r - p + 1 := ⟨_, rfl⟩
    obtain ⟨u4, hu4⟩ : ∃ u, u = s - q + 1 := ⟨_, rfl⟩
    rw [← hu3, ← hu4]
    have HU3 := Lib.hid (And.intro hu3 hu4)
    clear hb3 hbf hm3 hu3 hu4
    go_wp2
    refine bodyPost_ret (v := .tuple #[.agg #[.int .i64 p, .int .i64 q, .int .i64 u3, .int .i64 u4], .int .i64 0]) (by simp [results, Try.results37, go_sem, y0, y1, y2, y3, yl]) rfl ⟨by rw [HU3.out.1, HU3.out.2], ?_⟩
    exact ((((HM3.out.b.setCell (Nat.le_refl _) _).setCell (Nat.le_refl _) _).setCell (Nat.le_refl _) _).setCell (Nat.le_refl _) _).alloc ((((HM3.out.b.setCell (Nat.le_refl _) _).setCell (Nat.le_refl _) _).setCell (Nat.le_refl _) _).setCell (Nat.le_refl _) _).size _

end Go.Proofs.Ytdhnifhehhbjeaa

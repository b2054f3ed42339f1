/- Blend: the reference's, by the same specification. -/
import Derived.Test.YtjnfgjaiahnfgabBlend
namespace Go.Proofs.Ytjnfgjaiahnfgab
open Go.RowKit
set_option linter.unusedSimpArgs false

set_option maxRecDepth 100000 in
set_option maxHeartbeats 3200000 in
theorem rblend_any (a a2 : Option Addr) (cap cap2 : Nat) (fs : List (Int × Int)) (ws : List Int) (w : World) (h : FrS w a fs) (g : IntS w a2 ws) :
    Calls Try.prog 20 #[.slice a fs.length cap, .slice a2 ws.length cap2] w fun e w' => ∃ x y z, e = .returned (.tuple #[.agg #[.int .i64 x, .int .i64 y], .int .i64 z]) ∧ Hid (blendS fs ws = (x, y, z)) ∧ Below w.heap.size w w' := by
  have HF := Lib.hid h
  have HG := Lib.hid g
  have HM0 := Lib.hid ((Mem.nil w).alloc #[.int .i64 0, .int .i64 0] 23)
  clear h g
  by_cases h64 : 64 < fs.length ∨ 64 < ws.length
  · have HS : Hid (blendS fs ws = (0, 0, 3)) := Lib.hid (by unfold blendS; rw [if_pos h64])
    by_cases hf : 64 < fs.length
    · have hi : (64 : Int) < (fs.length : Int) := by omega
      clear h64 hf
      go_enter Try.func20, Try.ntmps20
      go_wp2
      refine bodyPost_ret (v := .tuple #[.agg #[.int .i64 0, .int .i64 0], .int .i64 3]) (by simp [results, Try.results20, go_sem]) rfl ⟨_, _, _, rfl, HS, ?_⟩
      exact HM0.out.b
    · have hi : (fs.length : Int) ≤ 64 := by omega
      have hj : (64 : Int) < (ws.length : Int) := by omega
      clear h64 hf
      go_enter Try.func20, Try.ntmps20
      go_wp2
      refine bodyPost_ret (v := .tuple #[.agg #[.int .i64 0, .int .i64 0], .int .i64 3]) (by simp [results, Try.results20, go_sem]) rfl ⟨_, _, _, rfl, HS, ?_⟩
      exact HM0.out.b
  · have hi : (fs.length : Int) ≤ 64 := by omega
    have hj : (ws.length : Int) ≤ 64 := by omega
    have HA : Hid (∀ w', FrS w' a fs → Calls Try.prog 41 #[.slice a fs.length cap] w' fun e w'' => e = .returned (.bool (allB fs)) ∧ Below w'.heap.size w' w'') := Lib.hid (fun w' h' => rall_sl a cap fs (by omega) w' h')
    by_cases hl : fs.length = ws.length
    · have hl1 : ((fs.length : Int) != (ws.length : Int)) = false := by simp [hl]
      have hl2 : (fs.length != ws.length) = false := by simp [hl]
      have HL := Lib.hid hl
      clear hl
      cases ha : allB fs
      · have HS : Hid (blendS fs ws = (0, 0, 2)) := Lib.hid (by unfold blendS; rw [if_neg h64, if_pos (.inr (.inl ha))])
        have HAB := Lib.hid ha
        clear ha h64
        go_enter Try.func20, Try.ntmps20
        go_wp2_with fail
        refine (HA.out _ (HF.out.mem HM0.out)).mono ?_
        rintro e w1 ⟨rfl, hb⟩
        rw [HAB.out]
        have hM := HM0.out.step hb
        have HM1 := Lib.hid hM
        clear hb
        obtain ⟨a0, a1, a2', a3, a4⟩ := hM.c2
        clear hM
        go_wp2
        refine bodyPost_ret (v := .tuple #[.agg #[.int .i64 0, .int .i64 0], .int .i64 2]) (by simp [results, Try.results20, go_sem, a0, a1]) rfl ⟨_, _, _, rfl, HS, ?_⟩
        exact (HM1.out.put2 _ _).b
      · have HAB := Lib.hid ha
        clear ha
        have HB0 : Hid (blendS fs ws = if wB ws 1000000 = false then (0, 0, 2) else if ws.sum = 0 then (0, 0, 4) else blE (blF 0 1 fs ws) ws.sum) := Lib.hid (by
          unfold blendS
          rw [if_neg h64]
          cases hw : wB ws 1000000
          · rw [if_pos (.inr (.inr rfl)), if_pos rfl]
          · rw [if_neg (by rw [HAB.out]; simp [HL.out]), if_neg (show ¬ ((true : Bool) = false) by decide)])
        clear h64
        go_enter Try.func20, Try.ntmps20
        go_wp2_with fail
        refine (HA.out _ (HF.out.mem HM0.out)).mono ?_
        rintro e w1 ⟨rfl, hb⟩
        rw [HAB.out]
        have HM1 := Lib.hid (HM0.out.step hb)
        clear hb
        obtain ⟨a0, a1, a2', a3, a4⟩ := HM1.out.c2
        go_wp2
        go_loop [6, 36] (fun t i => ∃ (k : Nat) (s : Int), k ≤ ws.length ∧ t = .int .i64 s ∧ i = .int .i64 k ∧ Hid ((ws.take k).sum = s ∧ wB (ws.take k) 1000000 = true)) (fun _ i => ws.length - (intOf i).toNat)
        case atStart => exact ⟨0, 0, Nat.zero_le _, rfl, rfl, Lib.hid ⟨rfl, rfl⟩⟩
        case round =>
        obtain ⟨k, s, hk, rfl, rfl, HK⟩ := hrel
        have hsb := sum_bd HK.out.2
        rw [HK.out.1, List.length_take] at hsb
        have hs1 := hsb.1
        have hs2 : s ≤ 1000000000 := by omega
        clear hsb
        by_cases hlt : k < ws.length
        · obtain ⟨g2, off2, rfl, hg2, hd0⟩ := (HG.out.mem HM1.out).at_ hlt
          obtain ⟨v, hv⟩ : ∃ n, n = ws[k] := ⟨_, rfl⟩
          rw [← hv] at hd0
          have HV := Lib.hid hv
          clear hv
          have hk0 : (0 : Int) ≤ (k : Int) := by omega
          by_cases hv0 : v < 0
          · have HS : Hid (blendS fs ws = (0, 0, 2)) := Lib.hid (by rw [HB0.out, if_pos (wB_false hlt (.inl (by rw [← HV.out]; exact hv0)))])
            go_wp2
            refine bodyPost_ret (v := .tuple #[.agg #[.int .i64 0, .int .i64 0], .int .i64 2]) (by simp [results, Try.results20, go_sem, a0, a1]) rfl ⟨_, _, _, rfl, HS, ?_⟩
            exact (HM1.out.put2 _ _).b
          · by_cases hv1 : 1000000 < v
            · have HS : Hid (blendS fs ws = (0, 0, 2)) := Lib.hid (by rw [HB0.out, if_pos (wB_false hlt (.inr (by rw [← HV.out]; exact hv1)))])
              go_wp2
              refine bodyPost_ret (v := .tuple #[.agg #[.int .i64 0, .int .i64 0], .int .i64 2]) (by simp [results, Try.results20, go_sem, a0, a1]) rfl ⟨_, _, _, rfl, HS, ?_⟩
              exact (HM1.out.put2 _ _).b
            · have HN : Hid ((ws.take (k + 1)).sum = s + v ∧ wB (ws.take (k + 1)) 1000000 = true) := Lib.hid ⟨by rw [sum_take hlt, HK.out.1, HV.out], wB_take HK.out.2 hlt (by rw [← HV.out]; omega) (by rw [← HV.out]; omega)⟩
              go_wp2
              go_round
              case rel => exact ⟨k + 1, s + v, by omega, rfl, by go_num, HN⟩
              case measure => simp [intOf]; omega
        · have hkl : k = ws.length := by omega
          have hN := HK.out
          rw [hkl, List.take_length] at hN
          have HB1 : Hid (blendS fs ws = if s = 0 then (0, 0, 4) else blE (blF 0 1 fs ws) s) := Lib.hid (by rw [HB0.out, if_neg (by rw [hN.2]; decide), hN.1])
          clear hkl hN
          by_cases hz : s = 0
          · subst hz
            have HS : Hid (blendS fs ws = (0, 0, 4)) := Lib.hid (by rw [HB1.out, if_pos rfl])
            go_wp2
            refine bodyPost_ret (v := .tuple #[.agg #[.int .i64 0, .int .i64 0], .int .i64 4]) (by simp [results, Try.results20, go_sem, a0, a1]) rfl ⟨_, _, _, rfl, HS, ?_⟩
            exact (HM1.out.put2 _ _).b
          · have hz1 : (s == 0) = false := by simpa using hz
            have HS : Hid (blendS fs ws = blE (blF 0 1 fs ws) s) := Lib.hid (by rw [HB1.out, if_neg hz])
            obtain ⟨⟨x, y, z⟩, hE⟩ : ∃ t, blF 0 1 fs ws = t := ⟨_, rfl⟩
            have HE := Lib.hid hE
            clear hz hE hk HK
            have HM2 := Lib.hid (HM1.out.alloc #[.int .i64 0, .int .i64 1] 23)
            clear a0 a1 a2' a3 a4
            go_wp2
            go_loopw [57] (fun i wr => ∃ (k : Nat) (p q : Int), k ≤ fs.length ∧ i = .int .i64 k ∧ Hid (blF p q (fs.drop k) (ws.drop k) = (x, y, z)) ∧ Hid (Mem w [(w1.heap.size, #[.int .i64 p, .int .i64 q], 23), (w.heap.size, #[.int .i64 0, .int .i64 0], 23)] wr)) (fun i _ => fs.length - (intOf i).toNat)
            case atStart => exact ⟨0, 0, 1, Nat.zero_le _, rfl, HE, HM2⟩
            case round =>
              obtain ⟨k, p, q, hk, rfl, HX, HR⟩ := hrel
              by_cases hlt : k < fs.length
              · have hlt2 : k < ws.length := by have := HL.out; omega
                obtain ⟨g, off, rfl, hg, hc0, hc1⟩ := (HF.out.mem HR.out).at_ hlt
                obtain ⟨g2, off2, rfl, hgw2, hg2, hd0⟩ := HG.out.at2 HR.out hlt2
                obtain ⟨n, hn⟩ : ∃ n, n = fs[k].1 := ⟨_, rfl⟩
                obtain ⟨d, hd⟩ : ∃ n, n = fs[k].2 := ⟨_, rfl⟩
                obtain ⟨v, hv⟩ : ∃ n, n = ws[k] := ⟨_, rfl⟩
                rw [← hn] at hc0
                rw [← hd] at hc1
                rw [← hv] at hd0
                have HND := Lib.hid (And.intro hn (And.intro hd hv))
                clear hn hd hv
                have hk0 : (0 : Int) ≤ (k : Int) := by omega
                have hki : (k : Int) < (ws.length : Int) := by omega
                have hM := HR.out.alloc #[.int .i64 n, .int .i64 d] 23
                have HG2 := Lib.hid (HG.out.mem hM)
                have HRA := Lib.hid hM
                clear hM
                have HC : Hid (∀ w', Mem w [(wr.heap.size, #[.int .i64 n, .int .i64 d], 23), (w1.heap.size, #[.int .i64 p, .int .i64 q], 23), (w.heap.size, #[.int .i64 0, .int .i64 0], 23)] w' → Mem w [(wr.heap.size, #[.int .i64 n, .int .i64 d], 23), (w1.heap.size, #[.int .i64 p, .int .i64 q], 23), (w.heap.size, #[.int .i64 0, .int .i64 0], 23)] w' ∧ w'.cell? ⟨wr.heap.size, 0, none⟩ = some (.int .i64 n) ∧ w'.cell? ⟨wr.heap.size, 1, none⟩ = some (.int .i64 d) ∧ w'.cell? ⟨g2, off2 + k, none⟩ = some (.int .i64 v)) := Lib.hid (fun w' h => ⟨h, h.cell 0, h.cell 1, by
                  have e1 := HR.out.b.cell (p := ⟨g2, off2 + k, none⟩) hgw2
                  exact (h.b.cell (p := ⟨g2, off2 + k, none⟩) hgw2).trans (e1.symm.trans hd0)⟩)
                go_upto_region 20 with fail
                go_cut [12, 13] (fun s10 s11 wx => ∃ (H : Nat) (r0 r1 r2 : Int), s10 = .pointer (some ⟨H, 0, none⟩) ∧ s11 = .int .i64 r2 ∧ Hid (opS n d v 1 (qof n d * qof v 1) = (r0, r1, r2)) ∧ Hid (Mem w [(H, #[.int .i64 r0, .int .i64 r1], 23), (w1.heap.size, #[.int .i64 p, .int .i64 q], 23), (w.heap.size, #[.int .i64 0, .int .i64 0], 23)] wx))
                case first =>
                  go_wp2_with fail
                  have hM := HRA.out
                  go_region_held3 (fun w' => Mem w [(wr.heap.size, #[.int .i64 n, .int .i64 d], 23), (w1.heap.size, #[.int .i64 p, .int .i64 q], 23), (w.heap.size, #[.int .i64 0, .int .i64 0], 23)] w' ∧ w'.cell? ⟨wr.heap.size, 0, none⟩ = some (.int .i64 n) ∧ w'.cell? ⟨wr.heap.size, 1, none⟩ = some (.int .i64 d) ∧ w'.cell? ⟨g2, off2 + k, none⟩ = some (.int .i64 v))
                    (first | exact HC.out _ hM | exact HC.out _ hM.drew | (go_split_ands; first | exact HC.out _ (Mem.step (by assumption) (by assumption)) | exact HC.out _ (Mem.skip (by assumption) _) | exact HC.out _ (Mem.set_new2 (by assumption) (by first | exact Nat.lt_succ_self _ | exact Mem.head_lt (by assumption) | omega) _ _) | exact HC.out _ (Mem.realloc (by assumption) (by omega) _)))
                    (first
                      | (go_at_call 47; go_split_ands; with_reducible (refine (rmul_any n d v 1 _).mono ?_); rintro e w4 ⟨r0, r1, r2, rfl, HO, hb4⟩; obtain ⟨oc4, of4, os4⟩ := old_cells hb4; try (simp only [World.size_alloc, World.size_drew] at oc4 of4 os4); try (have hz4 : wr.heap.size + 1 < w4.heap.size := by omega); try (have hz4' : wr.heap.size < w4.heap.size := by omega)))
                  all_goals go_wp2_with fail
                  all_goals
                    go_meet
                    refine ⟨_, r0, r1, r2, rfl, rfl, HO, Lib.hid ?_⟩
                    first
                      | exact ((HRA.out.step hb4).tail.alloc _ _)
                      | exact ((HRA.out.drew.step hb4).tail.alloc _ _)
                      | exact ((HRA.out.tail.alloc_at (World.size_alloc _ _) _ _).step hb4).put2 _ _
                      | exact ((HRA.out.tail.alloc_at (World.size_alloc _ _) _ _).drew.step hb4).put2 _ _
                case rest =>
                obtain ⟨H, r0, r1, r2, rfl, rfl, HO, HR4⟩ := hcut
                obtain ⟨c0, c1, c2, c3, c4⟩ := HR4.out.c2
                obtain ⟨d0, d1, d2, d3, d4⟩ := HR4.out.tail.c2
                clear hc0 hc1 hd0 hg hg2 HC
                by_cases hr : r2 = 0
                · subst hr
                  go_wp2_with fail
                  refine (radd_any p q r0 r1 _).mono ?_
                  rintro e w5 ⟨x0, x1, x2, rfl, HA2, hb⟩
                  have hM := (HR4.out.step hb).tail
                  have HM5 := Lib.hid hM
                  clear hb c0 c1 c2 c3 c4 d0 d1 d2 d3 d4
                  obtain ⟨d0, d1, d2, d3, d4⟩ := hM.c2
                  clear hM
                  by_cases hx : x2 = 0
                  · subst hx
                    have HN : Hid (blF x0 x1 (fs.drop (k + 1)) (ws.drop (k + 1)) = (x, y, z)) := Lib.hid (by rw [← blF_ok hlt hlt2 (by rw [← HND.out.1, ← HND.out.2.1, ← HND.out.2.2]; exact HO.out) HA2.out]; exact HX.out)
                    go_wp2
                    go_roundw
                    case rel => exact ⟨k + 1, x0, x1, by omega, by go_num, HN, Lib.hid (HM5.out.put2 _ _)⟩
                    case measure => simp [intOf]; omega
                  · have hx' : (x2 != 0) = true := by simpa using hx
                    have HN : Hid ((0, 0, x2) = (x, y, z)) := Lib.hid (by rw [← HX.out, blF_add hlt hlt2 hx (by rw [← HND.out.1, ← HND.out.2.1, ← HND.out.2.2]; exact HO.out) HA2.out])
                    have HNE := Lib.hid hx
                    clear hx
                    have HE2 := Lib.hid (HM5.out.put2 (.int .i64 x0) (.int .i64 x1))
                    obtain ⟨f0, f1, f2, f3, f4⟩ := HE2.out.tail.c2
                    go_wp2
                    refine bodyPost_ret (v := .tuple #[.agg #[.int .i64 0, .int .i64 0], .int .i64 x2]) (by simp [results, Try.results20, go_sem, f0, f1]) rfl ⟨_, _, _, rfl, Lib.hid ?_, ?_⟩
                    · rw [HS.out, HE.out, ← HN.out]; unfold blE; exact if_neg HNE.out
                    · exact (HE2.out.tail.put2 _ _).b
                · have hr' : (r2 != 0) = true := by simpa using hr
                  have hr'' : (r2 == 0) = false := by simpa using hr
                  have HN : Hid ((0, 0, r2) = (x, y, z)) := Lib.hid (by rw [← HX.out, blF_mul hlt hlt2 hr (by rw [← HND.out.1, ← HND.out.2.1, ← HND.out.2.2]; exact HO.out)])
                  have HNE := Lib.hid hr
                  clear hr
                  obtain ⟨f0, f1, f2, f3, f4⟩ := HR4.out.tail.tail.c2
                  go_wp2
                  refine bodyPost_ret (v := .tuple #[.agg #[.int .i64 0, .int .i64 0], .int .i64 r2]) (by simp [results, Try.results20, go_sem, f0, f1]) rfl ⟨_, _, _, rfl, Lib.hid ?_, ?_⟩
                  · rw [HS.out, HE.out, ← HN.out]; unfold blE; exact if_neg HNE.out
                  · exact (HR4.out.tail.tail.put2 _ _).b
              · have hke := Lib.hid (show fs.length ≤ k by omega)
                have HN : Hid ((p, q, 0) = (x, y, z)) := Lib.hid (by rw [← HX.out, blF_end hke.out])
                obtain ⟨d0, d1, d2, d3, d4⟩ := HR.out.c2
                obtain ⟨f0, f1, f2, f3, f4⟩ := HR.out.tail.c2
                have hgt : w.heap.size < w1.heap.size := HR.out.gt
                go_wp2_with fail
                refine (rdiv_any p q s 1 _).mono ?_
                rintro e w4 ⟨r0, r1, r2, rfl, HO, hb4⟩
                have hM4 := HR.out.step hb4
                have HM4 := Lib.hid hM4
                obtain ⟨e0, e1, e2, e3, e4⟩ := hM4.tail.c2
                clear hM4 hb4
                go_wp2_with fail
                refine bodyPost_ret (v := .tuple #[.agg #[.int .i64 r0, .int .i64 r1], .int .i64 r2]) (by simp [results, Try.results20, go_sem, e0, e1]) rfl ⟨_, _, _, rfl, Lib.hid ?_, ?_⟩
                · rw [HS.out, HE.out, ← HN.out]; unfold blE; rw [if_pos rfl]; exact HO.out
                · exact (HM4.out.tail.put2 _ _).b
    · have HS : Hid (blendS fs ws = (0, 0, 2)) := Lib.hid (by unfold blendS; rw [if_neg h64, if_pos (.inl hl)])
      have hl1 : ((fs.length : Int) != (ws.length : Int)) = true := by simp; omega
      have hl2 : (fs.length != ws.length) = true := by simp; omega
      clear h64 hl HA
      go_enter Try.func20, Try.ntmps20
      go_wp2
      refine bodyPost_ret (v := .tuple #[.agg #[.int .i64 0, .int .i64 0], .int .i64 2]) (by simp [results, Try.results20, go_sem]) rfl ⟨_, _, _, rfl, HS, ?_⟩
      exact HM0.out.b

end Go.Proofs.Ytjnfgjaiahnfgab

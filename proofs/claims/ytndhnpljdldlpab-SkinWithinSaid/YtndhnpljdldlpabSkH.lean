/- Skins: connected. -/
import Derived.Test.YtndhnpljdldlpabSkG
import Derived.Deep.DeepAppendWide
import Derived.Deep.LoopGhost
import Derived.Deep.DeepCutAuto
namespace Go.Proofs.Ytndhnpljdldlpab
open Go.RowKit
open Go.Maps (Keyed)

theorem infoCell : (Try.prog.info? 93).map (fun i => (i.zero, i.size, i.bytes)) = some (some (.agg #[.int .i64 0, .int .i64 0]), 2, 16) := by kernel_rfl

/-- The four steps, as the program lays them. -/
def steps4 : Value := .agg #[.int .i64 1, .int .i64 0, .int .i64 (-1), .int .i64 0, .int .i64 0, .int .i64 1, .int .i64 0, .int .i64 (-1)]
theorem step_0 (w : World) : (Instr.index 143 steps4 (.int .i64 0)).run Try.prog w = .ok (.agg #[.int .i64 1, .int .i64 0]) w := by kernel_rfl
theorem step_1 (w : World) : (Instr.index 143 steps4 (.int .i64 1)).run Try.prog w = .ok (.agg #[.int .i64 (-1), .int .i64 0]) w := by kernel_rfl
theorem step_2 (w : World) : (Instr.index 143 steps4 (.int .i64 2)).run Try.prog w = .ok (.agg #[.int .i64 0, .int .i64 1]) w := by kernel_rfl
theorem step_3 (w : World) : (Instr.index 143 steps4 (.int .i64 3)).run Try.prog w = .ok (.agg #[.int .i64 0, .int .i64 (-1)]) w := by kernel_rfl

set_option maxRecDepth 100000 in
set_option maxHeartbeats 3200000 in
theorem connected_any (ps pg bs : Nat) (a : Option Addr) (cap : Nat) (ss : List ByteArray) (hs : skB ss = true) (g : Int) (hg : 1 ≤ g) (x y : Int) (hu : usB ss g x y = true) (S : List (Int × Int)) (hS : S.length ≤ 2304) (w : World)
    (h : LeaM w ps pg a ss cap g) (hne1 : ps ≠ bs) (hne2 : pg ≠ bs) (hne3 : ∀ b off, a = some ⟨b, off, none⟩ → b ≠ bs) (hseen : Seen w bs S.length S) :
    Calls Try.prog 66 #[.agg #[.int .i64 x, .int .i64 y], .func (.func 67) #[] #[.pointer (some ⟨ps, 0, none⟩), .pointer (some ⟨pg, 0, none⟩)], .map (some bs)] w fun e w' => ∃ v, e = .returned v ∧ CM w bs v (flood (usB ss g) 2305 0 ([(x, y)], (x, y) :: S)) w' := by
  obtain ⟨i0, hi, hz0, hz1, hz2⟩ := info_parts infoCell
  have HI := Lib.hid (And.intro hi (And.intro hz0 (And.intro hz1 hz2)))
  clear hi hz0 hz1 hz2
  obtain ⟨⟨hl1, hl2⟩, ⟨hw1, hw2⟩, -⟩ := skB_iff.1 hs
  have hxy := usB_in hg hu
  obtain ⟨rx1, rx2, ry1, ry2⟩ := hxy
  simp only at rx1 rx2 ry1 ry2
  have hbs := hseen.lt
  have HCALL : Hid (∀ w', w.grownBy w' (some bs) → ∀ p q : Int, Calls Try.prog 67 #[.agg #[.int .i64 p, .int .i64 q], .pointer (some ⟨ps, 0, none⟩), .pointer (some ⟨pg, 0, none⟩)] w' fun e w'' => e = .returned (.bool (usB ss g p q)) ∧ Below w'.heap.size w' w'') :=
    Lib.hid (fun w' hgr p q => usable_any ps pg a cap ss hs g p q w' (h.grown hgr hne1 hne2 hne3))
  have HUS : Hid (∀ p q, usB ss g p q = true → InR (wid ss) ss.length (p, q)) := Lib.hid (fun p q hh => usB_in hg hh)
  obtain ⟨us, hus⟩ : ∃ us, us = usB ss g := ⟨_, rfl⟩
  rw [← hus] at HCALL HUS ⊢
  obtain ⟨W, hW⟩ : ∃ W, W = wid ss := ⟨_, rfl⟩
  obtain ⟨L, hL⟩ : ∃ L, L = ss.length := ⟨_, rfl⟩
  rw [← hW, ← hL] at HUS
  rw [← hW] at hw1 hw2 rx2
  rw [← hL] at hl1 hl2 ry2
  have HINV0 : Hid (FInv W L S.length ([(x, y)], (x, y) :: S)) := Lib.hid ⟨by simp, by intro c hc; simp at hc; subst hc; exact ⟨rx1, rx2, ry1, ry2⟩, by intro c hc; simp at hc; subst hc; exact List.mem_cons_self .., by simp⟩
  obtain ⟨FIN, hFIN⟩ : ∃ FIN, FIN = flood us 2305 0 ([(x, y)], (x, y) :: S) := ⟨_, rfl⟩
  rw [← hFIN]
  have HFIN := Lib.hid hFIN
  have HSEEN := Lib.hid hseen
  have hx48 : x ≤ 48 := by omega
  have hy48 : y ≤ 48 := by omega
  clear hFIN hus hW hL h hne1 hne2 hne3 hseen hs hu rx2 ry2
  go_enter Try.func66, Try.ntmps66
  go_wp2_with (at_mapUpdate; refine wpList_update_seen _ rfl _ _ _ rfl bs S.length S rfl (HSEEN.out.below (((Below.refl _ _).alloc (Nat.le_refl _) _).alloc (by simp) _)) (by unfold maxLen; omega) x y rfl rfl (InI.of (by omega) (by omega)) ?_)
  intro w1 hs1 hg1
  have HCM : Hid (CM w bs (.slice (some ⟨w.heap.size + 1, 0, none⟩) 1 1) ([(x, y)], (x, y) :: S) w1) := Lib.hid
    (CM.put (CM.start (((Below.refl _ _).alloc (Nat.le_refl _) _).alloc (by simp) _) HSEEN.out (by omega) (by
      have := heap_alloc_new (w.alloc (.cells #[.int .i64 x, .int .i64 y] 93)) (.cells #[.int .i64 x, .int .i64 y] 93)
      simpa using this)) hbs hs1 hg1)
  clear hs1 hg1
  go_wp2
  go_loopg [7, 8] 2305 (fun gk v i wr => ∃ (k : Nat) (st : Fl) (gb cp : Nat), v = .slice (some ⟨gb, 0, none⟩) st.1.length cp ∧ i = .int .i64 k ∧ k + gk = 2305 ∧ Hid (flood us gk k st = FIN) ∧ Hid (FInv W L S.length st) ∧ Hid (CM w bs v st wr))
  case atStart => exact ⟨0, _, _, _, rfl, rfl, rfl, Lib.hid HFIN.out.symm, HINV0, HCM⟩
  case round =>
    obtain ⟨k, st, gb, cp, rfl, rfl, hk, HFL, HINV, HC⟩ := hrel
    have hlen : st.1.length ≤ 2304 := Nat.le_trans HINV.out.short (Nat.mul_le_mul hw2 hl2)
    by_cases hlt : k < st.1.length
    · obtain ⟨gk', rfl⟩ : ∃ m, gk = m + 1 := ⟨gk - 1, by omega⟩
      obtain ⟨c, hc⟩ : ∃ c, c = st.1.getD k (0, 0) := ⟨_, rfl⟩
      have HFL2 : Hid (flood us gk' (k + 1) (visits us c st 4) = FIN) := Lib.hid (by
        have := HFL.out
        unfold flood at this
        rw [if_pos hlt, ← hc] at this
        exact this)
      have hcr := HINV.out.rect c (by rw [hc, List.getD_eq_getElem?_getD, List.getElem?_eq_getElem hlt]; exact List.getElem_mem _)
      have HCG := Lib.hid hc
      obtain ⟨cx, cy⟩ := c
      obtain ⟨q1, q2, q3, q4⟩ := hcr
      simp only at q1 q2 q3 q4
      have hlt' : (k : Int) < st.1.length := by omega
      have hk0 : (0 : Int) ≤ k := by omega
      clear hc
      go_wp2
      go_loopg [7, 27] 4 (fun gj v i wr => ∃ (j : Nat) (gb cp : Nat) (st2 : Fl), v = .slice (some ⟨gb, 0, none⟩) st2.1.length cp ∧ i = .int .i64 j ∧ j + gj = 4 ∧ Hid (visits us (cx, cy) st j = st2) ∧ Hid (CM w bs v st2 wr))
      case atStart => exact ⟨0, gb, cp, st, rfl, rfl, rfl, Lib.hid rfl, HC⟩
      case round =>
        obtain ⟨j, gb, cp, st2, rfl, rfl, hj, HV, HC2⟩ := hrel
        by_cases hj4 : j < 4
        · have hgj : 0 < gk := by omega
          obtain ⟨gj', rfl⟩ : ∃ m, gk = m + 1 := ⟨gk - 1, by omega⟩
          obtain ⟨hvg, hvl⟩ := visits_get (us := us) (c := (cx, cy)) hlt j
          rw [HV.out, ← HCG.out] at hvg
          rw [HV.out] at hvl
          have hk2 : k < st2.1.length := by omega
          have hk2' : (k : Int) < st2.1.length := by omega
          have hgk2 : st2.1[k] = (cx, cy) := by
            rw [List.getD_eq_getElem?_getD, List.getElem?_eq_getElem hk2] at hvg
            simpa using hvg
          obtain ⟨r0, r1⟩ := HC2.out.read hk2
          rw [hgk2] at r0 r1
          simp only at r0 r1
          obtain ⟨gb', cp', hge, hgb1, hgb2, hcp, hcm⟩ := HC2.out.slice (by omega)
          simp only [Value.slice.injEq, Option.some.injEq, Addr.mk.injEq, and_true, true_and] at hge
          obtain ⟨rfl, rfl⟩ := hge
          have HVN : Hid (visits us (cx, cy) st (j + 1) = visit us st2 (nbr j (cx, cy))) := Lib.hid (by
            show visit us (visits us (cx, cy) st j) (nbr j (cx, cy)) = _
            rw [HV.out])
          have HINV2 : Hid (FInv W L S.length st2) := Lib.hid (by rw [← HV.out]; exact HINV.out.visits HUS.out _ _)
          have hl2' : st2.1.length ≤ 2304 := Nat.le_trans HINV2.out.short (Nat.mul_le_mul hw2 hl2)
          obtain ⟨nx, ny, hn⟩ : ∃ nx ny, (nx, ny) = nbr j (cx, cy) := ⟨_, _, rfl⟩
          have hnb : (-1 ≤ nx ∧ nx ≤ 48) ∧ (-1 ≤ ny ∧ ny ≤ 48) := by
            rcases (show j = 0 ∨ j = 1 ∨ j = 2 ∨ j = 3 by omega) with rfl | rfl | rfl | rfl <;> (simp only [nbr, Prod.mk.injEq] at hn; omega)
          obtain ⟨⟨hnb1, hnb2⟩, hnb3, hnb4⟩ := hnb
          rw [← hn] at HVN
          have HPL : Hid (∀ (w' : World) (su sv : Int), ((j = 0 ∧ su = 1 ∧ sv = 0) ∨ (j = 1 ∧ su = -1 ∧ sv = 0) ∨ (j = 2 ∧ su = 0 ∧ sv = 1) ∨ (j = 3 ∧ su = 0 ∧ sv = -1)) → Calls Try.prog 83 #[.agg #[.int .i64 cx, .int .i64 cy], .agg #[.int .i64 su, .int .i64 sv]] w' fun e w'' => e = .returned (.agg #[.int .i64 nx, .int .i64 ny]) ∧ Below w'.heap.size w' w'') := Lib.hid (fun w' su sv hj => by
            have e : nx = cx + su ∧ ny = cy + sv := by
              rcases hj with ⟨rfl, rfl, rfl⟩ | ⟨rfl, rfl, rfl⟩ | ⟨rfl, rfl, rfl⟩ | ⟨rfl, rfl, rfl⟩ <;> (simp only [nbr, Prod.mk.injEq] at hn; exact hn)
            rw [e.1, e.2]
            exact cplus_any cx cy su sv (by omega) (by omega) (by omega) (by omega) w')
          clear hvg hvl hgk2 hn HV HCG
          rcases (show j = 0 ∨ j = 1 ∨ j = 2 ∨ j = 3 by omega) with rfl | rfl | rfl | rfl
          · have hix := step_0
            unfold steps4 at hix
            go_upto_region 9 with fail
            go_cut [11] (fun s11 wx => ∃ H : Nat, s11 = .pointer (some ⟨H, 0, none⟩) ∧ w.heap.size ≤ H ∧ Hid (wx.heap[H]? = some (.cells #[.int .i64 nx, .int .i64 ny] 93 (0, 0))) ∧ Hid (CM w bs (.slice (some ⟨gb, 0, none⟩) st2.1.length cp) st2 wx))
            case first =>
              have hM := (Mem.nil wr).alloc #[.int .i64 1, .int .i64 0] 93
              have HM := Lib.hid hM
              have HC9 := Lib.hid (fun w' hm => HC2.out.memL (w' := w') (u := .int .i64 1) (v := .int .i64 0) (T := 93) hgb2 r0 r1 hm)
              clear r0 r1
              go_region_held3 (fun w' => Mem wr [(wr.heap.size, #[.int .i64 1, .int .i64 0], 93)] w' ∧ w'.cell? ⟨gb, k * 2, none⟩ = some (.int .i64 cx) ∧ w'.cell? ⟨gb, k * 2 + 1, none⟩ = some (.int .i64 cy) ∧ w'.cell? ⟨wr.heap.size, 0, none⟩ = some (.int .i64 1) ∧ w'.cell? ⟨wr.heap.size, 1, none⟩ = some (.int .i64 0))
                (first | exact HC9.out _ hM | exact HC9.out _ hM.drew | (go_split_ands; first | exact HC9.out _ (Mem.step (by assumption) (by assumption)) | exact HC9.out _ (Mem.skip (by assumption) _) | exact HC9.out _ (Mem.set_new2 (by assumption) (by first | exact Nat.lt_succ_self _ | exact Mem.head_lt (by assumption) | omega) _ _) | exact HC9.out _ (Mem.realloc (by assumption) (by omega) _)))
                (first
                  | (go_at_call 83; go_split_ands; with_reducible (refine (HPL.out _ 1 0 (.inl ⟨rfl, rfl, rfl⟩)).mono ?_); rintro e w3 ⟨rfl, hb3⟩; obtain ⟨oc3, of3, os3⟩ := old_cells hb3; try (simp only [World.size_alloc, World.size_drew] at oc3 of3 os3); try (have hz3 : wr.heap.size + 1 < w3.heap.size := by omega); try (have hz3' : wr.heap.size < w3.heap.size := by omega)))
              all_goals go_wp2_with fail
              all_goals
                go_meet
                first
                  | exact ⟨_, rfl, CM.mem HC2.out ((HM.out.drew.step hb3).alloc _ _)⟩
                  | exact ⟨_, rfl, CM.mem HC2.out ((HM.out.step hb3).alloc _ _)⟩
                  | exact ⟨_, rfl, CM.mem HC2.out (((HM.out.alloc_at (World.size_alloc _ _) _ _).drew.step hb3).put2 _ _)⟩
                  | exact ⟨_, rfl, CM.mem HC2.out (((HM.out.alloc_at (World.size_alloc _ _) _ _).step hb3).put2 _ _)⟩
                  | exact ⟨_, rfl, CM.mem HC2.out (((HM.out.drew.alloc_at (World.size_alloc _ _) _ _).step hb3).put2 _ _)⟩
            case rest =>
            obtain ⟨H, rfl, hH1, HH, HC3⟩ := hcut
            obtain ⟨c0, c1, c2⟩ := block_two HH.out
            clear r0 r1
            go_wp2_with fail
            refine (HCALL.out _ HC3.out.gr nx ny).mono ?_
            rintro e w4 ⟨rfl, hb4⟩
            have d0 := (hb4.cell (p := ⟨H, 0, none⟩) c2).trans c0
            have d1 := (hb4.cell (p := ⟨H, 1, none⟩) c2).trans c1
            have d2 := Nat.lt_of_lt_of_le c2 hb4.size
            have HC4 := Lib.hid (HC3.out.step hb4)
            clear c0 c1 c2 hb4
            cases huu : us nx ny with
            | false =>
              have HV3 : Hid (visits us (cx, cy) st 1 = st2) := Lib.hid (HVN.out.trans (visit_no huu))
              clear huu
              go_wp2
              go_roundg gj'
              case measure => exact Nat.lt_succ_self _
              case rel => exact ⟨1, gb, cp, st2, rfl, by go_num, by omega, HV3, HC4⟩
            | true =>
              by_cases hmem : (nx, ny) ∈ st2.2
              · have HV3 : Hid (visits us (cx, cy) st 1 = st2) := Lib.hid (HVN.out.trans (visit_old hmem))
                have hlk := HC4.out.seen.lookup (InI.of (x := nx) (y := ny) (by omega) (by omega))
                rw [decide_eq_true hmem] at hlk
                clear huu hmem
                go_wp2
                go_roundg gj'
                case measure => exact Nat.lt_succ_self _
                case rel => exact ⟨1, gb, cp, st2, rfl, by go_num, by omega, HV3, HC4⟩
              · have HV3 : Hid (visits us (cx, cy) st 1 = (st2.1 ++ [(nx, ny)], (nx, ny) :: st2.2)) := Lib.hid (HVN.out.trans (visit_new huu hmem))
                have hlk := HC4.out.seen.lookup (InI.of (x := nx) (y := ny) (by omega) (by omega))
                rw [decide_eq_false hmem] at hlk
                have hsl : st2.2.length ≤ 10000 := by rw [HINV2.out.len]; omega
                clear huu hmem
                go_wp2_with (at_mapUpdate; refine wpList_update_seen _ rfl _ _ _ rfl bs st2.2.length st2.2 rfl HC4.out.seen (by unfold maxLen; omega) nx ny rfl rfl (InI.of (by omega) (by omega)) ?_)
                intro w5 hs5 hg5
                have hHb : some H ≠ some bs := by simp; omega
                have e0 := hg5.cell d0 hHb
                have e1 := hg5.cell d1 hHb
                have HC5 := Lib.hid (HC4.out.put hbs hs5 hg5)
                have hz5 := HC5.out.gr.size
                clear d0 d1 d2 hs5 hg5 hHb hlk
                go_wp2_with (at_builtin; refine wpList_append_own _ rfl _ _ 97 rfl w.heap.size 93 i0 (.agg #[.int .i64 0, .int .i64 0]) 2 16 uCells HI.out.1 HI.out.2.1 HI.out.2.2.1 HI.out.2.2.2 rfl (by decide) _ _ _ rfl (HC5.out.own.alloc _) ⟨w5.heap.size, 0, none⟩ 1 1 [.int .i64 nx, .int .i64 ny] rfl rfl (cell_two_new _ _ _ _) (by intro u hu; simp at hu; rcases hu with rfl | rfl <;> rfl) (by unfold maxLen; simp only; omega) (by simp only; omega) (by simp; omega) ?_)
                intro v' w6 hown6 hgrow6 hnil6
                have hC6 := (HC5.out.step ((Below.refl _ _).alloc (Nat.le_refl _) _)).push hbs (n := (nx, ny)) hown6 hgrow6
                obtain ⟨g6, c6, rfl, -⟩ := hC6.slice (by simp)
                have HC6 := Lib.hid hC6
                clear hown6 hgrow6 hnil6 hC6 e0 e1
                go_wp2
                go_roundg gj'
                case measure => exact Nat.lt_succ_self _
                case rel => exact ⟨1, g6, c6, (st2.1 ++ [(nx, ny)], (nx, ny) :: st2.2), by rw [List.length_append]; rfl, by go_num, by omega, HV3, Lib.hid (by have h := HC6.out; rw [List.length_append] at h; exact h)⟩
          · have hix := step_1
            unfold steps4 at hix
            go_upto_region 9 with fail
            go_cut [11] (fun s11 wx => ∃ H : Nat, s11 = .pointer (some ⟨H, 0, none⟩) ∧ w.heap.size ≤ H ∧ Hid (wx.heap[H]? = some (.cells #[.int .i64 nx, .int .i64 ny] 93 (0, 0))) ∧ Hid (CM w bs (.slice (some ⟨gb, 0, none⟩) st2.1.length cp) st2 wx))
            case first =>
              have hM := (Mem.nil wr).alloc #[.int .i64 (-1), .int .i64 0] 93
              have HM := Lib.hid hM
              have HC9 := Lib.hid (fun w' hm => HC2.out.memL (w' := w') (u := .int .i64 (-1)) (v := .int .i64 0) (T := 93) hgb2 r0 r1 hm)
              clear r0 r1
              go_region_held3 (fun w' => Mem wr [(wr.heap.size, #[.int .i64 (-1), .int .i64 0], 93)] w' ∧ w'.cell? ⟨gb, k * 2, none⟩ = some (.int .i64 cx) ∧ w'.cell? ⟨gb, k * 2 + 1, none⟩ = some (.int .i64 cy) ∧ w'.cell? ⟨wr.heap.size, 0, none⟩ = some (.int .i64 (-1)) ∧ w'.cell? ⟨wr.heap.size, 1, none⟩ = some (.int .i64 0))
                (first | exact HC9.out _ hM | exact HC9.out _ hM.drew | (go_split_ands; first | exact HC9.out _ (Mem.step (by assumption) (by assumption)) | exact HC9.out _ (Mem.skip (by assumption) _) | exact HC9.out _ (Mem.set_new2 (by assumption) (by first | exact Nat.lt_succ_self _ | exact Mem.head_lt (by assumption) | omega) _ _) | exact HC9.out _ (Mem.realloc (by assumption) (by omega) _)))
                (first
                  | (go_at_call 83; go_split_ands; with_reducible (refine (HPL.out _ (-1) 0 (.inr (.inl ⟨rfl, rfl, rfl⟩))).mono ?_); rintro e w3 ⟨rfl, hb3⟩; obtain ⟨oc3, of3, os3⟩ := old_cells hb3; try (simp only [World.size_alloc, World.size_drew] at oc3 of3 os3); try (have hz3 : wr.heap.size + 1 < w3.heap.size := by omega); try (have hz3' : wr.heap.size < w3.heap.size := by omega)))
              all_goals go_wp2_with fail
              all_goals
                go_meet
                first
                  | exact ⟨_, rfl, CM.mem HC2.out ((HM.out.drew.step hb3).alloc _ _)⟩
                  | exact ⟨_, rfl, CM.mem HC2.out ((HM.out.step hb3).alloc _ _)⟩
                  | exact ⟨_, rfl, CM.mem HC2.out (((HM.out.alloc_at (World.size_alloc _ _) _ _).drew.step hb3).put2 _ _)⟩
                  | exact ⟨_, rfl, CM.mem HC2.out (((HM.out.alloc_at (World.size_alloc _ _) _ _).step hb3).put2 _ _)⟩
                  | exact ⟨_, rfl, CM.mem HC2.out (((HM.out.drew.alloc_at (World.size_alloc _ _) _ _).step hb3).put2 _ _)⟩
            case rest =>
            obtain ⟨H, rfl, hH1, HH, HC3⟩ := hcut
            obtain ⟨c0, c1, c2⟩ := block_two HH.out
            clear r0 r1
            go_wp2_with fail
            refine (HCALL.out _ HC3.out.gr nx ny).mono ?_
            rintro e w4 ⟨rfl, hb4⟩
            have d0 := (hb4.cell (p := ⟨H, 0, none⟩) c2).trans c0
            have d1 := (hb4.cell (p := ⟨H, 1, none⟩) c2).trans c1
            have d2 := Nat.lt_of_lt_of_le c2 hb4.size
            have HC4 := Lib.hid (HC3.out.step hb4)
            clear c0 c1 c2 hb4
            cases huu : us nx ny with
            | false =>
              have HV3 : Hid (visits us (cx, cy) st 2 = st2) := Lib.hid (HVN.out.trans (visit_no huu))
              clear huu
              go_wp2
              go_roundg gj'
              case measure => exact Nat.lt_succ_self _
              case rel => exact ⟨2, gb, cp, st2, rfl, by go_num, by omega, HV3, HC4⟩
            | true =>
              by_cases hmem : (nx, ny) ∈ st2.2
              · have HV3 : Hid (visits us (cx, cy) st 2 = st2) := Lib.hid (HVN.out.trans (visit_old hmem))
                have hlk := HC4.out.seen.lookup (InI.of (x := nx) (y := ny) (by omega) (by omega))
                rw [decide_eq_true hmem] at hlk
                clear huu hmem
                go_wp2
                go_roundg gj'
                case measure => exact Nat.lt_succ_self _
                case rel => exact ⟨2, gb, cp, st2, rfl, by go_num, by omega, HV3, HC4⟩
              · have HV3 : Hid (visits us (cx, cy) st 2 = (st2.1 ++ [(nx, ny)], (nx, ny) :: st2.2)) := Lib.hid (HVN.out.trans (visit_new huu hmem))
                have hlk := HC4.out.seen.lookup (InI.of (x := nx) (y := ny) (by omega) (by omega))
                rw [decide_eq_false hmem] at hlk
                have hsl : st2.2.length ≤ 10000 := by rw [HINV2.out.len]; omega
                clear huu hmem
                go_wp2_with (at_mapUpdate; refine wpList_update_seen _ rfl _ _ _ rfl bs st2.2.length st2.2 rfl HC4.out.seen (by unfold maxLen; omega) nx ny rfl rfl (InI.of (by omega) (by omega)) ?_)
                intro w5 hs5 hg5
                have hHb : some H ≠ some bs := by simp; omega
                have e0 := hg5.cell d0 hHb
                have e1 := hg5.cell d1 hHb
                have HC5 := Lib.hid (HC4.out.put hbs hs5 hg5)
                have hz5 := HC5.out.gr.size
                clear d0 d1 d2 hs5 hg5 hHb hlk
                go_wp2_with (at_builtin; refine wpList_append_own _ rfl _ _ 97 rfl w.heap.size 93 i0 (.agg #[.int .i64 0, .int .i64 0]) 2 16 uCells HI.out.1 HI.out.2.1 HI.out.2.2.1 HI.out.2.2.2 rfl (by decide) _ _ _ rfl (HC5.out.own.alloc _) ⟨w5.heap.size, 0, none⟩ 1 1 [.int .i64 nx, .int .i64 ny] rfl rfl (cell_two_new _ _ _ _) (by intro u hu; simp at hu; rcases hu with rfl | rfl <;> rfl) (by unfold maxLen; simp only; omega) (by simp only; omega) (by simp; omega) ?_)
                intro v' w6 hown6 hgrow6 hnil6
                have hC6 := (HC5.out.step ((Below.refl _ _).alloc (Nat.le_refl _) _)).push hbs (n := (nx, ny)) hown6 hgrow6
                obtain ⟨g6, c6, rfl, -⟩ := hC6.slice (by simp)
                have HC6 := Lib.hid hC6
                clear hown6 hgrow6 hnil6 hC6 e0 e1
                go_wp2
                go_roundg gj'
                case measure => exact Nat.lt_succ_self _
                case rel => exact ⟨2, g6, c6, (st2.1 ++ [(nx, ny)], (nx, ny) :: st2.2), by rw [List.length_append]; rfl, by go_num, by omega, HV3, Lib.hid (by have h := HC6.out; rw [List.length_append] at h; exact h)⟩
          · have hix := step_2
            unfold steps4 at hix
            go_upto_region 9 with fail
            go_cut [11] (fun s11 wx => ∃ H : Nat, s11 = .pointer (some ⟨H, 0, none⟩) ∧ w.heap.size ≤ H ∧ Hid (wx.heap[H]? = some (.cells #[.int .i64 nx, .int .i64 ny] 93 (0, 0))) ∧ Hid (CM w bs (.slice (some ⟨gb, 0, none⟩) st2.1.length cp) st2 wx))
            case first =>
              have hM := (Mem.nil wr).alloc #[.int .i64 0, .int .i64 1] 93
              have HM := Lib.hid hM
              have HC9 := Lib.hid (fun w' hm => HC2.out.memL (w' := w') (u := .int .i64 0) (v := .int .i64 1) (T := 93) hgb2 r0 r1 hm)
              clear r0 r1
              go_region_held3 (fun w' => Mem wr [(wr.heap.size, #[.int .i64 0, .int .i64 1], 93)] w' ∧ w'.cell? ⟨gb, k * 2, none⟩ = some (.int .i64 cx) ∧ w'.cell? ⟨gb, k * 2 + 1, none⟩ = some (.int .i64 cy) ∧ w'.cell? ⟨wr.heap.size, 0, none⟩ = some (.int .i64 0) ∧ w'.cell? ⟨wr.heap.size, 1, none⟩ = some (.int .i64 1))
                (first | exact HC9.out _ hM | exact HC9.out _ hM.drew | (go_split_ands; first | exact HC9.out _ (Mem.step (by assumption) (by assumption)) | exact HC9.out _ (Mem.skip (by assumption) _) | exact HC9.out _ (Mem.set_new2 (by assumption) (by first | exact Nat.lt_succ_self _ | exact Mem.head_lt (by assumption) | omega) _ _) | exact HC9.out _ (Mem.realloc (by assumption) (by omega) _)))
                (first
                  | (go_at_call 83; go_split_ands; with_reducible (refine (HPL.out _ 0 1 (.inr (.inr (.inl ⟨rfl, rfl, rfl⟩)))).mono ?_); rintro e w3 ⟨rfl, hb3⟩; obtain ⟨oc3, of3, os3⟩ := old_cells hb3; try (simp only [World.size_alloc, World.size_drew] at oc3 of3 os3); try (have hz3 : wr.heap.size + 1 < w3.heap.size := by omega); try (have hz3' : wr.heap.size < w3.heap.size := by omega)))
              all_goals go_wp2_with fail
              all_goals
                go_meet
                first
                  | exact ⟨_, rfl, CM.mem HC2.out ((HM.out.drew.step hb3).alloc _ _)⟩
                  | exact ⟨_, rfl, CM.mem HC2.out ((HM.out.step hb3).alloc _ _)⟩
                  | exact ⟨_, rfl, CM.mem HC2.out (((HM.out.alloc_at (World.size_alloc _ _) _ _).drew.step hb3).put2 _ _)⟩
                  | exact ⟨_, rfl, CM.mem HC2.out (((HM.out.alloc_at (World.size_alloc _ _) _ _).step hb3).put2 _ _)⟩
                  | exact ⟨_, rfl, CM.mem HC2.out (((HM.out.drew.alloc_at (World.size_alloc _ _) _ _).step hb3).put2 _ _)⟩
            case rest =>
            obtain ⟨H, rfl, hH1, HH, HC3⟩ := hcut
            obtain ⟨c0, c1, c2⟩ := block_two HH.out
            clear r0 r1
            go_wp2_with fail
            refine (HCALL.out _ HC3.out.gr nx ny).mono ?_
            rintro e w4 ⟨rfl, hb4⟩
            have d0 := (hb4.cell (p := ⟨H, 0, none⟩) c2).trans c0
            have d1 := (hb4.cell (p := ⟨H, 1, none⟩) c2).trans c1
            have d2 := Nat.lt_of_lt_of_le c2 hb4.size
            have HC4 := Lib.hid (HC3.out.step hb4)
            clear c0 c1 c2 hb4
            cases huu : us nx ny with
            | false =>
              have HV3 : Hid (visits us (cx, cy) st 3 = st2) := Lib.hid (HVN.out.trans (visit_no huu))
              clear huu
              go_wp2
              go_roundg gj'
              case measure => exact Nat.lt_succ_self _
              case rel => exact ⟨3, gb, cp, st2, rfl, by go_num, by omega, HV3, HC4⟩
            | true =>
              by_cases hmem : (nx, ny) ∈ st2.2
              · have HV3 : Hid (visits us (cx, cy) st 3 = st2) := Lib.hid (HVN.out.trans (visit_old hmem))
                have hlk := HC4.out.seen.lookup (InI.of (x := nx) (y := ny) (by omega) (by omega))
                rw [decide_eq_true hmem] at hlk
                clear huu hmem
                go_wp2
                go_roundg gj'
                case measure => exact Nat.lt_succ_self _
                case rel => exact ⟨3, gb, cp, st2, rfl, by go_num, by omega, HV3, HC4⟩
              · have HV3 : Hid (visits us (cx, cy) st 3 = (st2.1 ++ [(nx, ny)], (nx, ny) :: st2.2)) := Lib.hid (HVN.out.trans (visit_new huu hmem))
                have hlk := HC4.out.seen.lookup (InI.of (x := nx) (y := ny) (by omega) (by omega))
                rw [decide_eq_false hmem] at hlk
                have hsl : st2.2.length ≤ 10000 := by rw [HINV2.out.len]; omega
                clear huu hmem
                go_wp2_with (at_mapUpdate; refine wpList_update_seen _ rfl _ _ _ rfl bs st2.2.length st2.2 rfl HC4.out.seen (by unfold maxLen; omega) nx ny rfl rfl (InI.of (by omega) (by omega)) ?_)
                intro w5 hs5 hg5
                have hHb : some H ≠ some bs := by simp; omega
                have e0 := hg5.cell d0 hHb
                have e1 := hg5.cell d1 hHb
                have HC5 := Lib.hid (HC4.out.put hbs hs5 hg5)
                have hz5 := HC5.out.gr.size
                clear d0 d1 d2 hs5 hg5 hHb hlk
                go_wp2_with (at_builtin; refine wpList_append_own _ rfl _ _ 97 rfl w.heap.size 93 i0 (.agg #[.int .i64 0, .int .i64 0]) 2 16 uCells HI.out.1 HI.out.2.1 HI.out.2.2.1 HI.out.2.2.2 rfl (by decide) _ _ _ rfl (HC5.out.own.alloc _) ⟨w5.heap.size, 0, none⟩ 1 1 [.int .i64 nx, .int .i64 ny] rfl rfl (cell_two_new _ _ _ _) (by intro u hu; simp at hu; rcases hu with rfl | rfl <;> rfl) (by unfold maxLen; simp only; omega) (by simp only; omega) (by simp; omega) ?_)
                intro v' w6 hown6 hgrow6 hnil6
                have hC6 := (HC5.out.step ((Below.refl _ _).alloc (Nat.le_refl _) _)).push hbs (n := (nx, ny)) hown6 hgrow6
                obtain ⟨g6, c6, rfl, -⟩ := hC6.slice (by simp)
                have HC6 := Lib.hid hC6
                clear hown6 hgrow6 hnil6 hC6 e0 e1
                go_wp2
                go_roundg gj'
                case measure => exact Nat.lt_succ_self _
                case rel => exact ⟨3, g6, c6, (st2.1 ++ [(nx, ny)], (nx, ny) :: st2.2), by rw [List.length_append]; rfl, by go_num, by omega, HV3, Lib.hid (by have h := HC6.out; rw [List.length_append] at h; exact h)⟩
          · have hix := step_3
            unfold steps4 at hix
            go_upto_region 9 with fail
            go_cut [11] (fun s11 wx => ∃ H : Nat, s11 = .pointer (some ⟨H, 0, none⟩) ∧ w.heap.size ≤ H ∧ Hid (wx.heap[H]? = some (.cells #[.int .i64 nx, .int .i64 ny] 93 (0, 0))) ∧ Hid (CM w bs (.slice (some ⟨gb, 0, none⟩) st2.1.length cp) st2 wx))
            case first =>
              have hM := (Mem.nil wr).alloc #[.int .i64 0, .int .i64 (-1)] 93
              have HM := Lib.hid hM
              have HC9 := Lib.hid (fun w' hm => HC2.out.memL (w' := w') (u := .int .i64 0) (v := .int .i64 (-1)) (T := 93) hgb2 r0 r1 hm)
              clear r0 r1
              go_region_held3 (fun w' => Mem wr [(wr.heap.size, #[.int .i64 0, .int .i64 (-1)], 93)] w' ∧ w'.cell? ⟨gb, k * 2, none⟩ = some (.int .i64 cx) ∧ w'.cell? ⟨gb, k * 2 + 1, none⟩ = some (.int .i64 cy) ∧ w'.cell? ⟨wr.heap.size, 0, none⟩ = some (.int .i64 0) ∧ w'.cell? ⟨wr.heap.size, 1, none⟩ = some (.int .i64 (-1)))
                (first | exact HC9.out _ hM | exact HC9.out _ hM.drew | (go_split_ands; first | exact HC9.out _ (Mem.step (by assumption) (by assumption)) | exact HC9.out _ (Mem.skip (by assumption) _) | exact HC9.out _ (Mem.set_new2 (by assumption) (by first | exact Nat.lt_succ_self _ | exact Mem.head_lt (by assumption) | omega) _ _) | exact HC9.out _ (Mem.realloc (by assumption) (by omega) _)))
                (first
                  | (go_at_call 83; go_split_ands; with_reducible (refine (HPL.out _ 0 (-1) (.inr (.inr (.inr ⟨rfl, rfl, rfl⟩)))).mono ?_); rintro e w3 ⟨rfl, hb3⟩; obtain ⟨oc3, of3, os3⟩ := old_cells hb3; try (simp only [World.size_alloc, World.size_drew] at oc3 of3 os3); try (have hz3 : wr.heap.size + 1 < w3.heap.size := by omega); try (have hz3' : wr.heap.size < w3.heap.size := by omega)))
              all_goals go_wp2_with fail
              all_goals
                go_meet
                first
                  | exact ⟨_, rfl, CM.mem HC2.out ((HM.out.drew.step hb3).alloc _ _)⟩
                  | exact ⟨_, rfl, CM.mem HC2.out ((HM.out.step hb3).alloc _ _)⟩
                  | exact ⟨_, rfl, CM.mem HC2.out (((HM.out.alloc_at (World.size_alloc _ _) _ _).drew.step hb3).put2 _ _)⟩
                  | exact ⟨_, rfl, CM.mem HC2.out (((HM.out.alloc_at (World.size_alloc _ _) _ _).step hb3).put2 _ _)⟩
                  | exact ⟨_, rfl, CM.mem HC2.out (((HM.out.drew.alloc_at (World.size_alloc _ _) _ _).step hb3).put2 _ _)⟩
            case rest =>
            obtain ⟨H, rfl, hH1, HH, HC3⟩ := hcut
            obtain ⟨c0, c1, c2⟩ := block_two HH.out
            clear r0 r1
            go_wp2_with fail
            refine (HCALL.out _ HC3.out.gr nx ny).mono ?_
            rintro e w4 ⟨rfl, hb4⟩
            have d0 := (hb4.cell (p := ⟨H, 0, none⟩) c2).trans c0
            have d1 := (hb4.cell (p := ⟨H, 1, none⟩) c2).trans c1
            have d2 := Nat.lt_of_lt_of_le c2 hb4.size
            have HC4 := Lib.hid (HC3.out.step hb4)
            clear c0 c1 c2 hb4
            cases huu : us nx ny with
            | false =>
              have HV3 : Hid (visits us (cx, cy) st 4 = st2) := Lib.hid (HVN.out.trans (visit_no huu))
              clear huu
              go_wp2
              go_roundg gj'
              case measure => exact Nat.lt_succ_self _
              case rel => exact ⟨4, gb, cp, st2, rfl, by go_num, by omega, HV3, HC4⟩
            | true =>
              by_cases hmem : (nx, ny) ∈ st2.2
              · have HV3 : Hid (visits us (cx, cy) st 4 = st2) := Lib.hid (HVN.out.trans (visit_old hmem))
                have hlk := HC4.out.seen.lookup (InI.of (x := nx) (y := ny) (by omega) (by omega))
                rw [decide_eq_true hmem] at hlk
                clear huu hmem
                go_wp2
                go_roundg gj'
                case measure => exact Nat.lt_succ_self _
                case rel => exact ⟨4, gb, cp, st2, rfl, by go_num, by omega, HV3, HC4⟩
              · have HV3 : Hid (visits us (cx, cy) st 4 = (st2.1 ++ [(nx, ny)], (nx, ny) :: st2.2)) := Lib.hid (HVN.out.trans (visit_new huu hmem))
                have hlk := HC4.out.seen.lookup (InI.of (x := nx) (y := ny) (by omega) (by omega))
                rw [decide_eq_false hmem] at hlk
                have hsl : st2.2.length ≤ 10000 := by rw [HINV2.out.len]; omega
                clear huu hmem
                go_wp2_with (at_mapUpdate; refine wpList_update_seen _ rfl _ _ _ rfl bs st2.2.length st2.2 rfl HC4.out.seen (by unfold maxLen; omega) nx ny rfl rfl (InI.of (by omega) (by omega)) ?_)
                intro w5 hs5 hg5
                have hHb : some H ≠ some bs := by simp; omega
                have e0 := hg5.cell d0 hHb
                have e1 := hg5.cell d1 hHb
                have HC5 := Lib.hid (HC4.out.put hbs hs5 hg5)
                have hz5 := HC5.out.gr.size
                clear d0 d1 d2 hs5 hg5 hHb hlk
                go_wp2_with (at_builtin; refine wpList_append_own _ rfl _ _ 97 rfl w.heap.size 93 i0 (.agg #[.int .i64 0, .int .i64 0]) 2 16 uCells HI.out.1 HI.out.2.1 HI.out.2.2.1 HI.out.2.2.2 rfl (by decide) _ _ _ rfl (HC5.out.own.alloc _) ⟨w5.heap.size, 0, none⟩ 1 1 [.int .i64 nx, .int .i64 ny] rfl rfl (cell_two_new _ _ _ _) (by intro u hu; simp at hu; rcases hu with rfl | rfl <;> rfl) (by unfold maxLen; simp only; omega) (by simp only; omega) (by simp; omega) ?_)
                intro v' w6 hown6 hgrow6 hnil6
                have hC6 := (HC5.out.step ((Below.refl _ _).alloc (Nat.le_refl _) _)).push hbs (n := (nx, ny)) hown6 hgrow6
                obtain ⟨g6, c6, rfl, -⟩ := hC6.slice (by simp)
                have HC6 := Lib.hid hC6
                clear hown6 hgrow6 hnil6 hC6 e0 e1
                go_wp2
                go_roundg gj'
                case measure => exact Nat.lt_succ_self _
                case rel => exact ⟨4, g6, c6, (st2.1 ++ [(nx, ny)], (nx, ny) :: st2.2), by rw [List.length_append]; rfl, by go_num, by omega, HV3, Lib.hid (by have h := HC6.out; rw [List.length_append] at h; exact h)⟩
        · obtain rfl : j = 4 := by omega
          have HFL3 : Hid (flood us gk' (k + 1) st2 = FIN) := Lib.hid (by rw [← HV.out]; exact HFL2.out)
          have HINV3 : Hid (FInv W L S.length st2) := Lib.hid (by rw [← HV.out]; exact HINV.out.visits HUS.out _ _)
          clear HV HFL2
          go_wp2
          go_roundg gk'
          case measure => exact Nat.lt_succ_self _
          case rel => exact ⟨k + 1, st2, gb, cp, rfl, by go_num, by omega, HFL3, HINV3, HC2⟩
    · have HEND : Hid (st = FIN) := Lib.hid (by
        have := HFL.out
        cases gk with
        | zero => exact this
        | succ m => unfold flood at this; rw [if_neg hlt] at this; exact this)
      have hlt' : ¬ (k : Int) < st.1.length := by omega
      go_wp2
      go_ret
      exact ⟨_, rfl, by rw [← HEND.out]; exact HC.out⟩

end Go.Proofs.Ytndhnpljdldlpab

/- Pairs: Blocking. -/
import Derived.Test.YtchhadkmemckbaaPbI
namespace Go.Proofs.Ytchhadkmemckbaa
open Go.RowKit
set_option linter.unusedSimpArgs false
set_option linter.unusedVariables false

/-- What Blocking answers. -/
def bloE (ls rs : List Gl) (u : Ru) (m : List Int) : List (Nat × Nat) × Int :=
  if sidB ls && sidB rs && ruB u then
    if m.length = ls.length then
      match wgF (cosT ls rs u) rs.length m 0 (fun _ => -1) 0 0 with
      | some (o, _, _) => (pal (blkB (cosT ls rs u) m o) rs.length ls.length, 0)
      | none => ([], 6)
    else ([], 3)
  else ([], 2)
theorem bloE_take (ls rs : List Gl) (u : Ru) (m : List Int) : bloE (ls.take 34) (rs.take 34) u m = bloE ls rs u m := by
  by_cases h1 : sidB ls = true
  · by_cases h2 : sidB rs = true
    · rw [take34 h1, take34 h2]
    · unfold bloE
      rw [sid34, sid34, show sidB rs = false by simpa using h2, Bool.and_false, Bool.false_and]
      rfl
  · unfold bloE
    rw [sid34, sid34, show sidB ls = false by simpa using h1, Bool.false_and, Bool.false_and]
    rfl

set_option maxRecDepth 100000 in
set_option maxHeartbeats 3200000 in
theorem blocking_any (a a2 a3 : Option Addr) (cap cap2 cap3 : Nat) (ls rs : List Gl) (x0 x1 x2 x3 y0 y1 y2 y3 : Int) (m : List Int) (hl1 : (ls.length : Int) ≤ 9223372036854775807) (hl2 : (rs.length : Int) ≤ 9223372036854775807) (w : World) (hl : RecS w a ls) (hr : RecS w a2 rs) (hk : IntK w a3 m) :
    Calls Try.prog 39 #[.slice a ls.length cap, .slice a2 rs.length cap2, .agg #[.int .i64 x0, .int .i64 x1, .int .i64 x2, .int .i64 x3, .int .i64 y0, .int .i64 y1, .int .i64 y2, .int .i64 y3], .slice a3 m.length cap3] w fun e w' => ∃ z c, e = .returned (.tuple #[.slice z (bloE ls rs ((x0, x1, x2, x3), (y0, y1, y2, y3)) m).1.length c, .int .i64 (bloE ls rs ((x0, x1, x2, x3), (y0, y1, y2, y3)) m).2]) ∧ PtS w' z (bloE ls rs ((x0, x1, x2, x3), (y0, y1, y2, y3)) m).1 ∧ Below w.heap.size w w' := by
  obtain ⟨i0, hi, hz0, hz1, hz2⟩ := info_parts infoPt
  have HI0 := Lib.hid (And.intro hi (And.intro hz0 (And.intro hz1 hz2)))
  clear hi hz0 hz1 hz2
  have HM := Lib.hid ((Mem.nil w).alloc_at (H := w.heap.size) rfl #[.int .i64 x0, .int .i64 x1, .int .i64 x2, .int .i64 x3, .int .i64 y0, .int .i64 y1, .int .i64 y2, .int .i64 y3] 32)
  have k0 := HM.out.cell 0
  have k1 := HM.out.cell 1
  have k2 := HM.out.cell 2
  have k3 := HM.out.cell 3
  have k4 := HM.out.cell 4
  have k5 := HM.out.cell 5
  have k6 := HM.out.cell 6
  have k7 := HM.out.cell 7
  simp at k0 k1 k2 k3 k4 k5 k6 k7
  obtain ⟨g0, hg0⟩ : ∃ g0, g0 = (sidB ls && sidB rs && ruB ((x0, x1, x2, x3), (y0, y1, y2, y3))) := ⟨_, rfl⟩
  cases g0 with
  | false =>
    have e : bloE ls rs ((x0, x1, x2, x3), (y0, y1, y2, y3)) m = ([], 2) := by unfold bloE; rw [← hg0]; rfl
    rw [e]
    have HL := Lib.hid (fun w' hb => lay_no a a2 cap cap2 ls rs x0 x1 x2 x3 y0 y1 y2 y3 hg0.symm hl1 hl2 w' (hl.below (w' := w') hb) (hr.below hb))
    clear e hg0 hl hr hk
    go_enter Try.func39, Try.ntmps39
    go_wp2_with fail
    refine (HL.out _ HM.out.b).mono ?_
    rintro e w1 ⟨rfl, hb1⟩
    have HB1 := Lib.hid (HM.out.b.trans (hb1.mono HM.out.b.size))
    clear hb1 HM k0 k1 k2 k3 k4 k5 k6 k7
    go_wp2
    go_ret2
    first | exact ⟨none, 0, rfl, .inl rfl, HB1.out⟩ | exact ⟨none, ⟨0, rfl⟩, .inl rfl, HB1.out⟩
  | true =>
  have hg1 : (sidB ls = true ∧ sidB rs = true) ∧ ruB ((x0, x1, x2, x3), (y0, y1, y2, y3)) = true := by simpa using hg0.symm
  obtain ⟨⟨h1, h2⟩, h3⟩ := hg1
  have n1 : ls.length ≤ 32 := by unfold sidB at h1; simp at h1; omega
  have n2 : rs.length ≤ 32 := by unfold sidB at h2; simp at h2; omega
  have HL := Lib.hid (fun w' hb => lay_yes a a2 cap cap2 ls rs x0 x1 x2 x3 y0 y1 y2 y3 h1 h2 h3 w' (hl.below (w' := w') hb) (hr.below hb))
  have HKK := Lib.hid (fun w' hb => hk.below (w' := w') hb)
  have hE : bloE ls rs ((x0, x1, x2, x3), (y0, y1, y2, y3)) m = if m.length = ls.length then (match wgF (cosT ls rs ((x0, x1, x2, x3), (y0, y1, y2, y3))) rs.length m 0 (fun _ => -1) 0 0 with | some (o, _, _) => (pal (blkB (cosT ls rs ((x0, x1, x2, x3), (y0, y1, y2, y3))) m o) rs.length ls.length, (0 : Int)) | none => ([], (6 : Int))) else ([], (3 : Int)) := by unfold bloE; rw [← hg0]; rfl
  rw [hE]
  obtain ⟨CF, hCF⟩ : ∃ z, z = cosT ls rs ((x0, x1, x2, x3), (y0, y1, y2, y3)) := ⟨_, rfl⟩
  rw [← hCF] at HL ⊢
  clear hCF hE hg0 h1 h2 h3 hl hr hk
  obtain ⟨RES, hRES⟩ : ∃ z, z = (if m.length = ls.length then (match wgF CF rs.length m 0 (fun _ => -1) 0 0 with | some (o, _, _) => (pal (blkB CF m o) rs.length ls.length, (0 : Int)) | none => ([], (6 : Int))) else ([], (3 : Int)) : List (Nat × Nat) × Int) := ⟨_, rfl⟩
  rw [← hRES]
  have HRES := Lib.hid hRES
  clear hRES
  go_enter Try.func39, Try.ntmps39
  go_wp2_with fail
  refine (HL.out _ HM.out.b).mono ?_
  rintro e w1 ⟨pt, rfl, -, htab, hb1⟩
  have HT := Lib.hid htab
  have HB1 := Lib.hid (HM.out.b.trans (hb1.mono HM.out.b.size))
  clear htab hb1 HM HL k0 k1 k2 k3 k4 k5 k6 k7
  by_cases hlen : m.length = ls.length
  · have HOW := Lib.hid (owners_any pt ls.length rs.length (by omega) (by omega) CF a3 cap3 m hlen w1 HT.out (HKK.out _ HB1.out))
    have hres := HRES.out
    rw [if_pos hlen] at hres
    obtain ⟨r, hr⟩ : ∃ r, r = wgF CF rs.length m 0 (fun _ => -1) 0 0 := ⟨_, rfl⟩
    rw [← hr] at HOW hres
    have HWG := Lib.hid hr
    have HLE := Lib.hid hlen
    clear hr hlen
    cases r with
    | none =>
      simp only at hres
      subst hres
      clear HRES
      rw [ownR_none] at HOW
      go_wp2_with fail
      refine HOW.out.mono ?_
      rintro e w2 ⟨rfl, -, hb2⟩
      have HB2 := Lib.hid (HB1.out.trans (hb2.mono HB1.out.size))
      clear hb2 HOW
      go_wp2
      go_ret2
      first | exact ⟨none, 0, rfl, .inl rfl, HB2.out⟩ | exact ⟨none, ⟨0, rfl⟩, .inl rfl, HB2.out⟩
    | some x =>
      obtain ⟨o, s, c⟩ := x
      simp only at hres
      subst hres
      clear HRES
      rw [ownR_some] at HOW
      obtain ⟨FL, hFL⟩ : ∃ z, z = pal (blkB CF m o) rs.length ls.length := ⟨_, rfl⟩
      have HFL := Lib.hid hFL
      clear hFL
      have HWB : Hid ((∀ i, i < m.length → m.getD i 0 = -1 ∨ (0 ≤ m.getD i 0 ∧ m.getD i 0 < rs.length)) ∧ (∀ j, o j = -1 ∨ (0 ≤ o j ∧ o j < ls.length))) := Lib.hid (by
        obtain ⟨h1, h2⟩ := wg_both HWG.out.symm
        have hle := HLE.out
        refine ⟨fun i hi => ?_, fun j => ?_⟩
        · rcases h1 i hi with h | ⟨h3, h4, -⟩
          · exact .inl h
          · exact .inr ⟨h3, h4⟩
        · rcases h2 j with h | ⟨h3, h4, -⟩
          · exact .inl h
          · exact .inr ⟨h3, by omega⟩)
      go_wp2_with fail
      refine HOW.out.mono ?_
      rintro e w2 ⟨rfl, hh, hb2⟩
      have HO2 := Lib.hid (hh o s c rfl)
      have HT2 := Lib.hid (HT.out.below hb2)
      have HB2 := Lib.hid (HB1.out.trans (hb2.mono HB1.out.size))
      obtain ⟨p, hp⟩ : ∃ z, z = w1.heap.size + 1 := ⟨_, rfl⟩
      rw [← hp] at HO2 ⊢
      clear hh hb2 HOW HT HB1 hp
      go_wp2_with fail
      refine (tPairs_any pt ls.length rs.length (by omega) (by omega) CF _ HT2.out).mono ?_
      rintro e w3 ⟨pa, pc, rfl, hps, hb3⟩
      obtain ⟨PS, hPS⟩ : ∃ z, z = pal (fun i j => CF i j != -1) rs.length ls.length := ⟨_, rfl⟩
      have HPM : Hid (∀ p ∈ PS, p.1 < ls.length ∧ p.2 < rs.length) := Lib.hid (fun p hp => by rw [hPS] at hp; exact ⟨(pal_mem hp).1, (pal_mem hp).2.1⟩)
      obtain ⟨QQ, hQQ⟩ : ∃ QQ : Nat × Nat → Bool, QQ = fun p => pfr (CF p.1) p.2 (m.getD p.1 0) && pfr (fun a => CF a p.2) p.1 (o p.2) := ⟨_, rfl⟩
      have HFI : Hid (FL = PS.filter QQ) := Lib.hid (by rw [HFL.out, hPS, hQQ]; exact (pal_filter _ (fun i j => pfr (CF i) j (m.getD i 0) && pfr (fun a => CF a j) i (o j)) _ _).symm)
      have HQQ := Lib.hid (fun i j => congrFun hQQ (i, j))
      have hPL : PS.length ≤ 20000 := by
        have h1 := pal_len (fun i j => CF i j != -1) rs.length ls.length
        have h3 : ls.length * rs.length ≤ 32 * 32 := Nat.mul_le_mul (by omega) (by omega)
        rw [hPS]; omega
      rw [← hPS] at hps ⊢
      have HPT := Lib.hid hps
      have HO3 := Lib.hid (blk_keep HO2.out hb3)
      have HT3 := Lib.hid (HT2.out.below hb3)
      have HB3 := Lib.hid (HB2.out.trans (hb3.mono HB2.out.size))
      have HK3 := Lib.hid (HKK.out _ HB3.out)
      have HS0 : Hid (PTV w3 (.slice none 0 0) ((PS.take 0).filter QQ) w3) := Lib.hid (PTV.start w3)
      clear hb3 hps hPS hQQ HO2 HT2 HB2 HKK
      go_wp2_with fail
      go_loopg [13, 38] PS.length (fun gk v x wr => ∃ k : Nat, k + gk = PS.length ∧ x = .int .i64 k ∧ Hid (PTV w3 v ((PS.take k).filter QQ) wr))
      case atStart => exact ⟨0, by omega, rfl, HS0⟩
      case round =>
        obtain ⟨k, hk, rfl, HI⟩ := hrel
        by_cases hlt : k < PS.length
        · obtain ⟨gk', rfl⟩ : ∃ m, gk = m + 1 := ⟨gk - 1, by omega⟩
          have hlt' : (k : Int) < PS.length := by omega
          have hk0 : (0 : Int) ≤ k := by omega
          obtain ⟨⟨i, j⟩, hp⟩ : ∃ r, r = PS[k] := ⟨_, rfl⟩
          obtain ⟨hi, hj⟩ := HPM.out PS[k] (List.getElem_mem _)
          have HW := Lib.hid HI.out.b
          obtain ⟨b1, off1, rfl, hb1, c0, c1⟩ := (HPT.out.below HW.out).at_ hlt
          rw [← hp] at hi hj c0 c1
          simp only at hi hj c0 c1
          have him : i < m.length := by have := HLE.out; omega
          have HNX : Hid ((PS.take (k + 1)).filter QQ = if QQ (i, j) then (PS.take k).filter QQ ++ [(i, j)] else (PS.take k).filter QQ) := Lib.hid (by
            rw [List.take_add_one, List.getElem?_eq_getElem hlt, List.filter_append, ← hp]
            cases h : QQ (i, j) <;> simp [h])
          obtain ⟨b3, off3, rfl, hb3, d3⟩ := (HK3.out.below HW.out).at_ him
          have d4 := (blkc (blk_keep HO3.out HW.out) j).trans (cA_get hj)
          have l4 := block_lt (blk_keep HO3.out HW.out)
          obtain ⟨wa, hwa⟩ : ∃ z, z = wr.alloc (.cells #[.int .i64 i, .int .i64 j] 65) := ⟨_, rfl⟩
          obtain ⟨H, hH⟩ : ∃ z, z = wr.heap.size := ⟨_, rfl⟩
          have hbx : wa.heap[H]? = some (.cells #[.int .i64 i, .int .i64 j] 65 (0, 0)) := by rw [hwa, hH]; exact heap_alloc_new _ _
          have hba : Below wr.heap.size wr wa := by rw [hwa]; exact (Below.refl _ _).alloc (Nat.le_refl _) _
          have HBX := Lib.hid hbx
          have HIA := Lib.hid (HI.out.step hba)
          have hmk := HWB.out.1 i him
          have hok := HWB.out.2 j
          obtain ⟨mv, hmv⟩ : ∃ z, z = m.getD i 0 := ⟨_, rfl⟩
          obtain ⟨ov, hov⟩ : ∃ z, z = o j := ⟨_, rfl⟩
          have d3' : wr.cell? ⟨b3, off3 + i, none⟩ = some (.int .i64 mv) := by
            rw [d3, hmv, List.getD_eq_getElem?_getD, List.getElem?_eq_getElem him]; rfl
          rw [← hov] at d4 hok
          rw [← hmv] at hmk
          have HS : Hid (∀ w', Below wa.heap.size wa w' → w'.cell? ⟨H, 0, none⟩ = some (.int .i64 i) ∧ w'.cell? ⟨H, 1, none⟩ = some (.int .i64 j) ∧ w'.cell? ⟨b3, off3 + i, none⟩ = some (.int .i64 mv) ∧ w'.cell? ⟨p, j, none⟩ = some (.int .i64 ov)) := Lib.hid (fun w' hb => by
            have hx := blk_keep hbx hb
            have hz := hba.trans (hb.mono hba.size)
            exact ⟨by rw [blkc hx]; rfl, by rw [blkc hx]; rfl, (hz.cell (p := ⟨b3, off3 + i, none⟩) hb3).trans d3', (hz.cell (p := ⟨p, j, none⟩) l4).trans d4⟩)
          have HLP := Lib.hid (fun w' (hb : Below wa.heap.size wa w') => leftPrefers_any pt ls.length rs.length (by omega) (by omega) CF i j mv hi hj hmk w' ((HT3.out.below HIA.out.b).below hb))
          have HRP := Lib.hid (fun w' (hb : Below wa.heap.size wa w') => rightPrefers_any pt ls.length rs.length (by omega) (by omega) CF i j ov hi hj hok w' ((HT3.out.below HIA.out.b).below hb))
          have hqq := HQQ.out i j
          rw [← hmv, ← hov] at hqq
          obtain ⟨q1, hq1⟩ : ∃ z, z = pfr (CF i) j mv := ⟨_, rfl⟩
          obtain ⟨q2, hq2⟩ : ∃ z, z = pfr (fun a => CF a j) i ov := ⟨_, rfl⟩
          rw [← hq1] at hqq HLP
          rw [← hq2] at hqq HRP
          rw [hqq] at HNX
          have hi' : (i : Int) < m.length := by omega
          have hj' : (j : Int) < rs.length := by omega
          have hi0 : (0 : Int) ≤ i := by omega
          have hj0 : (0 : Int) ≤ j := by omega
          have HWA := Lib.hid (And.intro hwa hH)
          clear hp hbx hba hmk hok hmv hov d3 d3' d4 l4 hqq hq1 hq2 hwa hH HI HW hb3 him
          go_upto_region 11 with fail
          rw [← HWA.out.2, ← HWA.out.1]
          go_cut [65] (fun s65 wx => s65 = .bool (q1 && q2) ∧ Hid (Below wa.heap.size wa wx))
          case first =>
            clear c0 c1 hb1
            cases q1 with
            | false =>
              refine wp_region_held_drew (S := fun w' => w'.cell? ⟨H, 0, none⟩ = some (.int .i64 i) ∧ w'.cell? ⟨H, 1, none⟩ = some (.int .i64 j) ∧ w'.cell? ⟨b3, off3 + i, none⟩ = some (.int .i64 mv) ∧ w'.cell? ⟨p, j, none⟩ = some (.int .i64 ov)) (by kernel_rfl) (HS.out _ (Below.refl _ _).drew) (fun hHeld => ?_)
              refine wpAnyH_take (i := 0) (oi := { dst := some 42, op := Op.move (Operand.tmp 10), type := 72, pos := "stable.go:56", after := #[], guard := none }) (v := ?_) rfl (by kernel_rfl) (by kernel_rfl) (by kernel_rfl) (fun _ _ _ h => h) (Or.inl ⟨by rfl, ?_⟩) (by assumption) ?_
              rotate_left
              · intro w' hSw
                (try dsimp only at hSw)
                (try go_split_ands)
                go_simp
                try with_reducible rfl
              (try simp only [Act.put, List.setIfInBounds_toArray, List.set_cons_zero, List.set_cons_succ])
              refine wpAnyH_take (i := 1) (oi := { dst := some 43, op := Op.indexAddr 65 (Operand.tmp 15) (Operand.const (Value.int IntKind.i64 0)), type := 0, pos := "stable.go:56", after := #[], guard := none }) (v := ?_) rfl (by kernel_rfl) (by kernel_rfl) (by kernel_rfl) (fun _ _ _ h => h) (Or.inl ⟨by rfl, ?_⟩) (by assumption) ?_
              rotate_left
              · intro w' hSw
                (try dsimp only at hSw)
                (try go_split_ands)
                go_simp
                try with_reducible rfl
              (try simp only [Act.put, List.setIfInBounds_toArray, List.set_cons_zero, List.set_cons_succ])
              refine wpAnyH_take (i := 2) (oi := { dst := some 44, op := Op.load 3 (Operand.tmp 43), type := 3, pos := "stable.go:56", after := #[{ on := 1, ground := Ground.data }], guard := none }) (v := ?_) rfl (by kernel_rfl) (by kernel_rfl) (by kernel_rfl) (fun _ _ _ h => h) (Or.inl ⟨by rfl, ?_⟩) (by assumption) ?_
              rotate_left
              · intro w' hSw
                (try dsimp only at hSw)
                (try go_split_ands)
                go_simp
                try with_reducible rfl
              (try simp only [Act.put, List.setIfInBounds_toArray, List.set_cons_zero, List.set_cons_succ])
              refine wpAnyH_take (i := 3) (oi := { dst := some 45, op := Op.indexAddr 65 (Operand.tmp 15) (Operand.const (Value.int IntKind.i64 1)), type := 0, pos := "stable.go:56", after := #[], guard := none }) (v := ?_) rfl (by kernel_rfl) (by kernel_rfl) (by kernel_rfl) (fun _ _ _ h => h) (Or.inl ⟨by rfl, ?_⟩) (by assumption) ?_
              rotate_left
              · intro w' hSw
                (try dsimp only at hSw)
                (try go_split_ands)
                go_simp
                try with_reducible rfl
              (try simp only [Act.put, List.setIfInBounds_toArray, List.set_cons_zero, List.set_cons_succ])
              refine wpAnyH_take (i := 4) (oi := { dst := some 46, op := Op.load 3 (Operand.tmp 45), type := 3, pos := "stable.go:56", after := #[{ on := 3, ground := Ground.data }], guard := none }) (v := ?_) rfl (by kernel_rfl) (by kernel_rfl) (by kernel_rfl) (fun _ _ _ h => h) (Or.inl ⟨by rfl, ?_⟩) (by assumption) ?_
              rotate_left
              · intro w' hSw
                (try dsimp only at hSw)
                (try go_split_ands)
                go_simp
                try with_reducible rfl
              (try simp only [Act.put, List.setIfInBounds_toArray, List.set_cons_zero, List.set_cons_succ])
              refine wpAnyH_take (i := 5) (oi := { dst := some 47, op := Op.move (Operand.tmp 3), type := 38, pos := "stable.go:56", after := #[], guard := none }) (v := ?_) rfl (by kernel_rfl) (by kernel_rfl) (by kernel_rfl) (fun _ _ _ h => h) (Or.inl ⟨by rfl, ?_⟩) (by assumption) ?_
              rotate_left
              · intro w' hSw
                (try dsimp only at hSw)
                (try go_split_ands)
                go_simp
                try with_reducible rfl
              (try simp only [Act.put, List.setIfInBounds_toArray, List.set_cons_zero, List.set_cons_succ])
              refine wpAnyH_take (i := 6) (oi := { dst := some 48, op := Op.indexAddr 65 (Operand.tmp 15) (Operand.const (Value.int IntKind.i64 0)), type := 0, pos := "stable.go:56", after := #[], guard := none }) (v := ?_) rfl (by kernel_rfl) (by kernel_rfl) (by kernel_rfl) (fun _ _ _ h => h) (Or.inl ⟨by rfl, ?_⟩) (by assumption) ?_
              rotate_left
              · intro w' hSw
                (try dsimp only at hSw)
                (try go_split_ands)
                go_simp
                try with_reducible rfl
              (try simp only [Act.put, List.setIfInBounds_toArray, List.set_cons_zero, List.set_cons_succ])
              refine wpAnyH_take (i := 7) (oi := { dst := some 49, op := Op.load 3 (Operand.tmp 48), type := 3, pos := "stable.go:56", after := #[{ on := 6, ground := Ground.data }], guard := none }) (v := ?_) rfl (by kernel_rfl) (by kernel_rfl) (by kernel_rfl) (fun _ _ _ h => h) (Or.inl ⟨by rfl, ?_⟩) (by assumption) ?_
              rotate_left
              · intro w' hSw
                (try dsimp only at hSw)
                (try go_split_ands)
                go_simp
                try with_reducible rfl
              (try simp only [Act.put, List.setIfInBounds_toArray, List.set_cons_zero, List.set_cons_succ])
              refine wpAnyH_take (i := 8) (oi := { dst := some 50, op := Op.indexAddr 38 (Operand.tmp 47) (Operand.tmp 49), type := 0, pos := "stable.go:56", after := #[{ on := 5, ground := Ground.data }, { on := 7, ground := Ground.data }], guard := none }) (v := ?_) rfl (by kernel_rfl) (by kernel_rfl) (by kernel_rfl) (fun _ _ _ h => h) (Or.inl ⟨by rfl, ?_⟩) (by assumption) ?_
              rotate_left
              · intro w' hSw
                (try dsimp only at hSw)
                (try go_split_ands)
                go_simp
                try with_reducible rfl
              (try simp only [Act.put, List.setIfInBounds_toArray, List.set_cons_zero, List.set_cons_succ])
              refine wpAnyH_take (i := 9) (oi := { dst := some 51, op := Op.load 3 (Operand.tmp 50), type := 3, pos := "stable.go:56", after := #[{ on := 8, ground := Ground.data }], guard := none }) (v := ?_) rfl (by kernel_rfl) (by kernel_rfl) (by kernel_rfl) (fun _ _ _ h => h) (Or.inl ⟨by rfl, ?_⟩) (by assumption) ?_
              rotate_left
              · intro w' hSw
                (try dsimp only at hSw)
                (try go_split_ands)
                go_simp
                try with_reducible rfl
              (try simp only [Act.put, List.setIfInBounds_toArray, List.set_cons_zero, List.set_cons_succ])
              refine wpAnyH_ready (rs := [10]) (by kernel_rfl) (by simp) ?_
              refine (AllReadyH.cons (o := { dst := some 52, op := Op.call { callee := Callee.value (Operand.func 76), args := #[Operand.tmp 42, Operand.tmp 44, Operand.tmp 46, Operand.tmp 51], argTypes := #[72, 3, 3, 3] }, type := 4, pos := "stable.go:56", after := #[{ on := 0, ground := Ground.data }, { on := 2, ground := Ground.data }, { on := 4, ground := Ground.data }, { on := 9, ground := Ground.data }], guard := none }) rfl (fun K hK => ?_) AllReadyH.nil)
              go_simp
              go_at_call 76
              with_reducible (refine (HLP.out _ (Below.refl _ _).drew).mono ?_)
              rintro e w5 ⟨rfl, hb5⟩
              have HB5 := Lib.hid ((Below.refl wa.heap.size wa).drew.trans (hb5.mono (Below.refl wa.heap.size wa).drew.size))
              clear hb5
              (try go_wp2_with fail)
              refine hK.out _ _ (HS.out _ HB5.out) (fun hHeld => ?_)
              clear hK K
              (try simp only [Act.put, List.setIfInBounds_toArray, List.set_cons_zero, List.set_cons_succ])
              refine wpAnyH_take (i := 11) (oi := { dst := some 53, op := Op.move (Operand.tmp 52), type := 4, pos := "stable.go:56", after := #[{ on := 10, ground := Ground.data }, { on := 10, ground := Ground.chain }], guard := none }) (v := ?_) rfl (by kernel_rfl) (by kernel_rfl) (by kernel_rfl) (fun _ _ _ h => h) (Or.inl ⟨by rfl, ?_⟩) (by assumption) ?_
              rotate_left
              · intro w' hSw
                (try dsimp only at hSw)
                (try go_split_ands)
                go_simp
                try with_reducible rfl
              (try simp only [Act.put, List.setIfInBounds_toArray, List.set_cons_zero, List.set_cons_succ])
              refine wpAnyH_take (i := 12) (oi := { dst := some 54, op := Op.move (Operand.tmp 10), type := 72, pos := "stable.go:56", after := #[{ on := 11, ground := Ground.guard }], guard := some (11, true) }) (v := undef) rfl (by kernel_rfl) (by kernel_rfl) (by kernel_rfl) (fun _ _ _ h => h) (Or.inr ⟨by rfl, rfl⟩) (by assumption) ?_
              (try simp only [Act.put, List.setIfInBounds_toArray, List.set_cons_zero, List.set_cons_succ])
              refine wpAnyH_take (i := 13) (oi := { dst := some 55, op := Op.indexAddr 65 (Operand.tmp 15) (Operand.const (Value.int IntKind.i64 1)), type := 0, pos := "stable.go:56", after := #[{ on := 11, ground := Ground.guard }], guard := some (11, true) }) (v := undef) rfl (by kernel_rfl) (by kernel_rfl) (by kernel_rfl) (fun _ _ _ h => h) (Or.inr ⟨by rfl, rfl⟩) (by assumption) ?_
              (try simp only [Act.put, List.setIfInBounds_toArray, List.set_cons_zero, List.set_cons_succ])
              refine wpAnyH_take (i := 14) (oi := { dst := some 56, op := Op.load 3 (Operand.tmp 55), type := 3, pos := "stable.go:56", after := #[{ on := 13, ground := Ground.data }, { on := 11, ground := Ground.guard }], guard := some (11, true) }) (v := undef) rfl (by kernel_rfl) (by kernel_rfl) (by kernel_rfl) (fun _ _ _ h => h) (Or.inr ⟨by rfl, rfl⟩) (by assumption) ?_
              (try simp only [Act.put, List.setIfInBounds_toArray, List.set_cons_zero, List.set_cons_succ])
              refine wpAnyH_take (i := 15) (oi := { dst := some 57, op := Op.indexAddr 65 (Operand.tmp 15) (Operand.const (Value.int IntKind.i64 0)), type := 0, pos := "stable.go:56", after := #[{ on := 11, ground := Ground.guard }], guard := some (11, true) }) (v := undef) rfl (by kernel_rfl) (by kernel_rfl) (by kernel_rfl) (fun _ _ _ h => h) (Or.inr ⟨by rfl, rfl⟩) (by assumption) ?_
              (try simp only [Act.put, List.setIfInBounds_toArray, List.set_cons_zero, List.set_cons_succ])
              refine wpAnyH_take (i := 16) (oi := { dst := some 58, op := Op.load 3 (Operand.tmp 57), type := 3, pos := "stable.go:56", after := #[{ on := 15, ground := Ground.data }, { on := 11, ground := Ground.guard }], guard := some (11, true) }) (v := undef) rfl (by kernel_rfl) (by kernel_rfl) (by kernel_rfl) (fun _ _ _ h => h) (Or.inr ⟨by rfl, rfl⟩) (by assumption) ?_
              (try simp only [Act.put, List.setIfInBounds_toArray, List.set_cons_zero, List.set_cons_succ])
              refine wpAnyH_take (i := 17) (oi := { dst := some 59, op := Op.move (Operand.tmp 12), type := 38, pos := "stable.go:56", after := #[{ on := 11, ground := Ground.guard }], guard := some (11, true) }) (v := undef) rfl (by kernel_rfl) (by kernel_rfl) (by kernel_rfl) (fun _ _ _ h => h) (Or.inr ⟨by rfl, rfl⟩) (by assumption) ?_
              (try simp only [Act.put, List.setIfInBounds_toArray, List.set_cons_zero, List.set_cons_succ])
              refine wpAnyH_take (i := 18) (oi := { dst := some 60, op := Op.indexAddr 65 (Operand.tmp 15) (Operand.const (Value.int IntKind.i64 1)), type := 0, pos := "stable.go:56", after := #[{ on := 11, ground := Ground.guard }], guard := some (11, true) }) (v := undef) rfl (by kernel_rfl) (by kernel_rfl) (by kernel_rfl) (fun _ _ _ h => h) (Or.inr ⟨by rfl, rfl⟩) (by assumption) ?_
              (try simp only [Act.put, List.setIfInBounds_toArray, List.set_cons_zero, List.set_cons_succ])
              refine wpAnyH_take (i := 19) (oi := { dst := some 61, op := Op.load 3 (Operand.tmp 60), type := 3, pos := "stable.go:56", after := #[{ on := 18, ground := Ground.data }, { on := 11, ground := Ground.guard }], guard := some (11, true) }) (v := undef) rfl (by kernel_rfl) (by kernel_rfl) (by kernel_rfl) (fun _ _ _ h => h) (Or.inr ⟨by rfl, rfl⟩) (by assumption) ?_
              (try simp only [Act.put, List.setIfInBounds_toArray, List.set_cons_zero, List.set_cons_succ])
              refine wpAnyH_take (i := 20) (oi := { dst := some 62, op := Op.indexAddr 38 (Operand.tmp 59) (Operand.tmp 61), type := 0, pos := "stable.go:56", after := #[{ on := 17, ground := Ground.data }, { on := 19, ground := Ground.data }, { on := 11, ground := Ground.guard }], guard := some (11, true) }) (v := undef) rfl (by kernel_rfl) (by kernel_rfl) (by kernel_rfl) (fun _ _ _ h => h) (Or.inr ⟨by rfl, rfl⟩) (by assumption) ?_
              (try simp only [Act.put, List.setIfInBounds_toArray, List.set_cons_zero, List.set_cons_succ])
              refine wpAnyH_take (i := 21) (oi := { dst := some 63, op := Op.load 3 (Operand.tmp 62), type := 3, pos := "stable.go:56", after := #[{ on := 20, ground := Ground.data }, { on := 11, ground := Ground.guard }], guard := some (11, true) }) (v := undef) rfl (by kernel_rfl) (by kernel_rfl) (by kernel_rfl) (fun _ _ _ h => h) (Or.inr ⟨by rfl, rfl⟩) (by assumption) ?_
              (try simp only [Act.put, List.setIfInBounds_toArray, List.set_cons_zero, List.set_cons_succ])
              refine wpAnyH_take (i := 22) (oi := { dst := some 64, op := Op.call { callee := Callee.value (Operand.func 77), args := #[Operand.tmp 54, Operand.tmp 56, Operand.tmp 58, Operand.tmp 63], argTypes := #[72, 3, 3, 3] }, type := 4, pos := "stable.go:56", after := #[{ on := 12, ground := Ground.data }, { on := 14, ground := Ground.data }, { on := 16, ground := Ground.data }, { on := 21, ground := Ground.data }, { on := 11, ground := Ground.chain }, { on := 11, ground := Ground.guard }], guard := some (11, true) }) (v := undef) rfl (by kernel_rfl) (by kernel_rfl) (by kernel_rfl) (fun _ _ _ h => h) (Or.inr ⟨by rfl, rfl⟩) (by assumption) ?_
              (try simp only [Act.put, List.setIfInBounds_toArray, List.set_cons_zero, List.set_cons_succ])
              refine wpAnyH_take (i := 23) (oi := { dst := some 65, op := Op.pick (Operand.tmp 53) (Operand.tmp 64) (Operand.const (Value.bool false)), type := 4, pos := "stable.go:56", after := #[{ on := 11, ground := Ground.data }, { on := 22, ground := Ground.data }], guard := none }) (v := ?_) rfl (by kernel_rfl) (by kernel_rfl) (by kernel_rfl) (fun _ _ _ h => h) (Or.inl ⟨by rfl, ?_⟩) (by assumption) ?_
              rotate_left
              · intro w' hSw
                (try dsimp only at hSw)
                (try go_split_ands)
                go_simp
                try with_reducible rfl
              (try simp only [Act.put, List.setIfInBounds_toArray, List.set_cons_zero, List.set_cons_succ])
              refine wpAnyH_done (by kernel_rfl) ?_ _
              go_wp2_with fail
              go_meet
              exact ⟨rfl, HB5⟩
            | true =>
              refine wp_region_held_drew (S := fun w' => w'.cell? ⟨H, 0, none⟩ = some (.int .i64 i) ∧ w'.cell? ⟨H, 1, none⟩ = some (.int .i64 j) ∧ w'.cell? ⟨b3, off3 + i, none⟩ = some (.int .i64 mv) ∧ w'.cell? ⟨p, j, none⟩ = some (.int .i64 ov)) (by kernel_rfl) (HS.out _ (Below.refl _ _).drew) (fun hHeld => ?_)
              refine wpAnyH_take (i := 0) (oi := { dst := some 42, op := Op.move (Operand.tmp 10), type := 72, pos := "stable.go:56", after := #[], guard := none }) (v := ?_) rfl (by kernel_rfl) (by kernel_rfl) (by kernel_rfl) (fun _ _ _ h => h) (Or.inl ⟨by rfl, ?_⟩) (by assumption) ?_
              rotate_left
              · intro w' hSw
                (try dsimp only at hSw)
                (try go_split_ands)
                go_simp
                try with_reducible rfl
              (try simp only [Act.put, List.setIfInBounds_toArray, List.set_cons_zero, List.set_cons_succ])
              refine wpAnyH_take (i := 1) (oi := { dst := some 43, op := Op.indexAddr 65 (Operand.tmp 15) (Operand.const (Value.int IntKind.i64 0)), type := 0, pos := "stable.go:56", after := #[], guard := none }) (v := ?_) rfl (by kernel_rfl) (by kernel_rfl) (by kernel_rfl) (fun _ _ _ h => h) (Or.inl ⟨by rfl, ?_⟩) (by assumption) ?_
              rotate_left
              · intro w' hSw
                (try dsimp only at hSw)
                (try go_split_ands)
                go_simp
                try with_reducible rfl
              (try simp only [Act.put, List.setIfInBounds_toArray, List.set_cons_zero, List.set_cons_succ])
              refine wpAnyH_take (i := 2) (oi := { dst := some 44, op := Op.load 3 (Operand.tmp 43), type := 3, pos := "stable.go:56", after := #[{ on := 1, ground := Ground.data }], guard := none }) (v := ?_) rfl (by kernel_rfl) (by kernel_rfl) (by kernel_rfl) (fun _ _ _ h => h) (Or.inl ⟨by rfl, ?_⟩) (by assumption) ?_
              rotate_left
              · intro w' hSw
                (try dsimp only at hSw)
                (try go_split_ands)
                go_simp
                try with_reducible rfl
              (try simp only [Act.put, List.setIfInBounds_toArray, List.set_cons_zero, List.set_cons_succ])
              refine wpAnyH_take (i := 3) (oi := { dst := some 45, op := Op.indexAddr 65 (Operand.tmp 15) (Operand.const (Value.int IntKind.i64 1)), type := 0, pos := "stable.go:56", after := #[], guard := none }) (v := ?_) rfl (by kernel_rfl) (by kernel_rfl) (by kernel_rfl) (fun _ _ _ h => h) (Or.inl ⟨by rfl, ?_⟩) (by assumption) ?_
              rotate_left
              · intro w' hSw
                (try dsimp only at hSw)
                (try go_split_ands)
                go_simp
                try with_reducible rfl
              (try simp only [Act.put, List.setIfInBounds_toArray, List.set_cons_zero, List.set_cons_succ])
              refine wpAnyH_take (i := 4) (oi := { dst := some 46, op := Op.load 3 (Operand.tmp 45), type := 3, pos := "stable.go:56", after := #[{ on := 3, ground := Ground.data }], guard := none }) (v := ?_) rfl (by kernel_rfl) (by kernel_rfl) (by kernel_rfl) (fun _ _ _ h => h) (Or.inl ⟨by rfl, ?_⟩) (by assumption) ?_
              rotate_left
              · intro w' hSw
                (try dsimp only at hSw)
                (try go_split_ands)
                go_simp
                try with_reducible rfl
              (try simp only [Act.put, List.setIfInBounds_toArray, List.set_cons_zero, List.set_cons_succ])
              refine wpAnyH_take (i := 5) (oi := { dst := some 47, op := Op.move (Operand.tmp 3), type := 38, pos := "stable.go:56", after := #[], guard := none }) (v := ?_) rfl (by kernel_rfl) (by kernel_rfl) (by kernel_rfl) (fun _ _ _ h => h) (Or.inl ⟨by rfl, ?_⟩) (by assumption) ?_
              rotate_left
              · intro w' hSw
                (try dsimp only at hSw)
                (try go_split_ands)
                go_simp
                try with_reducible rfl
              (try simp only [Act.put, List.setIfInBounds_toArray, List.set_cons_zero, List.set_cons_succ])
              refine wpAnyH_take (i := 6) (oi := { dst := some 48, op := Op.indexAddr 65 (Operand.tmp 15) (Operand.const (Value.int IntKind.i64 0)), type := 0, pos := "stable.go:56", after := #[], guard := none }) (v := ?_) rfl (by kernel_rfl) (by kernel_rfl) (by kernel_rfl) (fun _ _ _ h => h) (Or.inl ⟨by rfl, ?_⟩) (by assumption) ?_
              rotate_left
              · intro w' hSw
                (try dsimp only at hSw)
                (try go_split_ands)
                go_simp
                try with_reducible rfl
              (try simp only [Act.put, List.setIfInBounds_toArray, List.set_cons_zero, List.set_cons_succ])
              refine wpAnyH_take (i := 7) (oi := { dst := some 49, op := Op.load 3 (Operand.tmp 48), type := 3, pos := "stable.go:56", after := #[{ on := 6, ground := Ground.data }], guard := none }) (v := ?_) rfl (by kernel_rfl) (by kernel_rfl) (by kernel_rfl) (fun _ _ _ h => h) (Or.inl ⟨by rfl, ?_⟩) (by assumption) ?_
              rotate_left
              · intro w' hSw
                (try dsimp only at hSw)
                (try go_split_ands)
                go_simp
                try with_reducible rfl
              (try simp only [Act.put, List.setIfInBounds_toArray, List.set_cons_zero, List.set_cons_succ])
              refine wpAnyH_take (i := 8) (oi := { dst := some 50, op := Op.indexAddr 38 (Operand.tmp 47) (Operand.tmp 49), type := 0, pos := "stable.go:56", after := #[{ on := 5, ground := Ground.data }, { on := 7, ground := Ground.data }], guard := none }) (v := ?_) rfl (by kernel_rfl) (by kernel_rfl) (by kernel_rfl) (fun _ _ _ h => h) (Or.inl ⟨by rfl, ?_⟩) (by assumption) ?_
              rotate_left
              · intro w' hSw
                (try dsimp only at hSw)
                (try go_split_ands)
                go_simp
                try with_reducible rfl
              (try simp only [Act.put, List.setIfInBounds_toArray, List.set_cons_zero, List.set_cons_succ])
              refine wpAnyH_take (i := 9) (oi := { dst := some 51, op := Op.load 3 (Operand.tmp 50), type := 3, pos := "stable.go:56", after := #[{ on := 8, ground := Ground.data }], guard := none }) (v := ?_) rfl (by kernel_rfl) (by kernel_rfl) (by kernel_rfl) (fun _ _ _ h => h) (Or.inl ⟨by rfl, ?_⟩) (by assumption) ?_
              rotate_left
              · intro w' hSw
                (try dsimp only at hSw)
                (try go_split_ands)
                go_simp
                try with_reducible rfl
              (try simp only [Act.put, List.setIfInBounds_toArray, List.set_cons_zero, List.set_cons_succ])
              refine wpAnyH_ready (rs := [10]) (by kernel_rfl) (by simp) ?_
              refine (AllReadyH.cons (o := { dst := some 52, op := Op.call { callee := Callee.value (Operand.func 76), args := #[Operand.tmp 42, Operand.tmp 44, Operand.tmp 46, Operand.tmp 51], argTypes := #[72, 3, 3, 3] }, type := 4, pos := "stable.go:56", after := #[{ on := 0, ground := Ground.data }, { on := 2, ground := Ground.data }, { on := 4, ground := Ground.data }, { on := 9, ground := Ground.data }], guard := none }) rfl (fun K hK => ?_) AllReadyH.nil)
              go_simp
              go_at_call 76
              with_reducible (refine (HLP.out _ (Below.refl _ _).drew).mono ?_)
              rintro e w5 ⟨rfl, hb5⟩
              have HB5 := Lib.hid ((Below.refl wa.heap.size wa).drew.trans (hb5.mono (Below.refl wa.heap.size wa).drew.size))
              clear hb5
              (try go_wp2_with fail)
              refine hK.out _ _ (HS.out _ HB5.out) (fun hHeld => ?_)
              clear hK K
              (try simp only [Act.put, List.setIfInBounds_toArray, List.set_cons_zero, List.set_cons_succ])
              refine wpAnyH_take (i := 11) (oi := { dst := some 53, op := Op.move (Operand.tmp 52), type := 4, pos := "stable.go:56", after := #[{ on := 10, ground := Ground.data }, { on := 10, ground := Ground.chain }], guard := none }) (v := ?_) rfl (by kernel_rfl) (by kernel_rfl) (by kernel_rfl) (fun _ _ _ h => h) (Or.inl ⟨by rfl, ?_⟩) (by assumption) ?_
              rotate_left
              · intro w' hSw
                (try dsimp only at hSw)
                (try go_split_ands)
                go_simp
                try with_reducible rfl
              (try simp only [Act.put, List.setIfInBounds_toArray, List.set_cons_zero, List.set_cons_succ])
              refine wpAnyH_take (i := 12) (oi := { dst := some 54, op := Op.move (Operand.tmp 10), type := 72, pos := "stable.go:56", after := #[{ on := 11, ground := Ground.guard }], guard := some (11, true) }) (v := ?_) rfl (by kernel_rfl) (by kernel_rfl) (by kernel_rfl) (fun _ _ _ h => h) (Or.inl ⟨by rfl, ?_⟩) (by assumption) ?_
              rotate_left
              · intro w' hSw
                (try dsimp only at hSw)
                (try go_split_ands)
                go_simp
                try with_reducible rfl
              (try simp only [Act.put, List.setIfInBounds_toArray, List.set_cons_zero, List.set_cons_succ])
              refine wpAnyH_take (i := 13) (oi := { dst := some 55, op := Op.indexAddr 65 (Operand.tmp 15) (Operand.const (Value.int IntKind.i64 1)), type := 0, pos := "stable.go:56", after := #[{ on := 11, ground := Ground.guard }], guard := some (11, true) }) (v := ?_) rfl (by kernel_rfl) (by kernel_rfl) (by kernel_rfl) (fun _ _ _ h => h) (Or.inl ⟨by rfl, ?_⟩) (by assumption) ?_
              rotate_left
              · intro w' hSw
                (try dsimp only at hSw)
                (try go_split_ands)
                go_simp
                try with_reducible rfl
              (try simp only [Act.put, List.setIfInBounds_toArray, List.set_cons_zero, List.set_cons_succ])
              refine wpAnyH_take (i := 14) (oi := { dst := some 56, op := Op.load 3 (Operand.tmp 55), type := 3, pos := "stable.go:56", after := #[{ on := 13, ground := Ground.data }, { on := 11, ground := Ground.guard }], guard := some (11, true) }) (v := ?_) rfl (by kernel_rfl) (by kernel_rfl) (by kernel_rfl) (fun _ _ _ h => h) (Or.inl ⟨by rfl, ?_⟩) (by assumption) ?_
              rotate_left
              · intro w' hSw
                (try dsimp only at hSw)
                (try go_split_ands)
                go_simp
                try with_reducible rfl
              (try simp only [Act.put, List.setIfInBounds_toArray, List.set_cons_zero, List.set_cons_succ])
              refine wpAnyH_take (i := 15) (oi := { dst := some 57, op := Op.indexAddr 65 (Operand.tmp 15) (Operand.const (Value.int IntKind.i64 0)), type := 0, pos := "stable.go:56", after := #[{ on := 11, ground := Ground.guard }], guard := some (11, true) }) (v := ?_) rfl (by kernel_rfl) (by kernel_rfl) (by kernel_rfl) (fun _ _ _ h => h) (Or.inl ⟨by rfl, ?_⟩) (by assumption) ?_
              rotate_left
              · intro w' hSw
                (try dsimp only at hSw)
                (try go_split_ands)
                go_simp
                try with_reducible rfl
              (try simp only [Act.put, List.setIfInBounds_toArray, List.set_cons_zero, List.set_cons_succ])
              refine wpAnyH_take (i := 16) (oi := { dst := some 58, op := Op.load 3 (Operand.tmp 57), type := 3, pos := "stable.go:56", after := #[{ on := 15, ground := Ground.data }, { on := 11, ground := Ground.guard }], guard := some (11, true) }) (v := ?_) rfl (by kernel_rfl) (by kernel_rfl) (by kernel_rfl) (fun _ _ _ h => h) (Or.inl ⟨by rfl, ?_⟩) (by assumption) ?_
              rotate_left
              · intro w' hSw
                (try dsimp only at hSw)
                (try go_split_ands)
                go_simp
                try with_reducible rfl
              (try simp only [Act.put, List.setIfInBounds_toArray, List.set_cons_zero, List.set_cons_succ])
              refine wpAnyH_take (i := 17) (oi := { dst := some 59, op := Op.move (Operand.tmp 12), type := 38, pos := "stable.go:56", after := #[{ on := 11, ground := Ground.guard }], guard := some (11, true) }) (v := ?_) rfl (by kernel_rfl) (by kernel_rfl) (by kernel_rfl) (fun _ _ _ h => h) (Or.inl ⟨by rfl, ?_⟩) (by assumption) ?_
              rotate_left
              · intro w' hSw
                (try dsimp only at hSw)
                (try go_split_ands)
                go_simp
                try with_reducible rfl
              (try simp only [Act.put, List.setIfInBounds_toArray, List.set_cons_zero, List.set_cons_succ])
              refine wpAnyH_take (i := 18) (oi := { dst := some 60, op := Op.indexAddr 65 (Operand.tmp 15) (Operand.const (Value.int IntKind.i64 1)), type := 0, pos := "stable.go:56", after := #[{ on := 11, ground := Ground.guard }], guard := some (11, true) }) (v := ?_) rfl (by kernel_rfl) (by kernel_rfl) (by kernel_rfl) (fun _ _ _ h => h) (Or.inl ⟨by rfl, ?_⟩) (by assumption) ?_
              rotate_left
              · intro w' hSw
                (try dsimp only at hSw)
                (try go_split_ands)
                go_simp
                try with_reducible rfl
              (try simp only [Act.put, List.setIfInBounds_toArray, List.set_cons_zero, List.set_cons_succ])
              refine wpAnyH_take (i := 19) (oi := { dst := some 61, op := Op.load 3 (Operand.tmp 60), type := 3, pos := "stable.go:56", after := #[{ on := 18, ground := Ground.data }, { on := 11, ground := Ground.guard }], guard := some (11, true) }) (v := ?_) rfl (by kernel_rfl) (by kernel_rfl) (by kernel_rfl) (fun _ _ _ h => h) (Or.inl ⟨by rfl, ?_⟩) (by assumption) ?_
              rotate_left
              · intro w' hSw
                (try dsimp only at hSw)
                (try go_split_ands)
                go_simp
                try with_reducible rfl
              (try simp only [Act.put, List.setIfInBounds_toArray, List.set_cons_zero, List.set_cons_succ])
              refine wpAnyH_take (i := 20) (oi := { dst := some 62, op := Op.indexAddr 38 (Operand.tmp 59) (Operand.tmp 61), type := 0, pos := "stable.go:56", after := #[{ on := 17, ground := Ground.data }, { on := 19, ground := Ground.data }, { on := 11, ground := Ground.guard }], guard := some (11, true) }) (v := ?_) rfl (by kernel_rfl) (by kernel_rfl) (by kernel_rfl) (fun _ _ _ h => h) (Or.inl ⟨by rfl, ?_⟩) (by assumption) ?_
              rotate_left
              · intro w' hSw
                (try dsimp only at hSw)
                (try go_split_ands)
                go_simp
                try with_reducible rfl
              (try simp only [Act.put, List.setIfInBounds_toArray, List.set_cons_zero, List.set_cons_succ])
              refine wpAnyH_take (i := 21) (oi := { dst := some 63, op := Op.load 3 (Operand.tmp 62), type := 3, pos := "stable.go:56", after := #[{ on := 20, ground := Ground.data }, { on := 11, ground := Ground.guard }], guard := some (11, true) }) (v := ?_) rfl (by kernel_rfl) (by kernel_rfl) (by kernel_rfl) (fun _ _ _ h => h) (Or.inl ⟨by rfl, ?_⟩) (by assumption) ?_
              rotate_left
              · intro w' hSw
                (try dsimp only at hSw)
                (try go_split_ands)
                go_simp
                try with_reducible rfl
              (try simp only [Act.put, List.setIfInBounds_toArray, List.set_cons_zero, List.set_cons_succ])
              refine wpAnyH_ready (rs := [22]) (by kernel_rfl) (by simp) ?_
              refine (AllReadyH.cons (o := { dst := some 64, op := Op.call { callee := Callee.value (Operand.func 77), args := #[Operand.tmp 54, Operand.tmp 56, Operand.tmp 58, Operand.tmp 63], argTypes := #[72, 3, 3, 3] }, type := 4, pos := "stable.go:56", after := #[{ on := 12, ground := Ground.data }, { on := 14, ground := Ground.data }, { on := 16, ground := Ground.data }, { on := 21, ground := Ground.data }, { on := 11, ground := Ground.chain }, { on := 11, ground := Ground.guard }], guard := some (11, true) }) rfl (fun K hK => ?_) AllReadyH.nil)
              go_simp
              go_at_call 77
              with_reducible (refine (HRP.out _ HB5.out).mono ?_)
              rintro e w6 ⟨rfl, hb6⟩
              have HB6 := Lib.hid (HB5.out.trans (hb6.mono HB5.out.size))
              clear hb6
              (try go_wp2_with fail)
              refine hK.out _ _ (HS.out _ HB6.out) (fun hHeld => ?_)
              clear hK K
              (try simp only [Act.put, List.setIfInBounds_toArray, List.set_cons_zero, List.set_cons_succ])
              refine wpAnyH_take (i := 23) (oi := { dst := some 65, op := Op.pick (Operand.tmp 53) (Operand.tmp 64) (Operand.const (Value.bool false)), type := 4, pos := "stable.go:56", after := #[{ on := 11, ground := Ground.data }, { on := 22, ground := Ground.data }], guard := none }) (v := ?_) rfl (by kernel_rfl) (by kernel_rfl) (by kernel_rfl) (fun _ _ _ h => h) (Or.inl ⟨by rfl, ?_⟩) (by assumption) ?_
              rotate_left
              · intro w' hSw
                (try dsimp only at hSw)
                (try go_split_ands)
                go_simp
                try with_reducible rfl
              (try simp only [Act.put, List.setIfInBounds_toArray, List.set_cons_zero, List.set_cons_succ])
              refine wpAnyH_done (by kernel_rfl) ?_ _
              go_wp2_with fail
              go_meet
              exact ⟨rfl, HB6⟩
          case rest =>
          obtain ⟨rfl, HBC⟩ := hcut
          have HIC := Lib.hid (HIA.out.step HBC.out)
          obtain ⟨g, hg⟩ : ∃ g, g = (q1 && q2) := ⟨_, rfl⟩
          rw [← hg] at HNX ⊢
          clear hg HLP HRP c0 c1 hb1
          cases g with
          | false =>
            have HN : Hid (PTV w3 u13 ((PS.take (k + 1)).filter QQ) wc) := Lib.hid (by rw [HNX.out, if_neg (by simp)]; exact HIC.out)
            clear HNX HIC HIA
            go_wp2
            go_roundg gk'
            case measure => exact Nat.lt_succ_self _
            case rel => exact ⟨k + 1, by omega, by go_num, HN⟩
          | true =>
            obtain ⟨n, hn⟩ : ∃ n, n = ((PS.take k).filter QQ).length := ⟨_, rfl⟩
            have hown := HIC.out.own
            rw [← hn] at hown
            have hnl : n ≤ 20000 := by
              have := List.length_filter_le QQ (PS.take k)
              have := List.length_take_le k PS
              rw [List.length_take] at *
              omega
            have hbs := HIC.out.b.size
            obtain ⟨e0, e1, -, -⟩ := HS.out _ HBC.out
            have hH2 : H < wc.heap.size := block_lt (blk_keep HBX.out HBC.out)
            obtain ⟨PL, hPL2⟩ : ∃ z, z = (PS.take k).filter QQ := ⟨_, rfl⟩
            have HPU : Hid (∀ v' w2, w2.ownsRow w3.heap.size 65 2 v' (n + 1) (p2Vals PL ++ [.int .i64 i, .int .i64 j]) → (wc.alloc (.cells #[.int .i64 i, .int .i64 j] 65)).grownBy w2 u13.ownBlock → PTV w3 v' ((PS.take (k + 1)).filter QQ) w2) := Lib.hid (fun v' w2 ho hg => by
              rw [HNX.out, if_pos rfl]
              refine (HIC.out.step ((Below.refl _ _).alloc (Nat.le_refl _) _)).push (r := (i, j)) ?_ hg
              rw [← hn, ← hPL2]
              exact ho)
            rw [← hPL2] at hown
            clear hn HNX hPL2 HIA HIC
            go_wp2_with (at_builtin; refine wpList_append_own _ rfl _ _ 60 rfl w3.heap.size 65 i0 (.agg #[.int .i64 0, .int .i64 0]) 2 16 uPts HI0.out.1 HI0.out.2.1 HI0.out.2.2.1 HI0.out.2.2.2 rfl (by decide) u13 n _ rfl (hown.alloc _) ⟨wc.heap.size, 0, none⟩ 1 1 [.int .i64 i, .int .i64 j] rfl rfl (p2cell_new _ _ _ _) (by intro u hu; simp at hu; rcases hu with rfl | rfl <;> rfl) (by unfold maxLen; omega) (by omega) (by simp; omega) ?_)
            intro v' w6 hown6 hgrow6 hnil6
            have HN := Lib.hid (HPU.out v' w6 hown6 hgrow6)
            clear hown6 hgrow6 hown hnil6 HPU hbs e0 e1 hH2
            go_wp2
            go_roundg gk'
            case measure => exact Nat.lt_succ_self _
            case rel => exact ⟨k + 1, by omega, by go_num, HN⟩
        · obtain ⟨rfl, rfl⟩ : gk = 0 ∧ k = PS.length := by omega
          have HE : Hid (∃ a' c', u13 = .slice a' (pal (blkB CF m o) rs.length ls.length).length c' ∧ PtS wr a' (pal (blkB CF m o) rs.length ls.length) ∧ Below w.heap.size w wr) := Lib.hid (by
            have h := HI.out
            rw [List.take_length, ← HFI.out, HFL.out] at h
            obtain ⟨a', c', e, hp⟩ := h.pts
            exact ⟨a', c', e, hp, HB3.out.trans (h.b.mono HB3.out.size)⟩)
          obtain ⟨a', c', rfl, hps, hbe⟩ := HE.out
          have HE2 := Lib.hid (And.intro hps hbe)
          clear hps hbe HE HI
          go_wp2
          go_ret2
          first | exact ⟨a', c', rfl, HE2.out.1, HE2.out.2⟩ | exact ⟨a', ⟨c', rfl⟩, HE2.out.1, HE2.out.2⟩
  · have HOW := Lib.hid (owners_size pt ls.length rs.length CF a3 cap3 m hlen w1 HT.out)
    have hres := HRES.out
    rw [if_neg hlen] at hres
    subst hres
    clear HRES
    go_wp2_with fail
    refine HOW.out.mono ?_
    rintro e w2 ⟨rfl, hb2⟩
    have HB2 := Lib.hid (HB1.out.trans (hb2.mono HB1.out.size))
    clear hb2 HOW
    go_wp2
    go_ret2
    first | exact ⟨none, 0, rfl, .inl rfl, HB2.out⟩ | exact ⟨none, ⟨0, rfl⟩, .inl rfl, HB2.out⟩

end Go.Proofs.Ytchhadkmemckbaa

/- Skins: measure. -/
import Derived.Test.YtndhnpljdldlpabSkI
namespace Go.Proofs.Ytndhnpljdldlpab
open Go.RowKit

/-- Pairs of neighbours and squares of four. -/
def meaS (us : Int → Int → Bool) : Int × Int → List (Int × Int) → Int × Int
  | b, [] => b
  | (p, s), c :: t => meaS us (p + (if us (c.1 + 1) (c.2 + 0) = true then 1 else 0) + (if us (c.1 + 0) (c.2 + 1) = true then 1 else 0), s + (if (us (c.1 + 1) (c.2 + 0) && us (c.1 + 0) (c.2 + 1) && us (c.1 + 1) (c.2 + 1)) = true then 1 else 0)) t

theorem seven_cells {w w0 : World} {H : Nat} {a b c d e f g : Value} {T : TypeId} {L : List (Nat × Array Value × TypeId)} (h : Mem w0 ((H, #[a, b, c, d, e, f, g], T) :: L) w) : (w.cell? ⟨H, 0, none⟩ = some a ∧ w.cell? ⟨H, 1, none⟩ = some b ∧ w.cell? ⟨H, 2, none⟩ = some c ∧ w.cell? ⟨H, 3, none⟩ = some d) ∧ w.cell? ⟨H, 4, none⟩ = some e ∧ w.cell? ⟨H, 5, none⟩ = some f ∧ w.cell? ⟨H, 6, none⟩ = some g :=
  ⟨⟨h.cell 0, h.cell 1, h.cell 2, h.cell 3⟩, h.cell 4, h.cell 5, h.cell 6⟩

set_option maxRecDepth 100000 in
set_option maxHeartbeats 3200000 in
theorem measure_any (ps pg : Nat) (us : Int → Int → Bool) (g cap : Nat) (l : List (Int × Int)) (hl : 0 < l.length) (hl2 : l.length ≤ 2304) (hr : ∀ c ∈ l, (0 ≤ c.1 ∧ c.1 ≤ 48) ∧ 0 ≤ c.2 ∧ c.2 ≤ 48) (w : World) (h : CellS w g l)
    (hcall : ∀ w', Below w.heap.size w w' → ∀ p q : Int, Calls Try.prog 67 #[.agg #[.int .i64 p, .int .i64 q], .pointer (some ⟨ps, 0, none⟩), .pointer (some ⟨pg, 0, none⟩)] w' fun e w'' => e = .returned (.bool (us p q)) ∧ Below w'.heap.size w' w'') :
    Calls Try.prog 65 #[.slice (some ⟨g, 0, none⟩) l.length cap, .func (.func 67) #[] #[.pointer (some ⟨ps, 0, none⟩), .pointer (some ⟨pg, 0, none⟩)]] w fun e w' => ∃ P Q p q r s, e = .returned (.agg #[.int .i64 l.length, .int .i64 (4 * l.length - 2 * P), .int .i64 (1 - l.length + P - Q), .int .i64 p, .int .i64 q, .int .i64 (r - p + 1), .int .i64 (s - q + 1)]) ∧ meaS us (0, 0) l = (P, Q) ∧ boxS (l[0].1, l[0].2, l[0].1, l[0].2) l = (p, q, r, s) ∧ Below w.heap.size w w' := by
  have HH := Lib.hid h
  have HR := Lib.hid hr
  have HCALL := Lib.hid hcall
  have hg := h.1
  obtain ⟨FIN, hF⟩ : ∃ F, F = meaS us (0, 0) l := ⟨_, rfl⟩
  have HF := Lib.hid hF
  obtain ⟨BF, hB⟩ : ∃ F, F = boxS (l[0].1, l[0].2, l[0].1, l[0].2) l := ⟨_, rfl⟩
  have HBOX : Hid (∀ w', Below w.heap.size w w' → Calls Try.prog 92 #[.slice (some ⟨g, 0, none⟩) l.length cap] w' fun e w'' => ∃ p q r s, e = .returned (.agg #[.int .i64 p, .int .i64 q, .int .i64 (r - p + 1), .int .i64 (s - q + 1)]) ∧ BF = (p, q, r, s) ∧ Below w'.heap.size w' w'') := Lib.hid (fun w' hb => by
    rw [hB]; exact box_any g cap l hl hl2 hr w' (h.below hb))
  rw [← hF, ← hB]
  have HM0 := Lib.hid ((Mem.nil w).alloc #[.int .i64 0, .int .i64 0, .int .i64 0, .int .i64 0, .int .i64 0, .int .i64 0, .int .i64 0] 69)
  clear h hr hcall hF hB
  go_enter Try.func65, Try.ntmps65
  go_wp2
  go_loopw [5, 6, 14] (fun p s i wr => ∃ (k : Nat) (P Q : Int), k ≤ l.length ∧ i = .int .i64 k ∧ p = .int .i64 P ∧ s = .int .i64 Q ∧ (0 ≤ P ∧ P ≤ 2 * k) ∧ (0 ≤ Q ∧ Q ≤ k) ∧ Hid (meaS us (P, Q) (l.drop k) = FIN) ∧ Hid (Mem w [(w.heap.size, #[.int .i64 0, .int .i64 0, .int .i64 0, .int .i64 0, .int .i64 0, .int .i64 0, .int .i64 0], 69)] wr)) (fun _ _ i _ => l.length - (intOf i).toNat)
  case atStart => exact ⟨0, 0, 0, Nat.zero_le _, rfl, rfl, rfl, by omega, by omega, Lib.hid HF.out.symm, HM0⟩
  case round =>
    obtain ⟨k, P, Q, hk, rfl, rfl, rfl, ⟨P1, P2⟩, ⟨Q1, Q2⟩, HFL, HM⟩ := hrel
    by_cases hlt : k < l.length
    · obtain ⟨d0, d1⟩ := (HH.out.below HM.out.b).2 k hlt
      have hd := (HH.out.below HM.out.b).1
      obtain ⟨⟨ux, uy⟩, hu⟩ : ∃ c, c = l[k] := ⟨_, rfl⟩
      have hub := HR.out _ (List.getElem_mem hlt)
      rw [← hu] at d0 d1 hub
      simp only at d0 d1 hub
      obtain ⟨⟨t1, t2⟩, t3, t4⟩ := hub
      obtain ⟨a1, ha1⟩ : ∃ a, a = ux + 1 := ⟨_, rfl⟩
      obtain ⟨b1, hb1⟩ : ∃ a, a = uy + 0 := ⟨_, rfl⟩
      obtain ⟨a2, ha2⟩ : ∃ a, a = ux + 0 := ⟨_, rfl⟩
      obtain ⟨b2, hb2⟩ : ∃ a, a = uy + 1 := ⟨_, rfl⟩
      obtain ⟨br, hbr⟩ : ∃ b, b = us a1 b1 := ⟨_, rfl⟩
      obtain ⟨bb, hbb⟩ : ∃ b, b = us a2 b2 := ⟨_, rfl⟩
      obtain ⟨bq, hbq⟩ : ∃ b, b = us a1 b2 := ⟨_, rfl⟩
      have HFL2 : Hid (meaS us (P + (if br = true then 1 else 0) + (if bb = true then 1 else 0), Q + (if (br && bb && bq) = true then 1 else 0)) (l.drop (k + 1)) = FIN) := Lib.hid (by
        rw [← HFL.out, List.drop_eq_getElem_cons hlt, ← hu, hbr, hbb, hbq, ha1, hb1, ha2, hb2]; rfl)
      have HP1 : Hid (∀ w', Calls Try.prog 83 #[.agg #[.int .i64 ux, .int .i64 uy], .agg #[.int .i64 1, .int .i64 0]] w' fun e w'' => e = .returned (.agg #[.int .i64 a1, .int .i64 b1]) ∧ Below w'.heap.size w' w'') := Lib.hid (fun w' => by rw [ha1, hb1]; exact cplus_any ux uy 1 0 (by omega) (by omega) (by omega) (by omega) w')
      have HP2 : Hid (∀ w', Calls Try.prog 83 #[.agg #[.int .i64 ux, .int .i64 uy], .agg #[.int .i64 0, .int .i64 1]] w' fun e w'' => e = .returned (.agg #[.int .i64 a2, .int .i64 b2]) ∧ Below w'.heap.size w' w'') := Lib.hid (fun w' => by rw [ha2, hb2]; exact cplus_any ux uy 0 1 (by omega) (by omega) (by omega) (by omega) w')
      have HP3 : Hid (∀ w', Calls Try.prog 83 #[.agg #[.int .i64 ux, .int .i64 uy], .agg #[.int .i64 1, .int .i64 1]] w' fun e w'' => e = .returned (.agg #[.int .i64 a1, .int .i64 b2]) ∧ Below w'.heap.size w' w'') := Lib.hid (fun w' => by rw [ha1, hb2]; exact cplus_any ux uy 1 1 (by omega) (by omega) (by omega) (by omega) w')
      have HU : Hid (∀ w', Below wr.heap.size wr w' → ∀ p q b, ((p = a1 ∧ q = b1 ∧ b = br) ∨ (p = a2 ∧ q = b2 ∧ b = bb) ∨ (p = a1 ∧ q = b2 ∧ b = bq)) → Calls Try.prog 67 #[.agg #[.int .i64 p, .int .i64 q], .pointer (some ⟨ps, 0, none⟩), .pointer (some ⟨pg, 0, none⟩)] w' fun e w'' => e = .returned (.bool b) ∧ Below w'.heap.size w' w'') := Lib.hid (fun w' hb p q b hh => by
        have := HCALL.out w' (HM.out.b.trans (hb.mono HM.out.b.size)) p q
        rcases hh with ⟨rfl, rfl, rfl⟩ | ⟨rfl, rfl, rfl⟩ | ⟨rfl, rfl, rfl⟩
        · rw [hbr]; exact this
        · rw [hbb]; exact this
        · rw [hbq]; exact this)
      have hlt' : (k : Int) < l.length := by omega
      have hk0 : (0 : Int) ≤ k := by omega
      clear hu ha1 hb1 ha2 hb2 hbr hbb hbq
      go_upto_region 5 with fail
      go_cut [9, 10] (fun s9 s10 wx => s9 = .bool br ∧ s10 = .bool bb ∧ Hid (Mem wr [(wr.heap.size, #[.int .i64 ux, .int .i64 uy], 93)] wx))
      case first =>
        have hM := (Mem.nil wr).alloc #[.int .i64 ux, .int .i64 uy] 93
        have HM5 := Lib.hid hM
        go_region_held3 (fun w' => Mem wr [(wr.heap.size, #[.int .i64 ux, .int .i64 uy], 93)] w' ∧ w'.cell? ⟨wr.heap.size, 0, none⟩ = some (.int .i64 ux) ∧ w'.cell? ⟨wr.heap.size, 1, none⟩ = some (.int .i64 uy))
          (first | exact ⟨hM.drew, hM.drew.c2.1, hM.drew.c2.2.1⟩ | (go_split_ands; exact ⟨Mem.step (by assumption) (by assumption), (Mem.step (by assumption) (by assumption)).c2.1, (Mem.step (by assumption) (by assumption)).c2.2.1⟩))
          (first
            | (go_at_call 83; go_split_ands; with_reducible (refine (HP1.out _).mono ?_); rintro e w3 ⟨rfl, hb3⟩)
            | (go_at_call 83; go_split_ands; with_reducible (refine (HP2.out _).mono ?_); rintro e w4 ⟨rfl, hb4⟩)
            | (go_at_call 67; go_split_ands; with_reducible (refine (HU.out _ (Mem.b (by assumption)) a1 b1 br (.inl ⟨rfl, rfl, rfl⟩)).mono ?_); rintro e w5 ⟨rfl, hb5⟩)
            | (go_at_call 67; go_split_ands; with_reducible (refine (HU.out _ (Mem.b (by assumption)) a2 b2 bb (.inr (.inl ⟨rfl, rfl, rfl⟩))).mono ?_); rintro e w6 ⟨rfl, hb6⟩))
        all_goals go_wp2_with fail
        all_goals
          go_meet
          exact ⟨rfl, rfl, Lib.hid (by go_split_ands; assumption)⟩
      case rest =>
      obtain ⟨rfl, rfl, HM6⟩ := hcut
      obtain ⟨c0, c1, -, -, c2⟩ := HM6.out.c2
      have HMW := Lib.hid (HM.out.step HM6.out.b)
      clear d0 d1
      cases br with
      | false =>
        cases bb with
        | false =>
          go_wp2
          go_roundw
          case rel => exact ⟨k + 1, P, Q, by omega, by go_num, rfl, rfl, by omega, by omega, Lib.hid (by simpa using HFL2.out), HMW⟩
          case measure => simp [intOf]; omega
        | true =>
          go_wp2
          go_roundw
          case rel => exact ⟨k + 1, P + 1, Q, by omega, by go_num, rfl, rfl, by omega, by omega, Lib.hid (by simpa using HFL2.out), HMW⟩
          case measure => simp [intOf]; omega
      | true =>
        cases bb with
        | false =>
          go_wp2
          go_roundw
          case rel => exact ⟨k + 1, P + 1, Q, by omega, by go_num, rfl, rfl, by omega, by omega, Lib.hid (by simpa using HFL2.out), HMW⟩
          case measure => simp [intOf]; omega
        | true =>
          go_wp2_with fail
          refine (HP3.out _).mono ?_
          rintro e w3 ⟨rfl, hb3⟩
          have HM7 := Lib.hid (HM6.out.step hb3)
          clear c0 c1 c2 hb3
          go_wp2_with fail
          refine (HU.out _ HM7.out.b a1 b2 bq (.inr (.inr ⟨rfl, rfl, rfl⟩))).mono ?_
          rintro e w4 ⟨rfl, hb4⟩
          have HMW4 := Lib.hid (HM.out.step (HM7.out.step hb4).b)
          clear hb4
          cases bq with
          | false =>
            go_wp2
            go_roundw
            case rel => exact ⟨k + 1, P + 1 + 1, Q, by omega, by go_num, rfl, rfl, by omega, by omega, Lib.hid (by simpa using HFL2.out), HMW4⟩
            case measure => simp [intOf]; omega
          | true =>
            go_wp2
            go_roundw
            case rel => exact ⟨k + 1, P + 1 + 1, Q + 1, by omega, by go_num, rfl, rfl, by omega, by omega, Lib.hid (by simpa using HFL2.out), HMW4⟩
            case measure => simp [intOf]; omega
    · have HEND : Hid (FIN = (P, Q)) := Lib.hid (by
        rw [← HFL.out, List.drop_eq_nil_of_le (by omega)]; rfl)
      have hlt' : ¬ (k : Int) < l.length := by omega
      go_wp2_with fail
      refine (HBOX.out _ HM.out.b).mono ?_
      rintro e w2 ⟨p, q, r, s, rfl, hbf, hb⟩
      have HBF := Lib.hid hbf
      have hM2 := HM.out.step hb
      obtain ⟨⟨z0, z1, z2, z3⟩, z4, z5, z6⟩ := seven_cells hM2
      have y0 := hM2.frozen 0
      have y1 := hM2.frozen 1
      have y2 := hM2.frozen 2
      have y3 := hM2.frozen 3
      have y4 := hM2.frozen 4
      have y5 := hM2.frozen 5
      have y6 := hM2.frozen 6
      have HM2 := Lib.hid hM2.b
      have hs2 := hM2.head_lt
      clear hbf hb hM2
      go_wp2
      refine bodyPost_ret (v := .agg #[.int .i64 l.length, .int .i64 (4 * l.length - 2 * P), .int .i64 (1 - l.length + P - Q), .int .i64 p, .int .i64 q, .int .i64 (r - p + 1), .int .i64 (s - q + 1)]) (by simp [results, Try.results65, go_sem, z0, z1, z2, z3, z4, z5, z6]) rfl ⟨P, Q, p, q, r, s, rfl, HEND.out, HBF.out, ?_⟩
      exact ((((((HM2.out.setCell (Nat.le_refl _) _).setCell (Nat.le_refl _) _).setCell (Nat.le_refl _) _).setCell (Nat.le_refl _) _).setCell (Nat.le_refl _) _).setCell (Nat.le_refl _) _).setCell (Nat.le_refl _) _

end Go.Proofs.Ytndhnpljdldlpab

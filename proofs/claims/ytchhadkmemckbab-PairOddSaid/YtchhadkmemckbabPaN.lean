/- Pairs: Cheapest, where no price must move. -/
import Derived.Test.YtchhadkmemckbabPaM
namespace Go.Proofs.Ytchhadkmemckbab
open Go.RowKit
set_option linter.unusedSimpArgs false
set_option linter.unusedVariables false

def idxF (o : Nat → Int) (v : Int) : Nat → Nat → Option Nat
  | 0, _ => none
  | m + 1, j => if o j = v then some j else idxF o v m (j + 1)
theorem idx_spec {o : Nat → Int} {v : Int} : ∀ (m j k : Nat), idxF o v m j = some k → j ≤ k ∧ k < j + m ∧ o k = v ∧ ∀ i, j ≤ i → i < k → o i ≠ v
  | 0, j, k, h => by simp [idxF] at h
  | m + 1, j, k, h => by
    unfold idxF at h
    split at h
    · simp only [Option.some.injEq] at h
      subst h
      exact ⟨Nat.le_refl _, by omega, by assumption, fun i h1 h2 => by omega⟩
    · rename_i hne
      obtain ⟨h1, h2, h3, h4⟩ := idx_spec m (j + 1) k h
      refine ⟨by omega, by omega, h3, fun i h5 h6 => ?_⟩
      by_cases e : i = j
      · subst e; exact hne
      · exact h4 i (by omega) h6
/-- Cheapest's rounds. -/
def chF (ok : Nat → Nat → Bool) (S R fu : Nat) : Nat → Nat → (Nat → Int) → (Nat → Bool) → (Nat → Int) → Option (Nat → Int)
  | 0, _, _, _, mm => some mm
  | r + 1, i, o, fx, mm => match idxF o i S 0 with
    | none => none
    | some k => match plF ok S S fu i 0 (fset o k (-1)) fx with
      | none => none
      | some (_, o2, _) => match idxF o2 i S 0 with
        | none => none
        | some j => chF ok S R fu r (i + 1) o2 (fset fx j true) (if j < R then fset mm i j else mm)
theorem chF_next {ok : Nat → Nat → Bool} {S R fu r i : Nat} {o : Nat → Int} {fx : Nat → Bool} {mm m' : Nat → Int} (h : chF ok S R fu (r + 1) i o fx mm = some m') :
    ∃ k b o2 t2 j, idxF o i S 0 = some k ∧ plF ok S S fu i 0 (fset o k (-1)) fx = some (b, o2, t2) ∧ idxF o2 i S 0 = some j ∧ chF ok S R fu r (i + 1) o2 (fset fx j true) (if j < R then fset mm i j else mm) = some m' := by
  unfold chF at h
  split at h
  · simp at h
  · rename_i k hk
    split at h
    · simp at h
    · rename_i b o2 t2 hp
      split at h
      · simp at h
      · rename_i j hj
        exact ⟨k, b, o2, t2, j, hk, hp, hj, h⟩

/-- The memory of Cheapest's rounds: LG, the fixed ones f, the pairing g. -/
structure CH (w0 : World) (p b f g n L : Nat) (o : Nat → Int) (fx : Nat → Bool) (mm : Nat → Int) (F : Value) (wr : World) : Prop where
  lg : LG w0 p b n o F wr
  lf : b + 1 + 1 < f
  lfg : f < g
  hf : wr.heap[f]? = some (.cells (cV n fun k => .bool (fx k)) 4 (0, 0))
  hg : wr.heap[g]? = some (.cells (cA L mm) 3 (0, 0))
section
variable {w0 wr w2 : World} {p b f g n L q cap : Nat} {o o' : Nat → Int} {fx t t' : Nat → Bool} {mm : Nat → Int} {F : Value}
theorem CH.step (h : CH w0 p b f g n L o fx mm F wr) (hb : Below wr.heap.size wr w2) : CH w0 p b f g n L o fx mm F w2 := ⟨h.lg.step hb, h.lf, h.lfg, blk_keep h.hf hb, blk_keep h.hg hb⟩
theorem CH.call (h : CH w0 p b f g n L o fx mm F wr) (hq : g < q) (ha : AB wr p q n o' t' w2) : CH w0 p b f g n L o' fx mm F w2 := by
  have h1 := h.lf
  have h2 := h.lfg
  have h3 := h.lg.lb
  have kp : ∀ {k : Nat} {x : Obj}, wr.heap[k]? = some x → k ≠ p → k ≠ q → w2.heap[k]? = some x := fun {k x} hk h1 h2 => (ha.ex.blk k (block_lt hk) h1 h2).trans hk
  exact ⟨h.lg.call (by omega) ha, h.lf, h.lfg, kp h.hf (by omega) (by omega), kp h.hg (by omega) (by omega)⟩
theorem CH.setO (h : CH w0 p b f g n L o fx mm F wr) (i : Nat) (x : Int) : CH w0 p b f g n L (fset o i x) fx mm F (wr.setCell ⟨p, i, none⟩ (.int .i64 x)) := by
  have h1 := h.lf
  have h2 := h.lfg
  have h3 := h.lg.lb
  exact ⟨h.lg.setO i x, h.lf, h.lfg, by rw [Below.heap_setCell _ _ _ _ (by show f ≠ p; omega)]; exact h.hf, by rw [Below.heap_setCell _ _ _ _ (by show g ≠ p; omega)]; exact h.hg⟩
theorem LG.far (h : LG w0 p b n o F wr) {k : Nat} (hk : b + 1 + 1 < k) (i : Nat) (v : Value) : LG w0 p b n o F (wr.setCell ⟨k, i, none⟩ v) := by
  have h3 := h.lb
  have h4 := h.lp
  exact ⟨h.bw.setCell (by show w0.heap.size ≤ k; omega) _, h.lp, h.lb, by rw [Below.heap_setCell _ _ _ _ (by show p ≠ k; omega)]; exact h.ho, by rw [Below.heap_setCell _ _ _ _ (by show b ≠ k; omega)]; exact h.h0, by rw [Below.heap_setCell _ _ _ _ (by show b + 1 ≠ k; omega)]; exact h.h1, by rw [Below.heap_setCell _ _ _ _ (by show b + 1 + 1 ≠ k; omega)]; exact h.h2⟩
theorem CH.setF (h : CH w0 p b f g n L o fx mm F wr) (i : Nat) (x : Bool) : CH w0 p b f g n L o (fset fx i x) mm F (wr.setCell ⟨f, i, none⟩ (.bool x)) := by
  have h2 := h.lfg
  refine ⟨h.lg.far h.lf i _, h.lf, h.lfg, ?_, by rw [Below.heap_setCell _ _ _ _ (by show g ≠ f; omega)]; exact h.hg⟩
  have e : cV n (fun k => .bool (fset fx i x k)) = cV n (fun k => if k = i then .bool x else .bool (fx k)) := cV_congr (fun k _ => by unfold fset; split <;> rfl)
  rw [e]
  simp only [World.setCell, Array.getElem?_modify, h.hf]
  simp [cV_set]
theorem CH.setM (h : CH w0 p b f g n L o fx mm F wr) (i : Nat) (x : Int) : CH w0 p b f g n L o fx (fset mm i x) F (wr.setCell ⟨g, i, none⟩ (.int .i64 x)) := by
  have h1 := h.lf
  have h2 := h.lfg
  refine ⟨h.lg.far (by omega) i _, h.lf, h.lfg, by rw [Below.heap_setCell _ _ _ _ (by show f ≠ g; omega)]; exact h.hf, ?_⟩
  simp only [World.setCell, Array.getElem?_modify, h.hg]
  simp [cA_set, fset]
  rfl
end
theorem frz {w : World} {p : Nat} {cs : Array Value} {T : TypeId} (h : w.heap[p]? = some (.cells cs T (0, 0))) (i : Nat) : w.frozen? ⟨p, i, none⟩ = false := by
  simp only [World.frozen?]; rw [h]; simp

set_option maxRecDepth 100000 in
set_option maxHeartbeats 6400000 in
theorem cheapest_yes (a a2 : Option Addr) (cap cap2 : Nat) (ls rs : List Gl) (x0 x1 x2 x3 y0 y1 y2 y3 : Int) (h1 : sidB ls = true) (h2 : sidB rs = true) (h3 : ruB ((x0, x1, x2, x3), (y0, y1, y2, y3)) = true) (L R fu : Nat) (hL : ls.length = L) (hR : rs.length = R) (o1 o2 mm : Nat → Int)
    (hlow : lwF (tgt L R (cosT ls rs ((x0, x1, x2, x3), (y0, y1, y2, y3))) (fun _ => 1000000000) (fun _ => 0)) (L + R) (R + L) fu L 0 (fun _ => -1) = some o1)
    (hlg : lgF (tgt L R (cosT ls rs ((x0, x1, x2, x3), (y0, y1, y2, y3))) (fun _ => 1000000000) (fun _ => 0)) (L + R) (L + R) fu (L + R) 0 (fun _ => -1) = some o2)
    (hch : chF (tgt L R (cosT ls rs ((x0, x1, x2, x3), (y0, y1, y2, y3))) (fun _ => 1000000000) (fun _ => 0)) (L + R) R fu L 0 o2 (fun _ => false) (fun _ => -1) = some mm) (hpos : 0 < L + R)
    (w : World) (hl : RecS w a ls) (hr : RecS w a2 rs) :
    Calls Try.prog 13 #[.slice a ls.length cap, .slice a2 rs.length cap2, .agg #[.int .i64 x0, .int .i64 x1, .int .i64 x2, .int .i64 x3, .int .i64 y0, .int .i64 y1, .int .i64 y2, .int .i64 y3]] w fun e w' => ∃ g, e = .returned (.tuple #[.slice (some ⟨g, 0, none⟩) L L, .int .i64 0]) ∧ w.heap.size ≤ g ∧ w'.heap[g]? = some (.cells (cA L mm) 3 (0, 0)) ∧ Below w.heap.size w w' := by
  have n1 : L ≤ 32 := by unfold sidB at h1; simp at h1; omega
  have n2 : R ≤ 32 := by unfold sidB at h2; simp at h2; omega
  have hC : ∀ i j, i < L → j < R → -1 ≤ cosT ls rs ((x0, x1, x2, x3), (y0, y1, y2, y3)) i j ∧ cosT ls rs ((x0, x1, x2, x3), (y0, y1, y2, y3)) i j ≤ 4000000 := fun i j hi hj => by
    have e : cosT ls rs ((x0, x1, x2, x3), (y0, y1, y2, y3)) i j = costB (ls[i]'(by omega)) (rs[j]'(by omega)) ((x0, x1, x2, x3), (y0, y1, y2, y3)) := by unfold cosT; simp [List.getD_eq_getElem?_getD, hL, hR, hi, hj]
    rw [e]
    have o1 : allB ls = true := by unfold sidB at h1; simp at h1; exact h1.2
    have o2 : allB rs = true := by unfold sidB at h2; simp at h2; exact h2.2
    exact costB_range (allB_iff.1 o1 i (by omega)) (allB_iff.1 o2 j (by omega)) h3
  have HLAY := Lib.hid (fun w' hb => lay_yes a a2 cap cap2 ls rs x0 x1 x2 x3 y0 y1 y2 y3 h1 h2 h3 w' (hl.below (w' := w') hb) (hr.below hb))
  rw [hL, hR] at HLAY
  rw [hL, hR]
  obtain ⟨CF, hCF⟩ : ∃ z, z = cosT ls rs ((x0, x1, x2, x3), (y0, y1, y2, y3)) := ⟨_, rfl⟩
  rw [← hCF] at HLAY hlow hlg hch hC
  have HLOW := Lib.hid (fun pt w' ht => lowest_yes pt L R fu n1 n2 CF hC o1 hlow w' ht)
  have HRG : Hid (∀ i j, i < L → j < R → (0 ≤ (1000000000 : Int) ∧ (1000000000 : Int) ≤ 1000000000) ∧ (0 ≤ (0 : Int) ∧ (0 : Int) ≤ 1000000000) ∧ (-1 ≤ CF i j ∧ CF i j ≤ 4000000)) := Lib.hid (fun i j hi hj => ⟨by omega, by omega, hC i j hi hj⟩)
  obtain ⟨OK, hOK⟩ : ∃ z, z = tgt L R CF (fun _ => 1000000000) (fun _ => 0) := ⟨_, rfl⟩
  rw [← hOK] at hlg hch
  have HTG : Hid (∀ po pt w', OffC w' po pt L R CF (fun _ => 1000000000) (fun _ => 0) → ∀ i j : Nat, Calls Try.prog 34 #[.pointer (some ⟨po, 0, none⟩), .int .i64 i, .int .i64 j] w' fun e w'' => e = .returned (.bool (OK i j)) ∧ Below w'.heap.size w' w'') := Lib.hid (fun po pt w' ho i j => by
    rw [hOK]
    exact isTight_any po pt L R (by omega) (by omega) CF _ _ HRG.out i j w' ho)
  have HLG := Lib.hid hlg
  have HCH := Lib.hid hch
  clear hC hCF hlow hlg hch hOK h1 h2 h3 hl hr hL hR HRG
  have HM := Lib.hid ((Mem.nil w).alloc_at (H := w.heap.size) rfl #[.int .i64 x0, .int .i64 x1, .int .i64 x2, .int .i64 x3, .int .i64 y0, .int .i64 y1, .int .i64 y2, .int .i64 y3] 34)
  have k0 := HM.out.cell 0
  have k1 := HM.out.cell 1
  have k2 := HM.out.cell 2
  have k3 := HM.out.cell 3
  have k4 := HM.out.cell 4
  have k5 := HM.out.cell 5
  have k6 := HM.out.cell 6
  have k7 := HM.out.cell 7
  simp at k0 k1 k2 k3 k4 k5 k6 k7
  go_enter Try.func13, Try.ntmps13
  go_wp2_with fail
  refine (HLAY.out _ HM.out.b).mono ?_
  rintro e w1 ⟨pt, rfl, hpt, htab, hb1⟩
  have HT := Lib.hid htab
  have HB1 := Lib.hid (HM.out.b.trans (hb1.mono HM.out.b.size))
  clear htab hb1 hpt HM HLAY k0 k1 k2 k3 k4 k5 k6 k7
  go_wp2_with fail
  refine (HLOW.out pt _ HT.out).mono ?_
  rintro e w2 ⟨po, rfl, hoff, hb2⟩
  have HO := Lib.hid (hoff.below (Below.refl _ _).drew)
  have HBL := Lib.hid (HB1.out.trans ((hb2.trans ((Below.refl w2.heap.size w2).drew.mono hb2.size)).mono HB1.out.size))
  have HS0 : Hid (w2.drew.cell? ⟨pt, 0, none⟩ = some (.int .i64 L) ∧ w2.drew.cell? ⟨pt, 1, none⟩ = some (.int .i64 R)) := Lib.hid ⟨HO.out.tab.c0, HO.out.tab.c1⟩
  clear hoff hb2 HB1 HT HLOW
  have v1 : IntKind.i64.wrap ((L : Int) + (R : Int)) = ((L + R : Nat) : Int) := by rw [IntWalk.i64_in _ (by omega)]; simp
  obtain ⟨n, hn⟩ : ∃ n, n = L + R := ⟨_, rfl⟩
  have hn2 : n ≤ 64 := by omega
  have hn3 : 0 < n := by omega
  rw [← hn] at v1 HLG HCH
  clear hn hpos
  go_upto_region 5 with fail
  go_region_held3 (fun w' => w'.cell? ⟨pt, 0, none⟩ = some (.int .i64 L) ∧ w'.cell? ⟨pt, 1, none⟩ = some (.int .i64 R)) (first | exact HS0.out | fail) (fail)
  obtain ⟨wl, hwl⟩ : ∃ z, z = w2.drew := ⟨_, rfl⟩
  rw [← hwl] at HO HBL ⊢
  clear hwl HS0 v1
  go_wp2_with fail
  refine (largest_tight OK n n fu po (by omega) (by omega) o2 HLG.out wl (fun w' hb i j _ _ => HTG.out po pt w' (HO.out.below hb) i j)).mono ?_
  rintro e w3 ⟨rfl, hp3, hb3⟩
  have HP3 := Lib.hid (And.intro hp3 hb3)
  clear hp3 hb3
  go_wp2_with fail
  refine (placer_any (wl.heap.size + 1) n (.func 34) #[.pointer (some ⟨po, 0, none⟩)] #[] _).mono ?_
  rintro e w4 ⟨rfl, hm⟩
  have HL : Hid (LG wl (wl.heap.size + 1) w3.heap.size n o2 (.func (.func 34) #[.pointer (some ⟨po, 0, none⟩)] #[]) w4) := Lib.hid ⟨HP3.out.2.trans (hm.b.mono HP3.out.2.size), Nat.le_succ _, block_lt HP3.out.1, blk_keep HP3.out.1 hm.b, (hm.tail.tail.h _ (List.mem_cons_self ..)).2, (hm.tail.h _ (List.mem_cons_self ..)).2, (hm.h _ (List.mem_cons_self ..)).2⟩
  obtain ⟨b, hb⟩ : ∃ z, z = w3.heap.size := ⟨_, rfl⟩
  rw [← hb] at HL ⊢
  clear hm HP3 hb HLG
  unfold plcV
  have hmk := pa_makeBool n (by omega) w4
  go_upto_region 9 with fail
  clear hmk
  obtain ⟨f, hf⟩ : ∃ z, z = w4.heap.size := ⟨_, rfl⟩
  obtain ⟨w5, hw5⟩ : ∃ z, z = w4.alloc (.cells (cV n fun _ => .bool false) 4) := ⟨_, rfl⟩
  have hb45 : Below w4.heap.size w4 w5 := by rw [hw5]; exact (Below.refl _ _).alloc (Nat.le_refl _) _
  have HF5 : Hid (w5.heap[f]? = some (.cells (cV n fun _ => .bool false) 4 (0, 0)) ∧ b + 1 + 1 < f) := Lib.hid ⟨by rw [hw5, hf]; exact heap_alloc_new _ _, by rw [hf]; exact block_lt HL.out.h2⟩
  have HL5 := Lib.hid (HL.out.step hb45)
  rw [← hw5, ← hf]
  clear hw5 hf hb45 HL
  have d0 := (HO.out.below HL5.out.bw).tab.c0
  go_wp2_with fail
  refine (loners_any L (by omega) _).mono ?_
  rintro e w6 ⟨rfl, hc6⟩
  have HCH0 : Hid (CH wl (wl.heap.size + 1) b f (w5.heap.size + 1) n L o2 (fun _ => false) (fun _ => -1) (.func (.func 34) #[.pointer (some ⟨po, 0, none⟩)] #[]) w6) := Lib.hid ⟨HL5.out.step hc6.b, HF5.out.2, Nat.lt_succ_of_lt (block_lt HF5.out.1), blk_keep HF5.out.1 hc6.b, hc6.arr⟩
  obtain ⟨g, hg⟩ : ∃ z, z = w5.heap.size + 1 := ⟨_, rfl⟩
  rw [← hg] at HCH0 ⊢
  have HGW : Hid (w.heap.size ≤ g) := Lib.hid (by rw [hg]; exact Nat.le_succ_of_le (Nat.le_trans HBL.out.size HL5.out.bw.size))
  clear hc6 d0 HL5 HF5 hg
  obtain ⟨p, hp⟩ : ∃ z, z = wl.heap.size + 1 := ⟨_, rfl⟩
  rw [← hp] at HCH0 ⊢
  clear hp
  go_wp2_with fail
  go_loopg [57] L (fun gk x wr => ∃ (i : Nat) (o : Nat → Int) (fx : Nat → Bool) (m1 : Nat → Int), x = .int .i64 i ∧ i + gk = L ∧ Hid (chF OK n R fu gk i o fx m1 = some mm) ∧ Hid (CH wl p b f g n L o fx m1 (.func (.func 34) #[.pointer (some ⟨po, 0, none⟩)] #[]) wr))
  case atStart => exact ⟨0, _, _, _, rfl, by omega, HCH, HCH0⟩
  case round =>
    obtain ⟨i, o, fx, m1, rfl, hi, HP, HI⟩ := hrel
    by_cases hlt : i < L
    · obtain ⟨gk', rfl⟩ : ∃ m, gk = m + 1 := ⟨gk - 1, by omega⟩
      have hlt' : (i : Int) < L := by omega
      have hi0 : (0 : Int) ≤ i := by omega
      obtain ⟨k, bb, o3, t3, j, hk, hpl, hj, hnx⟩ := chF_next HP.out
      obtain ⟨-, hk1, hk2, hk3⟩ := idx_spec _ _ _ hk
      obtain ⟨-, hj1, hj2, hj3⟩ := idx_spec _ _ _ hj
      rw [Nat.zero_add] at hk1 hj1
      have hkn : (k : Int) < n := by omega
      have hk0 : (0 : Int) ≤ k := by omega
      have hjn : (j : Int) < n := by omega
      have hj0 : (0 : Int) ≤ j := by omega
      have HIX := Lib.hid (indexI_any p n (by omega) o i k hk1 hk2 (fun j hj => hk3 j (by omega) hj) wr HI.out.lg.ho)
      have HJ := Lib.hid (And.intro hj1 (And.intro hj2 (fun i hi => hj3 i (Nat.zero_le _) hi)))
      have HPL := Lib.hid hpl
      have HNX := Lib.hid hnx
      clear hk hk2 hk3 hj hj2 hj3 hpl hnx HP
      go_wp2_with fail
      refine HIX.out.mono ?_
      rintro e w7 ⟨rfl, hb7⟩
      have H7 := Lib.hid (HI.out.step hb7)
      clear hb7 HI HIX
      have c7 : w7.cell? ⟨p, k, none⟩ = some (.int .i64 (o k)) := by rw [blkc H7.out.lg.ho, cA_get hk1]
      have f7 := frz H7.out.lg.ho k
      have l7 := block_lt H7.out.lg.ho
      obtain ⟨ok7, hok7⟩ : ∃ z, z = o k := ⟨_, rfl⟩
      rw [← hok7] at c7
      clear hok7
      go_upto_region 14 with fail
      obtain ⟨w8, hw8⟩ : ∃ z, z = w7.setCell ⟨p, k, none⟩ (.int .i64 (-1)) := ⟨_, rfl⟩
      have H8 : Hid (CH wl p b f g n L (fset o k (-1)) fx m1 (.func (.func 34) #[.pointer (some ⟨po, 0, none⟩)] #[]) w8) := Lib.hid (by rw [hw8]; exact H7.out.setO k (-1))
      rw [← hw8]
      clear hw8 c7 f7 l7 H7
      have HCL := Lib.hid (cloneB_any f n n hn3 (by omega) fx w8 (block_lt H8.out.hf) (fun i hi => by rw [blkc H8.out.hf, cV_get hi]))
      go_wp2_with fail
      refine HCL.out.mono ?_
      rintro e w9 ⟨q, c9, rfl, hq1, hq2, hq3, hq4, hb9⟩
      have H9 := Lib.hid (H8.out.step hb9)
      have HGQ := Lib.hid (Nat.lt_of_lt_of_le (block_lt H8.out.hg) hq1)
      have HCALL := Lib.hid (H9.out.lg.place (cap := c9) (q := q) (L := n) OK (by omega) (by omega) (by have h1 := H9.out.lf; have h2 := H9.out.lfg; have h3 := HGQ.out; omega) hq2 hq3 (fun i _ => hq4 i) (fun w' hb i j _ _ => HTG.out po pt w' (HO.out.below hb) i j) fu i bb HPL.out)
      clear hq1 hq2 hq3 hq4 hb9 HCL H8
      go_wp2_with fail
      refine HCALL.out.mono ?_
      rintro e w10 ⟨rfl, ha, -⟩
      have H10 := Lib.hid (H9.out.call HGQ.out ha)
      clear ha H9 HGQ HCALL
      have HIX := Lib.hid (indexI_any p n (by omega) o3 i j HJ.out.1 HJ.out.2.1 HJ.out.2.2 w10 H10.out.lg.ho)
      go_wp2_with fail
      refine HIX.out.mono ?_
      rintro e w11 ⟨rfl, hb11⟩
      have H11 := Lib.hid (H10.out.step hb11)
      clear hb11 H10 HIX
      have c11 : w11.cell? ⟨f, j, none⟩ = some (.bool (fx j)) := by rw [blkc H11.out.hf, cV_get HJ.out.1]
      have f11 := frz H11.out.hf j
      have l11 := block_lt H11.out.hf
      obtain ⟨fj, hfj⟩ : ∃ z, z = fx j := ⟨_, rfl⟩
      rw [← hfj] at c11
      clear hfj
      go_upto_region 17 with fail
      obtain ⟨w12, hw12⟩ : ∃ z, z = w11.setCell ⟨f, j, none⟩ (.bool true) := ⟨_, rfl⟩
      have H12 : Hid (CH wl p b f g n L o3 (fset fx j true) m1 (.func (.func 34) #[.pointer (some ⟨po, 0, none⟩)] #[]) w12) := Lib.hid (by rw [hw12]; exact H11.out.setF j true)
      rw [← hw12]
      clear hw12 c11 f11 l11 H11
      have d1 := (HO.out.below H12.out.lg.bw).tab.c1
      by_cases hjR : j < R
      · have t0 : decide ((j : Int) < R) = true := decide_eq_true (by omega)
        have c12 : w12.cell? ⟨g, i, none⟩ = some (.int .i64 (m1 i)) := by rw [blkc H12.out.hg, cA_get hlt]
        have f12 := frz H12.out.hg i
        have l12 := block_lt H12.out.hg
        obtain ⟨mi, hmi⟩ : ∃ z, z = m1 i := ⟨_, rfl⟩
        rw [← hmi] at c12
        have HN := Lib.hid (H12.out.setM i j)
        have HNX2 : Hid (chF OK n R fu gk' (i + 1) o3 (fset fx j true) (fset m1 i j) = some mm) := Lib.hid (by have h := HNX.out; rw [if_pos hjR] at h; exact h)
        clear hmi HNX H12
        go_wp2
        go_roundg gk'
        case measure => exact Nat.lt_succ_self _
        case rel => exact ⟨i + 1, _, _, _, by go_num, by omega, HNX2, HN⟩
      · have t0 : decide ((j : Int) < R) = false := decide_eq_false (by omega)
        have HNX2 : Hid (chF OK n R fu gk' (i + 1) o3 (fset fx j true) m1 = some mm) := Lib.hid (by have h := HNX.out; rw [if_neg hjR] at h; exact h)
        clear HNX
        go_wp2
        go_roundg gk'
        case measure => exact Nat.lt_succ_self _
        case rel => exact ⟨i + 1, _, _, _, by go_num, by omega, HNX2, H12⟩
    · obtain ⟨rfl, rfl⟩ : gk = 0 ∧ i = L := by omega
      have hp := HP.out
      unfold chF at hp
      simp only [Option.some.injEq] at hp
      subst hp
      clear HCH
      have HE := Lib.hid (And.intro HI.out.hg (HBL.out.trans (HI.out.lg.bw.mono HBL.out.size)))
      go_wp2
      go_ret2
      exact ⟨g, rfl, HGW.out, HE.out.1, HE.out.2⟩

end Go.Proofs.Ytchhadkmemckbab

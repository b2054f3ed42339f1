/- Pairs: Odd. -/
import Derived.Test.YtchhadkmemckbabPcH
import Derived.Test.YtchhadkmemckbabPaZ
namespace Go.Proofs.Ytchhadkmemckbab
open Go.RowKit
set_option linter.unusedSimpArgs false
set_option linter.unusedVariables false

def bsF (kb : List Int) (v : Nat) : Bool := decide ((v : Int) ∈ kb)
theorem upF_mem {n : Nat} : ∀ {kb : List Int} {b : Int}, upF n b kb = true → ∀ x ∈ kb, b < x ∧ x < n
  | [], _, _, x, hx => by simp at hx
  | y :: t, b, h, x, hx => by
    unfold upF at h
    split at h
    · cases h
    · rename_i hy
      rcases List.mem_cons.1 hx with rfl | hx
      · omega
      · have := upF_mem h x hx
        omega
theorem Ods.one {E : Nat → Nat → Bool} {N i : Nat} {g : Nat → Bool} {d r : Nat} (h : Ods E N i g d r) : ∀ {r'}, Ods E N i g d r' → r = r' := by
  induction h with
  | done g d => exact fun h => h.end_.symm
  | gone hi hg _ ih => exact fun h => ih (h.next_gone hi hg)
  | take hi hg hc _ ih => exact fun h => ih (h.next_take hi hg hc)
/-- Whether two gloves of a heap are allowed. -/
def eH (hs : List Gl) (u : Ru) (i j : Nat) : Bool := dgF (cosT hs hs u) i j != -1
/-- What Odd answers. -/
def OdA (hs : List Gl) (u : Ru) (kb : List Int) (d e : Int) : Prop :=
  if sidB hs && ruB u && upF hs.length (-1) kb then e = 0 ∧ ∃ r : Nat, d = r ∧ Ods (eH hs u) hs.length 0 (bsF kb) 0 r else d = 0 ∧ e = 2
theorem OdA.one {hs : List Gl} {u : Ru} {kb : List Int} {d e d' e' : Int} (h : OdA hs u kb d e) (h' : OdA hs u kb d' e') : d = d' ∧ e = e' := by
  unfold OdA at h h'
  split at h
  · rename_i h0
    rw [if_pos h0] at h'
    obtain ⟨h1, r, h2, h3⟩ := h
    obtain ⟨k1, r', k2, k3⟩ := h'
    have := h3.one k3
    exact ⟨by omega, by omega⟩
  · rename_i h0
    rw [if_neg h0] at h'
    omega
theorem OdA_take (hs : List Gl) (u : Ru) (kb : List Int) (d e : Int) : OdA (hs.take 34) u kb d e = OdA hs u kb d e := by
  by_cases h1 : sidB hs = true
  · rw [take34 h1]
  · unfold OdA
    rw [sid34, show sidB hs = false by simpa using h1, if_neg (by simp), if_neg (by simp)]

set_option maxRecDepth 100000 in
set_option maxHeartbeats 6400000 in
theorem pOdd_any (a a3 : Option Addr) (cap cap3 : Nat) (hs : List Gl) (x0 x1 x2 x3 y0 y1 y2 y3 : Int) (kb : List Int) (hl1 : (hs.length : Int) ≤ 9223372036854775807) (hl2 : (kb.length : Int) ≤ 9223372036854775807) (w : World) (hl : RecS w a hs) (hk : IntK w a3 kb) :
    Calls Try.prog 22 #[.slice a hs.length cap, .agg #[.int .i64 x0, .int .i64 x1, .int .i64 x2, .int .i64 x3, .int .i64 y0, .int .i64 y1, .int .i64 y2, .int .i64 y3], .slice a3 kb.length cap3] w fun e w' => (∃ d ee, e = .returned (.tuple #[.int .i64 d, .int .i64 ee]) ∧ OdA hs ((x0, x1, x2, x3), (y0, y1, y2, y3)) kb d ee) ∧ Below w.heap.size w w' := by
  have hm := ((Mem.nil w).alloc_at (H := w.heap.size) rfl #[.slice a hs.length cap] 30).alloc_at (H := w.heap.size + 1) (by simp) #[.int .i64 x0, .int .i64 x1, .int .i64 x2, .int .i64 x3, .int .i64 y0, .int .i64 y1, .int .i64 y2, .int .i64 y3] 34
  obtain ⟨wm, hwm⟩ : ∃ z, z = ((w.alloc (.cells #[.slice a hs.length cap] 30)).alloc (.cells #[.int .i64 x0, .int .i64 x1, .int .i64 x2, .int .i64 x3, .int .i64 y0, .int .i64 y1, .int .i64 y2, .int .i64 y3] 34)) := ⟨_, rfl⟩
  rw [← hwm] at hm
  have HM := Lib.hid hm
  have HWM := Lib.hid hwm
  have k0 := HM.out.cell 0
  have k1 := HM.out.cell 1
  have k2 := HM.out.cell 2
  have k3 := HM.out.cell 3
  have k4 := HM.out.cell 4
  have k5 := HM.out.cell 5
  have k6 := HM.out.cell 6
  have k7 := HM.out.cell 7
  have c0 := HM.out.tail.cell 0
  have l0 := HM.out.head_lt
  simp at k0 k1 k2 k3 k4 k5 k6 k7 c0
  clear hm hwm
  obtain ⟨g0, hg0⟩ : ∃ g0, g0 = (sidB hs && ruB ((x0, x1, x2, x3), (y0, y1, y2, y3))) := ⟨_, rfl⟩
  cases g0 with
  | false =>
    have e : OdA hs ((x0, x1, x2, x3), (y0, y1, y2, y3)) kb 0 2 := by unfold OdA; rw [← hg0, Bool.false_and, if_neg (by simp)]; exact ⟨rfl, rfl⟩
    have HE0 := Lib.hid e
    have HL := Lib.hid (fun w' hb => pile_no a cap hs x0 x1 x2 x3 y0 y1 y2 y3 hg0.symm hl1 w' (hl.below (w' := w') hb))
    clear e hg0 hl hk
    go_enter Try.func22, Try.ntmps22
    go_upto_region 1 with fail
    rw [← HWM.out]
    go_wp2_with fail
    refine (HL.out _ HM.out.b).mono ?_
    rintro e w1 ⟨rfl, hb1⟩
    have HB1 := Lib.hid ((HM.out.b.trans (hb1.mono HM.out.b.size)).trans (((Below.refl w1.heap.size w1).alloc (Nat.le_refl _) (.cells #[.pointer none] 54)).mono (HM.out.b.trans (hb1.mono HM.out.b.size)).size))
    clear hb1 HM k0 k1 k2 k3 k4 k5 k6 k7 c0 l0
    go_wp2
    go_ret2
    exact ⟨⟨_, _, rfl, HE0.out⟩, HB1.out⟩
  | true =>
  have hg1 : sidB hs = true ∧ ruB ((x0, x1, x2, x3), (y0, y1, y2, y3)) = true := by simpa using hg0.symm
  obtain ⟨h1, h3⟩ := hg1
  have n1 : hs.length ≤ 32 := by unfold sidB at h1; simp at h1; omega
  have HL := Lib.hid (fun w' hb => pile_yes a cap hs x0 x1 x2 x3 y0 y1 y2 y3 h1 h3 w' (hl.below (w' := w') hb))
  have HKK := Lib.hid (fun w' hb => hk.below (w' := w') hb)
  have HOA : Hid (∀ d ee, (if upF hs.length (-1) kb then ee = 0 ∧ ∃ r : Nat, d = (r : Int) ∧ Ods (eH hs ((x0, x1, x2, x3), (y0, y1, y2, y3))) hs.length 0 (bsF kb) 0 r else d = 0 ∧ ee = 2) → OdA hs ((x0, x1, x2, x3), (y0, y1, y2, y3)) kb d ee) := Lib.hid (fun d ee h => by unfold OdA; rw [← hg0, Bool.true_and]; exact h)
  have HEX := Lib.hid (Ods.ex (eH hs ((x0, x1, x2, x3), (y0, y1, y2, y3))) hs.length hs.length 0 (bsF kb) 0 (by omega))
  obtain ⟨E, hE⟩ : ∃ E, E = eH hs ((x0, x1, x2, x3), (y0, y1, y2, y3)) := ⟨_, rfl⟩
  have HED := Lib.hid (fun i j => congrFun (congrFun hE i) j)
  rw [← hE] at HOA HEX
  clear hg0 h1 h3 hl hk hE
  go_enter Try.func22, Try.ntmps22
  go_upto_region 1 with fail
  rw [← HWM.out]
  go_wp2_with fail
  refine (HL.out _ HM.out.b).mono ?_
  rintro e w1 ⟨pt, rfl, htab, hb1⟩
  have hm2 := (HM.out.step hb1).alloc_at (H := w1.heap.size) rfl #[.pointer (some ⟨pt, 0, none⟩)] 54
  obtain ⟨bt, hbt⟩ : ∃ z, z = w1.heap.size := ⟨_, rfl⟩
  obtain ⟨w2, hw2⟩ : ∃ z, z = w1.alloc (.cells #[.pointer (some ⟨pt, 0, none⟩)] 54) := ⟨_, rfl⟩
  rw [← hw2, ← hbt] at hm2
  have h12 : Below w1.heap.size w1 w2 := by rw [hw2]; exact (Below.refl _ _).alloc (Nat.le_refl _) _
  have HM2 := Lib.hid hm2
  have HT2 := Lib.hid (htab.below h12)
  have HW2 := Lib.hid (And.intro hbt hw2)
  have HAI := Lib.hid (areIndices_any a3 cap3 hs.length (by omega) kb hl2 w2 (HKK.out _ hm2.b))
  clear htab hb1 h12 hbt hw2 hm2 HM HL HWM k0 k1 k2 k3 k4 k5 k6 k7 c0 l0
  go_upto_region 2 with fail
  rw [← HW2.out.1, ← HW2.out.2]
  clear HW2
  have c0 := HM2.out.tail.tail.cell 0
  have l0 := HM2.out.tail.tail.head_lt
  simp at c0
  obtain ⟨u, hu⟩ : ∃ u, u = upF hs.length (-1) kb := ⟨_, rfl⟩
  rw [← hu] at HAI HOA
  have HU := Lib.hid hu
  clear hu
  go_wp2_with fail
  refine HAI.out.mono ?_
  rintro e w3 ⟨rfl, hb3⟩
  have HM3 := Lib.hid (HM2.out.step hb3)
  have HT3 := Lib.hid (HT2.out.below hb3)
  clear hb3 HAI HM2 HT2 c0 l0
  cases u with
  | false =>
    have HE0 := Lib.hid (HOA.out 0 2 (by rw [if_neg (by simp)]; exact ⟨rfl, rfl⟩))
    clear HOA
    go_wp2
    go_ret2
    exact ⟨⟨_, _, rfl, HE0.out⟩, HM3.out.b⟩
  | true =>
  have HIN := Lib.hid (upF_mem HU.out.symm)
  have HOB : Hid (∀ r : Nat, Ods E hs.length 0 (bsF kb) 0 r → OdA hs ((x0, x1, x2, x3), (y0, y1, y2, y3)) kb r 0) := Lib.hid (fun r h => HOA.out r 0 (by rw [if_pos rfl]; exact ⟨rfl, r, rfl, h⟩))
  clear HOA HU
  have c0 := HM3.out.tail.tail.cell 0
  have l0 := HM3.out.tail.tail.head_lt
  simp at c0
  have hmk := pa_makeBool hs.length (by omega) w3
  have hm4 := HM3.out.alloc_at (H := w3.heap.size) rfl (cV hs.length fun _ => .bool false) 4
  have hm5 := hm4.alloc_at (H := w3.heap.size + 1) (by simp) #[.slice (some ⟨w3.heap.size, 0, none⟩) hs.length hs.length] 70
  obtain ⟨q, hq⟩ : ∃ z, z = w3.heap.size := ⟨_, rfl⟩
  obtain ⟨bg, hbg⟩ : ∃ z, z = w3.heap.size + 1 := ⟨_, rfl⟩
  obtain ⟨w5, hw5⟩ : ∃ z, z = ((w3.alloc (.cells (cV hs.length fun _ => .bool false) 4)).alloc (.cells #[.slice (some ⟨w3.heap.size, 0, none⟩) hs.length hs.length] 70)) := ⟨_, rfl⟩
  have h35 : Below w3.heap.size w3 w5 := by rw [hw5]; exact ((Below.refl _ _).alloc (Nat.le_refl _) _).alloc (by simp) _
  rw [← hw5, ← hbg, ← hq] at hm5
  have HM5 := Lib.hid hm5
  have HT5 := Lib.hid (HT3.out.below h35)
  have HTW := Lib.hid (HT3.out)
  have HB35 := Lib.hid h35
  have HW5 := Lib.hid (And.intro hq (And.intro hbg hw5))
  have HNE : Hid (bg ≠ q ∧ w.heap.size ≠ q ∧ bt ≠ q ∧ q < bg ∧ w3.heap.size = q) := Lib.hid (by
    have e1 := hm5.gt
    have e2 := hm5.tail.gt
    have e3 := hm5.tail.tail.gt
    have e4 := hm5.tail.tail.tail.gt
    simp only at e1 e2 e3 e4
    exact ⟨by omega, by omega, by omega, by omega, hq.symm⟩)
  clear hq hbg hw5 h35 hm4 hm5 HT3 HM3
  go_upto_region 5 with fail
  rw [← HW5.out.2.2, ← HW5.out.2.1, ← HW5.out.1]
  clear hmk c0 l0 HW5
  have HG0 : Hid (GB w5 q hs.length (fun _ => false) w5) := Lib.hid ⟨Ex.refl _ _ _, (HM5.out.tail.h _ (List.mem_cons_self ..)).2⟩
  have HP0 : Hid (∀ v : Nat, (fun _ => false) v = true ↔ (v : Int) ∈ kb.take 0) := Lib.hid (by simp)
  have HCB : Hid (∀ w', Ex q q w5 w' → w'.cell? ⟨bg, 0, none⟩ = some (.slice (some ⟨q, 0, none⟩) hs.length hs.length) ∧ bg < w'.heap.size) := Lib.hid (fun w' h => ⟨(h.cell HM5.out.head_lt HNE.out.1 HNE.out.1 0).trans (HM5.out.cell 0), Nat.lt_of_lt_of_le HM5.out.head_lt h.size⟩)
  have HK5 := Lib.hid (HKK.out _ HM5.out.b)
  have HKE : Hid (∀ w', Ex q q w5 w' → IntK w' a3 kb) := Lib.hid (fun w' h => by
    have hq := HNE.out.2.2.2.2
    have hs := HM5.out.b.size
    have hw : w.heap.size ≤ q := (HM5.out.tail.h _ (List.mem_cons_self ..)).1
    exact HKK.out _ (h.below HM5.out.b HM5.out.b.size hw hw))
  clear HKK HK5
  go_wp2_with fail
  go_loopg [36] kb.length (fun gk x wr => ∃ (k : Nat) (g : Nat → Bool), x = .int .i64 k ∧ k + gk = kb.length ∧ Hid (∀ v : Nat, g v = true ↔ (v : Int) ∈ kb.take k) ∧ Hid (GB w5 q hs.length g wr))
  case atStart => exact ⟨0, _, rfl, by omega, HP0, HG0⟩
  case round =>
    obtain ⟨k, g, rfl, hkk, HP, HI⟩ := hrel
    by_cases hlt : k < kb.length
    · obtain ⟨gk', rfl⟩ : ∃ m, gk = m + 1 := ⟨gk - 1, by omega⟩
      have hlt' : (k : Int) < kb.length := by omega
      have hk0 : (0 : Int) ≤ k := by omega
      obtain ⟨b, off, rfl, hb, d0⟩ := (HKE.out _ HI.out.ex).at_ hlt
      have hxr := HIN.out kb[k] (List.getElem_mem _)
      obtain ⟨x, hx⟩ : ∃ z, z = kb[k] := ⟨_, rfl⟩
      have HTK : Hid (kb.take (k + 1) = kb.take k ++ [x]) := Lib.hid (by rw [List.take_add_one, List.getElem?_eq_getElem hlt, hx]; rfl)
      rw [← hx] at d0 hxr
      obtain ⟨m, rfl⟩ := Int.eq_ofNat_of_zero_le (show 0 ≤ x by omega)
      have hmL : m < hs.length := by omega
      have hm' : (m : Int) < hs.length := by omega
      have hm0 : (0 : Int) ≤ m := by omega
      obtain ⟨e0, e1, e2⟩ := HI.out.c hmL
      obtain ⟨c1, l1⟩ := HCB.out _ HI.out.ex
      have HN := Lib.hid (HI.out.set m true)
      have HPN : Hid (∀ v : Nat, fset g m true v = true ↔ (v : Int) ∈ kb.take (k + 1)) := Lib.hid (fun v => by
        rw [HTK.out, List.mem_append, ← HP.out v]
        unfold fset
        by_cases e : v = m
        · subst e; simp
        · rw [if_neg e]
          constructor
          · exact .inl
          · rintro (h | h)
            · exact h
            · exact absurd (by have h2 : (v : Int) = (m : Int) := by simpa using h
                               omega) e)
      clear hx HP HI HTK
      go_wp2
      go_roundg gk'
      case measure => exact Nat.lt_succ_self _
      case rel => exact ⟨k + 1, _, by go_num, by omega, HPN, HN⟩
    · obtain ⟨rfl, rfl⟩ : gk = 0 ∧ k = kb.length := by omega
      have hgb : g = bsF kb := by
        funext v
        have := HP.out v
        rw [List.take_length] at this
        unfold bsF
        cases hx : g v with
        | true => rw [decide_eq_true (this.1 hx)]
        | false => rw [decide_eq_false (fun h => by rw [this.2 h] at hx; cases hx)]
      subst hgb
      obtain ⟨w6, hw6⟩ : ∃ z, z = wr := ⟨_, rfl⟩
      rw [← hw6] at HI ⊢
      clear hw6 HP HP0 HG0 HIN HKE
      obtain ⟨bk, hbk⟩ : ∃ z, z = w6.heap.size := ⟨_, rfl⟩
      obtain ⟨w7, hw7⟩ : ∃ z, z = w6.alloc (.cells #[.nilFunc] 57) := ⟨_, rfl⟩
      have h7 : w7.heap[bk]? = some (.cells #[.nilFunc] 57 (0, 0)) := by rw [hw7, hbk]; exact heap_alloc_new _ _
      have h67 : Below w6.heap.size w6 w7 := by rw [hw7]; exact (Below.refl _ _).alloc (Nat.le_refl _) _
      go_upto_region 11 with fail
      rw [← hw7, ← hbk]
      have c0 : w7.cell? ⟨bk, 0, none⟩ = some .nilFunc := by rw [blkc h7]; rfl
      have f0 : w7.frozen? ⟨bk, 0, none⟩ = false := by simp only [World.frozen?]; rw [h7]; simp
      have l0 : bk < w7.heap.size := block_lt h7
      have hst : (store ⟨bk, 0, none⟩ (.func (.func 49) #[] #[.pointer (some ⟨bg, 0, none⟩), .pointer (some ⟨w.heap.size, 0, none⟩), .pointer (some ⟨bt, 0, none⟩), .pointer (some ⟨bk, 0, none⟩)])).run Try.prog w7 = .ok () (w7.setCell ⟨bk, 0, none⟩ (.func (.func 49) #[] #[.pointer (some ⟨bg, 0, none⟩), .pointer (some ⟨w.heap.size, 0, none⟩), .pointer (some ⟨bt, 0, none⟩), .pointer (some ⟨bk, 0, none⟩)])) := by rw [run_store _ _ _ _ _ rfl, c0]; simp [f0]
      obtain ⟨w8, hw8⟩ : ∃ z, z = w7.setCell ⟨bk, 0, none⟩ (.func (.func 49) #[] #[.pointer (some ⟨bg, 0, none⟩), .pointer (some ⟨w.heap.size, 0, none⟩), .pointer (some ⟨bt, 0, none⟩), .pointer (some ⟨bk, 0, none⟩)]) := ⟨_, rfl⟩
      have hqb : q ≠ bk := by have := block_lt HI.out.hh; omega
      have hbk8 : w8.heap[bk]? = some (.cells #[(.func (.func 49) #[] #[.pointer (some ⟨bg, 0, none⟩), .pointer (some ⟨w.heap.size, 0, none⟩), .pointer (some ⟨bt, 0, none⟩), .pointer (some ⟨bk, 0, none⟩)])] 57 (0, 0)) := by
        rw [hw8]
        simp only [World.setCell, Array.getElem?_modify, h7]
        simp
      have hb8 : Below w6.heap.size w6 w8 := by rw [hw8]; exact h67.setCell (by show w6.heap.size ≤ bk; omega) _
      have HG8 : Hid (GB w8 q hs.length (bsF kb) w8) := Lib.hid ⟨Ex.refl _ _ _, blk_keep HI.out.hh hb8⟩
      have hex8 : Ex q q w5 w8 := HI.out.ex.step hb8
      have HBX : Hid (∀ w', Ex q q w8 w' → (w'.cell? ⟨bg, 0, none⟩ = some (.slice (some ⟨q, 0, none⟩) hs.length hs.length) ∧ w'.cell? ⟨w.heap.size, 0, none⟩ = some (.slice a hs.length cap) ∧ w'.cell? ⟨bt, 0, none⟩ = some (.pointer (some ⟨pt, 0, none⟩)) ∧ w'.cell? ⟨bk, 0, none⟩ = some (.func (.func 49) #[] #[.pointer (some ⟨bg, 0, none⟩), .pointer (some ⟨w.heap.size, 0, none⟩), .pointer (some ⟨bt, 0, none⟩), .pointer (some ⟨bk, 0, none⟩)])) ∧ bg < w'.heap.size ∧ w.heap.size < w'.heap.size ∧ bt < w'.heap.size ∧ bk < w'.heap.size) := Lib.hid (fun w' h => by
        have lbg := Nat.lt_of_lt_of_le HM5.out.head_lt hex8.size
        have lbh := Nat.lt_of_lt_of_le HM5.out.tail.tail.tail.tail.head_lt hex8.size
        have lbt := Nat.lt_of_lt_of_le HM5.out.tail.tail.head_lt hex8.size
        have lbk := block_lt hbk8
        have ne := HNE.out
        refine ⟨⟨?_, ?_, ?_, ?_⟩, Nat.lt_of_lt_of_le lbg h.size, Nat.lt_of_lt_of_le lbh h.size, Nat.lt_of_lt_of_le lbt h.size, Nat.lt_of_lt_of_le lbk h.size⟩
        · exact (h.cell lbg ne.1 ne.1 0).trans ((hex8.cell HM5.out.head_lt ne.1 ne.1 0).trans (HM5.out.cell 0))
        · exact (h.cell lbh ne.2.1 ne.2.1 0).trans ((hex8.cell HM5.out.tail.tail.tail.tail.head_lt ne.2.1 ne.2.1 0).trans (HM5.out.tail.tail.tail.tail.cell 0))
        · exact (h.cell lbt ne.2.2.1 ne.2.2.1 0).trans ((hex8.cell HM5.out.tail.tail.head_lt ne.2.2.1 ne.2.2.1 0).trans (HM5.out.tail.tail.cell 0))
        · exact (h.cell lbk hqb.symm hqb.symm 0).trans (by rw [blkc hbk8]; rfl))
      have HAL : Hid (∀ w', Ex q q w8 w' → ∀ i j : Nat, i < hs.length → j < hs.length → Calls Try.prog 47 #[.pointer (some ⟨pt, 0, none⟩), .int .i64 i, .int .i64 j] w' fun e w'' => e = .returned (.bool (E i j)) ∧ Below w'.heap.size w' w'') := Lib.hid (fun w' h i j hi hj => by
        have hb5 : Below w3.heap.size w3 w8 := hex8.below HB35.out HB35.out.size (by rw [HNE.out.2.2.2.2]; exact Nat.le_refl _) (by rw [HNE.out.2.2.2.2]; exact Nat.le_refl _)
        have hb := h.below hb5 hb5.size (by rw [HNE.out.2.2.2.2]; exact Nat.le_refl _) (by rw [HNE.out.2.2.2.2]; exact Nat.le_refl _)
        rw [HED.out i j]
        exact allows_any pt hs.length hs.length (by omega) (by omega) _ i j hi hj w' (HTW.out.below hb))
      have HTA := Lib.hid (take_any E hs.length n1 w8 q bg w.heap.size bt bk pt a cap HBX.out HAL.out)
      have HBE : Hid (∀ w', Ex q q w8 w' → Below w.heap.size w w') := Lib.hid (fun w' h => by
        have hw : w.heap.size ≤ q := (HM5.out.tail.h _ (List.mem_cons_self ..)).1
        have hb := hex8.below HM5.out.b HM5.out.b.size hw hw
        exact h.below hb hb.size hw hw)
      have HW8 := Lib.hid hw8
      obtain ⟨r, hr⟩ := HEX.out
      have HO0 := Lib.hid hr
      have hrN : r ≤ 100 := by have := hr.le; omega
      clear hw7 hbk h67 h7 hw8 hqb hbk8 hb8 hex8 HI HAL HM5 HT5 HTW HB35 HNE hr HEX c0 f0
      go_upto_region 12 with fail
      rw [← HW8.out]
      clear hst l0 HW8
      obtain ⟨⟨-, c1, -, -⟩, -, l1, -, -⟩ := HBX.out _ HG8.out.ex
      go_wp2_with fail
      clear c1 l1
      go_loopg [14, 47] hs.length (fun gk s x wr => ∃ (i d : Nat) (g : Nat → Bool), x = .int .i64 i ∧ i + gk = hs.length ∧ s = .int .i64 d ∧ Hid (Ods E hs.length i g d r) ∧ Hid (GB w8 q hs.length g wr))
      case atStart => exact ⟨0, 0, _, rfl, by omega, rfl, HO0, HG8⟩
      case round =>
        obtain ⟨i, d, g, rfl, hik, rfl, HO, HI⟩ := hrel
        by_cases hi : i < hs.length
        · obtain ⟨gk', rfl⟩ : ∃ m, gk = m + 1 := ⟨gk - 1, by omega⟩
          have hi' : (i : Int) < hs.length := by omega
          have hi0 : (0 : Int) ≤ i := by omega
          obtain ⟨e0, e1, e2⟩ := HI.out.c hi
          obtain ⟨⟨c0, -, -, c3⟩, l0, -, -, l3⟩ := HBX.out _ HI.out.ex
          have hdr := HO.out.le
          obtain ⟨gv, hgv⟩ : ∃ z, z = g i := ⟨_, rfl⟩
          rw [← hgv] at e0
          cases gv with
          | true =>
            have HN := Lib.hid (HO.out.next_gone hi hgv.symm)
            clear hgv HO c3 l3 hdr
            go_wp2
            go_roundg gk'
            case measure => exact Nat.lt_succ_self _
            case rel => exact ⟨i + 1, d, g, by go_num, by omega, rfl, HN, HI⟩
          | false =>
            obtain ⟨g', c, hdf, hcl⟩ := Cls.ex (E := E) hi hgv.symm
            have HN := Lib.hid (HO.out.next_take hi hgv.symm hcl)
            have HCALL := Lib.hid (HTA.out (fuelD hs.length) i g g' c hi hdf wr HI.out)
            have hdn := HN.out.le
            have hcb : c ≤ 33 := by
              have h1 := hcl.cnt
              have h2 := cntU_max g hs.length
              omega
            clear hgv HO hdf hcl hdr
            go_wp2_with fail
            refine HCALL.out.mono ?_
            rintro e w9 ⟨rfl, hg9⟩
            have HI9 := Lib.hid hg9
            have r1 : (c : Int).tmod 2 = ((c % 2 : Nat) : Int) := by rw [Int.tmod_eq_emod_of_nonneg (by omega)]; simp
            have v1 : IntKind.i64.wrap ((c % 2 : Nat) : Int) = ((c % 2 : Nat) : Int) := IntWalk.i64_in _ (by omega)
            obtain ⟨cm, hcm⟩ : ∃ z, z = c % 2 := ⟨_, rfl⟩
            rw [← hcm] at r1 v1 HN hdn
            have v2 : IntKind.i64.wrap ((d : Int) + (cm : Int)) = ((d + cm : Nat) : Int) := by rw [IntWalk.i64_in _ (by omega)]; simp
            clear hg9 HCALL HI e0 e1 e2 c0 c3 l0 l3 hcm
            go_wp2
            go_roundg gk'
            case measure => exact Nat.lt_succ_self _
            case rel => exact ⟨i + 1, d + cm, g', by go_num, by omega, by first | rfl | simp, HN, HI9⟩
        · obtain ⟨rfl, rfl⟩ : gk = 0 ∧ i = hs.length := by omega
          obtain rfl := HO.out.end_
          have HE := Lib.hid (HBE.out _ HI.out.ex)
          have HEO := Lib.hid (HOB.out _ HO0.out)
          clear HO HO0 HOB
          go_wp2
          go_ret2
          exact ⟨⟨_, _, rfl, HEO.out⟩, HE.out⟩

end Go.Proofs.Ytchhadkmemckbab

/- Pairs: areIndices; take (the closure of Odd). -/
import Derived.Test.YtchhadkmemckbabPcG
import Derived.Test.YtchhadkmemckbabPaK
import Derived.Test.YtchhadkmemckbabPaY
namespace Go.Proofs.Ytchhadkmemckbab
open Go.RowKit
set_option linter.unusedSimpArgs false
set_option linter.unusedVariables false

/-- Whether indices rise from above b on and stay below n. -/
def upF (n : Nat) : Int → List Int → Bool
  | _, [] => true
  | b, x :: t => if x ≤ b ∨ (n : Int) ≤ x then false else upF n x t

set_option maxRecDepth 100000 in
set_option maxHeartbeats 1600000 in
theorem areIndices_any (a : Option Addr) (cap n : Nat) (hn : n ≤ 100) (kb : List Int) (hl : (kb.length : Int) ≤ 9223372036854775807) (w : World) (h : IntK w a kb) :
    Calls Try.prog 48 #[.slice a kb.length cap, .int .i64 n] w fun e w' => e = .returned (.bool (upF n (-1) kb)) ∧ Below w.heap.size w w' := by
  have HK := Lib.hid h
  obtain ⟨r, hr⟩ : ∃ r, r = upF n (-1) kb := ⟨_, rfl⟩
  rw [← hr]
  have HR0 : Hid (upF n (-1) (kb.drop 0) = r) := Lib.hid hr.symm
  clear h hr
  go_enter Try.func48, Try.ntmps48
  go_wp2_with fail
  go_loopg [5, 10] kb.length (fun gk b x wr => ∃ (k : Nat) (bv : Int), x = .int .i64 k ∧ k + gk = kb.length ∧ b = .int .i64 bv ∧ Hid (upF n bv (kb.drop k) = r) ∧ Hid (Below w.heap.size w wr))
  case atStart => exact ⟨0, -1, rfl, by omega, rfl, HR0, Lib.hid (Below.refl _ _)⟩
  case round =>
    obtain ⟨k, bv, rfl, hk, rfl, HP, HB⟩ := hrel
    by_cases hlt : k < kb.length
    · obtain ⟨gk', rfl⟩ : ∃ m, gk = m + 1 := ⟨gk - 1, by omega⟩
      have hlt' : (k : Int) < kb.length := by omega
      have hk0 : (0 : Int) ≤ k := by omega
      obtain ⟨b, off, rfl, hb, d0⟩ := (HK.out.below HB.out).at_ hlt
      have hp := HP.out
      rw [List.drop_eq_getElem_cons hlt] at hp
      obtain ⟨x, hx⟩ : ∃ x, x = kb[k] := ⟨_, rfl⟩
      rw [← hx] at d0 hp
      clear hx HP
      unfold upF at hp
      by_cases h1 : x ≤ bv
      · have a0 : decide (x ≤ bv) = true := decide_eq_true h1
        rw [if_pos (.inl h1)] at hp
        subst hp
        clear h1 HR0
        go_wp2
        go_ret
        exact ⟨rfl, HB.out⟩
      · have a0 : decide (x ≤ bv) = false := decide_eq_false h1
        by_cases h2 : (n : Int) ≤ x
        · have a1 : decide ((n : Int) ≤ x) = true := decide_eq_true h2
          rw [if_pos (.inr h2)] at hp
          subst hp
          clear h1 h2 HR0
          go_wp2
          go_ret
          exact ⟨rfl, HB.out⟩
        · have a1 : decide ((n : Int) ≤ x) = false := decide_eq_false h2
          rw [if_neg (by omega)] at hp
          have HPN := Lib.hid hp
          clear h1 h2 hp
          go_wp2
          go_roundg gk'
          case measure => exact Nat.lt_succ_self _
          case rel => exact ⟨k + 1, x, by go_num, by omega, rfl, HPN, HB⟩
    · obtain ⟨rfl, rfl⟩ : gk = 0 ∧ k = kb.length := by omega
      have hp := HP.out
      rw [List.drop_of_length_le (by omega)] at hp
      simp only [upF] at hp
      subst hp
      clear HR0 HP
      go_wp2
      go_ret
      exact ⟨rfl, HB.out⟩

/-- The world w0 but for block q (n bools). -/
structure GB (w0 : World) (q n : Nat) (g : Nat → Bool) (w : World) : Prop where
  ex : Ex q q w0 w
  hh : w.heap[q]? = some (.cells (cV n fun k => .bool (g k)) 4 (0, 0))
section
variable {w0 w w' : World} {q n : Nat} {g : Nat → Bool}
theorem GB.step (h : GB w0 q n g w) (hb : Below w.heap.size w w') : GB w0 q n g w' := ⟨h.ex.step hb, blk_keep h.hh hb⟩
theorem GB.c (h : GB w0 q n g w) {i : Nat} (hi : i < n) : w.cell? ⟨q, i, none⟩ = some (.bool (g i)) ∧ w.frozen? ⟨q, i, none⟩ = false ∧ q < w.heap.size := ⟨by rw [blkc h.hh, cV_get hi], by simp only [World.frozen?]; rw [h.hh]; simp, block_lt h.hh⟩
theorem GB.set (h : GB w0 q n g w) (i : Nat) (x : Bool) : GB w0 q n (fset g i x) (w.setCell ⟨q, i, none⟩ (.bool x)) := by
  refine ⟨h.ex.set (.inl rfl) _ _, ?_⟩
  have hc : (cV n fun k => Value.bool (g k)).setIfInBounds i (.bool x) = cV n fun k => .bool (fset g i x k) := by
    rw [cV_set]
    exact cV_congr fun k _ => by unfold fset; split <;> rfl
  simp only [World.setCell, Array.getElem?_modify, h.hh]
  simp [hc]
end

set_option maxRecDepth 100000 in
set_option maxHeartbeats 6400000 in
theorem take_any (E : Nat → Nat → Bool) (N : Nat) (hN : N ≤ 32) (w0 : World) (q bg bh bt bk pt : Nat) (a : Option Addr) (cap : Nat)
    (hbx : ∀ w', Ex q q w0 w' → (w'.cell? ⟨bg, 0, none⟩ = some (.slice (some ⟨q, 0, none⟩) N N) ∧ w'.cell? ⟨bh, 0, none⟩ = some (.slice a N cap) ∧ w'.cell? ⟨bt, 0, none⟩ = some (.pointer (some ⟨pt, 0, none⟩)) ∧ w'.cell? ⟨bk, 0, none⟩ = some (.func (.func 49) #[] #[.pointer (some ⟨bg, 0, none⟩), .pointer (some ⟨bh, 0, none⟩), .pointer (some ⟨bt, 0, none⟩), .pointer (some ⟨bk, 0, none⟩)])) ∧ bg < w'.heap.size ∧ bh < w'.heap.size ∧ bt < w'.heap.size ∧ bk < w'.heap.size)
    (hok : ∀ w', Ex q q w0 w' → ∀ i j : Nat, i < N → j < N → Calls Try.prog 47 #[.pointer (some ⟨pt, 0, none⟩), .int .i64 i, .int .i64 j] w' fun e w'' => e = .returned (.bool (E i j)) ∧ Below w'.heap.size w' w'') :
    ∀ (F i : Nat) (g g' : Nat → Bool) (c : Nat), i < N → dfF E N F i 0 (fset g i true) 1 = some (g', c) → ∀ w, GB w0 q N g w →
      Calls Try.prog 49 #[.int .i64 i, .pointer (some ⟨bg, 0, none⟩), .pointer (some ⟨bh, 0, none⟩), .pointer (some ⟨bt, 0, none⟩), .pointer (some ⟨bk, 0, none⟩)] w fun e w' => e = .returned (.int .i64 c) ∧ GB w0 q N g' w' := by
  have HC := Lib.hid hbx
  have HOK := Lib.hid hok
  clear hbx hok
  intro F
  induction F using Nat.strongRecOn with
  | _ F ih =>
  intro i g g' c hi hF w hw
  have IH := Lib.hid ih
  have HF := Lib.hid hF
  have HW := Lib.hid (hw.set i true)
  have HCNT : Hid (∀ f j g1 c1, dfF E N f i j g1 c1 = some (g', c) → c1 ≤ c) := Lib.hid (fun f j g1 c1 h => by
    have h1 := dfF_all f i j g1 c1 g' c h
    have h2 := cntU_le h1.1 N
    omega)
  have hcb : c ≤ 33 := by
    have h1 := dfF_all F i 0 _ 1 g' c hF
    have h2 := cntU_max (fset g i true) N
    omega
  have hi' : (i : Int) < N := by omega
  have hi0 : (0 : Int) ≤ i := by omega
  obtain ⟨⟨c0, c1, -, -⟩, l0, l1, -, -⟩ := HC.out w hw.ex
  obtain ⟨e0, e1, e2⟩ := hw.c hi
  obtain ⟨ws, hws⟩ : ∃ z, z = w.setCell ⟨q, i, none⟩ (.bool true) := ⟨_, rfl⟩
  rw [← hws] at HW
  have HWS := Lib.hid hws
  clear ih hF hw hws
  go_enter Try.func49, Try.ntmps49
  go_upto_region 2 with fail
  rw [← HWS.out]
  clear c0 c1 l0 l1 e0 e1 e2
  obtain ⟨⟨-, c1, -, -⟩, -, l1, -, -⟩ := HC.out ws HW.out.ex
  go_wp2_with fail
  clear c1 l1
  go_loopg [7, 14] F (fun gk s x wr => ∃ (j cv : Nat) (g1 : Nat → Bool), x = .int .i64 j ∧ j ≤ N ∧ gk ≤ F ∧ s = .int .i64 cv ∧ cv ≤ c ∧ Hid (dfF E N gk i j g1 cv = some (g', c)) ∧ Hid (GB w0 q N g1 wr))
  case atStart => exact ⟨0, 1, _, rfl, Nat.zero_le _, Nat.le_refl _, rfl, HCNT.out _ _ _ _ HF.out, HF, HW⟩
  case round =>
    obtain ⟨j, cv, g1, rfl, hjn, hgF, rfl, hcv, HP, HI⟩ := hrel
    obtain ⟨gk', rfl⟩ : ∃ m, gk = m + 1 := by
      cases gk with
      | zero => exact absurd HP.out (by simp [dfF])
      | succ m => exact ⟨m, rfl⟩
    by_cases hj : j < N
    · have hj' : (j : Int) < N := by omega
      have hj0 : (0 : Int) ≤ j := by omega
      have hcs := dfF_cases HP.out
      obtain ⟨⟨c0, -, c2, -⟩, l0, -, l2, -⟩ := HC.out wr HI.out.ex
      obtain ⟨e0, e1, e2⟩ := HI.out.c hj
      obtain ⟨gv, hgv⟩ : ∃ z, z = g1 j := ⟨_, rfl⟩
      rw [← hgv] at e0 hcs
      cases gv with
      | true =>
        have HPN : Hid (dfF E N gk' i (j + 1) g1 cv = some (g', c)) := Lib.hid (by
          rcases hcs with ⟨h, -⟩ | ⟨-, -, h⟩ | ⟨-, h, -⟩
          · omega
          · exact h
          · cases h)
        clear hcs hgv HP c2 l2
        go_wp2
        go_roundg gk'
        case measure => exact Nat.lt_succ_self _
        case rel => exact ⟨j + 1, cv, g1, by go_num, by omega, by omega, rfl, hcv, HPN, HI⟩
      | false =>
        have HK := Lib.hid (HOK.out wr HI.out.ex i j hi hj)
        obtain ⟨ev, hev⟩ : ∃ z, z = E i j := ⟨_, rfl⟩
        rw [← hev] at HK hcs
        have HGV := Lib.hid hgv
        have HCS := Lib.hid hcs
        clear hev hcs hgv HP
        go_wp2_with fail
        refine HK.out.mono ?_
        rintro e w5 ⟨rfl, hb5⟩
        have HI5 := Lib.hid (HI.out.step hb5)
        clear hb5 HK HI c0 c2 l0 l2 e0 e1 e2
        cases ev with
        | false =>
          have HPN : Hid (dfF E N gk' i (j + 1) g1 cv = some (g', c)) := Lib.hid (by
            rcases HCS.out with ⟨h, -⟩ | ⟨-, -, h⟩ | ⟨-, -, h, -⟩
            · omega
            · exact h
            · cases h)
          clear HCS HGV
          go_wp2
          go_roundg gk'
          case measure => exact Nat.lt_succ_self _
          case rel => exact ⟨j + 1, cv, g1, by go_num, by omega, by omega, rfl, hcv, HPN, HI5⟩
        | true =>
          have hex : ∃ g2 c2, dfF E N gk' j 0 (fset g1 j true) 1 = some (g2, c2) ∧ dfF E N gk' i (j + 1) g2 (cv + c2) = some (g', c) := by
            rcases HCS.out with ⟨h, -⟩ | ⟨-, h, -⟩ | ⟨-, -, -, g2, c2, h1, h2⟩
            · omega
            · rcases h with h | h <;> cases h
            · exact ⟨g2, c2, h1, h2⟩
          obtain ⟨g2, c2, h1, h2⟩ := hex
          have HCALL := Lib.hid (IH.out gk' (by omega) j g1 g2 c2 hj h1 w5 HI5.out)
          have HPN := Lib.hid h2
          have hc2 := HCNT.out _ _ _ _ h2
          obtain ⟨⟨-, -, -, c3⟩, -, -, -, l3⟩ := HC.out w5 HI5.out.ex
          clear h1 h2 HCS HGV HI5
          go_wp2_with fail
          refine HCALL.out.mono ?_
          rintro e w6 ⟨rfl, hw6⟩
          have HI6 := Lib.hid hw6
          have v1 : IntKind.i64.wrap ((cv : Int) + (c2 : Int)) = ((cv + c2 : Nat) : Int) := by rw [IntWalk.i64_in _ (by omega)]; simp
          clear hw6 HCALL c3 l3
          go_wp2
          go_roundg gk'
          case measure => exact Nat.lt_succ_self _
          case rel => exact ⟨j + 1, cv + c2, g2, by go_num, by omega, by omega, by first | rfl | simp, hc2, HPN, HI6⟩
    · rcases dfF_cases HP.out with ⟨-, h1, h2⟩ | ⟨h, -⟩ | ⟨h, -⟩
      · subst h1
        subst h2
        clear HF IH HW HP HCNT
        go_wp2
        go_ret
        exact ⟨rfl, HI.out⟩
      · omega
      · omega

end Go.Proofs.Ytchhadkmemckbab

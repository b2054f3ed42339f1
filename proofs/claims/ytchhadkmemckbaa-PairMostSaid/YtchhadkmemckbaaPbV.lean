/- Pairs: the reference's grow and matched. -/
import Derived.Test.YtchhadkmemckbaaPbS
import Derived.Test.YtchhadkmemckbaaPaQ
namespace Go.Proofs.Ytchhadkmemckbaa
open Go.RowKit
set_option linter.unusedSimpArgs false
set_option linter.unusedVariables false

set_option maxRecDepth 100000 in
set_option maxHeartbeats 6400000 in
theorem grow_any (ok : Nat → Nat → Bool) (L n : Nat) (hn : n ≤ 100) (hL : L ≤ 100) (C : Nat → Nat → Int) (mx : Int) (hok : ∀ i j, i < L → j < n → ok i j = (decide (0 ≤ C i j) && decide (C i j ≤ mx))) (w0 : World) (p q : Nat) (x : Option Addr) (cx cap cap2 : Nat)
    (hT : ∀ w', Ex p q w0 w' → TabR w' x L n C) :
    ∀ (F i : Nat) (o : Nat → Int) (t : Nat → Bool) (b : Bool) (o' : Nat → Int) (t' : Nat → Bool), plF ok L n F i 0 o t = some (b, o', t') → ∀ w, AB w0 p q n o t w →
      Calls Try.prog 82 #[.slice x L cx, .int .i64 mx, .int .i64 i, .slice (some ⟨q, 0, none⟩) n cap, .slice (some ⟨p, 0, none⟩) n cap2] w fun e w' => e = .returned (.bool b) ∧ AB w0 p q n o' t' w' := by
  have HTT := Lib.hid hT
  have HOK := Lib.hid hok
  clear hT hok
  intro F
  induction F using Nat.strongRecOn with
  | _ F ih =>
  intro i o t b o' t' hF w hw
  have IH := Lib.hid ih
  have HF := Lib.hid hF
  have HW := Lib.hid hw
  clear ih hF hw
  go_enter Try.func82, Try.ntmps82
  go_wp2_with fail
  go_loopg [14] F (fun gk x wr => ∃ (j : Nat) (o1 : Nat → Int) (t1 : Nat → Bool), x = .int .i64 j ∧ j ≤ n ∧ gk ≤ F ∧ Hid (plF ok L n gk i j o1 t1 = some (b, o', t')) ∧ Hid (AB w0 p q n o1 t1 wr))
  case atStart => exact ⟨0, _, _, rfl, Nat.zero_le _, Nat.le_refl _, HF, HW⟩
  case round =>
    obtain ⟨j, o1, t1, rfl, hjn, hgF, HP, HI⟩ := hrel
    obtain ⟨g, rfl⟩ : ∃ g, gk = g + 1 := by
      cases gk with
      | zero => exact absurd HP.out (by simp [plF])
      | succ g => exact ⟨g, rfl⟩
    have hp := HP.out
    unfold plF at hp
    have hiL : i < L := by
      by_cases h : i < L
      · exact h
      · rw [if_neg h] at hp; simp at hp
    rw [if_pos hiL] at hp
    by_cases hj : j < n
    · rw [if_pos hj] at hp
      have hj' : (j : Int) < n := by omega
      have hj0 : (0 : Int) ≤ j := by omega
      have hi' : (i : Int) < L := by omega
      have hi0 : (0 : Int) ≤ i := by omega
      have ct := HI.out.ct hj
      obtain ⟨ft, lt⟩ := HI.out.ft hj
      obtain ⟨B, mi, hx, l1, d1, l2, hd⟩ := HTT.out wr HI.out.ex i hiL
      have d2 := hd j hj
      have hkv := HOK.out i j hiL hj
      obtain ⟨c, hc⟩ : ∃ z, z = C i j := ⟨_, rfl⟩
      obtain ⟨tv, htv⟩ : ∃ z, z = t1 j := ⟨_, rfl⟩
      rw [← hc] at d2 hkv
      rw [← htv] at ct hp
      rw [hkv] at hp
      subst hx
      clear hd hc hkv
      by_cases hc0 : c < 0
      · have a0 : decide (c < 0) = true := decide_eq_true hc0
        rw [decide_eq_false (show ¬ 0 ≤ c by omega), Bool.false_and, Bool.not_false, Bool.or_true, if_pos rfl] at hp
        have HPN := Lib.hid hp
        clear hp htv HP hc0
        go_wp2
        go_roundg g
        case measure => exact Nat.lt_succ_self _
        case rel => exact ⟨j + 1, o1, t1, by go_num, by omega, by omega, HPN, HI⟩
      · have a0 : decide (c < 0) = false := decide_eq_false hc0
        by_cases hcm : mx < c
        · have a1 : decide (mx < c) = true := decide_eq_true hcm
          rw [decide_eq_false (show ¬ c ≤ mx by omega), Bool.and_false, Bool.not_false, Bool.or_true, if_pos rfl] at hp
          have HPN := Lib.hid hp
          clear hp htv HP hc0 hcm
          go_wp2
          go_roundg g
          case measure => exact Nat.lt_succ_self _
          case rel => exact ⟨j + 1, o1, t1, by go_num, by omega, by omega, HPN, HI⟩
        · have a1 : decide (mx < c) = false := decide_eq_false hcm
          rw [decide_eq_true (show 0 ≤ c by omega), decide_eq_true (show c ≤ mx by omega), Bool.and_true, Bool.not_true, Bool.or_false] at hp
          clear hc0 hcm
          cases tv with
          | true =>
            rw [if_pos rfl] at hp
            have HPN := Lib.hid hp
            clear hp htv HP
            go_wp2
            go_roundg g
            case measure => exact Nat.lt_succ_self _
            case rel => exact ⟨j + 1, o1, t1, by go_num, by omega, by omega, HPN, HI⟩
          | false =>
          rw [if_neg (by simp)] at hp
          have HI2 := Lib.hid (HI.out.setT j true)
          have HPP := Lib.hid hp
          clear htv HP hp
          go_upto_region 6 with fail
          clear ct ft lt HI d1 d2 l1 l2 a0 a1
          obtain ⟨wt, hwt⟩ : ∃ z, z = wr.setCell ⟨q, j, none⟩ (.bool true) := ⟨_, rfl⟩
          rw [← hwt] at HI2 ⊢
          clear hwt
          have co := HI2.out.co hj
          obtain ⟨fo, lo⟩ := HI2.out.fo j
          have hp := HPP.out
          obtain ⟨ov, hov⟩ : ∃ z, z = o1 j := ⟨_, rfl⟩
          have HOV := Lib.hid hov
          rw [← hov] at hp co
          clear hov HPP
          by_cases hov : ov = -1
          · rw [if_pos hov] at hp
            have a0 : decide (ov < 0) = true := decide_eq_true (by omega)
            clear HF IH HW
            simp only [Option.some.injEq, Prod.mk.injEq] at hp
            obtain ⟨rfl, rfl, rfl⟩ := hp
            have HE := Lib.hid (HI2.out.setO j i)
            clear HI2 hov
            go_wp2
            go_ret
            exact ⟨rfl, HE.out⟩
          · rw [if_neg hov] at hp
            have hov1 : ¬ ov < 0 := by
              intro h
              rw [if_pos h] at hp
              simp at hp
            rw [if_neg hov1] at hp
            have a0 : decide (ov < 0) = false := decide_eq_false hov1
            obtain ⟨N, hN⟩ := Int.eq_ofNat_of_zero_le (show 0 ≤ ov by omega)
            rw [hN, Int.toNat_natCast] at hp
            obtain ⟨r, hr⟩ : ∃ r, r = plF ok L n g N 0 o1 (fset t1 j true) := ⟨_, rfl⟩
            rw [← hr] at hp
            obtain ⟨b2, o2, t2, rfl⟩ : ∃ b2 o2 t2, r = some (b2, o2, t2) := by
              cases r with
              | none => simp at hp
              | some x => exact ⟨x.1, x.2.1, x.2.2, rfl⟩
            have HCALL := Lib.hid (IH.out g (by omega) N o1 _ b2 o2 t2 hr.symm _ HI2.out)
            rw [← hN] at HCALL
            have HPP := Lib.hid hp
            clear hr hp hov hov1 hN HOV
            go_wp2_with fail
            refine HCALL.out.mono ?_
            rintro e w5 ⟨rfl, hw5⟩
            have HI5 := Lib.hid hw5
            clear hw5 co fo lo a0 HCALL HI2
            have hp := HPP.out
            cases b2 with
            | true =>
              clear HF IH HW
              simp only [Option.some.injEq, Prod.mk.injEq] at hp
              obtain ⟨rfl, rfl, rfl⟩ := hp
              obtain ⟨fo, lo⟩ := HI5.out.fo j
              have co := HI5.out.co hj
              have HE := Lib.hid (HI5.out.setO j i)
              clear HI5 HPP
              go_wp2
              go_ret
              exact ⟨rfl, HE.out⟩
            | false =>
              simp only at hp
              have HPN := Lib.hid hp
              clear hp HPP
              go_wp2
              go_roundg g
              case measure => exact Nat.lt_succ_self _
              case rel => exact ⟨j + 1, o2, t2, by go_num, by omega, by omega, HPN, HI5⟩
    · rw [if_neg hj] at hp
      obtain rfl : j = n := by omega
      clear HF IH HW HP
      simp only [Option.some.injEq, Prod.mk.injEq] at hp
      obtain ⟨rfl, rfl, rfl⟩ := hp
      go_wp2
      go_ret
      exact ⟨rfl, HI.out⟩

def okG (C : Nat → Nat → Int) (mx : Int) (i j : Nat) : Bool := decide (0 ≤ C i j) && decide (C i j ≤ mx)

set_option maxRecDepth 100000 in
set_option maxHeartbeats 3200000 in
theorem matched_any (x : Option Addr) (cx L R : Nat) (hL : L ≤ 100) (hR : R ≤ 100) (C : Nat → Nat → Int) (mx : Int) (w : World) (h : TabR w x L R C) :
    Calls Try.prog 53 #[.slice x L cx, .int .i64 R, .int .i64 mx] w fun e w' => e = .returned (.int .i64 (cntO (lgO (okG C mx) L R) R)) ∧ Below w.heap.size w w' := by
  have HT := Lib.hid h
  obtain ⟨hlg, -⟩ := lgO_spec (okG C mx) L R
  obtain ⟨of, hof⟩ : ∃ o, o = lgO (okG C mx) L R := ⟨_, rfl⟩
  obtain ⟨res, hres⟩ : ∃ r, r = cntO of R := ⟨_, rfl⟩
  rw [← hof] at hlg ⊢
  rw [← hres]
  have HRES := Lib.hid hres
  have HLG := Lib.hid hlg
  have hmk := pa_makeInt R (by omega) w
  have HMB := Lib.hid (fun w' => pa_makeBool R (by omega) w')
  have HV0 : Hid (CT w w.heap.size R 3 (fun j => if j < 0 then -1 else 0) (w.alloc (.cells (cA R fun _ => 0) 3))) := Lib.hid ⟨(Below.refl _ _).alloc (Nat.le_refl _) _, Nat.le_refl _, by rw [heap_alloc_new]; simp⟩
  clear h hlg hof hres
  go_enter Try.func53, Try.ntmps53
  go_wp2_with fail
  clear hmk
  go_loopg [15] R (fun gk x wr => ∃ k : Nat, x = .int .i64 k ∧ k + gk = R ∧ Hid (CT w w.heap.size R 3 (fun j => if j < k then -1 else 0) wr))
  case atStart => exact ⟨0, rfl, by omega, HV0⟩
  case round =>
    obtain ⟨k, rfl, hk, HI⟩ := hrel
    by_cases hlt : k < R
    · obtain ⟨gk', rfl⟩ : ∃ m, gk = m + 1 := ⟨gk - 1, by omega⟩
      have hlt' : (k : Int) < R := by omega
      have hk0 : (0 : Int) ≤ k := by omega
      have c0 := HI.out.cell hlt
      have f0 := HI.out.frozen k
      have l0 := HI.out.lt
      have HN : Hid (CT w w.heap.size R 3 (fun j => if j < k + 1 then -1 else 0) (wr.setCell ⟨w.heap.size, k, none⟩ (.int .i64 (-1)))) := Lib.hid ((HI.out.set k (-1)).congr (by
        funext j
        by_cases h1 : j = k
        · rw [if_pos h1, if_pos (by omega)]
        · rw [if_neg h1]
          by_cases h2 : j < k
          · rw [if_pos h2, if_pos (by omega)]
          · rw [if_neg h2, if_neg (by omega)]))
      clear HI
      go_wp2
      go_roundg gk'
      case measure => exact Nat.lt_succ_self _
      case rel => exact ⟨k + 1, by go_num, by omega, HN⟩
    · obtain ⟨rfl, rfl⟩ : gk = 0 ∧ k = R := by omega
      have HC0 : Hid (CT w w.heap.size k 3 (fun _ => -1) wr) := Lib.hid (by
        refine ⟨HI.out.b, HI.out.le, ?_⟩
        rw [HI.out.arr]
        congr 2
        unfold cA
        congr 1
        funext j
        show Value.int .i64 (if j.1 < k then -1 else 0) = _
        rw [if_pos j.2])
      have HS0 : Hid ((0 : Int) = cntO (fun _ => -1) k) := Lib.hid (by
        have : ∀ n, (0 : Int) = cntO (fun _ => -1) n := fun n => by induction n with | zero => rfl | succ n ih => simp [cntO, ← ih]
        exact this _)
      clear HI
      go_wp2_with fail
      go_loopg [9, 24] L (fun gk s x wr => ∃ (i : Nat) (o1 : Nat → Int), x = .int .i64 i ∧ i + gk = L ∧ (∃ S : Int, s = .int .i64 S ∧ Hid (S = cntO o1 k)) ∧ Hid (lgF (okG C mx) L k (fuelK k) gk i o1 = some of) ∧ Hid (CT w w.heap.size k 3 o1 wr))
      case atStart => exact ⟨0, _, rfl, by omega, ⟨0, rfl, HS0⟩, HLG, HC0⟩
      case round =>
        obtain ⟨i, o1, rfl, hi, ⟨S, rfl, HS⟩, HP, HI⟩ := hrel
        by_cases hlt : i < L
        · obtain ⟨gk', rfl⟩ : ∃ m, gk = m + 1 := ⟨gk - 1, by omega⟩
          have hlt' : (i : Int) < L := by omega
          have hi0 : (0 : Int) ≤ i := by omega
          have hp := HP.out
          unfold lgF at hp
          obtain ⟨r, o2, t2, hr, hp2⟩ : ∃ r o2 t2, plF (okG C mx) L k (fuelK k) i 0 o1 (fun _ => false) = some (r, o2, t2) ∧ lgF (okG C mx) L k (fuelK k) gk' (i + 1) o2 = some of := by
            split at hp
            · simp at hp
            · rename_i r o2 t2 he
              exact ⟨r, o2, t2, he, hp⟩
          have HPN := Lib.hid hp2
          have hmk := HMB.out wr
          obtain ⟨wq, hwq⟩ : ∃ z, z = wr.alloc (.cells (cV k fun _ => .bool false) 4) := ⟨_, rfl⟩
          have hbA : Below wr.heap.size wr wq := by rw [hwq]; exact (Below.refl _ _).alloc (Nat.le_refl _) _
          have hA : wq.heap[wr.heap.size]? = some (.cells (cV k fun _ => .bool false) 4 (0, 0)) := by rw [hwq]; exact heap_alloc_new _ _
          have hI2 := HI.out.step hbA
          have hlw := HI.out.lt
          have hcs : 0 ≤ cntO o1 k ∧ cntO o1 k ≤ k := cntO_le o1 k
          have HCALL := Lib.hid (grow_any (okG C mx) L k hR hL C mx (fun _ _ _ _ => rfl) wq w.heap.size wr.heap.size x cx k k (fun w' he => HT.out.below (he.below hI2.b hI2.b.size (Nat.le_refl _) HI.out.b.size)) (fuelK k) i o1 _ r o2 t2 hr wq ⟨Ex.refl _ _ _, by omega, hI2.arr, block_lt hA, fun j hj => by rw [blkc hA, cV_get hj], fun j hj => by simp only [World.frozen?]; rw [hA]; simp⟩)
          have HNX : Hid (∀ w', AB wq w.heap.size wr.heap.size k o2 t2 w' → CT w w.heap.size k 3 o2 w') := Lib.hid (fun w' ha => ⟨ha.ex.below hI2.b hI2.b.size (Nat.le_refl _) HI.out.b.size, Nat.le_refl _, ha.ho⟩)
          have HCN : Hid (cntO o2 k = if r then cntO o1 k + 1 else cntO o1 k) := Lib.hid (by
            cases r with
            | true => exact plF_cnt _ _ _ _ _ _ _ hr
            | false => rw [(plF_fail _ _ _ _ _ _ _ hr).1]; rfl)
          rw [← HS.out] at hcs
          have HSS := Lib.hid HS.out
          have HWQ := Lib.hid hwq
          clear hp hp2 hr hbA hA hwq hI2 HS
          go_wp2_with fail
          rw [← HWQ.out]
          refine HCALL.out.mono ?_
          rintro e w5 ⟨rfl, ha⟩
          have HC5 := Lib.hid (HNX.out _ ha)
          clear ha hmk HCALL HI HNX HWQ
          cases r with
          | false =>
            have HSN : Hid (S = cntO o2 k) := Lib.hid (by rw [HCN.out, HSS.out]; rfl)
            clear HCN HSS
            go_wp2
            go_roundg gk'
            case measure => exact Nat.lt_succ_self _
            case rel => exact ⟨i + 1, o2, by go_num, by omega, ⟨S, rfl, HSN⟩, HPN, HC5⟩
          | true =>
            have HSN : Hid (S + 1 = cntO o2 k) := Lib.hid (by rw [HCN.out, HSS.out]; rfl)
            have v1 : IntKind.i64.wrap (S + 1) = S + 1 := IntWalk.i64_in _ (by omega)
            clear HCN HSS
            go_wp2
            go_roundg gk'
            case measure => exact Nat.lt_succ_self _
            case rel => exact ⟨i + 1, o2, by go_num, by omega, ⟨S + 1, rfl, HSN⟩, HPN, HC5⟩
        · obtain ⟨rfl, rfl⟩ : gk = 0 ∧ i = L := by omega
          have hp := HP.out
          unfold lgF at hp
          simp only [Option.some.injEq] at hp
          subst hp
          obtain rfl : S = res := HS.out.trans HRES.out.symm
          have HE := Lib.hid HI.out.b
          clear HI HS HRES HLG HP
          go_wp2
          go_ret
          exact ⟨rfl, HE.out⟩

end Go.Proofs.Ytchhadkmemckbaa

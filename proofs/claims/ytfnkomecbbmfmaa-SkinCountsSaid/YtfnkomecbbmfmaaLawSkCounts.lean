/- SkinCounts: a Table that NewTable returns counts the usable cells of each rectangle, or answers the documented error, for every slice of strings, every least grade and every slice of rectangles; no condition. -/
import Derived.Test.YtfnkomecbbmfmaaRows
import Derived.ProofKit
import Derived.OpenShut
import Derived.Lib.SmallJoins
import Derived.Test.YtfnkomecbbmfmaaSmD
import Derived.Test.YtfnkomecbbmfmaaSmE
import Derived.Test.YtfnkomecbbmfmaaSmB
namespace Go.Proofs.Ytfnkomecbbmfmaa.lawSkinCounts
open Go.ChangeShapes Go.WideShapes Go.ChangeAt Go.RowKit Go.Joins
set_option linter.unusedVariables false

/-- What a round keeps: the arguments, the table. -/
def Kept (w : World) (a : Option Addr) (ss : List ByteArray) (a2 : Option Addr) (rs : List Rc) (p n : Nat) (m : Nat → Nat) (g : Int) (wr : World) : Prop :=
  Mem w [] wr ∧ StrS wr a ss ∧ RecS wr a2 rs ∧ TabS wr p n m (wid ss) ss.length (fun x y => tab (usB ss g) x y)
theorem Kept.below {w : World} {a : Option Addr} {ss : List ByteArray} {a2 : Option Addr} {rs : List Rc} {p n : Nat} {m : Nat → Nat} {g : Int} {wr w2 : World} (h : Kept w a ss a2 rs p n m g wr) (hb : Below wr.heap.size wr w2) : Kept w a ss a2 rs p n m g w2 :=
  ⟨h.1.step hb, h.2.1.below hb, h.2.2.1.below hb, h.2.2.2.below hb⟩

set_option maxRecDepth 100000 in
set_option maxHeartbeats 3200000 in
theorem walk (a : Option Addr) (cap : Nat) (ss : List ByteArray) (wf : ss.length ≤ maxLen ∧ ∀ s ∈ ss, s.size ≤ maxLen) (g : Int) (wg : (Lit.int .i64 g).wf = true) (a2 : Option Addr) (cap2 : Nat) (rs : List Rc) (wr2 : rs.length ≤ maxLen ∧ ∀ r ∈ rs, (Lit.int .i64 r.1).wf = true ∧ (Lit.int .i64 r.2.1).wf = true ∧ (Lit.int .i64 r.2.2.1).wf = true ∧ (Lit.int .i64 r.2.2.2).wf = true) (w : World) (h : StrS w a ss) (h2 : RecS w a2 rs) :
    Calls Try.prog 4 #[.slice a ss.length cap, .int .i64 g, .slice a2 rs.length cap2] w fun e w' => e = .returned (.bool true) ∧ Below w.heap.size w w' := by
  obtain ⟨l1, l2⟩ := wf
  obtain ⟨l3, -⟩ := wr2
  have l1' : (ss.length : Int) ≤ 9223372036854775807 := by unfold maxLen at l1; omega
  have l2' : ∀ s ∈ ss, s.size ≤ 9223372036854775807 := fun s hs => by have := l2 s hs; unfold maxLen at this; omega
  have l3' : (rs.length : Int) ≤ 9223372036854775807 := by unfold maxLen at l3; omega
  by_cases hgood : skB ss = true ∧ 1 ≤ g ∧ g ≤ 9
  · obtain ⟨hs, h1, h9⟩ := hgood
    obtain ⟨⟨hl1, hl2⟩, ⟨hw1, hw2⟩, hrw⟩ := skB_iff.1 hs
    have HN := Lib.hid (newTable_yes a cap ss hs g h1 h9 w h)
    have HG : Hid (∀ w', Below w.heap.size w w' → Calls Try.prog 22 #[.slice a ss.length cap, .int .i64 g] w' fun e w'' => e = .returned (.bool true) ∧ w' = w'') := Lib.hid (fun w' hb => by
      have := rGood_any a cap ss l1' l2' g w' (h.below hb)
      rw [show (skB ss && (decide (1 ≤ g) && decide (g ≤ 9))) = true by rw [hs]; simp [h1, h9]] at this
      exact this)
    have HK0 : Hid (∀ p n m w', Below w.heap.size w w' → TabS w' p n m (wid ss) ss.length (fun x y => tab (usB ss g) x y) → Kept w a ss a2 rs p n m g w') := Lib.hid (fun p n m w' hb ht => ⟨(Mem.nil w).step hb, h.below hb, h2.below hb, ht⟩)
    have HSS := Lib.hid hs
    have hss0 : 0 < ss.length := by omega
    have hssI : (0 : Int) < ss.length := by omega
    have hss48 : (ss.length : Int) ≤ 48 := by omega
    obtain ⟨s0, hs0⟩ : ∃ s, s = ss[0] := ⟨_, rfl⟩
    have hz0 : s0.size = wid ss := by rw [hs0]; exact (hrw 0 hss0).1
    have HS0 := Lib.hid hs0
    obtain ⟨W, hW⟩ : ∃ W, W = wid ss := ⟨_, rfl⟩
    have hW2 : W ≤ 48 := by omega
    have HW := Lib.hid hW
    have hzI : (s0.size : Int) = W := by rw [hz0, hW]
    clear h h2 hs h1 h9 hrw hs0 hz0 hW l2' l2 l1 l3 wg
    go_enter Try.func4, Try.ntmps4
    go_wp2_with fail
    refine HN.out.mono ?_
    rintro e w1 ⟨p, n, m, rfl, ht, -, hb⟩
    have HK := Lib.hid (HK0.out p n m w1 hb ht)
    have HB := Lib.hid hb
    clear ht hb
    go_wp2_with fail
    refine (HG.out _ HB.out).mono ?_
    rintro e w2 ⟨rfl, rfl⟩
    go_wp2
    go_loopg [40] rs.length (fun gk i wr => ∃ k : Nat, k + gk = rs.length ∧ i = .int .i64 k ∧ Hid (Kept w a ss a2 rs p n m g wr))
    case atStart => exact ⟨0, by omega, rfl, HK⟩
    case round =>
      obtain ⟨k, hk, rfl, HI⟩ := hrel
      by_cases hlt : k < rs.length
      · obtain ⟨gk', rfl⟩ : ∃ m, gk = m + 1 := ⟨gk - 1, by omega⟩
        have hlt' : (k : Int) < rs.length := by omega
        have hk0 : (0 : Int) ≤ k := by omega
        obtain ⟨b, off, rfl, hb, hc0, hc1, hc2, hc3⟩ := HI.out.2.2.1.at_ hlt
        obtain ⟨⟨x, y, u, v⟩, hr⟩ : ∃ r, r = rs[k] := ⟨_, rfl⟩
        rw [← hr] at hc0 hc1 hc2 hc3
        simp only at hc0 hc1 hc2 hc3
        clear hr
        by_cases h40 : 40 ≤ k
        · have h40' : (40 : Int) ≤ k := by omega
          have HBB := Lib.hid ((HI.out.1.alloc #[.int .i64 x, .int .i64 y, .int .i64 u, .int .i64 v] 39).b)
          go_wp2_with fail
          refine (skAwake_any _).mono ?_
          rintro e w9 ⟨rfl, hb⟩
          have HE := Lib.hid (HBB.out.trans (hb.mono HBB.out.size))
          clear hb
          go_wp2
          go_ret
          exact ⟨rfl, HE.out⟩
        · have h40' : ¬ (40 : Int) ≤ k := by omega
          have HM := Lib.hid (HI.out.1.alloc #[.int .i64 x, .int .i64 y, .int .i64 u, .int .i64 v] 39)
          have HI1 := Lib.hid (HI.out.below ((Below.refl _ _).alloc (Nat.le_refl _) (.cells #[.int .i64 x, .int .i64 y, .int .i64 u, .int .i64 v] 39)))
          cases hrb : rectB x y u v with
          | false =>
            have HC := Lib.hid (count_arg p n m (wid ss) ss.length _ x y u v hrb _ HI1.out.2.2.2)
            have HR := Lib.hid (fun w' => rRect_any x y u v w')
            rw [hrb] at HR
            clear hrb
            go_wp2_with fail
            refine HC.out.mono ?_
            rintro e w3 ⟨rfl, hb3⟩
            have HM3 := Lib.hid (HM.out.step hb3)
            have HI3 := Lib.hid (HI1.out.below hb3)
            have q0 := HM3.out.cell 0
            have q1 := HM3.out.cell 1
            have q2 := HM3.out.cell 2
            have q3 := HM3.out.cell 3
            have ql := HM3.out.head_lt
            simp at q0 q1 q2 q3
            clear hb3 hb hc0 hc1 hc2 hc3
            go_wp2_with fail
            refine (HR.out _).mono ?_
            rintro e w4 ⟨rfl, hb4⟩
            have HI4 := Lib.hid (HI3.out.below hb4)
            clear hb4 q0 q1 q2 q3 ql
            go_wp2
            go_roundg gk'
            case measure => exact Nat.lt_succ_self _
            case rel => exact ⟨k + 1, by omega, by go_num, HI4⟩
          | true =>
            obtain ⟨r1, r2, r3, r4⟩ := rectB_iff.1 hrb
            have HR := Lib.hid (fun w' => rRect_any x y u v w')
            rw [hrb] at HR
            have HL := Lib.hid (rLies_any x y u v W ss.length hW2 (by omega) r3 r4)
            cases hlb : liesB x y u v W ss.length with
            | false =>
              have HC := Lib.hid (count_range p n m (wid ss) ss.length (by rw [← HW.out]; exact hW2) hl2 _ x y u v hrb (by rw [← HW.out]; exact hlb) _ HI1.out.2.2.2)
              rw [hlb] at HL
              clear hrb hlb r1 r2 r3 r4
              go_wp2_with fail
              refine HC.out.mono ?_
              rintro e w3 ⟨rfl, hb3⟩
              have HM3 := Lib.hid (HM.out.step hb3)
              have HI3 := Lib.hid (HI1.out.below hb3)
              have q0 := HM3.out.cell 0
              have q1 := HM3.out.cell 1
              have q2 := HM3.out.cell 2
              have q3 := HM3.out.cell 3
              have ql := HM3.out.head_lt
              simp at q0 q1 q2 q3
              clear hb3 hb hc0 hc1 hc2 hc3
              go_wp2_with fail
              refine (HR.out _).mono ?_
              rintro e w4 ⟨rfl, hb4⟩
              have HM4 := Lib.hid (HM3.out.step hb4)
              have HI4 := Lib.hid (HI3.out.below hb4)
              clear hb4 q0 q1 q2 q3 ql
              obtain ⟨b1, off1, rfl, hb1, hd1⟩ := HI4.out.2.1.at_ hss0
              rw [← HS0.out, Nat.add_zero] at hd1
              have ql := HM4.out.head_lt
              have HQ : Hid (∀ w', Below w4.heap.size w4 w' → Below w4.heap.size w4 w' ∧ w'.cell? ⟨b1, off1, none⟩ = some (.string s0) ∧ w'.cell? ⟨wr.heap.size, 0, none⟩ = some (.int .i64 x) ∧ w'.cell? ⟨wr.heap.size, 1, none⟩ = some (.int .i64 y) ∧ w'.cell? ⟨wr.heap.size, 2, none⟩ = some (.int .i64 u) ∧ w'.cell? ⟨wr.heap.size, 3, none⟩ = some (.int .i64 v)) := Lib.hid (fun w' hb => ⟨hb, (hb.cell (p := ⟨b1, off1, none⟩) hb1).trans hd1, (HM4.out.step hb).cell 0, (HM4.out.step hb).cell 1, (HM4.out.step hb).cell 2, (HM4.out.step hb).cell 3⟩)
              clear hd1
              go_wp2_with fail
              go_region_held3 (fun w' => Below w4.heap.size w4 w' ∧ w'.cell? ⟨b1, off1, none⟩ = some (.string s0) ∧ w'.cell? ⟨wr.heap.size, 0, none⟩ = some (.int .i64 x) ∧ w'.cell? ⟨wr.heap.size, 1, none⟩ = some (.int .i64 y) ∧ w'.cell? ⟨wr.heap.size, 2, none⟩ = some (.int .i64 u) ∧ w'.cell? ⟨wr.heap.size, 3, none⟩ = some (.int .i64 v))
                (first | exact HQ.out _ (Below.refl _ _).drew | (go_split_ands; exact HQ.out _ (Below.trans (by assumption) (Below.mono (by assumption) (Below.size (by assumption))))))
                (first | (go_at_call 25; go_split_ands; with_reducible (refine (HL.out _).mono ?_); rintro e w5 ⟨rfl, hb5⟩))
              go_split_ands
              have HI5 := Lib.hid (HI4.out.below (by assumption))
              go_wp2
              go_roundg gk'
              case measure => exact Nat.lt_succ_self _
              case rel => exact ⟨k + 1, by omega, by go_num, HI5⟩
            | true =>
              obtain ⟨z1, z2, z3, z4⟩ := liesB_iff.1 hlb
              obtain ⟨X, rfl⟩ := Int.eq_ofNat_of_zero_le r1
              obtain ⟨Y, rfl⟩ := Int.eq_ofNat_of_zero_le r2
              obtain ⟨U, rfl⟩ := Int.eq_ofNat_of_zero_le (show 0 ≤ u by omega)
              obtain ⟨V, rfl⟩ := Int.eq_ofNat_of_zero_le (show 0 ≤ v by omega)
              have HC := Lib.hid (count_box p n m ss HSS.out g X Y U V (by omega) (by omega) (by rw [← HW.out]; omega) (by omega) _ HI1.out.2.2.2)
              have HRC := Lib.hid (fun w' hb => rCount_any a cap ss HSS.out g X Y U V (by rw [← HW.out]; omega) (by omega) w' hb)
              obtain ⟨c, hc⟩ : ∃ c : Int, c = cBox (usB ss g) X U Y V := ⟨_, rfl⟩
              rw [← hc] at HC HRC
              have hcc : (c != c) = false := by simp
              rw [hlb] at HL
              clear hrb hlb r1 r2 r3 r4 z1 z2 z3 z4 hc
              go_wp2_with fail
              refine HC.out.mono ?_
              rintro e w3 ⟨rfl, hb3⟩
              have HM3 := Lib.hid (HM.out.step hb3)
              have HI3 := Lib.hid (HI1.out.below hb3)
              have q0 := HM3.out.cell 0
              have q1 := HM3.out.cell 1
              have q2 := HM3.out.cell 2
              have q3 := HM3.out.cell 3
              have ql := HM3.out.head_lt
              simp at q0 q1 q2 q3
              clear hb3 hb hc0 hc1 hc2 hc3
              go_wp2_with fail
              refine (HR.out _).mono ?_
              rintro e w4 ⟨rfl, hb4⟩
              have HM4 := Lib.hid (HM3.out.step hb4)
              have HI4 := Lib.hid (HI3.out.below hb4)
              clear hb4 q0 q1 q2 q3 ql
              obtain ⟨b1, off1, rfl, hb1, hd1⟩ := HI4.out.2.1.at_ hss0
              rw [← HS0.out, Nat.add_zero] at hd1
              have ql := HM4.out.head_lt
              have HQ : Hid (∀ w', Below w4.heap.size w4 w' → Below w4.heap.size w4 w' ∧ w'.cell? ⟨b1, off1, none⟩ = some (.string s0) ∧ w'.cell? ⟨wr.heap.size, 0, none⟩ = some (.int .i64 X) ∧ w'.cell? ⟨wr.heap.size, 1, none⟩ = some (.int .i64 Y) ∧ w'.cell? ⟨wr.heap.size, 2, none⟩ = some (.int .i64 U) ∧ w'.cell? ⟨wr.heap.size, 3, none⟩ = some (.int .i64 V)) := Lib.hid (fun w' hb => ⟨hb, (hb.cell (p := ⟨b1, off1, none⟩) hb1).trans hd1, (HM4.out.step hb).cell 0, (HM4.out.step hb).cell 1, (HM4.out.step hb).cell 2, (HM4.out.step hb).cell 3⟩)
              clear hd1
              go_wp2_with fail
              go_region_held3 (fun w' => Below w4.heap.size w4 w' ∧ w'.cell? ⟨b1, off1, none⟩ = some (.string s0) ∧ w'.cell? ⟨wr.heap.size, 0, none⟩ = some (.int .i64 X) ∧ w'.cell? ⟨wr.heap.size, 1, none⟩ = some (.int .i64 Y) ∧ w'.cell? ⟨wr.heap.size, 2, none⟩ = some (.int .i64 U) ∧ w'.cell? ⟨wr.heap.size, 3, none⟩ = some (.int .i64 V))
                (first | exact HQ.out _ (Below.refl _ _).drew | (go_split_ands; exact HQ.out _ (Below.trans (by assumption) (Below.mono (by assumption) (Below.size (by assumption))))))
                (first | (go_at_call 25; go_split_ands; with_reducible (refine (HL.out _).mono ?_); rintro e w5 ⟨rfl, hb5⟩))
              go_split_ands
              have HI5 := Lib.hid (HI4.out.below (by assumption))
              have ql5 := (HM4.out.step (by assumption : Below w4.heap.size w4 w5)).head_lt
              go_wp2_with fail
              refine (HRC.out _ HI5.out.2.1).mono ?_
              rintro e w6 ⟨rfl, hb6⟩
              have HI6 := Lib.hid (HI5.out.below hb6)
              clear hb6
              go_wp2
              go_roundg gk'
              case measure => exact Nat.lt_succ_self _
              case rel => exact ⟨k + 1, by omega, by go_num, HI6⟩
      · obtain rfl : k = rs.length := by omega
        have hlt' : ¬ (rs.length : Int) < rs.length := by omega
        go_wp2_with fail
        refine (skAwake_any _).mono ?_
        rintro e w9 ⟨rfl, hb⟩
        have HE := Lib.hid (HI.out.1.step hb).b
        clear hb
        go_wp2
        go_ret
        exact ⟨rfl, HE.out⟩
  · have HN := Lib.hid (newTable_no a cap ss l1' l2' g hgood w h)
    have HG : Hid (∀ w', Below w.heap.size w w' → Calls Try.prog 22 #[.slice a ss.length cap, .int .i64 g] w' fun e w'' => e = .returned (.bool false) ∧ w' = w'') := Lib.hid (fun w' hb => by
      have := rGood_any a cap ss l1' l2' g w' (h.below hb)
      rw [show (skB ss && (decide (1 ≤ g) && decide (g ≤ 9))) = false by
        rw [Bool.eq_false_iff]; intro e; simp at e; exact hgood e] at this
      exact this)
    clear h h2 hgood l2' l2 l1 l3 wg
    go_enter Try.func4, Try.ntmps4
    go_wp2_with fail
    refine HN.out.mono ?_
    rintro e w1 ⟨rfl, hb⟩
    have HB := Lib.hid hb
    clear hb
    go_wp2_with fail
    refine (HG.out _ HB.out).mono ?_
    rintro e w2 ⟨rfl, rfl⟩
    go_wp2_with fail
    refine (skAwake_any _).mono ?_
    rintro e w9 ⟨rfl, hb⟩
    have HE := Lib.hid (HB.out.trans (hb.mono HB.out.size))
    clear hb
    go_wp2
    go_ret
    exact ⟨rfl, HE.out⟩

theorem own : ownKnob Try.prog.godebug = none := by kernel_rfl

set_option maxRecDepth 100000 in
theorem lifted (os : Os) (started : os.Started) (H : Type) (enc : TypeId × Value → H) :
    ReturnsInHanded {} Try.checked os 4 .any (Rows.skinCountsSpec.pre6 enc Try.prog Try.f4 Rows.skinCountsRow.domain false) (Rows.skinCountsSpec.post enc Try.prog Try.f4 false true false false) := by
  refine returnsInHanded_of_change (C := Try.checked) own started (by kernel_rfl) Try.func4
    (ChangeSpec.witness6 (enc := enc) (C := Try.checked) false ⟨#[], #[.slice none 0 0, .int .i64 0, .slice none 0 0], []⟩ 8 (by kernel_rfl) (by kernel_rfl) (by kernel_rfl) (by kernel_rfl)) ?_
  intro W base args ds gs before hval0 hW hcnd _
  have hval : ∀ (j : Nat) t v, Try.f4.params[j]? = some t → args[j]? = some v → Value.okWide Try.prog W .any base t v := hval0
  have hW' := hW
  obtain ⟨p, q, hA0, hV, rfl, hfz, hnd⟩ := hW
  have hA : DataW.TrodAll enc Try.prog W 0 (fun _ => true) true Try.f4.params.toList args.toList ds p := hA0
  rw [Try.params4] at hA hval
  obtain ⟨v0, vs0, d0, ds0, p0, q0, hargs, rfl, rfl, h0, r0⟩ := trodAll_cons hA
  obtain ⟨v1, vs1, d1, ds1, p1, q1, rfl, rfl, rfl, h1, r1⟩ := trodAll_cons r0
  obtain ⟨v2, vs2, d2, ds2, p2, q2, rfl, rfl, rfl, h2, r2⟩ := trodAll_cons r1
  obtain ⟨rfl, rfl, rfl⟩ := trodAll_nil r2
  obtain rfl : args = #[v0, v1, v2] := by cases args; simp_all
  obtain ⟨rfl, rfl⟩ := trodVars_none hV
  obtain ⟨a0, len0, cap0, rfl⟩ := okWide_slice Try.underlying22 (hval 0 22 v0 rfl rfl)
  have k0 := h0
  have lt0 : ∀ x ∈ p0, x.block < W.heap.size := by obtain ⟨m, hm⟩ := k0; exact DataW.trod_lt m _ _ _ hm
  obtain ⟨fs0, hl0, hF0, wf0⟩ := open_skS h0
  subst hl0
  obtain ⟨n1, rfl, rfl, rfl, wn1⟩ := open_int Try.underlying3 (hval 1 3 v1 rfl rfl) h1
  obtain ⟨a2, len2, cap2, rfl⟩ := okWide_slice Try.underlying33 (hval 2 33 v2 rfl rfl)
  have k2 := h2
  have lt2 : ∀ x ∈ p2, x.block < W.heap.size := by obtain ⟨m, hm⟩ := k2; exact DataW.trod_lt m _ _ _ hm
  obtain ⟨fs2, hl2, hF2, wf2⟩ := open_recs h2
  subst hl2
  clear hA0 hval0
  refine (walk a0 cap0 fs0 wf0 n1 wn1 a2 cap2 fs2 wf2 W hF0 hF2).mono fun e W' ⟨he, hb⟩ => ?_
  subst he
  exact ⟨_, rfl, _, _, _, [], _, [], hW', trodAll_mk1 (shut_bool Try.underlying4 _), (trodAll_cons_mk (Below.trod laidOut (by kernel_rfl) (of_decide_eq_true (by kernel_rfl)) k0 hb lt0) (trodAll_cons_mk (shut_int Try.underlying3 wn1) (trodAll_cons_mk (Below.trod laidOut (by kernel_rfl) (of_decide_eq_true (by kernel_rfl)) k2 hb lt2) trodAll_mk0))), rfl, hb.frame _, fun h => by cases h⟩

theorem over : Rows.skinCountsRow.holds Try.pinned (OpenSpec.ofChange Rows.skinCountsSpec) :=
  OpenClaim.holds_of_wide 4 Try.f4 rfl rfl rfl rfl rfl rfl rfl ⟨rfl, rfl, rfl, rfl, rfl⟩ rfl rfl rfl rfl rfl (by kernel_rfl) Try.func4 (by kernel_rfl)
    (of_decide_eq_true (by kernel_rfl)) (by unfold Func.isWrapper; first | (rw [if_pos (by decide +kernel)]; kernel_rfl) | (rw [if_neg (by decide +kernel)]; exact ⟨rfl, rfl⟩))
    (fun os started H enc _ => lifted os started H enc)

/-- THE STATEMENT. -/
theorem proved : Rows.SkinCountsSaid := over
#print axioms proved

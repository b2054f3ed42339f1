/- Skins: isUsable and canGrow of a table. -/
import Derived.Test.YtndhnpljdldlpabSmR
import Derived.Test.YtndhnpljdldlpabSmJ
import Derived.BigRegion
import Derived.Outline
namespace Go.Proofs.Ytndhnpljdldlpab
open Go.RowKit

set_option maxRecDepth 100000 in
set_option maxHeartbeats 1600000 in
theorem isUsable_any (p nb : Nat) (mb : Nat → Nat) (ss : List ByteArray) (hs : skB ss = true) (g : Int) (X Y : Int) (n m : Nat) (hn : 1 ≤ n) (hm : 1 ≤ m) (hn2 : n ≤ 50) (hm2 : m ≤ 50) (w : World) (h : TabS w p nb mb (wid ss) ss.length (fun x y => tab (usB ss g) x y)) :
    Calls Try.prog 71 #[.pointer (some ⟨p, 0, none⟩), .agg #[.int .i64 X, .int .i64 Y, .int .i64 n, .int .i64 m]] w fun e w' => e = .returned (.bool (fullG (usB ss g) (wid ss) ss.length X Y n m)) ∧ Below w.heap.size w w' := by
  obtain ⟨⟨hl1, hl2⟩, ⟨hw1, hw2⟩, -⟩ := skB_iff.1 hs
  have HA := Lib.hid ((Mem.nil w).alloc #[.int .i64 X, .int .i64 Y, .int .i64 n, .int .i64 m] 29)
  have h1 := h.below HA.out.b
  cases hrb : rectB X Y n m with
  | false =>
    have HC := Lib.hid (count_arg p nb mb (wid ss) ss.length _ X Y n m hrb _ h1)
    have HF : Hid (fullG (usB ss g) (wid ss) ss.length X Y n m = false) := Lib.hid (fullG_out (by
      have : ¬ (0 ≤ X ∧ 0 ≤ Y ∧ (1 : Int) ≤ n ∧ (1 : Int) ≤ m) := fun e => by rw [rectB_iff.2 e] at hrb; cases hrb
      omega))
    rw [HF.out]
    clear hs h h1 hrb
    go_enter Try.func71, Try.ntmps71
    go_wp2_with fail
    refine HC.out.mono ?_
    rintro e w1 ⟨rfl, hb⟩
    have HE := Lib.hid (HA.out.step hb).b
    clear hb
    go_wp2
    go_ret
    exact ⟨rfl, HE.out⟩
  | true =>
    obtain ⟨r1, r2, -, -⟩ := rectB_iff.1 hrb
    cases hlb : liesB X Y n m (wid ss) ss.length with
    | false =>
      have HC := Lib.hid (count_range p nb mb (wid ss) ss.length hw2 hl2 _ X Y n m hrb hlb _ h1)
      have HF : Hid (fullG (usB ss g) (wid ss) ss.length X Y n m = false) := Lib.hid (fullG_out (by
        have : ¬ ((n : Int) ≤ wid ss ∧ X ≤ wid ss - n ∧ (m : Int) ≤ ss.length ∧ Y ≤ ss.length - m) := fun e => by rw [liesB_iff.2 e] at hlb; cases hlb
        omega))
      rw [HF.out]
      clear hs h h1 hrb hlb r1 r2
      go_enter Try.func71, Try.ntmps71
      go_wp2_with fail
      refine HC.out.mono ?_
      rintro e w1 ⟨rfl, hb⟩
      have HE := Lib.hid (HA.out.step hb).b
      clear hb
      go_wp2
      go_ret
      exact ⟨rfl, HE.out⟩
    | true =>
      obtain ⟨z1, z2, z3, z4⟩ := liesB_iff.1 hlb
      obtain ⟨x, rfl⟩ := Int.eq_ofNat_of_zero_le r1
      obtain ⟨y, rfl⟩ := Int.eq_ofNat_of_zero_le r2
      have HC := Lib.hid (count_box p nb mb ss hs g x y n m hn hm (by omega) (by omega) _ h1)
      obtain ⟨c, hc⟩ : ∃ c : Int, c = cBox (usB ss g) x n y m := ⟨_, rfl⟩
      obtain ⟨q, hq⟩ : ∃ q, q = n * m := ⟨_, rfl⟩
      have hqb : q ≤ 50 * 50 := by rw [hq]; exact Nat.mul_le_mul hn2 hm2
      have v1 : IntKind.i64.wrap ((n : Int) * (m : Int)) = (q : Int) := by rw [show (n : Int) * (m : Int) = (q : Int) by rw [hq]; simp]; exact IntWalk.i64_in _ (by omega)
      have HF : Hid (fullG (usB ss g) (wid ss) ss.length x y n m = (c == (q : Int))) := Lib.hid (by
        rw [fullG_in (by omega) (by omega)]
        unfold fullB
        rw [← hc, ← hq, Bool.eq_iff_iff, decide_eq_true_iff, beq_iff_eq])
      rw [HF.out]
      rw [← hc] at HC
      clear hs h h1 hrb hlb r1 r2 z1 z2 z3 z4 hc hq hqb
      go_enter Try.func71, Try.ntmps71
      go_wp2_with fail
      refine HC.out.mono ?_
      rintro e w1 ⟨rfl, hb⟩
      have hm1 := HA.out.step hb
      have q0 := hm1.cell 0
      have q1 := hm1.cell 1
      have q2 := hm1.cell 2
      have q3 := hm1.cell 3
      have ql := hm1.head_lt
      simp at q0 q1 q2 q3
      have HE := Lib.hid hm1.b
      clear hb hm1
      go_wp2
      go_ret
      exact ⟨rfl, HE.out⟩

/-- The memory of canGrow: the rectangle and its three copies. -/
structure CG (w : World) (i j k : Nat) (r ci cj ck : Array Value) (wx : World) : Prop where
  b : Below w.heap.size w wx
  hr : wx.heap[w.heap.size]? = some (.cells r 29 (0, 0))
  hi : wx.heap[i]? = some (.cells ci 29 (0, 0))
  hj : wx.heap[j]? = some (.cells cj 29 (0, 0))
  hk : wx.heap[k]? = some (.cells ck 29 (0, 0))
  lt : w.heap.size < i ∧ w.heap.size < j ∧ w.heap.size < k
  ne : i ≠ j ∧ i ≠ k ∧ j ≠ k
section
variable {w wx w2 : World} {i j k : Nat} {r ci cj ck : Array Value}
theorem CG.step (h : CG w i j k r ci cj ck wx) (hb : Below wx.heap.size wx w2) : CG w i j k r ci cj ck w2 :=
  ⟨h.b.trans (hb.mono h.b.size), (hb.block _ (block_lt h.hr)).trans h.hr, (hb.block _ (block_lt h.hi)).trans h.hi, (hb.block _ (block_lt h.hj)).trans h.hj, (hb.block _ (block_lt h.hk)).trans h.hk, h.lt, h.ne⟩
theorem CG.seti (h : CG w i j k r ci cj ck wx) (q : Nat) (v : Value) : CG w i j k r (ci.setIfInBounds q v) cj ck (wx.setCell ⟨i, q, none⟩ v) := by
  obtain ⟨l1, l2, l3⟩ := h.lt
  obtain ⟨n1, n2, n3⟩ := h.ne
  refine ⟨h.b.setCell (Nat.le_of_lt l1) _, ?_, ?_, ?_, ?_, h.lt, h.ne⟩
  · rw [Below.heap_setCell _ _ _ _ (by show w.heap.size ≠ i; omega)]; exact h.hr
  · simp [World.setCell, Array.getElem?_modify, h.hi]
  · rw [Below.heap_setCell _ _ _ _ (by show j ≠ i; omega)]; exact h.hj
  · rw [Below.heap_setCell _ _ _ _ (by show k ≠ i; omega)]; exact h.hk
theorem CG.rot (h : CG w i j k r ci cj ck wx) : CG w j k i r cj ck ci wx := ⟨h.b, h.hr, h.hj, h.hk, h.hi, ⟨h.lt.2.1, h.lt.2.2, h.lt.1⟩, ⟨h.ne.2.2, fun e => h.ne.1 e.symm, fun e => h.ne.2.1 e.symm⟩⟩
end

set_option maxRecDepth 100000 in
set_option maxHeartbeats 3200000 in
theorem canGrow_any (p nb : Nat) (mb : Nat → Nat) (ss : List ByteArray) (hs : skB ss = true) (g : Int) (X Y : Nat) (n m : Nat) (hn : 1 ≤ n) (hm : 1 ≤ m) (hn2 : n ≤ 48) (hm2 : m ≤ 48) (hX : X ≤ 48) (hY : Y ≤ 48) (w : World) (h : TabS w p nb mb (wid ss) ss.length (fun x y => tab (usB ss g) x y)) :
    Calls Try.prog 35 #[.pointer (some ⟨p, 0, none⟩), .agg #[.int .i64 X, .int .i64 Y, .int .i64 n, .int .i64 m]] w fun e w' => e = .returned (.bool (growB (usB ss g) (wid ss) ss.length X Y n m)) ∧ Below w.heap.size w w' := by
  have HC : Hid (∀ i j k : Nat, w.heap.size < i → w.heap.size < j → w.heap.size < k → i < w.heap.size + 4 → j < w.heap.size + 4 → k < w.heap.size + 4 → i ≠ j → i ≠ k → j ≠ k → ∀ o, o = Obj.cells #[.int .i64 X, .int .i64 Y, .int .i64 n, .int .i64 m] 29 → CG w i j k #[.int .i64 X, .int .i64 Y, .int .i64 n, .int .i64 m] #[.int .i64 X, .int .i64 Y, .int .i64 n, .int .i64 m] #[.int .i64 X, .int .i64 Y, .int .i64 n, .int .i64 m] #[.int .i64 X, .int .i64 Y, .int .i64 n, .int .i64 m] ((((w.alloc o).alloc o).alloc o).alloc o)) := Lib.hid (fun i j k a1 a2 a3 a4 a5 a6 a7 a8 a9 o ho => by
    have key : ∀ q, w.heap.size ≤ q → q < w.heap.size + 4 → ((((w.alloc o).alloc o).alloc o).alloc o).heap[q]? = some (.cells #[.int .i64 X, .int .i64 Y, .int .i64 n, .int .i64 m] 29 (0, 0)) := by
      intro q h1 h2
      have e0 : (((w.alloc o).alloc o).alloc o).heap.size = w.heap.size + 3 := by simp
      have e1 : ((w.alloc o).alloc o).heap.size = w.heap.size + 2 := by simp
      have e2 : (w.alloc o).heap.size = w.heap.size + 1 := by simp
      have n0 := heap_alloc_new (((w.alloc o).alloc o).alloc o) (.cells #[.int .i64 X, .int .i64 Y, .int .i64 n, .int .i64 m] 29)
      have n1 := heap_alloc_new ((w.alloc o).alloc o) (.cells #[.int .i64 X, .int .i64 Y, .int .i64 n, .int .i64 m] 29)
      have n2 := heap_alloc_new (w.alloc o) (.cells #[.int .i64 X, .int .i64 Y, .int .i64 n, .int .i64 m] 29)
      have n3 := heap_alloc_new w (.cells #[.int .i64 X, .int .i64 Y, .int .i64 n, .int .i64 m] 29)
      rw [← ho] at n0 n1 n2 n3
      rw [e0] at n0
      rw [e1] at n1
      rw [e2] at n2
      rcases (show q = w.heap.size + 3 ∨ q = w.heap.size + 2 ∨ q = w.heap.size + 1 ∨ q = w.heap.size by omega) with rfl | rfl | rfl | rfl
      · rw [n0, ho]
      · rw [Below.heap_alloc _ _ _ (by omega), n1, ho]
      · rw [Below.heap_alloc _ _ _ (by omega), Below.heap_alloc _ _ _ (by omega), n2, ho]
      · rw [Below.heap_alloc _ _ _ (by omega), Below.heap_alloc _ _ _ (by omega), Below.heap_alloc _ _ _ (by omega), n3, ho]
    exact ⟨(((((Below.refl _ _).alloc (Nat.le_refl _) _).alloc (by simp) _).alloc (by simp <;> omega) _).alloc (by simp <;> omega) _), key _ (Nat.le_refl _) (by omega), key _ (by omega) a4, key _ (by omega) a5, key _ (by omega) a6, ⟨a1, a2, a3⟩, ⟨a7, a8, a9⟩⟩)
  have HU := Lib.hid (fun (x y : Int) (n m : Nat) h1 h2 h3 h4 w' (hb : Below w.heap.size w w') => isUsable_any p nb mb ss hs g x y n m h1 h2 h3 h4 w' (h.below hb))
  have v1 : IntKind.i64.wrap ((X : Int) - 1) = (X : Int) - 1 := IntWalk.i64_in _ (by omega)
  have v2 : IntKind.i64.wrap ((Y : Int) - 1) = (Y : Int) - 1 := IntWalk.i64_in _ (by omega)
  obtain ⟨n1, hn1⟩ : ∃ n1, n1 = n + 1 := ⟨_, rfl⟩
  obtain ⟨m1, hm1⟩ : ∃ m1, m1 = m + 1 := ⟨_, rfl⟩
  have v3 : IntKind.i64.wrap ((n : Int) + 1) = (n1 : Int) := by rw [IntWalk.i64_in _ (by omega)]; omega
  have v4 : IntKind.i64.wrap ((m : Int) + 1) = (m1 : Int) := by rw [IntWalk.i64_in _ (by omega)]; omega
  obtain ⟨f1, hf1⟩ : ∃ f, f = fullG (usB ss g) (wid ss) ss.length ((X : Int) - 1) Y n1 m := ⟨_, rfl⟩
  obtain ⟨f2, hf2⟩ : ∃ f, f = fullG (usB ss g) (wid ss) ss.length X Y n1 m := ⟨_, rfl⟩
  obtain ⟨f3, hf3⟩ : ∃ f, f = fullG (usB ss g) (wid ss) ss.length X ((Y : Int) - 1) n m1 := ⟨_, rfl⟩
  have HU1 := Lib.hid (fun w' hb => HU.out ((X : Int) - 1) Y n1 m (by omega) hm (by omega) (by omega) w' hb)
  have HU2 := Lib.hid (fun w' hb => HU.out X Y n1 m (by omega) hm (by omega) (by omega) w' hb)
  have HU3 := Lib.hid (fun w' hb => HU.out X ((Y : Int) - 1) n m1 hn (by omega) (by omega) (by omega) w' hb)
  rw [← hf1] at HU1
  rw [← hf2] at HU2
  rw [← hf3] at HU3
  have HGR : Hid (growB (usB ss g) (wid ss) ss.length X Y n m = (f1 || f2 || f3)) := Lib.hid (by unfold growB; rw [hf1, hf2, hf3, hn1, hm1])
  rw [HGR.out]
  clear hs h hn1 hm1 hf1 hf2 hf3 HU hn hm
  go_enter Try.func35, Try.ntmps35
  go_upto_region 1 with fail
  go_cut [5, 6, 7] (fun a b c wx => ∃ i j k : Nat, a = .pointer (some ⟨i, 0, none⟩) ∧ b = .pointer (some ⟨j, 0, none⟩) ∧ c = .pointer (some ⟨k, 0, none⟩) ∧ Hid (CG w i j k #[.int .i64 X, .int .i64 Y, .int .i64 n, .int .i64 m] #[.int .i64 X, .int .i64 Y, .int .i64 n, .int .i64 m] #[.int .i64 X, .int .i64 Y, .int .i64 n, .int .i64 m] #[.int .i64 X, .int .i64 Y, .int .i64 n, .int .i64 m] wx))
  case first =>
    go_region
    all_goals
      go_wp2_with fail
      go_meet
      exact ⟨_, _, _, rfl, rfl, rfl, Lib.hid ((HC.out _ _ _ (by omega) (by omega) (by omega) (by omega) (by omega) (by omega) (by omega) (by omega) (by omega) _ rfl).step (Below.refl _ _).drew)⟩
  case rest =>
  obtain ⟨i, j, k, rfl, rfl, rfl, HK⟩ := hcut
  go_upto_region 2 with fail
  go_cut [] (fun wx => Hid (CG w i j k #[.int .i64 X, .int .i64 Y, .int .i64 n, .int .i64 m] #[.int .i64 ((X : Int) - 1), .int .i64 Y, .int .i64 n1, .int .i64 m] #[.int .i64 X, .int .i64 Y, .int .i64 n, .int .i64 m] #[.int .i64 X, .int .i64 Y, .int .i64 n, .int .i64 m] wx))
  case first =>
    obtain ⟨q0, q1, q2, q3⟩ := block_4 HK.out.hr
    obtain ⟨s0, s1, s2, s3⟩ := block_4 HK.out.hi
    have g0 := block_fz HK.out.hi 0
    have g2 := block_fz HK.out.hi 2
    have lr := block_lt HK.out.hr
    have li := block_lt HK.out.hi
    have HS1 : Hid (CG w i j k #[.int .i64 X, .int .i64 Y, .int .i64 n, .int .i64 m] #[.int .i64 ((X : Int) - 1), .int .i64 Y, .int .i64 n1, .int .i64 m] #[.int .i64 X, .int .i64 Y, .int .i64 n, .int .i64 m] #[.int .i64 X, .int .i64 Y, .int .i64 n, .int .i64 m] ((wc.setCell ⟨i, 0, none⟩ (.int .i64 ((X : Int) - 1))).setCell ⟨i, 2, none⟩ (.int .i64 n1)).drew) := Lib.hid (((HK.out.seti 0 (.int .i64 ((X : Int) - 1))).seti 2 (.int .i64 n1)).step (Below.refl _ _).drew)
    have HS2 : Hid (CG w i j k #[.int .i64 X, .int .i64 Y, .int .i64 n, .int .i64 m] #[.int .i64 ((X : Int) - 1), .int .i64 Y, .int .i64 n1, .int .i64 m] #[.int .i64 X, .int .i64 Y, .int .i64 n, .int .i64 m] #[.int .i64 X, .int .i64 Y, .int .i64 n, .int .i64 m] ((wc.setCell ⟨i, 2, none⟩ (.int .i64 n1)).setCell ⟨i, 0, none⟩ (.int .i64 ((X : Int) - 1))).drew) := Lib.hid (((HK.out.seti 2 (.int .i64 n1)).seti 0 (.int .i64 ((X : Int) - 1))).step (Below.refl _ _).drew)
    have hne := HK.out.lt.1
    have hne2 : w.heap.size ≠ i := by omega
    have hne3 : i ≠ w.heap.size := by omega
    go_region
    all_goals
      go_wp2_with fail
      go_meet
      first | exact HS1 | exact HS2
  case rest =>
  have HK2 := Lib.hid hcut.out
  clear HK hcut
  obtain ⟨q0, q1, q2, q3⟩ := block_4 HK2.out.hr
  obtain ⟨s0, s1, s2, s3⟩ := block_4 HK2.out.hj
  have g2 := block_fz HK2.out.hj 2
  have lr := block_lt HK2.out.hr
  have lj := block_lt HK2.out.hj
  have HK3 : Hid (CG w i j k #[.int .i64 X, .int .i64 Y, .int .i64 n, .int .i64 m] #[.int .i64 ((X : Int) - 1), .int .i64 Y, .int .i64 n1, .int .i64 m] #[.int .i64 X, .int .i64 Y, .int .i64 n1, .int .i64 m] #[.int .i64 X, .int .i64 Y, .int .i64 n, .int .i64 m] (wc.setCell ⟨j, 2, none⟩ (.int .i64 n1))) := Lib.hid ((HK2.out.rot.seti 2 (.int .i64 n1)).rot.rot)
  have hne := HK2.out.lt.2.1
  have hne2 : w.heap.size ≠ j := by omega
  have hne3 : j ≠ w.heap.size := by omega
  go_upto_region 4 with fail
  clear q0 q1 q2 q3 s0 s1 s2 s3 g2 lr lj hne hne2 hne3
  obtain ⟨wy, hwy⟩ : ∃ wy, wy = wc.setCell ⟨j, 2, none⟩ (.int .i64 n1) := ⟨_, rfl⟩
  rw [← hwy] at HK3 ⊢
  clear hwy
  go_cut [] (fun wx => Hid (CG w i j k #[.int .i64 X, .int .i64 Y, .int .i64 n, .int .i64 m] #[.int .i64 ((X : Int) - 1), .int .i64 Y, .int .i64 n1, .int .i64 m] #[.int .i64 X, .int .i64 Y, .int .i64 n1, .int .i64 m] #[.int .i64 X, .int .i64 ((Y : Int) - 1), .int .i64 n, .int .i64 m1] wx))
  case first =>
    obtain ⟨q0, q1, q2, q3⟩ := block_4 HK3.out.hr
    obtain ⟨s0, s1, s2, s3⟩ := block_4 HK3.out.hk
    have g1 := block_fz HK3.out.hk 1
    have g3 := block_fz HK3.out.hk 3
    have lr := block_lt HK3.out.hr
    have lk := block_lt HK3.out.hk
    have HS1 : Hid (CG w i j k #[.int .i64 X, .int .i64 Y, .int .i64 n, .int .i64 m] #[.int .i64 ((X : Int) - 1), .int .i64 Y, .int .i64 n1, .int .i64 m] #[.int .i64 X, .int .i64 Y, .int .i64 n1, .int .i64 m] #[.int .i64 X, .int .i64 ((Y : Int) - 1), .int .i64 n, .int .i64 m1] ((wy.setCell ⟨k, 1, none⟩ (.int .i64 ((Y : Int) - 1))).setCell ⟨k, 3, none⟩ (.int .i64 m1)).drew) := Lib.hid (((HK3.out.rot.rot.seti 1 (.int .i64 ((Y : Int) - 1))).seti 3 (.int .i64 m1)).rot.step (Below.refl _ _).drew)
    have HS2 : Hid (CG w i j k #[.int .i64 X, .int .i64 Y, .int .i64 n, .int .i64 m] #[.int .i64 ((X : Int) - 1), .int .i64 Y, .int .i64 n1, .int .i64 m] #[.int .i64 X, .int .i64 Y, .int .i64 n1, .int .i64 m] #[.int .i64 X, .int .i64 ((Y : Int) - 1), .int .i64 n, .int .i64 m1] ((wy.setCell ⟨k, 3, none⟩ (.int .i64 m1)).setCell ⟨k, 1, none⟩ (.int .i64 ((Y : Int) - 1))).drew) := Lib.hid (((HK3.out.rot.rot.seti 3 (.int .i64 m1)).seti 1 (.int .i64 ((Y : Int) - 1))).rot.step (Below.refl _ _).drew)
    have hne := HK3.out.lt.2.2
    have hne2 : w.heap.size ≠ k := by omega
    have hne3 : k ≠ w.heap.size := by omega
    go_region
    all_goals
      go_wp2_with fail
      go_meet
      first | exact HS1 | exact HS2
  case rest =>
  rename_i wz1
  have HK4 := Lib.hid hcut.out
  clear hcut HK3 HK2
  obtain ⟨s0, s1, s2, s3⟩ := block_4 HK4.out.hi
  have li := block_lt HK4.out.hi
  cases f1 with
  | true =>
    go_wp2_with fail
    refine (HU1.out _ HK4.out.b).mono ?_
    rintro e w1 ⟨rfl, hb⟩
    have HE := Lib.hid (HK4.out.step hb).b
    clear hb s0 s1 s2 s3 li
    go_wp2
    go_ret
    exact ⟨rfl, HE.out⟩
  | false =>
    go_wp2_with fail
    refine (HU1.out _ HK4.out.b).mono ?_
    rintro e w1 ⟨rfl, hb⟩
    have HK5 := Lib.hid (HK4.out.step hb)
    clear hb s0 s1 s2 s3 li
    obtain ⟨s0, s1, s2, s3⟩ := block_4 HK5.out.hj
    have lj := block_lt HK5.out.hj
    cases f2 with
    | true =>
      go_wp2_with fail
      refine (HU2.out _ HK5.out.b).mono ?_
      rintro e w2 ⟨rfl, hb⟩
      have HE := Lib.hid (HK5.out.step hb).b
      clear hb s0 s1 s2 s3 lj
      go_wp2
      go_ret
      exact ⟨rfl, HE.out⟩
    | false =>
      go_wp2_with fail
      refine (HU2.out _ HK5.out.b).mono ?_
      rintro e w2 ⟨rfl, hb⟩
      have HK6 := Lib.hid (HK5.out.step hb)
      clear hb s0 s1 s2 s3 lj
      obtain ⟨s0, s1, s2, s3⟩ := block_4 HK6.out.hk
      have lk := block_lt HK6.out.hk
      go_wp2_with fail
      refine (HU3.out _ HK6.out.b).mono ?_
      rintro e w3 ⟨rfl, hb⟩
      have HE := Lib.hid (HK6.out.step hb).b
      clear hb s0 s1 s2 s3 lk
      go_wp2
      go_ret
      exact ⟨by simp, HE.out⟩

end Go.Proofs.Ytndhnpljdldlpab

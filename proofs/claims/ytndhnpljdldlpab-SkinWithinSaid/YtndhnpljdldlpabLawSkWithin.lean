/- SkinWithin: each usable rectangle lies within one of Maximal, and Largest is one of them; for every slice of strings, every least grade and every rectangle; no condition. -/
import Derived.Test.YtndhnpljdldlpabRows
import Derived.ProofKit
import Derived.OpenShut
import Derived.Lib.SmallJoins
import Derived.Test.YtndhnpljdldlpabSmU
import Derived.Test.YtndhnpljdldlpabSmX
import Derived.Test.YtndhnpljdldlpabSmY
import Derived.Test.YtndhnpljdldlpabSmL
import Derived.Deep.RegionWith
import Derived.Deep.DeepCutAuto
namespace Go.Proofs.Ytndhnpljdldlpab.lawSkinWithin
open Go.ChangeShapes Go.WideShapes Go.ChangeAt Go.RowKit Go.Joins
set_option linter.unusedVariables false

/-- What the law keeps: the boxes of the rectangle and of the best one, the skin, the list. -/
structure Kept (w : World) (b9 : Nat) (x y u v : Int) (p q r s : Nat) (a : Option Addr) (ss : List ByteArray) (a1 : Option Addr) (M : List Rc) (wr : World) : Prop where
  m : Mem w [(b9, #[.int .i64 p, .int .i64 q, .int .i64 r, .int .i64 s], 29), (w.heap.size, #[.int .i64 x, .int .i64 y, .int .i64 u, .int .i64 v], 29)] wr
  s1 : StrS wr a ss
  r1 : RecS wr a1 M
theorem Kept.step {w : World} {b9 : Nat} {x y u v : Int} {p q r s : Nat} {a : Option Addr} {ss : List ByteArray} {a1 : Option Addr} {M : List Rc} {wr w2 : World} (h : Kept w b9 x y u v p q r s a ss a1 M wr) (hb : Below wr.heap.size wr w2) : Kept w b9 x y u v p q r s a ss a1 M w2 := ⟨h.m.step hb, h.s1.below hb, h.r1.below hb⟩

set_option maxRecDepth 100000 in
set_option maxHeartbeats 6400000 in
theorem walk_yes (a : Option Addr) (cap : Nat) (ss : List ByteArray) (hs : skB ss = true) (g : Int) (h1 : 1 ≤ g) (h9 : g ≤ 9) (x y u v : Int) (w : World) (h : StrS w a ss) :
    Calls Try.prog 4 #[.slice a ss.length cap, .int .i64 g, .agg #[.int .i64 x, .int .i64 y, .int .i64 u, .int .i64 v]] w fun e w' => e = .returned (.bool true) ∧ Below w.heap.size w w' := by
  obtain ⟨⟨hl1, hl2⟩, ⟨hw1, hw2⟩, hrw⟩ := skB_iff.1 hs
  have hl := sk_long hs
  have HM := Lib.hid ((Mem.nil w).alloc #[.int .i64 x, .int .i64 y, .int .i64 u, .int .i64 v] 29)
  have HX := Lib.hid (fun w' (hb : Below w.heap.size w w') => maximal_yes a cap ss hs g h1 h9 w' (h.below hb))
  have HL := Lib.hid (fun w' (hb : Below w.heap.size w w') => large_yes a cap ss hs g h1 h9 w' (h.below hb))
  have HG : Hid (∀ w', Below w.heap.size w w' → Calls Try.prog 13 #[.slice a ss.length cap, .int .i64 g] w' fun e w'' => e = .returned (.bool true) ∧ w' = w'') := Lib.hid (fun w' hb => by
    have := rGood_any a cap ss hl.1 hl.2 g w' (h.below hb)
    rw [show (skB ss && (decide (1 ≤ g) && decide (g ≤ 9))) = true by rw [hs]; simp [h1, h9]] at this
    exact this)
  have hmxl := mxTo_len (usB ss g) (wid ss) ss.length ss.length 0 0 0 hw2 hl2 hl2 (by omega) (by omega) (by omega)
  obtain ⟨MX, hMX⟩ : ∃ MX, MX = mxTo (usB ss g) (wid ss) ss.length ss.length 0 0 0 := ⟨_, rfl⟩
  rw [← hMX] at HX hmxl
  have HMX := Lib.hid hMX
  have HH := Lib.hid (And.intro hs h)
  have hmx64 : (MX.length : Int) ≤ 9223372036854775807 := by omega
  have hss0 : 0 < ss.length := by omega
  have hssI : (0 : Int) < ss.length := by omega
  have hss48 : (ss.length : Int) ≤ 48 := by omega
  obtain ⟨s0, hs0⟩ : ∃ s, s = ss[0] := ⟨_, rfl⟩
  have hz0 : s0.size = wid ss := by rw [hs0]; exact (hrw 0 hss0).1
  have HS0 := Lib.hid hs0
  obtain ⟨W, hW⟩ : ∃ W, W = wid ss := ⟨_, rfl⟩
  have hW2 : W ≤ 48 := by omega
  have HW := Lib.hid hW
  have hzI : (s0.size : Int) = W := by rw [hz0, hW]
  clear hMX hs h hrw hl h1 h9 hs0 hz0 hW
  go_enter Try.func4, Try.ntmps4
  go_wp2_with fail
  refine (HX.out _ HM.out.b).mono ?_
  rintro e w1 ⟨a1, c1, rfl, sr, hb⟩
  have HM1 := Lib.hid (HM.out.step hb)
  have HR1 := Lib.hid sr
  clear hb sr
  go_wp2_with fail
  refine (HL.out _ HM1.out.b).mono ?_
  rintro e w2 ⟨p, q, r, s, E, rfl, hb, hbt, hE⟩
  have HM2 := Lib.hid (HM1.out.step hb)
  have HK : Hid (Kept w w2.heap.size x y u v p q r s a ss a1 MX (w2.alloc (.cells #[.int .i64 p, .int .i64 q, .int .i64 r, .int .i64 s] 29))) := Lib.hid (by
    have hb2 : Below w2.heap.size w2 (w2.alloc (.cells #[.int .i64 p, .int .i64 q, .int .i64 r, .int .i64 s] 29)) := (Below.refl _ _).alloc (Nat.le_refl _) _
    have hm := HM2.out.alloc #[.int .i64 p, .int .i64 q, .int .i64 r, .int .i64 s] 29
    exact ⟨hm, HH.out.2.below hm.b, (HR1.out.below hb).below hb2⟩)
  have HBT := Lib.hid (And.intro hbt hE)
  have HB9 : Hid (∃ z, z = w2.heap.size) := Lib.hid ⟨_, rfl⟩
  clear hb hbt hE
  go_wp2_with fail
  refine (HG.out _ HK.out.m.b).mono ?_
  rintro e w3 ⟨rfl, rfl⟩
  obtain ⟨wk, hwk⟩ : ∃ wk, wk = w2.alloc (.cells #[.int .i64 p, .int .i64 q, .int .i64 r, .int .i64 s] 29) := ⟨_, rfl⟩
  rw [← hwk] at HK ⊢
  clear hwk
  obtain ⟨b9, hb9⟩ : ∃ b9, b9 = w2.heap.size := ⟨_, rfl⟩
  rw [← hb9] at HK ⊢
  clear hb9
  go_upto_region 5 with fail
  go_cut [63] (fun sv wx => sv = .bool false ∧ Hid (Kept w b9 x y u v p q r s a ss a1 MX wx))
  case first =>
    obtain ⟨hbt, hE⟩ := HBT.out
    rcases hE with ⟨h1, h2⟩ | ⟨h1, h2⟩
    · subst h1 h2
      have hz : MX = [] := by rw [HMX.out]; exact none_max hbt
      have hz2 : MX.length = 0 := by rw [hz]; rfl
      have hz3 : ¬ (0 : Int) < MX.length := by omega
      clear hbt hz hz2
      go_wp2_with fail
      go_meet
      exact ⟨by rw [decide_eq_false (by omega : ¬ 0 < MX.length)], HK⟩
    · subst h2
      have hmem : ((p : Int), (q : Int), (r : Int), (s : Int)) ∈ MX := by rw [HMX.out]; exact best_max hbt h1
      have HC := Lib.hid (containsR_any a1 c1 MX hmx64 p q r s hmem wk HK.out.r1)
      have t0 := HK.out.m.cell 0
      have t1 := HK.out.m.cell 1
      have t2 := HK.out.m.cell 2
      have t3 := HK.out.m.cell 3
      have tl := HK.out.m.head_lt
      simp at t0 t1 t2 t3
      clear hbt hmem h1
      go_wp2_with fail
      refine HC.out.mono ?_
      rintro e w4 ⟨rfl, hb⟩
      have HK2 := Lib.hid (HK.out.step hb)
      clear hb t0 t1 t2 t3 tl
      go_wp2_with fail
      go_meet
      exact ⟨rfl, HK2⟩
  case rest =>
  obtain ⟨rfl, HKa⟩ := hcut
  go_upto_region 7 with fail
  go_cut [89] (fun sv wx => ∃ z : Bool, sv = .bool z ∧ Hid (z = false → ∃ X Y U V : Nat, (x = X ∧ y = Y ∧ u = U ∧ v = V) ∧ fullR (usB ss g) (wid ss) ss.length X Y U V) ∧ Hid (Kept w b9 x y u v p q r s a ss a1 MX wx))
  case first =>
    have x0 := HKa.out.m.tail.cell 0
    have x1 := HKa.out.m.tail.cell 1
    have x2 := HKa.out.m.tail.cell 2
    have x3 := HKa.out.m.tail.cell 3
    have xl := HKa.out.m.tail.head_lt
    simp at x0 x1 x2 x3
    have HR := Lib.hid (fun w' => rRect_any x y u v w')
    cases hrb : rectB x y u v with
    | false =>
      rw [hrb] at HR
      clear hrb
      clear HX HL HG HMX HH HM HM1 HR1 HM2 HK HBT HB9 HS0 HW hmxl hmx64
      refine wp_region_held_drew (S := fun _ => True) (by kernel_rfl) trivial (fun hHeld => ?_)
      refine wpAnyH_ready (rs := [0]) (by kernel_rfl) (by simp) ?_
      refine (AllReadyH.cons (o := { dst := some 64, op := Op.load 29 (Operand.tmp 5), type := 29, pos := "law.go:226", after := #[], guard := none }) rfl (fun K hK => ?_) AllReadyH.nil)
      go_simp
      refine hK.out _ _ (trivial) (fun hHeld => ?_)
      clear hK K
      (try simp only [Act.put, List.setIfInBounds_toArray, List.set_cons_zero, List.set_cons_succ])
      refine wpAnyH_ready (rs := [1]) (by kernel_rfl) (by simp) ?_
      refine (AllReadyH.cons (o := { dst := some 65, op := Op.call { callee := Callee.value (Operand.func 15), args := #[Operand.tmp 64], argTypes := #[29] }, type := 4, pos := "law.go:226", after := #[{ on := 0, ground := Ground.data }], guard := none }) rfl (fun K hK => ?_) AllReadyH.nil)
      go_simp
      go_at_call 15
      with_reducible (refine (HR.out _).mono ?_)
      rintro e w5 ⟨rfl, hb5⟩
      have HK5 := Lib.hid ((HKa.out.step (Below.refl _ _).drew).step hb5)
      (try go_wp2_with fail)
      refine hK.out _ _ (trivial) (fun hHeld => ?_)
      clear hK K
      (try simp only [Act.put, List.setIfInBounds_toArray, List.set_cons_zero, List.set_cons_succ])
      refine wpAnyH_take (i := 2) (oi := { dst := some 66, op := Op.unOp UnOp.not 4 (Operand.tmp 65), type := 4, pos := "law.go:226", after := #[{ on := 1, ground := Ground.data }], guard := none }) (v := ?_) rfl (by kernel_rfl) (by kernel_rfl) (by kernel_rfl) (fun _ _ _ h => h) (Or.inl ⟨by rfl, ?_⟩) (by assumption) ?_
      rotate_left
      · intro w' hSw
        (try dsimp only at hSw)
        (try go_split_ands)
        go_simp
        try with_reducible rfl
      (try simp only [Act.put, List.setIfInBounds_toArray, List.set_cons_zero, List.set_cons_succ])
      refine wpAnyH_take (i := 3) (oi := { dst := some 67, op := Op.move (Operand.tmp 66), type := 4, pos := "law.go:226", after := #[{ on := 2, ground := Ground.data }, { on := 1, ground := Ground.chain }], guard := none }) (v := ?_) rfl (by kernel_rfl) (by kernel_rfl) (by kernel_rfl) (fun _ _ _ h => h) (Or.inl ⟨by rfl, ?_⟩) (by assumption) ?_
      rotate_left
      · intro w' hSw
        (try dsimp only at hSw)
        (try go_split_ands)
        go_simp
        try with_reducible rfl
      (try simp only [Act.put, List.setIfInBounds_toArray, List.set_cons_zero, List.set_cons_succ])
      refine wpAnyH_take (i := 4) (oi := { dst := some 68, op := Op.load 29 (Operand.tmp 5), type := 29, pos := "law.go:226", after := #[{ on := 3, ground := Ground.guard }], guard := some (3, false) }) (v := undef) rfl (by kernel_rfl) (by kernel_rfl) (by kernel_rfl) (fun _ _ _ h => h) (Or.inr ⟨by rfl, rfl⟩) (by assumption) ?_
      (try simp only [Act.put, List.setIfInBounds_toArray, List.set_cons_zero, List.set_cons_succ])
      refine wpAnyH_take (i := 5) (oi := { dst := some 69, op := Op.move (Operand.tmp 0), type := 22, pos := "law.go:226", after := #[{ on := 3, ground := Ground.guard }], guard := some (3, false) }) (v := undef) rfl (by kernel_rfl) (by kernel_rfl) (by kernel_rfl) (fun _ _ _ h => h) (Or.inr ⟨by rfl, rfl⟩) (by assumption) ?_
      (try simp only [Act.put, List.setIfInBounds_toArray, List.set_cons_zero, List.set_cons_succ])
      refine wpAnyH_take (i := 6) (oi := { dst := some 70, op := Op.indexAddr 22 (Operand.tmp 69) (Operand.const (Value.int IntKind.i64 0)), type := 0, pos := "law.go:226", after := #[{ on := 5, ground := Ground.data }, { on := 3, ground := Ground.guard }], guard := some (3, false) }) (v := undef) rfl (by kernel_rfl) (by kernel_rfl) (by kernel_rfl) (fun _ _ _ h => h) (Or.inr ⟨by rfl, rfl⟩) (by assumption) ?_
      (try simp only [Act.put, List.setIfInBounds_toArray, List.set_cons_zero, List.set_cons_succ])
      refine wpAnyH_take (i := 7) (oi := { dst := some 71, op := Op.load 9 (Operand.tmp 70), type := 9, pos := "law.go:226", after := #[{ on := 6, ground := Ground.data }, { on := 3, ground := Ground.guard }], guard := some (3, false) }) (v := undef) rfl (by kernel_rfl) (by kernel_rfl) (by kernel_rfl) (fun _ _ _ h => h) (Or.inr ⟨by rfl, rfl⟩) (by assumption) ?_
      (try simp only [Act.put, List.setIfInBounds_toArray, List.set_cons_zero, List.set_cons_succ])
      refine wpAnyH_take (i := 8) (oi := { dst := some 72, op := Op.call { callee := Callee.builtin Builtin.len, args := #[Operand.tmp 71], argTypes := #[9] }, type := 3, pos := "law.go:226", after := #[{ on := 7, ground := Ground.data }, { on := 3, ground := Ground.guard }], guard := some (3, false) }) (v := undef) rfl (by kernel_rfl) (by kernel_rfl) (by kernel_rfl) (fun _ _ _ h => h) (Or.inr ⟨by rfl, rfl⟩) (by assumption) ?_
      (try simp only [Act.put, List.setIfInBounds_toArray, List.set_cons_zero, List.set_cons_succ])
      refine wpAnyH_take (i := 9) (oi := { dst := some 73, op := Op.move (Operand.tmp 0), type := 22, pos := "law.go:226", after := #[{ on := 3, ground := Ground.guard }], guard := some (3, false) }) (v := undef) rfl (by kernel_rfl) (by kernel_rfl) (by kernel_rfl) (fun _ _ _ h => h) (Or.inr ⟨by rfl, rfl⟩) (by assumption) ?_
      (try simp only [Act.put, List.setIfInBounds_toArray, List.set_cons_zero, List.set_cons_succ])
      refine wpAnyH_take (i := 10) (oi := { dst := some 74, op := Op.call { callee := Callee.builtin Builtin.len, args := #[Operand.tmp 73], argTypes := #[22] }, type := 3, pos := "law.go:226", after := #[{ on := 9, ground := Ground.data }, { on := 3, ground := Ground.guard }], guard := some (3, false) }) (v := undef) rfl (by kernel_rfl) (by kernel_rfl) (by kernel_rfl) (fun _ _ _ h => h) (Or.inr ⟨by rfl, rfl⟩) (by assumption) ?_
      (try simp only [Act.put, List.setIfInBounds_toArray, List.set_cons_zero, List.set_cons_succ])
      refine wpAnyH_take (i := 11) (oi := { dst := some 75, op := Op.call { callee := Callee.value (Operand.func 16), args := #[Operand.tmp 68, Operand.tmp 72, Operand.tmp 74], argTypes := #[29, 3, 3] }, type := 4, pos := "law.go:226", after := #[{ on := 4, ground := Ground.data }, { on := 8, ground := Ground.data }, { on := 10, ground := Ground.data }, { on := 3, ground := Ground.chain }, { on := 3, ground := Ground.guard }], guard := some (3, false) }) (v := undef) rfl (by kernel_rfl) (by kernel_rfl) (by kernel_rfl) (fun _ _ _ h => h) (Or.inr ⟨by rfl, rfl⟩) (by assumption) ?_
      (try simp only [Act.put, List.setIfInBounds_toArray, List.set_cons_zero, List.set_cons_succ])
      refine wpAnyH_take (i := 12) (oi := { dst := some 76, op := Op.unOp UnOp.not 4 (Operand.tmp 75), type := 4, pos := "law.go:226", after := #[{ on := 11, ground := Ground.data }, { on := 3, ground := Ground.guard }], guard := some (3, false) }) (v := undef) rfl (by kernel_rfl) (by kernel_rfl) (by kernel_rfl) (fun _ _ _ h => h) (Or.inr ⟨by rfl, rfl⟩) (by assumption) ?_
      (try simp only [Act.put, List.setIfInBounds_toArray, List.set_cons_zero, List.set_cons_succ])
      refine wpAnyH_take (i := 13) (oi := { dst := some 77, op := Op.pick (Operand.tmp 67) (Operand.const (Value.bool true)) (Operand.tmp 76), type := 4, pos := "law.go:226", after := #[{ on := 3, ground := Ground.data }, { on := 12, ground := Ground.data }], guard := none }) (v := ?_) rfl (by kernel_rfl) (by kernel_rfl) (by kernel_rfl) (fun _ _ _ h => h) (Or.inl ⟨by rfl, ?_⟩) (by assumption) ?_
      rotate_left
      · intro w' hSw
        (try dsimp only at hSw)
        (try go_split_ands)
        go_simp
        try with_reducible rfl
      (try simp only [Act.put, List.setIfInBounds_toArray, List.set_cons_zero, List.set_cons_succ])
      refine wpAnyH_take (i := 14) (oi := { dst := some 78, op := Op.move (Operand.tmp 77), type := 4, pos := "law.go:226", after := #[{ on := 13, ground := Ground.data }, { on := 11, ground := Ground.chain }], guard := none }) (v := ?_) rfl (by kernel_rfl) (by kernel_rfl) (by kernel_rfl) (fun _ _ _ h => h) (Or.inl ⟨by rfl, ?_⟩) (by assumption) ?_
      rotate_left
      · intro w' hSw
        (try dsimp only at hSw)
        (try go_split_ands)
        go_simp
        try with_reducible rfl
      (try simp only [Act.put, List.setIfInBounds_toArray, List.set_cons_zero, List.set_cons_succ])
      refine wpAnyH_take (i := 15) (oi := { dst := some 79, op := Op.move (Operand.tmp 0), type := 22, pos := "law.go:226", after := #[{ on := 14, ground := Ground.guard }], guard := some (14, false) }) (v := undef) rfl (by kernel_rfl) (by kernel_rfl) (by kernel_rfl) (fun _ _ _ h => h) (Or.inr ⟨by rfl, rfl⟩) (by assumption) ?_
      (try simp only [Act.put, List.setIfInBounds_toArray, List.set_cons_zero, List.set_cons_succ])
      refine wpAnyH_take (i := 16) (oi := { dst := some 80, op := Op.move (Operand.tmp 1), type := 3, pos := "law.go:226", after := #[{ on := 14, ground := Ground.guard }], guard := some (14, false) }) (v := undef) rfl (by kernel_rfl) (by kernel_rfl) (by kernel_rfl) (fun _ _ _ h => h) (Or.inr ⟨by rfl, rfl⟩) (by assumption) ?_
      (try simp only [Act.put, List.setIfInBounds_toArray, List.set_cons_zero, List.set_cons_succ])
      refine wpAnyH_take (i := 17) (oi := { dst := some 81, op := Op.load 29 (Operand.tmp 5), type := 29, pos := "law.go:226", after := #[{ on := 14, ground := Ground.guard }], guard := some (14, false) }) (v := undef) rfl (by kernel_rfl) (by kernel_rfl) (by kernel_rfl) (fun _ _ _ h => h) (Or.inr ⟨by rfl, rfl⟩) (by assumption) ?_
      (try simp only [Act.put, List.setIfInBounds_toArray, List.set_cons_zero, List.set_cons_succ])
      refine wpAnyH_take (i := 18) (oi := { dst := some 82, op := Op.call { callee := Callee.value (Operand.func 17), args := #[Operand.tmp 79, Operand.tmp 80, Operand.tmp 81], argTypes := #[22, 3, 29] }, type := 3, pos := "law.go:226", after := #[{ on := 15, ground := Ground.data }, { on := 16, ground := Ground.data }, { on := 17, ground := Ground.data }, { on := 14, ground := Ground.chain }, { on := 14, ground := Ground.guard }], guard := some (14, false) }) (v := undef) rfl (by kernel_rfl) (by kernel_rfl) (by kernel_rfl) (fun _ _ _ h => h) (Or.inr ⟨by rfl, rfl⟩) (by assumption) ?_
      (try simp only [Act.put, List.setIfInBounds_toArray, List.set_cons_zero, List.set_cons_succ])
      refine wpAnyH_take (i := 19) (oi := { dst := some 83, op := Op.fieldAddr 29 (Operand.tmp 5) 2, type := 0, pos := "law.go:226", after := #[{ on := 14, ground := Ground.guard }], guard := some (14, false) }) (v := undef) rfl (by kernel_rfl) (by kernel_rfl) (by kernel_rfl) (fun _ _ _ h => h) (Or.inr ⟨by rfl, rfl⟩) (by assumption) ?_
      (try simp only [Act.put, List.setIfInBounds_toArray, List.set_cons_zero, List.set_cons_succ])
      refine wpAnyH_take (i := 20) (oi := { dst := some 84, op := Op.load 3 (Operand.tmp 83), type := 3, pos := "law.go:226", after := #[{ on := 19, ground := Ground.data }, { on := 14, ground := Ground.guard }], guard := some (14, false) }) (v := undef) rfl (by kernel_rfl) (by kernel_rfl) (by kernel_rfl) (fun _ _ _ h => h) (Or.inr ⟨by rfl, rfl⟩) (by assumption) ?_
      (try simp only [Act.put, List.setIfInBounds_toArray, List.set_cons_zero, List.set_cons_succ])
      refine wpAnyH_take (i := 21) (oi := { dst := some 85, op := Op.fieldAddr 29 (Operand.tmp 5) 3, type := 0, pos := "law.go:226", after := #[{ on := 14, ground := Ground.guard }], guard := some (14, false) }) (v := undef) rfl (by kernel_rfl) (by kernel_rfl) (by kernel_rfl) (fun _ _ _ h => h) (Or.inr ⟨by rfl, rfl⟩) (by assumption) ?_
      (try simp only [Act.put, List.setIfInBounds_toArray, List.set_cons_zero, List.set_cons_succ])
      refine wpAnyH_take (i := 22) (oi := { dst := some 86, op := Op.load 3 (Operand.tmp 85), type := 3, pos := "law.go:226", after := #[{ on := 21, ground := Ground.data }, { on := 14, ground := Ground.guard }], guard := some (14, false) }) (v := undef) rfl (by kernel_rfl) (by kernel_rfl) (by kernel_rfl) (fun _ _ _ h => h) (Or.inr ⟨by rfl, rfl⟩) (by assumption) ?_
      (try simp only [Act.put, List.setIfInBounds_toArray, List.set_cons_zero, List.set_cons_succ])
      refine wpAnyH_take (i := 23) (oi := { dst := some 87, op := Op.binOp BinOp.mul 3 (Operand.tmp 84) (Operand.tmp 86) 3, type := 3, pos := "law.go:226", after := #[{ on := 20, ground := Ground.data }, { on := 22, ground := Ground.data }, { on := 14, ground := Ground.guard }], guard := some (14, false) }) (v := undef) rfl (by kernel_rfl) (by kernel_rfl) (by kernel_rfl) (fun _ _ _ h => h) (Or.inr ⟨by rfl, rfl⟩) (by assumption) ?_
      (try simp only [Act.put, List.setIfInBounds_toArray, List.set_cons_zero, List.set_cons_succ])
      refine wpAnyH_take (i := 24) (oi := { dst := some 88, op := Op.binOp BinOp.neq 3 (Operand.tmp 82) (Operand.tmp 87) 3, type := 4, pos := "law.go:226", after := #[{ on := 18, ground := Ground.data }, { on := 23, ground := Ground.data }, { on := 14, ground := Ground.guard }], guard := some (14, false) }) (v := undef) rfl (by kernel_rfl) (by kernel_rfl) (by kernel_rfl) (fun _ _ _ h => h) (Or.inr ⟨by rfl, rfl⟩) (by assumption) ?_
      (try simp only [Act.put, List.setIfInBounds_toArray, List.set_cons_zero, List.set_cons_succ])
      refine wpAnyH_take (i := 25) (oi := { dst := some 89, op := Op.pick (Operand.tmp 78) (Operand.const (Value.bool true)) (Operand.tmp 88), type := 4, pos := "law.go:226", after := #[{ on := 14, ground := Ground.data }, { on := 24, ground := Ground.data }], guard := none }) (v := ?_) rfl (by kernel_rfl) (by kernel_rfl) (by kernel_rfl) (fun _ _ _ h => h) (Or.inl ⟨by rfl, ?_⟩) (by assumption) ?_
      rotate_left
      · intro w' hSw
        (try dsimp only at hSw)
        (try go_split_ands)
        go_simp
        try with_reducible rfl
      (try simp only [Act.put, List.setIfInBounds_toArray, List.set_cons_zero, List.set_cons_succ])
      refine wpAnyH_done (by kernel_rfl) ?_ _
      go_wp2_with fail
      go_meet
      exact ⟨true, rfl, Lib.hid (fun h => by cases h), HK5⟩
    | true =>
      obtain ⟨r1, r2, r3, r4⟩ := rectB_iff.1 hrb
      rw [hrb] at HR
      obtain ⟨b1, off1, hab, hb1, hd1⟩ := HKa.out.s1.at_ hss0
      rw [← HS0.out, Nat.add_zero] at hd1
      have HLI := Lib.hid (rLies_any x y u v W ss.length hW2 hl2 r3 r4)
      have HQ : Hid (∀ w', Below wc.heap.size wc w' → Below wc.heap.size wc w' ∧ w'.cell? ⟨b1, off1, none⟩ = some (.string s0) ∧ w'.cell? ⟨w.heap.size, 0, none⟩ = some (.int .i64 x) ∧ w'.cell? ⟨w.heap.size, 1, none⟩ = some (.int .i64 y) ∧ w'.cell? ⟨w.heap.size, 2, none⟩ = some (.int .i64 u) ∧ w'.cell? ⟨w.heap.size, 3, none⟩ = some (.int .i64 v)) := Lib.hid (fun w' hb => ⟨hb, (hb.cell (p := ⟨b1, off1, none⟩) hb1).trans hd1, (HKa.out.m.tail.step hb).cell 0, (HKa.out.m.tail.step hb).cell 1, (HKa.out.m.tail.step hb).cell 2, (HKa.out.m.tail.step hb).cell 3⟩)
      cases hlb : liesB x y u v W ss.length with
      | false =>
        rw [hlb] at HLI
        subst hab
        clear hrb hlb r1 r2 r3 r4
        clear HX HG HMX HH HM HM1 HR1 HM2 HK HBT HB9 HS0 HW hmxl hmx64
        refine wp_region_held_drew (S := fun w' => w'.cell? ⟨b1, off1, none⟩ = some (.string s0) ∧ w'.cell? ⟨w.heap.size, 0, none⟩ = some (.int .i64 x) ∧ w'.cell? ⟨w.heap.size, 1, none⟩ = some (.int .i64 y) ∧ w'.cell? ⟨w.heap.size, 2, none⟩ = some (.int .i64 u) ∧ w'.cell? ⟨w.heap.size, 3, none⟩ = some (.int .i64 v)) (by kernel_rfl) (HQ.out _ (Below.refl _ _).drew).2 (fun hHeld => ?_)
        refine wpAnyH_take (i := 0) (oi := { dst := some 64, op := Op.load 29 (Operand.tmp 5), type := 29, pos := "law.go:226", after := #[], guard := none }) (v := ?_) rfl (by kernel_rfl) (by kernel_rfl) (by kernel_rfl) (fun _ _ _ h => h) (Or.inl ⟨by rfl, ?_⟩) (by assumption) ?_
        rotate_left
        · intro w' hSw
          (try dsimp only at hSw)
          (try go_split_ands)
          go_simp
          try with_reducible rfl
        (try simp only [Act.put, List.setIfInBounds_toArray, List.set_cons_zero, List.set_cons_succ])
        refine wpAnyH_ready (rs := [1]) (by kernel_rfl) (by simp) ?_
        refine (AllReadyH.cons (o := { dst := some 65, op := Op.call { callee := Callee.value (Operand.func 15), args := #[Operand.tmp 64], argTypes := #[29] }, type := 4, pos := "law.go:226", after := #[{ on := 0, ground := Ground.data }], guard := none }) rfl (fun K hK => ?_) AllReadyH.nil)
        go_simp
        go_at_call 15
        with_reducible (refine (HR.out _).mono ?_)
        rintro e w5 ⟨rfl, hb5⟩
        have HK5 := Lib.hid ((HKa.out.step (Below.refl _ _).drew).step hb5)
        have HB5 := Lib.hid ((Below.refl wc.heap.size wc).drew.trans (hb5.mono (Below.refl wc.heap.size wc).drew.size))
        (try go_wp2_with fail)
        refine hK.out _ _ ((HQ.out _ HB5.out).2) (fun hHeld => ?_)
        clear hK K
        (try simp only [Act.put, List.setIfInBounds_toArray, List.set_cons_zero, List.set_cons_succ])
        refine wpAnyH_take (i := 2) (oi := { dst := some 66, op := Op.unOp UnOp.not 4 (Operand.tmp 65), type := 4, pos := "law.go:226", after := #[{ on := 1, ground := Ground.data }], guard := none }) (v := ?_) rfl (by kernel_rfl) (by kernel_rfl) (by kernel_rfl) (fun _ _ _ h => h) (Or.inl ⟨by rfl, ?_⟩) (by assumption) ?_
        rotate_left
        · intro w' hSw
          (try dsimp only at hSw)
          (try go_split_ands)
          go_simp
          try with_reducible rfl
        (try simp only [Act.put, List.setIfInBounds_toArray, List.set_cons_zero, List.set_cons_succ])
        refine wpAnyH_take (i := 3) (oi := { dst := some 67, op := Op.move (Operand.tmp 66), type := 4, pos := "law.go:226", after := #[{ on := 2, ground := Ground.data }, { on := 1, ground := Ground.chain }], guard := none }) (v := ?_) rfl (by kernel_rfl) (by kernel_rfl) (by kernel_rfl) (fun _ _ _ h => h) (Or.inl ⟨by rfl, ?_⟩) (by assumption) ?_
        rotate_left
        · intro w' hSw
          (try dsimp only at hSw)
          (try go_split_ands)
          go_simp
          try with_reducible rfl
        (try simp only [Act.put, List.setIfInBounds_toArray, List.set_cons_zero, List.set_cons_succ])
        refine wpAnyH_take (i := 4) (oi := { dst := some 68, op := Op.load 29 (Operand.tmp 5), type := 29, pos := "law.go:226", after := #[{ on := 3, ground := Ground.guard }], guard := some (3, false) }) (v := ?_) rfl (by kernel_rfl) (by kernel_rfl) (by kernel_rfl) (fun _ _ _ h => h) (Or.inl ⟨by rfl, ?_⟩) (by assumption) ?_
        rotate_left
        · intro w' hSw
          (try dsimp only at hSw)
          (try go_split_ands)
          go_simp
          try with_reducible rfl
        (try simp only [Act.put, List.setIfInBounds_toArray, List.set_cons_zero, List.set_cons_succ])
        refine wpAnyH_take (i := 5) (oi := { dst := some 69, op := Op.move (Operand.tmp 0), type := 22, pos := "law.go:226", after := #[{ on := 3, ground := Ground.guard }], guard := some (3, false) }) (v := ?_) rfl (by kernel_rfl) (by kernel_rfl) (by kernel_rfl) (fun _ _ _ h => h) (Or.inl ⟨by rfl, ?_⟩) (by assumption) ?_
        rotate_left
        · intro w' hSw
          (try dsimp only at hSw)
          (try go_split_ands)
          go_simp
          try with_reducible rfl
        (try simp only [Act.put, List.setIfInBounds_toArray, List.set_cons_zero, List.set_cons_succ])
        refine wpAnyH_take (i := 6) (oi := { dst := some 70, op := Op.indexAddr 22 (Operand.tmp 69) (Operand.const (Value.int IntKind.i64 0)), type := 0, pos := "law.go:226", after := #[{ on := 5, ground := Ground.data }, { on := 3, ground := Ground.guard }], guard := some (3, false) }) (v := ?_) rfl (by kernel_rfl) (by kernel_rfl) (by kernel_rfl) (fun _ _ _ h => h) (Or.inl ⟨by rfl, ?_⟩) (by assumption) ?_
        rotate_left
        · intro w' hSw
          (try dsimp only at hSw)
          (try go_split_ands)
          go_simp
          try with_reducible rfl
        (try simp only [Act.put, List.setIfInBounds_toArray, List.set_cons_zero, List.set_cons_succ])
        refine wpAnyH_take (i := 7) (oi := { dst := some 71, op := Op.load 9 (Operand.tmp 70), type := 9, pos := "law.go:226", after := #[{ on := 6, ground := Ground.data }, { on := 3, ground := Ground.guard }], guard := some (3, false) }) (v := ?_) rfl (by kernel_rfl) (by kernel_rfl) (by kernel_rfl) (fun _ _ _ h => h) (Or.inl ⟨by rfl, ?_⟩) (by assumption) ?_
        rotate_left
        · intro w' hSw
          (try dsimp only at hSw)
          (try go_split_ands)
          go_simp
          try with_reducible rfl
        (try simp only [Act.put, List.setIfInBounds_toArray, List.set_cons_zero, List.set_cons_succ])
        refine wpAnyH_take (i := 8) (oi := { dst := some 72, op := Op.call { callee := Callee.builtin Builtin.len, args := #[Operand.tmp 71], argTypes := #[9] }, type := 3, pos := "law.go:226", after := #[{ on := 7, ground := Ground.data }, { on := 3, ground := Ground.guard }], guard := some (3, false) }) (v := ?_) rfl (by kernel_rfl) (by kernel_rfl) (by kernel_rfl) (fun _ _ _ h => h) (Or.inl ⟨by rfl, ?_⟩) (by assumption) ?_
        rotate_left
        · intro w' hSw
          (try dsimp only at hSw)
          (try go_split_ands)
          go_simp
          try with_reducible rfl
        (try simp only [Act.put, List.setIfInBounds_toArray, List.set_cons_zero, List.set_cons_succ])
        refine wpAnyH_take (i := 9) (oi := { dst := some 73, op := Op.move (Operand.tmp 0), type := 22, pos := "law.go:226", after := #[{ on := 3, ground := Ground.guard }], guard := some (3, false) }) (v := ?_) rfl (by kernel_rfl) (by kernel_rfl) (by kernel_rfl) (fun _ _ _ h => h) (Or.inl ⟨by rfl, ?_⟩) (by assumption) ?_
        rotate_left
        · intro w' hSw
          (try dsimp only at hSw)
          (try go_split_ands)
          go_simp
          try with_reducible rfl
        (try simp only [Act.put, List.setIfInBounds_toArray, List.set_cons_zero, List.set_cons_succ])
        refine wpAnyH_take (i := 10) (oi := { dst := some 74, op := Op.call { callee := Callee.builtin Builtin.len, args := #[Operand.tmp 73], argTypes := #[22] }, type := 3, pos := "law.go:226", after := #[{ on := 9, ground := Ground.data }, { on := 3, ground := Ground.guard }], guard := some (3, false) }) (v := ?_) rfl (by kernel_rfl) (by kernel_rfl) (by kernel_rfl) (fun _ _ _ h => h) (Or.inl ⟨by rfl, ?_⟩) (by assumption) ?_
        rotate_left
        · intro w' hSw
          (try dsimp only at hSw)
          (try go_split_ands)
          go_simp
          try with_reducible rfl
        (try simp only [Act.put, List.setIfInBounds_toArray, List.set_cons_zero, List.set_cons_succ])
        refine wpAnyH_ready (rs := [11]) (by kernel_rfl) (by simp) ?_
        refine (AllReadyH.cons (o := { dst := some 75, op := Op.call { callee := Callee.value (Operand.func 16), args := #[Operand.tmp 68, Operand.tmp 72, Operand.tmp 74], argTypes := #[29, 3, 3] }, type := 4, pos := "law.go:226", after := #[{ on := 4, ground := Ground.data }, { on := 8, ground := Ground.data }, { on := 10, ground := Ground.data }, { on := 3, ground := Ground.chain }, { on := 3, ground := Ground.guard }], guard := some (3, false) }) rfl (fun K hK => ?_) AllReadyH.nil)
        go_simp
        go_at_call 16
        with_reducible (refine (HLI.out _).mono ?_)
        rintro e w6 ⟨rfl, hb6⟩
        have HK6 := Lib.hid (HK5.out.step hb6)
        have HB6 := Lib.hid (HB5.out.trans (hb6.mono HB5.out.size))
        (try go_wp2_with fail)
        refine hK.out _ _ ((HQ.out _ HB6.out).2) (fun hHeld => ?_)
        clear hK K
        (try simp only [Act.put, List.setIfInBounds_toArray, List.set_cons_zero, List.set_cons_succ])
        refine wpAnyH_take (i := 12) (oi := { dst := some 76, op := Op.unOp UnOp.not 4 (Operand.tmp 75), type := 4, pos := "law.go:226", after := #[{ on := 11, ground := Ground.data }, { on := 3, ground := Ground.guard }], guard := some (3, false) }) (v := ?_) rfl (by kernel_rfl) (by kernel_rfl) (by kernel_rfl) (fun _ _ _ h => h) (Or.inl ⟨by rfl, ?_⟩) (by assumption) ?_
        rotate_left
        · intro w' hSw
          (try dsimp only at hSw)
          (try go_split_ands)
          go_simp
          try with_reducible rfl
        (try simp only [Act.put, List.setIfInBounds_toArray, List.set_cons_zero, List.set_cons_succ])
        refine wpAnyH_take (i := 13) (oi := { dst := some 77, op := Op.pick (Operand.tmp 67) (Operand.const (Value.bool true)) (Operand.tmp 76), type := 4, pos := "law.go:226", after := #[{ on := 3, ground := Ground.data }, { on := 12, ground := Ground.data }], guard := none }) (v := ?_) rfl (by kernel_rfl) (by kernel_rfl) (by kernel_rfl) (fun _ _ _ h => h) (Or.inl ⟨by rfl, ?_⟩) (by assumption) ?_
        rotate_left
        · intro w' hSw
          (try dsimp only at hSw)
          (try go_split_ands)
          go_simp
          try with_reducible rfl
        (try simp only [Act.put, List.setIfInBounds_toArray, List.set_cons_zero, List.set_cons_succ])
        refine wpAnyH_take (i := 14) (oi := { dst := some 78, op := Op.move (Operand.tmp 77), type := 4, pos := "law.go:226", after := #[{ on := 13, ground := Ground.data }, { on := 11, ground := Ground.chain }], guard := none }) (v := ?_) rfl (by kernel_rfl) (by kernel_rfl) (by kernel_rfl) (fun _ _ _ h => h) (Or.inl ⟨by rfl, ?_⟩) (by assumption) ?_
        rotate_left
        · intro w' hSw
          (try dsimp only at hSw)
          (try go_split_ands)
          go_simp
          try with_reducible rfl
        (try simp only [Act.put, List.setIfInBounds_toArray, List.set_cons_zero, List.set_cons_succ])
        refine wpAnyH_take (i := 15) (oi := { dst := some 79, op := Op.move (Operand.tmp 0), type := 22, pos := "law.go:226", after := #[{ on := 14, ground := Ground.guard }], guard := some (14, false) }) (v := undef) rfl (by kernel_rfl) (by kernel_rfl) (by kernel_rfl) (fun _ _ _ h => h) (Or.inr ⟨by rfl, rfl⟩) (by assumption) ?_
        (try simp only [Act.put, List.setIfInBounds_toArray, List.set_cons_zero, List.set_cons_succ])
        refine wpAnyH_take (i := 16) (oi := { dst := some 80, op := Op.move (Operand.tmp 1), type := 3, pos := "law.go:226", after := #[{ on := 14, ground := Ground.guard }], guard := some (14, false) }) (v := undef) rfl (by kernel_rfl) (by kernel_rfl) (by kernel_rfl) (fun _ _ _ h => h) (Or.inr ⟨by rfl, rfl⟩) (by assumption) ?_
        (try simp only [Act.put, List.setIfInBounds_toArray, List.set_cons_zero, List.set_cons_succ])
        refine wpAnyH_take (i := 17) (oi := { dst := some 81, op := Op.load 29 (Operand.tmp 5), type := 29, pos := "law.go:226", after := #[{ on := 14, ground := Ground.guard }], guard := some (14, false) }) (v := undef) rfl (by kernel_rfl) (by kernel_rfl) (by kernel_rfl) (fun _ _ _ h => h) (Or.inr ⟨by rfl, rfl⟩) (by assumption) ?_
        (try simp only [Act.put, List.setIfInBounds_toArray, List.set_cons_zero, List.set_cons_succ])
        refine wpAnyH_take (i := 18) (oi := { dst := some 82, op := Op.call { callee := Callee.value (Operand.func 17), args := #[Operand.tmp 79, Operand.tmp 80, Operand.tmp 81], argTypes := #[22, 3, 29] }, type := 3, pos := "law.go:226", after := #[{ on := 15, ground := Ground.data }, { on := 16, ground := Ground.data }, { on := 17, ground := Ground.data }, { on := 14, ground := Ground.chain }, { on := 14, ground := Ground.guard }], guard := some (14, false) }) (v := undef) rfl (by kernel_rfl) (by kernel_rfl) (by kernel_rfl) (fun _ _ _ h => h) (Or.inr ⟨by rfl, rfl⟩) (by assumption) ?_
        (try simp only [Act.put, List.setIfInBounds_toArray, List.set_cons_zero, List.set_cons_succ])
        refine wpAnyH_take (i := 19) (oi := { dst := some 83, op := Op.fieldAddr 29 (Operand.tmp 5) 2, type := 0, pos := "law.go:226", after := #[{ on := 14, ground := Ground.guard }], guard := some (14, false) }) (v := undef) rfl (by kernel_rfl) (by kernel_rfl) (by kernel_rfl) (fun _ _ _ h => h) (Or.inr ⟨by rfl, rfl⟩) (by assumption) ?_
        (try simp only [Act.put, List.setIfInBounds_toArray, List.set_cons_zero, List.set_cons_succ])
        refine wpAnyH_take (i := 20) (oi := { dst := some 84, op := Op.load 3 (Operand.tmp 83), type := 3, pos := "law.go:226", after := #[{ on := 19, ground := Ground.data }, { on := 14, ground := Ground.guard }], guard := some (14, false) }) (v := undef) rfl (by kernel_rfl) (by kernel_rfl) (by kernel_rfl) (fun _ _ _ h => h) (Or.inr ⟨by rfl, rfl⟩) (by assumption) ?_
        (try simp only [Act.put, List.setIfInBounds_toArray, List.set_cons_zero, List.set_cons_succ])
        refine wpAnyH_take (i := 21) (oi := { dst := some 85, op := Op.fieldAddr 29 (Operand.tmp 5) 3, type := 0, pos := "law.go:226", after := #[{ on := 14, ground := Ground.guard }], guard := some (14, false) }) (v := undef) rfl (by kernel_rfl) (by kernel_rfl) (by kernel_rfl) (fun _ _ _ h => h) (Or.inr ⟨by rfl, rfl⟩) (by assumption) ?_
        (try simp only [Act.put, List.setIfInBounds_toArray, List.set_cons_zero, List.set_cons_succ])
        refine wpAnyH_take (i := 22) (oi := { dst := some 86, op := Op.load 3 (Operand.tmp 85), type := 3, pos := "law.go:226", after := #[{ on := 21, ground := Ground.data }, { on := 14, ground := Ground.guard }], guard := some (14, false) }) (v := undef) rfl (by kernel_rfl) (by kernel_rfl) (by kernel_rfl) (fun _ _ _ h => h) (Or.inr ⟨by rfl, rfl⟩) (by assumption) ?_
        (try simp only [Act.put, List.setIfInBounds_toArray, List.set_cons_zero, List.set_cons_succ])
        refine wpAnyH_take (i := 23) (oi := { dst := some 87, op := Op.binOp BinOp.mul 3 (Operand.tmp 84) (Operand.tmp 86) 3, type := 3, pos := "law.go:226", after := #[{ on := 20, ground := Ground.data }, { on := 22, ground := Ground.data }, { on := 14, ground := Ground.guard }], guard := some (14, false) }) (v := undef) rfl (by kernel_rfl) (by kernel_rfl) (by kernel_rfl) (fun _ _ _ h => h) (Or.inr ⟨by rfl, rfl⟩) (by assumption) ?_
        (try simp only [Act.put, List.setIfInBounds_toArray, List.set_cons_zero, List.set_cons_succ])
        refine wpAnyH_take (i := 24) (oi := { dst := some 88, op := Op.binOp BinOp.neq 3 (Operand.tmp 82) (Operand.tmp 87) 3, type := 4, pos := "law.go:226", after := #[{ on := 18, ground := Ground.data }, { on := 23, ground := Ground.data }, { on := 14, ground := Ground.guard }], guard := some (14, false) }) (v := undef) rfl (by kernel_rfl) (by kernel_rfl) (by kernel_rfl) (fun _ _ _ h => h) (Or.inr ⟨by rfl, rfl⟩) (by assumption) ?_
        (try simp only [Act.put, List.setIfInBounds_toArray, List.set_cons_zero, List.set_cons_succ])
        refine wpAnyH_take (i := 25) (oi := { dst := some 89, op := Op.pick (Operand.tmp 78) (Operand.const (Value.bool true)) (Operand.tmp 88), type := 4, pos := "law.go:226", after := #[{ on := 14, ground := Ground.data }, { on := 24, ground := Ground.data }], guard := none }) (v := ?_) rfl (by kernel_rfl) (by kernel_rfl) (by kernel_rfl) (fun _ _ _ h => h) (Or.inl ⟨by rfl, ?_⟩) (by assumption) ?_
        rotate_left
        · intro w' hSw
          (try dsimp only at hSw)
          (try go_split_ands)
          go_simp
          try with_reducible rfl
        (try simp only [Act.put, List.setIfInBounds_toArray, List.set_cons_zero, List.set_cons_succ])
        refine wpAnyH_done (by kernel_rfl) ?_ _
        go_wp2_with fail
        go_meet
        exact ⟨true, rfl, Lib.hid (fun h => by cases h), HK6⟩
      | true =>
        obtain ⟨z1, z2, z3, z4⟩ := liesB_iff.1 hlb
        rw [hlb] at HLI
        obtain ⟨X, rfl⟩ := Int.eq_ofNat_of_zero_le r1
        obtain ⟨Y, rfl⟩ := Int.eq_ofNat_of_zero_le r2
        obtain ⟨U, rfl⟩ := Int.eq_ofNat_of_zero_le (show 0 ≤ u by omega)
        obtain ⟨V, rfl⟩ := Int.eq_ofNat_of_zero_le (show 0 ≤ v by omega)
        have HRC := Lib.hid (fun w' hb => rCount_any a cap ss HH.out.1 g X Y U V (by rw [← HW.out]; omega) (by omega) w' hb)
        have hF := fullB_iff (U := usB ss g) (W := wid ss) (H := ss.length) (x := X) (y := Y) (n := U) (m := V) (by omega) (by omega) (by rw [← HW.out]; omega) (by omega)
        unfold fullB at hF
        obtain ⟨c, hc⟩ : ∃ c : Int, c = cBox (usB ss g) X U Y V := ⟨_, rfl⟩
        obtain ⟨P, hP⟩ : ∃ P, P = U * V := ⟨_, rfl⟩
        have hpb : P ≤ 48 * 48 := by rw [hP]; exact Nat.mul_le_mul (by omega) (by omega)
        have v1 : IntKind.i64.wrap ((U : Int) * (V : Int)) = (P : Int) := by rw [show (U : Int) * (V : Int) = (P : Int) by rw [hP]; simp]; exact IntWalk.i64_in _ (by omega)
        rw [← hc, ← hP, decide_eq_true_iff] at hF
        rw [← hc] at HRC
        have HF := Lib.hid hF
        have HKs := Lib.hid (fun w' (hb : Below wc.heap.size wc w') => (HKa.out.step hb).s1)
        clear hrb hlb r1 r2 r3 r4 z1 z2 z3 z4 hc hF hP
        subst hab
        go_region_held3 (fun w' => Below wc.heap.size wc w' ∧ w'.cell? ⟨b1, off1, none⟩ = some (.string s0) ∧ w'.cell? ⟨w.heap.size, 0, none⟩ = some (.int .i64 X) ∧ w'.cell? ⟨w.heap.size, 1, none⟩ = some (.int .i64 Y) ∧ w'.cell? ⟨w.heap.size, 2, none⟩ = some (.int .i64 U) ∧ w'.cell? ⟨w.heap.size, 3, none⟩ = some (.int .i64 V))
          (first | exact HQ.out _ (Below.refl _ _) | exact HQ.out _ (Below.refl _ _).drew | (go_split_ands; exact HQ.out _ (Below.trans (by assumption) (Below.mono (by assumption) (Below.size (by assumption))))))
          (first
            | (go_at_call 15; go_split_ands; with_reducible (refine (HR.out _).mono ?_); rintro e w5 ⟨rfl, hb5⟩)
            | (go_at_call 16; go_split_ands; with_reducible (refine (HLI.out _).mono ?_); rintro e w6 ⟨rfl, hb6⟩)
            | (go_at_call 17; go_split_ands; with_reducible (refine (HRC.out _ (HKs.out _ (by assumption))).mono ?_); rintro e w7 ⟨rfl, hb7⟩))
        go_split_ands
        have HK7 := Lib.hid (HKa.out.step (by assumption))
        go_wp2_with fail
        go_meet
        exact ⟨_, rfl, Lib.hid (fun h => ⟨X, Y, U, V, ⟨rfl, rfl, rfl, rfl⟩, HF.out.1 (by simpa using h)⟩), HK7⟩
  case rest =>
  obtain ⟨z, rfl, HZ, HKb⟩ := hcut
  cases z with
  | true =>
    go_wp2_with fail
    refine (skAwake_any _).mono ?_
    rintro e w9 ⟨rfl, hb⟩
    have HE := Lib.hid (HKb.out.m.b.trans (hb.mono HKb.out.m.b.size))
    clear hb
    go_wp2
    go_ret
    exact ⟨rfl, HE.out⟩
  | false =>
    obtain ⟨X, Y, U, V, ⟨rfl, rfl, rfl, rfl⟩, hF⟩ := HZ.out rfl
    obtain ⟨x', y', n', m', hmem, i1, i2, i3, i4⟩ := within_max (usB ss g) (wid ss) ss.length (wid ss + ss.length) X Y U V (by omega) hF
    rw [← HMX.out] at hmem
    obtain ⟨j0, hj0, ej⟩ := List.mem_iff_getElem.1 hmem
    have hA := best_area HBT.out.1 hF
    obtain ⟨f1, f2, f3, f4, -⟩ := id hF
    obtain ⟨P, hP⟩ : ∃ P, P = U * V := ⟨_, rfl⟩
    obtain ⟨Q, hQ⟩ : ∃ Q, Q = r * s := ⟨_, rfl⟩
    have hpb : P ≤ 48 * 48 := by rw [hP]; exact Nat.mul_le_mul (by omega) (by omega)
    have hqb : Q ≤ 48 * 48 := by
      rcases HBT.out.1 with ⟨-, -, h0, -⟩ | ⟨⟨-, -, h3, h4, -⟩, -⟩
      · rw [hQ, h0]; omega
      · rw [hQ]; exact Nat.mul_le_mul (by omega) (by omega)
    have v1 : IntKind.i64.wrap ((U : Int) * (V : Int)) = (P : Int) := by rw [show (U : Int) * (V : Int) = (P : Int) by rw [hP]; simp]; exact IntWalk.i64_in _ (by omega)
    have v2 : IntKind.i64.wrap ((r : Int) * (s : Int)) = (Q : Int) := by rw [show (r : Int) * (s : Int) = (Q : Int) by rw [hQ]; simp]; exact IntWalk.i64_in _ (by omega)
    have hPQ : (P : Int) ≤ Q := by rw [hP, hQ]; omega
    obtain ⟨S, hS⟩ : ∃ S, S = X + U := ⟨_, rfl⟩
    obtain ⟨T, hT⟩ : ∃ T, T = Y + V := ⟨_, rfl⟩
    have v3 : IntKind.i64.wrap ((X : Int) + (U : Int)) = (S : Int) := by rw [IntWalk.i64_in _ (by omega)]; omega
    have v4 : IntKind.i64.wrap ((Y : Int) + (V : Int)) = (T : Int) := by rw [IntWalk.i64_in _ (by omega)]; omega
    have HEL : Hid (∀ k (hk : k < MX.length), ∃ x2 y2 n2 m2 S2 T2 : Nat, MX[k] = ((x2 : Int), (y2 : Int), (n2 : Int), (m2 : Int)) ∧ IntKind.i64.wrap ((x2 : Int) + (n2 : Int)) = (S2 : Int) ∧ IntKind.i64.wrap ((y2 : Int) + (m2 : Int)) = (T2 : Int) ∧ (k = j0 → (x2 : Int) ≤ X ∧ (y2 : Int) ≤ Y ∧ (S : Int) ≤ S2 ∧ (T : Int) ≤ T2)) := Lib.hid (fun k hk => by
      have hm : ∀ r, r ∈ MX → r ∈ mxTo (usB ss g) (wid ss) ss.length ss.length 0 0 0 := fun r h => by rw [← HMX.out]; exact h
      obtain ⟨y2, x2, n2, m2, g1, g2, g3, g4, g5, g6, -, ge⟩ := (mem_max _ _ _ _).1 (hm _ (List.getElem_mem hk))
      refine ⟨x2, y2, n2, m2, x2 + n2, y2 + m2, ge, ?_, ?_, ?_⟩
      · rw [IntWalk.i64_in _ (by omega)]; omega
      · rw [IntWalk.i64_in _ (by omega)]; omega
      · rintro rfl
        rw [ej] at ge
        simp only [Prod.mk.injEq] at ge
        omega)
    have HJ := Lib.hid hj0
    clear hF hmem i1 i2 i3 i4 ej hA f1 f2 f3 f4 hP hQ hpb hqb hS hT
    go_wp2_with fail
    go_loopg [11, 93] MX.length (fun gk t i wr => ∃ k : Nat, ∃ z : Bool, k + gk = MX.length ∧ t = .bool z ∧ i = .int .i64 k ∧ Hid (j0 < k → z = true) ∧ Hid (Kept w b9 X Y U V p q r s a ss a1 MX wr))
    case atStart => exact ⟨0, false, by omega, rfl, rfl, Lib.hid (fun h => by omega), HKb⟩
    case round =>
      obtain ⟨k, z, hk, rfl, rfl, HZ1, HKr⟩ := hrel
      by_cases hlt : k < MX.length
      · obtain ⟨gk', rfl⟩ : ∃ m, gk = m + 1 := ⟨gk - 1, by omega⟩
        have hlt' : (k : Int) < MX.length := by omega
        have hk0 : (0 : Int) ≤ k := by omega
        obtain ⟨b, off, rfl, hb, hc0, hc1, hc2, hc3⟩ := HKr.out.r1.at_ hlt
        obtain ⟨x2, y2, n2, m2, S2, T2, ge, u1, u2, uj⟩ := HEL.out k hlt
        rw [ge] at hc0 hc1 hc2 hc3
        simp only at hc0 hc1 hc2 hc3
        have HK1 := Lib.hid (HKr.out.step ((Below.refl _ _).alloc (Nat.le_refl _) (.cells #[.int .i64 x2, .int .i64 y2, .int .i64 n2, .int .i64 m2] 29)))
        have hnew := Lib.hid ((Mem.nil wr).alloc #[.int .i64 x2, .int .i64 y2, .int .i64 n2, .int .i64 m2] 29)
        have HUJ := Lib.hid uj
        clear ge uj
        have x0 := HK1.out.m.tail.cell 0
        have x1 := HK1.out.m.tail.cell 1
        have x2' := HK1.out.m.tail.cell 2
        have x3 := HK1.out.m.tail.cell 3
        have xl := HK1.out.m.tail.head_lt
        have y0 := hnew.out.cell 0
        have y1 := hnew.out.cell 1
        have y2' := hnew.out.cell 2
        have y3 := hnew.out.cell 3
        simp at x0 x1 x2' x3 y0 y1 y2' y3
        cases z with
        | true =>
          go_wp2_with fail
          go_roundg gk'
          case measure => exact Nat.lt_succ_self _
          case rel => exact ⟨k + 1, true, by omega, rfl, by go_num, Lib.hid (fun _ => rfl), HK1⟩
        | false =>
          by_cases e : k = j0
          · obtain ⟨p1, p2, p3, p4⟩ := HUJ.out e
            clear e
            go_wp2_with fail
            go_roundg gk'
            case measure => exact Nat.lt_succ_self _
            case rel => exact ⟨k + 1, _, by omega, rfl, by go_num, Lib.hid (fun _ => by first | rfl | exact decide_eq_true (by omega)), HK1⟩
          · have HE2 : Hid (j0 < k + 1 → False) := Lib.hid (fun h => by
              rcases Nat.lt_or_ge j0 k with hj | hj
              · exact Bool.noConfusion (HZ1.out hj)
              · exact e (by omega))
            clear e
            by_cases d1 : (x2 : Int) ≤ X <;> by_cases d2 : (y2 : Int) ≤ Y <;> by_cases d3 : (S : Int) ≤ S2
            all_goals (go_wp2_with fail; go_roundg gk'; (case measure => exact Nat.lt_succ_self _); (case rel => exact ⟨k + 1, _, by omega, rfl, by go_num, Lib.hid (fun h => (HE2.out h).elim), HK1⟩))
      · obtain rfl : k = MX.length := by omega
        have hlt' : ¬ (MX.length : Int) < MX.length := by omega
        obtain rfl := HZ1.out HJ.out
        have x2 := HKr.out.m.tail.cell 2
        have x3 := HKr.out.m.tail.cell 3
        have xl := HKr.out.m.tail.head_lt
        have y2 := HKr.out.m.cell 2
        have y3 := HKr.out.m.cell 3
        have yl := HKr.out.m.head_lt
        simp at x2 x3 y2 y3
        go_wp2_with fail
        refine (skAwake_any _).mono ?_
        rintro e w9 ⟨rfl, hb⟩
        have HE := Lib.hid (HKr.out.m.b.trans (hb.mono HKr.out.m.b.size))
        clear hb
        go_wp2
        go_ret
        exact ⟨rfl, HE.out⟩

set_option maxRecDepth 100000 in
set_option maxHeartbeats 3200000 in
theorem walk (a : Option Addr) (cap : Nat) (ss : List ByteArray) (wf : ss.length ≤ maxLen ∧ ∀ s ∈ ss, s.size ≤ maxLen) (g : Int) (wg : (Lit.int .i64 g).wf = true) (x y u v : Int) (w0 : (Lit.int .i64 x).wf = true) (w1 : (Lit.int .i64 y).wf = true) (w2 : (Lit.int .i64 u).wf = true) (w3 : (Lit.int .i64 v).wf = true) (w : World) (h : StrS w a ss) :
    Calls Try.prog 4 #[.slice a ss.length cap, .int .i64 g, .agg #[.int .i64 x, .int .i64 y, .int .i64 u, .int .i64 v]] w fun e w' => e = .returned (.bool true) ∧ Below w.heap.size w w' := by
  obtain ⟨l1, l2⟩ := wf
  have l1' : (ss.length : Int) ≤ 9223372036854775807 := by unfold maxLen at l1; omega
  have l2' : ∀ s ∈ ss, s.size ≤ 9223372036854775807 := fun s hs => by have := l2 s hs; unfold maxLen at this; omega
  by_cases hgood : skB ss = true ∧ 1 ≤ g ∧ g ≤ 9
  · exact walk_yes a cap ss hgood.1 g hgood.2.1 hgood.2.2 x y u v w h
  · have HM := Lib.hid ((Mem.nil w).alloc #[.int .i64 x, .int .i64 y, .int .i64 u, .int .i64 v] 29)
    have HX := Lib.hid (fun w' (hb : Below w.heap.size w w') => maximal_no a cap ss l1' l2' g hgood w' (h.below hb))
    have HL := Lib.hid (fun w' (hb : Below w.heap.size w w') => large_no a cap ss l1' l2' g hgood w' (h.below hb))
    have HG : Hid (∀ w', Below w.heap.size w w' → Calls Try.prog 13 #[.slice a ss.length cap, .int .i64 g] w' fun e w'' => e = .returned (.bool false) ∧ w' = w'') := Lib.hid (fun w' hb => by
      have := rGood_any a cap ss l1' l2' g w' (h.below hb)
      rw [show (skB ss && (decide (1 ≤ g) && decide (g ≤ 9))) = false by
        rw [Bool.eq_false_iff]; intro e; simp at e; exact hgood e] at this
      exact this)
    clear h hgood l2' l2 l1 l1' wg w0 w1 w2 w3
    go_enter Try.func4, Try.ntmps4
    go_wp2_with fail
    refine (HX.out _ HM.out.b).mono ?_
    rintro e w1 ⟨rfl, hb⟩
    have HM1 := Lib.hid (HM.out.step hb)
    clear hb
    go_wp2_with fail
    refine (HL.out _ HM1.out.b).mono ?_
    rintro e w2 ⟨rfl, hb⟩
    have HM2 := Lib.hid ((HM1.out.step hb).alloc #[.int .i64 0, .int .i64 0, .int .i64 0, .int .i64 0] 29)
    clear hb
    go_wp2_with fail
    refine (HG.out _ HM2.out.b).mono ?_
    rintro e w3 ⟨rfl, rfl⟩
    go_wp2_with fail
    refine (skAwake_any _).mono ?_
    rintro e w9 ⟨rfl, hb⟩
    have HE := Lib.hid (HM2.out.b.trans (hb.mono HM2.out.b.size))
    clear hb
    go_wp2
    go_ret
    exact ⟨rfl, HE.out⟩

theorem own : ownKnob Try.prog.godebug = none := by kernel_rfl
theorem cellsRect : Try.prog.cellsOf 29 = 4 := by kernel_rfl

set_option maxRecDepth 100000 in
theorem lifted (os : Os) (started : os.Started) (H : Type) (enc : TypeId × Value → H) :
    ReturnsInHanded {} Try.checked os 4 .any (Rows.skinWithinSpec.pre6 enc Try.prog Try.f4 Rows.skinWithinRow.domain false) (Rows.skinWithinSpec.post enc Try.prog Try.f4 false true false false) := by
  refine returnsInHanded_of_change (C := Try.checked) own started (by kernel_rfl) Try.func4
    (ChangeSpec.witness6 (enc := enc) (C := Try.checked) false ⟨#[], #[.slice none 0 0, .int .i64 0, .agg #[.int .i64 0, .int .i64 0, .int .i64 0, .int .i64 0]], []⟩ 8 (by kernel_rfl) (by kernel_rfl) (by kernel_rfl) (by kernel_rfl)) ?_
  intro W base args ds gs before hval0 hW hcnd _
  have hval : ∀ (j : Nat) t v, Try.f4.params[j]? = some t → args[j]? = some v → Value.okWide Try.prog W .any base t v := hval0
  have hW' := hW
  obtain ⟨p, q, hA0, hV, rfl, hfz, hnd⟩ := hW
  have hA : DataW.TrodAll enc Try.prog W 0 (fun _ => true) true Try.f4.params.toList args.toList ds p := hA0
  rw [Try.params4] at hA hval
  obtain ⟨v0, vs0, d0, ds0, p0, q0, hargs, rfl, rfl, h0, r0⟩ := trodAll_cons hA
  obtain ⟨v1, vs1, d1, ds1, p1, q1, rfl, rfl, rfl, h1, r1⟩ := trodAll_cons r0
  obtain ⟨v2, vs2, d2, ds2, p2, q2, rfl, rfl, rfl, h2, r2⟩ := trodAll_cons r1
  obtain ⟨rfl, rfl, rfl⟩ := trodAll_nil r2
  obtain rfl : args = #[v0, v1, v2] := by cases args; simp_all
  obtain ⟨rfl, rfl⟩ := trodVars_none hV
  obtain ⟨a0, len0, cap0, rfl⟩ := okWide_slice Try.underlying22 (hval 0 22 v0 rfl rfl)
  have k0 := h0
  have lt0 : ∀ x ∈ p0, x.block < W.heap.size := by obtain ⟨m, hm⟩ := k0; exact DataW.trod_lt m _ _ _ hm
  obtain ⟨fs0, hl0, hF0, wf0⟩ := open_skS h0
  subst hl0
  obtain ⟨n1, rfl, rfl, rfl, wn1⟩ := open_int Try.underlying3 (hval 1 3 v1 rfl rfl) h1
  obtain ⟨c2a, c2b, c2c, c2d, y2a, y2b, y2c, y2d, m2, rfl, rfl, rfl, hy2a, hy2b, hy2c, hy2d⟩ := open_agg4 Try.underlying29 (by kernel_rfl) cellsRect (hval 2 29 v2 rfl rfl) h2
  obtain ⟨n2a, e2a, rfl, wn2a⟩ := DataW.trod_int Try.underlying3 hy2a
  obtain ⟨n2b, e2b, rfl, wn2b⟩ := DataW.trod_int Try.underlying3 hy2b
  obtain ⟨n2c, e2c, rfl, wn2c⟩ := DataW.trod_int Try.underlying3 hy2c
  obtain ⟨n2d, e2d, rfl, wn2d⟩ := DataW.trod_int Try.underlying3 hy2d
  simp at e2a e2b e2c e2d
  subst e2a e2b e2c e2d
  clear hA0 hval0
  refine (walk a0 cap0 fs0 wf0 n1 wn1 n2a n2b n2c n2d wn2a wn2b wn2c wn2d W hF0).mono fun e W' ⟨he, hb⟩ => ?_
  subst he
  exact ⟨_, rfl, _, _, _, [], _, [], hW', trodAll_mk1 (shut_bool Try.underlying4 _), (trodAll_cons_mk (Below.trod laidOut (by kernel_rfl) (of_decide_eq_true (by kernel_rfl)) k0 hb lt0) (trodAll_cons_mk (shut_int Try.underlying3 wn1) (trodAll_cons_mk (shut_agg4 (y0 := (.lit (.int .i64 n2a), [])) (y1 := (.lit (.int .i64 n2b), [])) (y2 := (.lit (.int .i64 n2c), [])) (y3 := (.lit (.int .i64 n2d), [])) Try.underlying29 (by kernel_rfl) cellsRect (field_of_Trod (shut_int Try.underlying3 wn2a) rfl) (field_of_Trod (shut_int Try.underlying3 wn2b) rfl) (field_of_Trod (shut_int Try.underlying3 wn2c) rfl) (field_of_Trod (shut_int Try.underlying3 wn2d) rfl)) trodAll_mk0))), rfl, hb.frame _, fun h => by cases h⟩

theorem over : Rows.skinWithinRow.holds Try.pinned (OpenSpec.ofChange Rows.skinWithinSpec) :=
  OpenClaim.holds_of_wide 4 Try.f4 rfl rfl rfl rfl rfl rfl rfl ⟨rfl, rfl, rfl, rfl, rfl⟩ rfl rfl rfl rfl rfl (by kernel_rfl) Try.func4 (by kernel_rfl)
    (of_decide_eq_true (by kernel_rfl)) (by unfold Func.isWrapper; first | (rw [if_pos (by decide +kernel)]; kernel_rfl) | (rw [if_neg (by decide +kernel)]; exact ⟨rfl, rfl⟩))
    (fun os started H enc _ => lifted os started H enc)

/-- THE STATEMENT. -/
theorem proved : Rows.SkinWithinSaid := over
#print axioms proved

end Go.Proofs.Ytndhnpljdldlpab.lawSkinWithin

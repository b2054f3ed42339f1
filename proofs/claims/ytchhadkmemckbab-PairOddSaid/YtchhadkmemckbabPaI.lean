/- Pairs: placer's closure, with isTight. -/
import Derived.Test.YtchhadkmemckbabPaH
namespace Go.Proofs.Ytchhadkmemckbab
open Go.RowKit
set_option linter.unusedSimpArgs false
set_option linter.unusedVariables false

set_option maxRecDepth 100000 in
set_option maxHeartbeats 6400000 in
theorem place_tight (ok : Nat → Nat → Bool) (L n : Nat) (hn : n ≤ 100) (hL : L ≤ 100) (w0 : World) (p q bo bp bl po cap : Nat)
    (h0 : bo < w0.heap.size ∧ bo ≠ p ∧ bo ≠ q ∧ w0.cell? ⟨bo, 0, none⟩ = some (.slice (some ⟨p, 0, none⟩) n n))
    (h1 : bp < w0.heap.size ∧ bp ≠ p ∧ bp ≠ q ∧ w0.cell? ⟨bp, 0, none⟩ = some (.func (.func 34) #[.pointer (some ⟨po, 0, none⟩)] #[]))
    (h2 : bl < w0.heap.size ∧ bl ≠ p ∧ bl ≠ q ∧ w0.cell? ⟨bl, 0, none⟩ = some (.func (.func 59) #[] #[.pointer (some ⟨bo, 0, none⟩), .pointer (some ⟨bp, 0, none⟩), .pointer (some ⟨bl, 0, none⟩)]))
    (hok : ∀ w', Ex p q w0 w' → ∀ i j : Nat, i < L → j < n → Calls Try.prog 34 #[.pointer (some ⟨po, 0, none⟩), .int .i64 i, .int .i64 j] w' fun e w'' => e = .returned (.bool (ok i j)) ∧ Below w'.heap.size w' w'') :
    ∀ (F i : Nat) (o : Nat → Int) (t : Nat → Bool) (b : Bool) (o' : Nat → Int) (t' : Nat → Bool), plF ok L n F i 0 o t = some (b, o', t') → ∀ w, AB w0 p q n o t w →
      Calls Try.prog 59 #[.int .i64 i, .slice (some ⟨q, 0, none⟩) n cap, .pointer (some ⟨bo, 0, none⟩), .pointer (some ⟨bp, 0, none⟩), .pointer (some ⟨bl, 0, none⟩)] w fun e w' => e = .returned (.bool b) ∧ AB w0 p q n o' t' w' := by
  have HC : Hid (∀ w', Ex p q w0 w' → (w'.cell? ⟨bo, 0, none⟩ = some (.slice (some ⟨p, 0, none⟩) n n) ∧ w'.cell? ⟨bp, 0, none⟩ = some (.func (.func 34) #[.pointer (some ⟨po, 0, none⟩)] #[]) ∧ w'.cell? ⟨bl, 0, none⟩ = some (.func (.func 59) #[] #[.pointer (some ⟨bo, 0, none⟩), .pointer (some ⟨bp, 0, none⟩), .pointer (some ⟨bl, 0, none⟩)])) ∧ bo < w'.heap.size ∧ bp < w'.heap.size ∧ bl < w'.heap.size) := Lib.hid (fun w' h =>
    ⟨⟨(h.cell h0.1 h0.2.1 h0.2.2.1 0).trans h0.2.2.2, (h.cell h1.1 h1.2.1 h1.2.2.1 0).trans h1.2.2.2, (h.cell h2.1 h2.2.1 h2.2.2.1 0).trans h2.2.2.2⟩, Nat.lt_of_lt_of_le h0.1 h.size, Nat.lt_of_lt_of_le h1.1 h.size, Nat.lt_of_lt_of_le h2.1 h.size⟩)
  have HOK := Lib.hid hok
  clear h0 h1 h2 hok
  intro F
  induction F using Nat.strongRecOn with
  | _ F ih =>
  intro i o t b o' t' hF w hw
  have IH := Lib.hid ih
  have HF := Lib.hid hF
  have HW := Lib.hid hw
  obtain ⟨⟨c0, -, -⟩, l0, -, -⟩ := HC.out w hw.ex
  clear ih hF hw
  go_enter Try.func59, Try.ntmps59
  go_wp2_with fail
  clear c0 l0
  go_loopg [11] F (fun gk x wr => ∃ (j : Nat) (o1 : Nat → Int) (t1 : Nat → Bool), x = .int .i64 j ∧ j ≤ n ∧ gk ≤ F ∧ Hid (plF ok L n gk i j o1 t1 = some (b, o', t')) ∧ Hid (AB w0 p q n o1 t1 wr))
  case atStart => exact ⟨0, _, _, rfl, Nat.zero_le _, Nat.le_refl _, HF, HW⟩
  case round =>
    obtain ⟨j, o1, t1, rfl, hjn, hgF, HP, HI⟩ := hrel
    obtain ⟨g, rfl⟩ : ∃ g, gk = g + 1 := by
      cases gk with
      | zero => exact absurd HP.out (by simp [plF])
      | succ g => exact ⟨g, rfl⟩
    have hp := HP.out
    unfold plF at hp
    have hiL : i < L := by
      by_cases h : i < L
      · exact h
      · rw [if_neg h] at hp; simp at hp
    rw [if_pos hiL] at hp
    by_cases hj : j < n
    · rw [if_pos hj] at hp
      have hj' : (j : Int) < n := by omega
      have hj0 : (0 : Int) ≤ j := by omega
      have ct := HI.out.ct hj
      obtain ⟨ft, lt⟩ := HI.out.ft hj
      obtain ⟨⟨c0, c1, c2⟩, l0, l1, l2⟩ := HC.out wr HI.out.ex
      obtain ⟨tv, htv⟩ : ∃ z, z = t1 j := ⟨_, rfl⟩
      rw [← htv] at ct hp
      clear c0 c2
      cases tv with
      | true =>
        rw [Bool.true_or, if_pos rfl] at hp
        have HPN := Lib.hid hp
        clear hp htv HP
        go_wp2
        go_roundg g
        case measure => exact Nat.lt_succ_self _
        case rel => exact ⟨j + 1, o1, t1, by go_num, by omega, by omega, HPN, HI⟩
      | false =>
      have HK := Lib.hid (HOK.out wr HI.out.ex i j hiL hj)
      obtain ⟨kv, hkv⟩ : ∃ z, z = ok i j := ⟨_, rfl⟩
      rw [← hkv] at HK hp
      have HPP := Lib.hid hp
      clear hp htv hkv HP
      go_wp2_with fail
      refine HK.out.mono ?_
      rintro e w1 ⟨rfl, hb1⟩
      have HI1 := Lib.hid (HI.out.step hb1)
      clear hb1 ct ft lt c1 l0 l1 l2 HI HK
      cases kv with
      | false =>
        have hp := HPP.out
        rw [Bool.not_false, Bool.or_true, if_pos rfl] at hp
        have HPN := Lib.hid hp
        clear hp HPP
        go_wp2
        go_roundg g
        case measure => exact Nat.lt_succ_self _
        case rel => exact ⟨j + 1, o1, t1, by go_num, by omega, by omega, HPN, HI1⟩
      | true =>
      have hp := HPP.out
      rw [Bool.not_true, Bool.or_false, if_neg (by simp)] at hp
      have ct := HI1.out.ct hj
      obtain ⟨ft, lt⟩ := HI1.out.ft hj
      have HI2 := Lib.hid (HI1.out.setT j true)
      clear HPP
      go_upto_region 6 with fail
      clear ct ft lt HI1
      obtain ⟨wt, hwt⟩ : ∃ z, z = w1.setCell ⟨q, j, none⟩ (.bool true) := ⟨_, rfl⟩
      rw [← hwt] at HI2 ⊢
      clear hwt
      obtain ⟨ov, hov⟩ : ∃ z, z = o1 j := ⟨_, rfl⟩
      have HOV := Lib.hid hov
      rw [← hov] at hp
      clear hov
      have HS : Hid (∀ (o9 : Nat → Int) (t9 : Nat → Bool) w', o9 j = ov → AB w0 p q n o9 t9 w' → w'.cell? ⟨bo, 0, none⟩ = some (.slice (some ⟨p, 0, none⟩) n n) ∧ w'.cell? ⟨p, j, none⟩ = some (.int .i64 ov) ∧ w'.cell? ⟨bl, 0, none⟩ = some (.func (.func 59) #[] #[.pointer (some ⟨bo, 0, none⟩), .pointer (some ⟨bp, 0, none⟩), .pointer (some ⟨bl, 0, none⟩)])) := Lib.hid (fun o9 t9 w' ho h => ⟨(HC.out w' h.ex).1.1, by rw [h.co hj, ho], (HC.out w' h.ex).1.2.2⟩)
      by_cases hov : ov = -1
      · rw [if_pos hov] at hp
        subst hov
        clear HF IH HW
        simp only [Option.some.injEq, Prod.mk.injEq] at hp
        obtain ⟨rfl, rfl, rfl⟩ := hp
        refine wp_region_held_drew (S := fun w' => w'.cell? ⟨bo, 0, none⟩ = some (.slice (some ⟨p, 0, none⟩) n n) ∧ w'.cell? ⟨p, j, none⟩ = some (.int .i64 (-1)) ∧ w'.cell? ⟨bl, 0, none⟩ = some (.func (.func 59) #[] #[.pointer (some ⟨bo, 0, none⟩), .pointer (some ⟨bp, 0, none⟩), .pointer (some ⟨bl, 0, none⟩)])) (by kernel_rfl) (HS.out _ _ _ HOV.out.symm HI2.out.drew) (fun hHeld => ?_)
        refine wpAnyH_take (i := 0) (oi := { dst := some 28, op := Op.load 36 (Operand.tmp 2), type := 36, pos := "most.go:21", after := #[], guard := none }) (v := ?_) rfl (by kernel_rfl) (by kernel_rfl) (by kernel_rfl) (fun _ _ _ h => h) (Or.inl ⟨by rfl, ?_⟩) (by assumption) ?_
        rotate_left
        · intro w' hSw
          (try dsimp only at hSw)
          (try go_split_ands)
          go_simp
          try with_reducible rfl
        (try simp only [Act.put, List.setIfInBounds_toArray, List.set_cons_zero, List.set_cons_succ])
        refine wpAnyH_take (i := 1) (oi := { dst := some 29, op := Op.move (Operand.tmp 8), type := 3, pos := "most.go:21", after := #[], guard := none }) (v := ?_) rfl (by kernel_rfl) (by kernel_rfl) (by kernel_rfl) (fun _ _ _ h => h) (Or.inl ⟨by rfl, ?_⟩) (by assumption) ?_
        rotate_left
        · intro w' hSw
          (try dsimp only at hSw)
          (try go_split_ands)
          go_simp
          try with_reducible rfl
        (try simp only [Act.put, List.setIfInBounds_toArray, List.set_cons_zero, List.set_cons_succ])
        refine wpAnyH_take (i := 2) (oi := { dst := some 30, op := Op.indexAddr 36 (Operand.tmp 28) (Operand.tmp 29), type := 0, pos := "most.go:21", after := #[{ on := 0, ground := Ground.data }, { on := 1, ground := Ground.data }], guard := none }) (v := ?_) rfl (by kernel_rfl) (by kernel_rfl) (by kernel_rfl) (fun _ _ _ h => h) (Or.inl ⟨by rfl, ?_⟩) (by assumption) ?_
        rotate_left
        · intro w' hSw
          (try dsimp only at hSw)
          (try go_split_ands)
          go_simp
          try with_reducible rfl
        (try simp only [Act.put, List.setIfInBounds_toArray, List.set_cons_zero, List.set_cons_succ])
        refine wpAnyH_take (i := 3) (oi := { dst := some 31, op := Op.load 3 (Operand.tmp 30), type := 3, pos := "most.go:21", after := #[{ on := 2, ground := Ground.data }], guard := none }) (v := ?_) rfl (by kernel_rfl) (by kernel_rfl) (by kernel_rfl) (fun _ _ _ h => h) (Or.inl ⟨by rfl, ?_⟩) (by assumption) ?_
        rotate_left
        · intro w' hSw
          (try dsimp only at hSw)
          (try go_split_ands)
          go_simp
          try with_reducible rfl
        (try simp only [Act.put, List.setIfInBounds_toArray, List.set_cons_zero, List.set_cons_succ])
        refine wpAnyH_take (i := 4) (oi := { dst := some 32, op := Op.binOp BinOp.eql 3 (Operand.tmp 31) (Operand.const (Value.int IntKind.i64 (-1))) 3, type := 4, pos := "most.go:21", after := #[{ on := 3, ground := Ground.data }], guard := none }) (v := ?_) rfl (by kernel_rfl) (by kernel_rfl) (by kernel_rfl) (fun _ _ _ h => h) (Or.inl ⟨by rfl, ?_⟩) (by assumption) ?_
        rotate_left
        · intro w' hSw
          (try dsimp only at hSw)
          (try go_split_ands)
          go_simp
          try with_reducible rfl
        (try simp only [Act.put, List.setIfInBounds_toArray, List.set_cons_zero, List.set_cons_succ])
        refine wpAnyH_take (i := 5) (oi := { dst := some 33, op := Op.move (Operand.tmp 32), type := 4, pos := "most.go:21", after := #[{ on := 4, ground := Ground.data }], guard := none }) (v := ?_) rfl (by kernel_rfl) (by kernel_rfl) (by kernel_rfl) (fun _ _ _ h => h) (Or.inl ⟨by rfl, ?_⟩) (by assumption) ?_
        rotate_left
        · intro w' hSw
          (try dsimp only at hSw)
          (try go_split_ands)
          go_simp
          try with_reducible rfl
        (try simp only [Act.put, List.setIfInBounds_toArray, List.set_cons_zero, List.set_cons_succ])
        refine wpAnyH_take (i := 6) (oi := { dst := some 34, op := Op.load 68 (Operand.tmp 4), type := 68, pos := "most.go:21", after := #[{ on := 5, ground := Ground.guard }], guard := some (5, false) }) (v := undef) rfl (by kernel_rfl) (by kernel_rfl) (by kernel_rfl) (fun _ _ _ h => h) (Or.inr ⟨by rfl, rfl⟩) (by assumption) ?_
        (try simp only [Act.put, List.setIfInBounds_toArray, List.set_cons_zero, List.set_cons_succ])
        refine wpAnyH_take (i := 7) (oi := { dst := some 35, op := Op.load 36 (Operand.tmp 2), type := 36, pos := "most.go:21", after := #[{ on := 5, ground := Ground.guard }], guard := some (5, false) }) (v := undef) rfl (by kernel_rfl) (by kernel_rfl) (by kernel_rfl) (fun _ _ _ h => h) (Or.inr ⟨by rfl, rfl⟩) (by assumption) ?_
        (try simp only [Act.put, List.setIfInBounds_toArray, List.set_cons_zero, List.set_cons_succ])
        refine wpAnyH_take (i := 8) (oi := { dst := some 36, op := Op.move (Operand.tmp 8), type := 3, pos := "most.go:21", after := #[{ on := 5, ground := Ground.guard }], guard := some (5, false) }) (v := undef) rfl (by kernel_rfl) (by kernel_rfl) (by kernel_rfl) (fun _ _ _ h => h) (Or.inr ⟨by rfl, rfl⟩) (by assumption) ?_
        (try simp only [Act.put, List.setIfInBounds_toArray, List.set_cons_zero, List.set_cons_succ])
        refine wpAnyH_take (i := 9) (oi := { dst := some 37, op := Op.indexAddr 36 (Operand.tmp 35) (Operand.tmp 36), type := 0, pos := "most.go:21", after := #[{ on := 7, ground := Ground.data }, { on := 8, ground := Ground.data }, { on := 5, ground := Ground.guard }], guard := some (5, false) }) (v := undef) rfl (by kernel_rfl) (by kernel_rfl) (by kernel_rfl) (fun _ _ _ h => h) (Or.inr ⟨by rfl, rfl⟩) (by assumption) ?_
        (try simp only [Act.put, List.setIfInBounds_toArray, List.set_cons_zero, List.set_cons_succ])
        refine wpAnyH_take (i := 10) (oi := { dst := some 38, op := Op.load 3 (Operand.tmp 37), type := 3, pos := "most.go:21", after := #[{ on := 9, ground := Ground.data }, { on := 5, ground := Ground.guard }], guard := some (5, false) }) (v := undef) rfl (by kernel_rfl) (by kernel_rfl) (by kernel_rfl) (fun _ _ _ h => h) (Or.inr ⟨by rfl, rfl⟩) (by assumption) ?_
        (try simp only [Act.put, List.setIfInBounds_toArray, List.set_cons_zero, List.set_cons_succ])
        refine wpAnyH_take (i := 11) (oi := { dst := some 39, op := Op.move (Operand.tmp 1), type := 70, pos := "most.go:21", after := #[{ on := 5, ground := Ground.guard }], guard := some (5, false) }) (v := undef) rfl (by kernel_rfl) (by kernel_rfl) (by kernel_rfl) (fun _ _ _ h => h) (Or.inr ⟨by rfl, rfl⟩) (by assumption) ?_
        (try simp only [Act.put, List.setIfInBounds_toArray, List.set_cons_zero, List.set_cons_succ])
        refine wpAnyH_take (i := 12) (oi := { dst := some 40, op := Op.call { callee := Callee.value (Operand.tmp 34), args := #[Operand.tmp 38, Operand.tmp 39], argTypes := #[3, 70] }, type := 4, pos := "most.go:21", after := #[{ on := 6, ground := Ground.data }, { on := 10, ground := Ground.data }, { on := 11, ground := Ground.data }, { on := 5, ground := Ground.chain }, { on := 5, ground := Ground.guard }], guard := some (5, false) }) (v := undef) rfl (by kernel_rfl) (by kernel_rfl) (by kernel_rfl) (fun _ _ _ h => h) (Or.inr ⟨by rfl, rfl⟩) (by assumption) ?_
        (try simp only [Act.put, List.setIfInBounds_toArray, List.set_cons_zero, List.set_cons_succ])
        refine wpAnyH_take (i := 13) (oi := { dst := some 41, op := Op.pick (Operand.tmp 33) (Operand.const (Value.bool true)) (Operand.tmp 40), type := 4, pos := "most.go:21", after := #[{ on := 5, ground := Ground.data }, { on := 12, ground := Ground.data }], guard := none }) (v := ?_) rfl (by kernel_rfl) (by kernel_rfl) (by kernel_rfl) (fun _ _ _ h => h) (Or.inl ⟨by rfl, ?_⟩) (by assumption) ?_
        rotate_left
        · intro w' hSw
          (try dsimp only at hSw)
          (try go_split_ands)
          go_simp
          try with_reducible rfl
        (try simp only [Act.put, List.setIfInBounds_toArray, List.set_cons_zero, List.set_cons_succ])
        refine wpAnyH_done (by kernel_rfl) ?_ _
        have HI3 := Lib.hid HI2.out.drew
        obtain ⟨⟨c0, -, -⟩, l0, -, -⟩ := HC.out _ HI3.out.ex
        have co := HI3.out.co hj
        obtain ⟨fo, lo⟩ := HI3.out.fo j
        have HE := Lib.hid (HI3.out.setO j i)
        clear hHeld HI2 HI3
        go_wp2
        go_ret
        exact ⟨rfl, HE.out⟩
      · rw [if_neg hov] at hp
        have hov1 : ¬ ov < 0 := by
          intro h
          rw [if_pos h] at hp
          simp at hp
        rw [if_neg hov1] at hp
        obtain ⟨N, rfl⟩ := Int.eq_ofNat_of_zero_le (show 0 ≤ ov by omega)
        rw [Int.toNat_natCast] at hp
        obtain ⟨r, hr⟩ : ∃ r, r = plF ok L n g N 0 o1 (fset t1 j true) := ⟨_, rfl⟩
        rw [← hr] at hp
        obtain ⟨b2, o2, t2, rfl⟩ : ∃ b2 o2 t2, r = some (b2, o2, t2) := by
          cases r with
          | none => simp at hp
          | some x => exact ⟨x.1, x.2.1, x.2.2, rfl⟩
        have HKEEP := Lib.hid (plF_keep g N 0 o1 _ b2 o2 t2 hr.symm j (by simp [fset]))
        have HCALL := Lib.hid (IH.out g (by omega) N o1 _ b2 o2 t2 hr.symm _ HI2.out.drew)
        have hne : ((N : Int) == -1) = false := by first | (simp; done) | (simp; omega)
        have HPP := Lib.hid hp
        clear hr hp hov hov1
        refine wp_region_held_drew (S := fun w' => w'.cell? ⟨bo, 0, none⟩ = some (.slice (some ⟨p, 0, none⟩) n n) ∧ w'.cell? ⟨p, j, none⟩ = some (.int .i64 N) ∧ w'.cell? ⟨bl, 0, none⟩ = some (.func (.func 59) #[] #[.pointer (some ⟨bo, 0, none⟩), .pointer (some ⟨bp, 0, none⟩), .pointer (some ⟨bl, 0, none⟩)])) (by kernel_rfl) (HS.out _ _ _ HOV.out.symm HI2.out.drew) (fun hHeld => ?_)
        refine wpAnyH_take (i := 0) (oi := { dst := some 28, op := Op.load 36 (Operand.tmp 2), type := 36, pos := "most.go:21", after := #[], guard := none }) (v := ?_) rfl (by kernel_rfl) (by kernel_rfl) (by kernel_rfl) (fun _ _ _ h => h) (Or.inl ⟨by rfl, ?_⟩) (by assumption) ?_
        rotate_left
        · intro w' hSw
          (try dsimp only at hSw)
          (try go_split_ands)
          go_simp
          try with_reducible rfl
        (try simp only [Act.put, List.setIfInBounds_toArray, List.set_cons_zero, List.set_cons_succ])
        refine wpAnyH_take (i := 1) (oi := { dst := some 29, op := Op.move (Operand.tmp 8), type := 3, pos := "most.go:21", after := #[], guard := none }) (v := ?_) rfl (by kernel_rfl) (by kernel_rfl) (by kernel_rfl) (fun _ _ _ h => h) (Or.inl ⟨by rfl, ?_⟩) (by assumption) ?_
        rotate_left
        · intro w' hSw
          (try dsimp only at hSw)
          (try go_split_ands)
          go_simp
          try with_reducible rfl
        (try simp only [Act.put, List.setIfInBounds_toArray, List.set_cons_zero, List.set_cons_succ])
        refine wpAnyH_take (i := 2) (oi := { dst := some 30, op := Op.indexAddr 36 (Operand.tmp 28) (Operand.tmp 29), type := 0, pos := "most.go:21", after := #[{ on := 0, ground := Ground.data }, { on := 1, ground := Ground.data }], guard := none }) (v := ?_) rfl (by kernel_rfl) (by kernel_rfl) (by kernel_rfl) (fun _ _ _ h => h) (Or.inl ⟨by rfl, ?_⟩) (by assumption) ?_
        rotate_left
        · intro w' hSw
          (try dsimp only at hSw)
          (try go_split_ands)
          go_simp
          try with_reducible rfl
        (try simp only [Act.put, List.setIfInBounds_toArray, List.set_cons_zero, List.set_cons_succ])
        refine wpAnyH_take (i := 3) (oi := { dst := some 31, op := Op.load 3 (Operand.tmp 30), type := 3, pos := "most.go:21", after := #[{ on := 2, ground := Ground.data }], guard := none }) (v := ?_) rfl (by kernel_rfl) (by kernel_rfl) (by kernel_rfl) (fun _ _ _ h => h) (Or.inl ⟨by rfl, ?_⟩) (by assumption) ?_
        rotate_left
        · intro w' hSw
          (try dsimp only at hSw)
          (try go_split_ands)
          go_simp
          try with_reducible rfl
        (try simp only [Act.put, List.setIfInBounds_toArray, List.set_cons_zero, List.set_cons_succ])
        refine wpAnyH_take (i := 4) (oi := { dst := some 32, op := Op.binOp BinOp.eql 3 (Operand.tmp 31) (Operand.const (Value.int IntKind.i64 (-1))) 3, type := 4, pos := "most.go:21", after := #[{ on := 3, ground := Ground.data }], guard := none }) (v := ?_) rfl (by kernel_rfl) (by kernel_rfl) (by kernel_rfl) (fun _ _ _ h => h) (Or.inl ⟨by rfl, ?_⟩) (by assumption) ?_
        rotate_left
        · intro w' hSw
          (try dsimp only at hSw)
          (try go_split_ands)
          go_simp
          try with_reducible rfl
        (try simp only [Act.put, List.setIfInBounds_toArray, List.set_cons_zero, List.set_cons_succ])
        refine wpAnyH_take (i := 5) (oi := { dst := some 33, op := Op.move (Operand.tmp 32), type := 4, pos := "most.go:21", after := #[{ on := 4, ground := Ground.data }], guard := none }) (v := ?_) rfl (by kernel_rfl) (by kernel_rfl) (by kernel_rfl) (fun _ _ _ h => h) (Or.inl ⟨by rfl, ?_⟩) (by assumption) ?_
        rotate_left
        · intro w' hSw
          (try dsimp only at hSw)
          (try go_split_ands)
          go_simp
          try with_reducible rfl
        (try simp only [Act.put, List.setIfInBounds_toArray, List.set_cons_zero, List.set_cons_succ])
        refine wpAnyH_take (i := 6) (oi := { dst := some 34, op := Op.load 68 (Operand.tmp 4), type := 68, pos := "most.go:21", after := #[{ on := 5, ground := Ground.guard }], guard := some (5, false) }) (v := ?_) rfl (by kernel_rfl) (by kernel_rfl) (by kernel_rfl) (fun _ _ _ h => h) (Or.inl ⟨by rfl, ?_⟩) (by assumption) ?_
        rotate_left
        · intro w' hSw
          (try dsimp only at hSw)
          (try go_split_ands)
          go_simp
          try with_reducible rfl
        (try simp only [Act.put, List.setIfInBounds_toArray, List.set_cons_zero, List.set_cons_succ])
        refine wpAnyH_take (i := 7) (oi := { dst := some 35, op := Op.load 36 (Operand.tmp 2), type := 36, pos := "most.go:21", after := #[{ on := 5, ground := Ground.guard }], guard := some (5, false) }) (v := ?_) rfl (by kernel_rfl) (by kernel_rfl) (by kernel_rfl) (fun _ _ _ h => h) (Or.inl ⟨by rfl, ?_⟩) (by assumption) ?_
        rotate_left
        · intro w' hSw
          (try dsimp only at hSw)
          (try go_split_ands)
          go_simp
          try with_reducible rfl
        (try simp only [Act.put, List.setIfInBounds_toArray, List.set_cons_zero, List.set_cons_succ])
        refine wpAnyH_take (i := 8) (oi := { dst := some 36, op := Op.move (Operand.tmp 8), type := 3, pos := "most.go:21", after := #[{ on := 5, ground := Ground.guard }], guard := some (5, false) }) (v := ?_) rfl (by kernel_rfl) (by kernel_rfl) (by kernel_rfl) (fun _ _ _ h => h) (Or.inl ⟨by rfl, ?_⟩) (by assumption) ?_
        rotate_left
        · intro w' hSw
          (try dsimp only at hSw)
          (try go_split_ands)
          go_simp
          try with_reducible rfl
        (try simp only [Act.put, List.setIfInBounds_toArray, List.set_cons_zero, List.set_cons_succ])
        refine wpAnyH_take (i := 9) (oi := { dst := some 37, op := Op.indexAddr 36 (Operand.tmp 35) (Operand.tmp 36), type := 0, pos := "most.go:21", after := #[{ on := 7, ground := Ground.data }, { on := 8, ground := Ground.data }, { on := 5, ground := Ground.guard }], guard := some (5, false) }) (v := ?_) rfl (by kernel_rfl) (by kernel_rfl) (by kernel_rfl) (fun _ _ _ h => h) (Or.inl ⟨by rfl, ?_⟩) (by assumption) ?_
        rotate_left
        · intro w' hSw
          (try dsimp only at hSw)
          (try go_split_ands)
          go_simp
          try with_reducible rfl
        (try simp only [Act.put, List.setIfInBounds_toArray, List.set_cons_zero, List.set_cons_succ])
        refine wpAnyH_take (i := 10) (oi := { dst := some 38, op := Op.load 3 (Operand.tmp 37), type := 3, pos := "most.go:21", after := #[{ on := 9, ground := Ground.data }, { on := 5, ground := Ground.guard }], guard := some (5, false) }) (v := ?_) rfl (by kernel_rfl) (by kernel_rfl) (by kernel_rfl) (fun _ _ _ h => h) (Or.inl ⟨by rfl, ?_⟩) (by assumption) ?_
        rotate_left
        · intro w' hSw
          (try dsimp only at hSw)
          (try go_split_ands)
          go_simp
          try with_reducible rfl
        (try simp only [Act.put, List.setIfInBounds_toArray, List.set_cons_zero, List.set_cons_succ])
        refine wpAnyH_take (i := 11) (oi := { dst := some 39, op := Op.move (Operand.tmp 1), type := 70, pos := "most.go:21", after := #[{ on := 5, ground := Ground.guard }], guard := some (5, false) }) (v := ?_) rfl (by kernel_rfl) (by kernel_rfl) (by kernel_rfl) (fun _ _ _ h => h) (Or.inl ⟨by rfl, ?_⟩) (by assumption) ?_
        rotate_left
        · intro w' hSw
          (try dsimp only at hSw)
          (try go_split_ands)
          go_simp
          try with_reducible rfl
        (try simp only [Act.put, List.setIfInBounds_toArray, List.set_cons_zero, List.set_cons_succ])
        refine wpAnyH_ready (rs := [12]) (by kernel_rfl) (by simp) ?_
        refine (AllReadyH.cons (o := { dst := some 40, op := Op.call { callee := Callee.value (Operand.tmp 34), args := #[Operand.tmp 38, Operand.tmp 39], argTypes := #[3, 70] }, type := 4, pos := "most.go:21", after := #[{ on := 6, ground := Ground.data }, { on := 10, ground := Ground.data }, { on := 11, ground := Ground.data }, { on := 5, ground := Ground.chain }, { on := 5, ground := Ground.guard }], guard := some (5, false) }) rfl (fun K hK => ?_) AllReadyH.nil)
        go_simp
        go_at_call 59
        with_reducible (refine HCALL.out.mono ?_)
        rintro e w5 ⟨rfl, hw5⟩
        have HI5 := Lib.hid hw5
        clear hw5
        (try go_wp2_with fail)
        refine hK.out _ _ (HS.out _ _ _ (HKEEP.out.1.trans HOV.out.symm) HI5.out) (fun hHeld => ?_)
        clear hK K
        (try simp only [Act.put, List.setIfInBounds_toArray, List.set_cons_zero, List.set_cons_succ])
        refine wpAnyH_take (i := 13) (oi := { dst := some 41, op := Op.pick (Operand.tmp 33) (Operand.const (Value.bool true)) (Operand.tmp 40), type := 4, pos := "most.go:21", after := #[{ on := 5, ground := Ground.data }, { on := 12, ground := Ground.data }], guard := none }) (v := ?_) rfl (by kernel_rfl) (by kernel_rfl) (by kernel_rfl) (fun _ _ _ h => h) (Or.inl ⟨by rfl, ?_⟩) (by assumption) ?_
        rotate_left
        · intro w' hSw
          (try dsimp only at hSw)
          (try go_split_ands)
          go_simp
          try with_reducible rfl
        (try simp only [Act.put, List.setIfInBounds_toArray, List.set_cons_zero, List.set_cons_succ])
        refine wpAnyH_done (by kernel_rfl) ?_ _
        clear hHeld hne
        have hp := HPP.out
        cases b2 with
        | true =>
          clear HF IH HW
          simp only [Option.some.injEq, Prod.mk.injEq] at hp
          obtain ⟨rfl, rfl, rfl⟩ := hp
          obtain ⟨⟨c0, -, -⟩, l0, -, -⟩ := HC.out _ HI5.out.ex
          have co := HI5.out.co hj
          obtain ⟨fo, lo⟩ := HI5.out.fo j
          have HE := Lib.hid (HI5.out.setO j i)
          clear HI2 HI5 HPP
          go_wp2
          go_ret
          exact ⟨rfl, HE.out⟩
        | false =>
          simp only at hp
          have HPN := Lib.hid hp
          clear hp HPP
          go_wp2
          go_roundg g
          case measure => exact Nat.lt_succ_self _
          case rel => exact ⟨j + 1, o2, t2, by go_num, by omega, by omega, HPN, HI5⟩
    · rw [if_neg hj] at hp
      obtain rfl : j = n := by omega
      clear HF IH HW HP
      simp only [Option.some.injEq, Prod.mk.injEq] at hp
      obtain ⟨rfl, rfl, rfl⟩ := hp
      go_wp2
      go_ret
      exact ⟨rfl, HI.out⟩

end Go.Proofs.Ytchhadkmemckbab

/- Skins: the closure of a sweep. -/
import Derived.Test.YtfnkomecbbmfmaaSlR
import Derived.Test.YtfnkomecbbmfmaaSkI
import Derived.Deep.DeepCutAuto
import Derived.Deep.LoopGhost
import Derived.Deep.RegionHeld3
namespace Go.Proofs.Ytfnkomecbbmfmaa
open Go.RowKit

set_option maxRecDepth 100000 in
set_option maxHeartbeats 6400000 in
theorem sweepE10 (w0 : World) (ps pn pt pf : Nat) (a : Option Addr) (cap : Nat) (ss : List ByteArray) (hs : skB ss = true) (k : Nat) (hk : k ≤ 48) (hq : SQ w0 ps pn pt pf a cap ss k 1 0 (.func (.func 78) #[] #[])) (x y : Nat) (hx : x ≤ 48) (hy : y ≤ 48) (w : World) (hb : Below w0.heap.size w0 w) :
    Calls Try.prog 99 #[.agg #[.int .i64 x, .int .i64 y], .pointer (some ⟨ps, 0, none⟩), .pointer (some ⟨pn, 0, none⟩), .pointer (some ⟨pt, 0, none⟩), .pointer (some ⟨pf, 0, none⟩)] w fun e w' => e = .returned (.int .i64 (swN true ss 1 0 k x y)) ∧ Below w.heap.size w w' := by
  have HQ : Hid (∀ w', Below w.heap.size w w' → SQ w' ps pn pt pf a cap ss k 1 0 (.func (.func 78) #[] #[])) := Lib.hid (fun w' hb' => (hq.below hb).below hb')
  have HG : Hid (∀ w' (p q : Int), Below w.heap.size w w' → Calls Try.prog 65 #[.slice a ss.length cap, .agg #[.int .i64 p, .int .i64 q]] w' fun e w'' => e = .returned (.int .i64 (grd ss p q)) ∧ Below w'.heap.size w' w'') := Lib.hid (fun w' p q hb' => gradeAt_any a cap ss hs p q w' ((hq.below hb).below hb').st)
  have HEND : Hid (swG true ss 1 0 k x y = (swN true ss 1 0 k x y : Int)) := Lib.hid (swN_eq true hs 1 0 k x y).1
  obtain ⟨RES, hRES⟩ : ∃ r, r = (swN true ss 1 0 k x y : Int) := ⟨_, rfl⟩
  rw [← hRES] at HEND ⊢
  have HM0 := Lib.hid ((Mem.nil w).alloc #[.int .i64 x, .int .i64 y] 87)
  have hq0 := HQ.out _ HM0.out.b
  have l1 := hq0.l.1
  have c1 := hq0.cs
  obtain ⟨g0, hg0⟩ : ∃ g, g = grd ss x y := ⟨_, rfl⟩
  have HG0 := Lib.hid (HG.out _ x y HM0.out.b)
  rw [← hg0] at HG0
  have HG00 := Lib.hid hg0
  clear hq hb hs hRES hg0 hq0
  go_enter Try.func99, Try.ntmps99
  go_wp2_with fail
  refine HG0.out.mono ?_
  rintro e w1 ⟨rfl, hb1⟩
  have HM1 := Lib.hid (HM0.out.step hb1)
  obtain ⟨d0, d1, -, -, d2⟩ := HM1.out.c2
  clear hb1 l1 c1
  go_upto_region 2 with fail
  go_cut [8, 9] (fun s8 s9 wx => ∃ A B : Nat, s8 = .pointer (some ⟨A, 0, none⟩) ∧ s9 = .pointer (some ⟨B, 0, none⟩) ∧ Hid (SX w w.heap.size A B x y x y x y wx))
  case first =>
    have HC9 : Hid (∀ w', Mem w [(w.heap.size, #[.int .i64 x, .int .i64 y], 87)] w' → Mem w [(w.heap.size, #[.int .i64 x, .int .i64 y], 87)] w' ∧ w'.cell? ⟨w.heap.size, 0, none⟩ = some (.int .i64 x) ∧ w'.cell? ⟨w.heap.size, 1, none⟩ = some (.int .i64 y)) := Lib.hid (fun w' hm => ⟨hm, hm.c2.1, hm.c2.2.1⟩)
    clear d0 d1
    go_region_held3 (fun w' => Mem w [(w.heap.size, #[.int .i64 x, .int .i64 y], 87)] w' ∧ w'.cell? ⟨w.heap.size, 0, none⟩ = some (.int .i64 x) ∧ w'.cell? ⟨w.heap.size, 1, none⟩ = some (.int .i64 y))
      (first | (refine HC9.out _ ?_; repeat (first | exact HM1.out | refine Mem.drew ?_ | refine Mem.skip ?_ _ | refine Mem.set_new2 ?_ (by simp; omega) _ _)))
      (fail)
    all_goals go_wp2_with fail
    all_goals
      go_meet
      first
        | exact ⟨_, _, rfl, rfl, Lib.hid (SX.of1 ((HM1.out.alloc_at rfl _ _).alloc_at (World.size_alloc _ _) _ _).drew)⟩
        | exact ⟨_, _, rfl, rfl, Lib.hid (SX.of2 ((HM1.out.alloc_at rfl _ _).alloc_at (World.size_alloc _ _) _ _).drew)⟩
  case rest =>
  obtain ⟨A, B, rfl, rfl, HSX⟩ := hcut
  clear d0 d1 d2
  have cn := (HQ.out _ HSX.out.b).cn
  have ln := (HQ.out _ HSX.out.b).l.2.1
  go_wp2
  clear cn ln
  go_loopg [7, 16] k (fun gk v i wr => ∃ j : Nat, j + gk = k ∧ i = .int .i64 j ∧ (∃ V : Int, v = .int .i64 V ∧ Hid (V = swG true ss 1 0 j x y)) ∧ ∃ P Q R S : Int, ((-50 ≤ P ∧ P ≤ 100) ∧ (-50 ≤ Q ∧ Q ≤ 100)) ∧ ((-50 ≤ R ∧ R ≤ 100) ∧ (-50 ≤ S ∧ S ≤ 100)) ∧ Hid ((P = x - j * 1 ∧ Q = y - j * 0) ∧ R = x + j * 1 ∧ S = y + j * 0) ∧ Hid (SX w w.heap.size A B x y P Q R S wr))
  case atStart => exact ⟨0, by omega, rfl, ⟨g0, rfl, Lib.hid HG00.out⟩, x, y, x, y, by omega, by omega, Lib.hid (by omega), HSX⟩
  case round =>
    obtain ⟨j, hj, rfl, ⟨V, rfl, HV⟩, P, Q, R, S, ⟨⟨p1, p2⟩, q1, q2⟩, ⟨⟨r1, r2⟩, s1, s2⟩, HPQ, HS⟩ := hrel
    by_cases hlt : j < k
    · obtain ⟨gk', rfl⟩ : ∃ m, gk = m + 1 := ⟨gk - 1, by omega⟩
      have hlt' : (j : Int) < k := by omega
      obtain ⟨P', hP⟩ : ∃ z, z = P - 1 := ⟨_, rfl⟩
      obtain ⟨Q', hQ⟩ : ∃ z, z = Q - 0 := ⟨_, rfl⟩
      obtain ⟨R', hR⟩ : ∃ z, z = R + 1 := ⟨_, rfl⟩
      obtain ⟨S', hS⟩ : ∃ z, z = S + 0 := ⟨_, rfl⟩
      have HMI : Hid (∀ w', Calls Try.prog 100 #[.agg #[.int .i64 P, .int .i64 Q], .agg #[.int .i64 1, .int .i64 0]] w' fun e w'' => e = .returned (.agg #[.int .i64 P', .int .i64 Q']) ∧ Below w'.heap.size w' w'') := Lib.hid (fun w' => by
        rw [hP, hQ]; exact cminus_any P Q 1 0 (by omega) (by omega) (by omega) (by omega) w')
      have HPL : Hid (∀ w', Calls Try.prog 68 #[.agg #[.int .i64 R, .int .i64 S], .agg #[.int .i64 1, .int .i64 0]] w' fun e w'' => e = .returned (.agg #[.int .i64 R', .int .i64 S']) ∧ Below w'.heap.size w' w'') := Lib.hid (fun w' => by
        rw [hR, hS]; exact cplus_any R S 1 0 (by omega) (by omega) (by omega) (by omega) w')
      have HPQ2 : Hid ((P' = x - (j + 1 : Nat) * 1 ∧ Q' = y - (j + 1 : Nat) * 0) ∧ R' = x + (j + 1 : Nat) * 1 ∧ S' = y + (j + 1 : Nat) * 0) := Lib.hid (by have := HPQ.out; omega)
      have HBN : Hid (((-50 ≤ P' ∧ P' ≤ 100) ∧ (-50 ≤ Q' ∧ Q' ≤ 100)) ∧ ((-50 ≤ R' ∧ R' ≤ 100) ∧ (-50 ≤ S' ∧ S' ≤ 100))) := Lib.hid (by have := HPQ2.out; omega)
      have HQT : Hid (∀ w', Below w.heap.size w w' → w'.cell? ⟨pt, 0, none⟩ = some (.int .i64 1) ∧ w'.cell? ⟨pt, 1, none⟩ = some (.int .i64 0)) := Lib.hid (fun w' hb => (HQ.out w' hb).ct)
      clear hP hQ hR hS
      go_upto_region 5 with fail
      go_cut [] (fun wx => Hid (SX w w.heap.size A B x y P' Q' R' S' wx))
      case first =>
        have hs0 := HS.out.drew
        refine wp_region_held_drew (S := fun w' => w'.cell? ⟨pt, 0, none⟩ = some (.int .i64 1) ∧ w'.cell? ⟨pt, 1, none⟩ = some (.int .i64 0)) (by kernel_rfl) (HQT.out _ hs0.b) (fun hHeld => ?_)
        refine wpAnyH_take (i := 1) (oi := { dst := some 19, op := Op.load 87 (Operand.tmp 3), type := 87, pos := "spread.go:39", after := #[], guard := none }) (v := ?_) rfl (by kernel_rfl) (by kernel_rfl) (by kernel_rfl) (fun _ _ _ h => h) (Or.inl ⟨by rfl, ?_⟩) (by assumption) ?_
        rotate_left
        · intro w' hSw
          (try dsimp only at hSw)
          go_simp
          try with_reducible rfl
        (try simp only [Act.put, List.setIfInBounds_toArray, List.set_cons_zero, List.set_cons_succ])
        refine wpAnyH_take (i := 4) (oi := { dst := some 22, op := Op.load 87 (Operand.tmp 3), type := 87, pos := "spread.go:39", after := #[], guard := none }) (v := ?_) rfl (by kernel_rfl) (by kernel_rfl) (by kernel_rfl) (fun _ _ _ h => h) (Or.inl ⟨by rfl, ?_⟩) (by assumption) ?_
        rotate_left
        · intro w' hSw
          (try dsimp only at hSw)
          go_simp
          try with_reducible rfl
        (try simp only [Act.put, List.setIfInBounds_toArray, List.set_cons_zero, List.set_cons_succ])
        refine wpAnyH_ready (rs := [0, 3]) (by kernel_rfl) (by simp) ?_
        refine (AllReadyH.cons (o := { dst := some 18, op := Op.load 87 (Operand.tmp 8), type := 87, pos := "spread.go:39", after := #[], guard := none }) rfl (fun K hK => ?_) (AllReadyH.cons (o := { dst := some 21, op := Op.load 87 (Operand.tmp 9), type := 87, pos := "spread.go:39", after := #[], guard := none }) rfl (fun K hK => ?_) AllReadyH.nil))
        · obtain ⟨a0, a1, a2, a3, a4⟩ := block_two' hs0.hA
          go_simp
          clear a0 a1 a2 a3 a4
          refine hK.out _ _ (HQT.out _ hs0.b) (fun hHeld => ?_)
          clear hK K
          (try simp only [Act.put, List.setIfInBounds_toArray, List.set_cons_zero, List.set_cons_succ])
          refine wpAnyH_ready (rs := [2, 3]) (by kernel_rfl) (by simp) ?_
          refine (AllReadyH.cons (o := { dst := some 20, op := Op.call { callee := Callee.value (Operand.func 100), args := #[Operand.tmp 18, Operand.tmp 19], argTypes := #[87, 87] }, type := 87, pos := "spread.go:39", after := #[{ on := 0, ground := Ground.data }, { on := 1, ground := Ground.data }], guard := none }) rfl (fun K hK => ?_) (AllReadyH.cons (o := { dst := some 21, op := Op.load 87 (Operand.tmp 9), type := 87, pos := "spread.go:39", after := #[], guard := none }) rfl (fun K hK => ?_) AllReadyH.nil))
          · go_simp
            go_at_call 100
            with_reducible (refine (HMI.out _).mono ?_)
            rintro e w5 ⟨rfl, hb5⟩
            have hs1 := hs0.step hb5
            (try go_wp2_with fail)
            refine hK.out _ _ (HQT.out _ hs1.b) (fun hHeld => ?_)
            clear hK K
            (try simp only [Act.put, List.setIfInBounds_toArray, List.set_cons_zero, List.set_cons_succ])
            refine wpAnyH_ready (rs := [3]) (by kernel_rfl) (by simp) ?_
            refine (AllReadyH.cons (o := { dst := some 21, op := Op.load 87 (Operand.tmp 9), type := 87, pos := "spread.go:39", after := #[], guard := none }) rfl (fun K hK => ?_) AllReadyH.nil)
            obtain ⟨a0, a1, a2, a3, a4⟩ := block_two' hs1.hB
            go_simp
            clear a0 a1 a2 a3 a4
            refine hK.out _ _ (HQT.out _ hs1.b) (fun hHeld => ?_)
            clear hK K
            (try simp only [Act.put, List.setIfInBounds_toArray, List.set_cons_zero, List.set_cons_succ])
            refine wpAnyH_ready (rs := [5]) (by kernel_rfl) (by simp) ?_
            refine (AllReadyH.cons (o := { dst := some 23, op := Op.call { callee := Callee.value (Operand.func 68), args := #[Operand.tmp 21, Operand.tmp 22], argTypes := #[87, 87] }, type := 87, pos := "spread.go:39", after := #[{ on := 3, ground := Ground.data }, { on := 4, ground := Ground.data }, { on := 2, ground := Ground.chain }], guard := none }) rfl (fun K hK => ?_) AllReadyH.nil)
            go_simp
            go_at_call 68
            with_reducible (refine (HPL.out _).mono ?_)
            rintro e w6 ⟨rfl, hb6⟩
            have hs2 := hs1.step hb6
            (try go_wp2_with fail)
            refine hK.out _ _ (HQT.out _ hs2.b) (fun hHeld => ?_)
            clear hK K
            (try simp only [Act.put, List.setIfInBounds_toArray, List.set_cons_zero, List.set_cons_succ])
            refine wpAnyH_ready (rs := [6]) (by kernel_rfl) (by simp) ?_
            refine (AllReadyH.cons (o := { dst := none, op := Op.store 87 (Operand.tmp 8) (Operand.tmp 20), type := 0, pos := "spread.go:39", after := #[{ on := 2, ground := Ground.data }, { on := 5, ground := Ground.chain }, { on := 0, ground := Ground.phase }, { on := 1, ground := Ground.phase }, { on := 2, ground := Ground.phase }, { on := 3, ground := Ground.textOnly Departure.lateStores }, { on := 4, ground := Ground.textOnly Departure.lateStores }, { on := 5, ground := Ground.textOnly Departure.lateStoresUnsure }], guard := none }) rfl (fun K hK => ?_) AllReadyH.nil)
            obtain ⟨a0, a1, a2, a3, a4⟩ := block_two' hs2.hA
            have hs3 := hs2.setA P' Q'
            go_simp
            clear a0 a1 a2 a3 a4
            refine hK.out _ _ (HQT.out _ hs3.b) (fun hHeld => ?_)
            clear hK K
            (try simp only [Act.put, List.setIfInBounds_toArray, List.set_cons_zero, List.set_cons_succ])
            refine wpAnyH_ready (rs := [7]) (by kernel_rfl) (by simp) ?_
            refine (AllReadyH.cons (o := { dst := none, op := Op.store 87 (Operand.tmp 9) (Operand.tmp 23), type := 0, pos := "spread.go:39", after := #[{ on := 5, ground := Ground.data }, { on := 6, ground := Ground.chain }, { on := 0, ground := Ground.phase }, { on := 1, ground := Ground.phase }, { on := 2, ground := Ground.phase }, { on := 3, ground := Ground.phase }, { on := 4, ground := Ground.phase }, { on := 5, ground := Ground.phase }, { on := 6, ground := Ground.phase }], guard := none }) rfl (fun K hK => ?_) AllReadyH.nil)
            obtain ⟨a0, a1, a2, a3, a4⟩ := block_two' hs3.hB
            have hs4 := hs3.setB R' S'
            go_simp
            clear a0 a1 a2 a3 a4
            refine hK.out _ _ (HQT.out _ hs4.b) (fun hHeld => ?_)
            clear hK K
            (try simp only [Act.put, List.setIfInBounds_toArray, List.set_cons_zero, List.set_cons_succ])
            refine wpAnyH_done (by kernel_rfl) ?_ _
            go_wp2_with fail
            go_meet
            exact Lib.hid hs4
          · obtain ⟨a0, a1, a2, a3, a4⟩ := block_two' hs0.hB
            go_simp
            clear a0 a1 a2 a3 a4
            refine hK.out _ _ (HQT.out _ hs0.b) (fun hHeld => ?_)
            clear hK K
            (try simp only [Act.put, List.setIfInBounds_toArray, List.set_cons_zero, List.set_cons_succ])
            refine wpAnyH_ready (rs := [2]) (by kernel_rfl) (by simp) ?_
            refine (AllReadyH.cons (o := { dst := some 20, op := Op.call { callee := Callee.value (Operand.func 100), args := #[Operand.tmp 18, Operand.tmp 19], argTypes := #[87, 87] }, type := 87, pos := "spread.go:39", after := #[{ on := 0, ground := Ground.data }, { on := 1, ground := Ground.data }], guard := none }) rfl (fun K hK => ?_) AllReadyH.nil)
            go_simp
            go_at_call 100
            with_reducible (refine (HMI.out _).mono ?_)
            rintro e w5 ⟨rfl, hb5⟩
            have hs1 := hs0.step hb5
            (try go_wp2_with fail)
            refine hK.out _ _ (HQT.out _ hs1.b) (fun hHeld => ?_)
            clear hK K
            (try simp only [Act.put, List.setIfInBounds_toArray, List.set_cons_zero, List.set_cons_succ])
            refine wpAnyH_ready (rs := [5]) (by kernel_rfl) (by simp) ?_
            refine (AllReadyH.cons (o := { dst := some 23, op := Op.call { callee := Callee.value (Operand.func 68), args := #[Operand.tmp 21, Operand.tmp 22], argTypes := #[87, 87] }, type := 87, pos := "spread.go:39", after := #[{ on := 3, ground := Ground.data }, { on := 4, ground := Ground.data }, { on := 2, ground := Ground.chain }], guard := none }) rfl (fun K hK => ?_) AllReadyH.nil)
            go_simp
            go_at_call 68
            with_reducible (refine (HPL.out _).mono ?_)
            rintro e w6 ⟨rfl, hb6⟩
            have hs2 := hs1.step hb6
            (try go_wp2_with fail)
            refine hK.out _ _ (HQT.out _ hs2.b) (fun hHeld => ?_)
            clear hK K
            (try simp only [Act.put, List.setIfInBounds_toArray, List.set_cons_zero, List.set_cons_succ])
            refine wpAnyH_ready (rs := [6]) (by kernel_rfl) (by simp) ?_
            refine (AllReadyH.cons (o := { dst := none, op := Op.store 87 (Operand.tmp 8) (Operand.tmp 20), type := 0, pos := "spread.go:39", after := #[{ on := 2, ground := Ground.data }, { on := 5, ground := Ground.chain }, { on := 0, ground := Ground.phase }, { on := 1, ground := Ground.phase }, { on := 2, ground := Ground.phase }, { on := 3, ground := Ground.textOnly Departure.lateStores }, { on := 4, ground := Ground.textOnly Departure.lateStores }, { on := 5, ground := Ground.textOnly Departure.lateStoresUnsure }], guard := none }) rfl (fun K hK => ?_) AllReadyH.nil)
            obtain ⟨a0, a1, a2, a3, a4⟩ := block_two' hs2.hA
            have hs3 := hs2.setA P' Q'
            go_simp
            clear a0 a1 a2 a3 a4
            refine hK.out _ _ (HQT.out _ hs3.b) (fun hHeld => ?_)
            clear hK K
            (try simp only [Act.put, List.setIfInBounds_toArray, List.set_cons_zero, List.set_cons_succ])
            refine wpAnyH_ready (rs := [7]) (by kernel_rfl) (by simp) ?_
            refine (AllReadyH.cons (o := { dst := none, op := Op.store 87 (Operand.tmp 9) (Operand.tmp 23), type := 0, pos := "spread.go:39", after := #[{ on := 5, ground := Ground.data }, { on := 6, ground := Ground.chain }, { on := 0, ground := Ground.phase }, { on := 1, ground := Ground.phase }, { on := 2, ground := Ground.phase }, { on := 3, ground := Ground.phase }, { on := 4, ground := Ground.phase }, { on := 5, ground := Ground.phase }, { on := 6, ground := Ground.phase }], guard := none }) rfl (fun K hK => ?_) AllReadyH.nil)
            obtain ⟨a0, a1, a2, a3, a4⟩ := block_two' hs3.hB
            have hs4 := hs3.setB R' S'
            go_simp
            clear a0 a1 a2 a3 a4
            refine hK.out _ _ (HQT.out _ hs4.b) (fun hHeld => ?_)
            clear hK K
            (try simp only [Act.put, List.setIfInBounds_toArray, List.set_cons_zero, List.set_cons_succ])
            refine wpAnyH_done (by kernel_rfl) ?_ _
            go_wp2_with fail
            go_meet
            exact Lib.hid hs4
        · obtain ⟨a0, a1, a2, a3, a4⟩ := block_two' hs0.hB
          go_simp
          clear a0 a1 a2 a3 a4
          refine hK.out _ _ (HQT.out _ hs0.b) (fun hHeld => ?_)
          clear hK K
          (try simp only [Act.put, List.setIfInBounds_toArray, List.set_cons_zero, List.set_cons_succ])
          refine wpAnyH_ready (rs := [0]) (by kernel_rfl) (by simp) ?_
          refine (AllReadyH.cons (o := { dst := some 18, op := Op.load 87 (Operand.tmp 8), type := 87, pos := "spread.go:39", after := #[], guard := none }) rfl (fun K hK => ?_) AllReadyH.nil)
          obtain ⟨a0, a1, a2, a3, a4⟩ := block_two' hs0.hA
          go_simp
          clear a0 a1 a2 a3 a4
          refine hK.out _ _ (HQT.out _ hs0.b) (fun hHeld => ?_)
          clear hK K
          (try simp only [Act.put, List.setIfInBounds_toArray, List.set_cons_zero, List.set_cons_succ])
          refine wpAnyH_ready (rs := [2]) (by kernel_rfl) (by simp) ?_
          refine (AllReadyH.cons (o := { dst := some 20, op := Op.call { callee := Callee.value (Operand.func 100), args := #[Operand.tmp 18, Operand.tmp 19], argTypes := #[87, 87] }, type := 87, pos := "spread.go:39", after := #[{ on := 0, ground := Ground.data }, { on := 1, ground := Ground.data }], guard := none }) rfl (fun K hK => ?_) AllReadyH.nil)
          go_simp
          go_at_call 100
          with_reducible (refine (HMI.out _).mono ?_)
          rintro e w5 ⟨rfl, hb5⟩
          have hs1 := hs0.step hb5
          (try go_wp2_with fail)
          refine hK.out _ _ (HQT.out _ hs1.b) (fun hHeld => ?_)
          clear hK K
          (try simp only [Act.put, List.setIfInBounds_toArray, List.set_cons_zero, List.set_cons_succ])
          refine wpAnyH_ready (rs := [5]) (by kernel_rfl) (by simp) ?_
          refine (AllReadyH.cons (o := { dst := some 23, op := Op.call { callee := Callee.value (Operand.func 68), args := #[Operand.tmp 21, Operand.tmp 22], argTypes := #[87, 87] }, type := 87, pos := "spread.go:39", after := #[{ on := 3, ground := Ground.data }, { on := 4, ground := Ground.data }, { on := 2, ground := Ground.chain }], guard := none }) rfl (fun K hK => ?_) AllReadyH.nil)
          go_simp
          go_at_call 68
          with_reducible (refine (HPL.out _).mono ?_)
          rintro e w6 ⟨rfl, hb6⟩
          have hs2 := hs1.step hb6
          (try go_wp2_with fail)
          refine hK.out _ _ (HQT.out _ hs2.b) (fun hHeld => ?_)
          clear hK K
          (try simp only [Act.put, List.setIfInBounds_toArray, List.set_cons_zero, List.set_cons_succ])
          refine wpAnyH_ready (rs := [6]) (by kernel_rfl) (by simp) ?_
          refine (AllReadyH.cons (o := { dst := none, op := Op.store 87 (Operand.tmp 8) (Operand.tmp 20), type := 0, pos := "spread.go:39", after := #[{ on := 2, ground := Ground.data }, { on := 5, ground := Ground.chain }, { on := 0, ground := Ground.phase }, { on := 1, ground := Ground.phase }, { on := 2, ground := Ground.phase }, { on := 3, ground := Ground.textOnly Departure.lateStores }, { on := 4, ground := Ground.textOnly Departure.lateStores }, { on := 5, ground := Ground.textOnly Departure.lateStoresUnsure }], guard := none }) rfl (fun K hK => ?_) AllReadyH.nil)
          obtain ⟨a0, a1, a2, a3, a4⟩ := block_two' hs2.hA
          have hs3 := hs2.setA P' Q'
          go_simp
          clear a0 a1 a2 a3 a4
          refine hK.out _ _ (HQT.out _ hs3.b) (fun hHeld => ?_)
          clear hK K
          (try simp only [Act.put, List.setIfInBounds_toArray, List.set_cons_zero, List.set_cons_succ])
          refine wpAnyH_ready (rs := [7]) (by kernel_rfl) (by simp) ?_
          refine (AllReadyH.cons (o := { dst := none, op := Op.store 87 (Operand.tmp 9) (Operand.tmp 23), type := 0, pos := "spread.go:39", after := #[{ on := 5, ground := Ground.data }, { on := 6, ground := Ground.chain }, { on := 0, ground := Ground.phase }, { on := 1, ground := Ground.phase }, { on := 2, ground := Ground.phase }, { on := 3, ground := Ground.phase }, { on := 4, ground := Ground.phase }, { on := 5, ground := Ground.phase }, { on := 6, ground := Ground.phase }], guard := none }) rfl (fun K hK => ?_) AllReadyH.nil)
          obtain ⟨a0, a1, a2, a3, a4⟩ := block_two' hs3.hB
          have hs4 := hs3.setB R' S'
          go_simp
          clear a0 a1 a2 a3 a4
          refine hK.out _ _ (HQT.out _ hs4.b) (fun hHeld => ?_)
          clear hK K
          (try simp only [Act.put, List.setIfInBounds_toArray, List.set_cons_zero, List.set_cons_succ])
          refine wpAnyH_done (by kernel_rfl) ?_ _
          go_wp2_with fail
          go_meet
          exact Lib.hid hs4
      case rest =>
      obtain ⟨ga, hga⟩ : ∃ z, z = grd ss P' Q' := ⟨_, rfl⟩
      obtain ⟨gb, hgb⟩ : ∃ z, z = grd ss R' S' := ⟨_, rfl⟩
      obtain ⟨gp, hgp⟩ : ∃ z, z = pk true ga gb := ⟨_, rfl⟩
      obtain ⟨V', hV'⟩ : ∃ z, z = pk true V gp := ⟨_, rfl⟩
      have HNV : Hid (V' = swG true ss 1 0 (j + 1) x y) := Lib.hid (by
        obtain ⟨⟨e1, e2⟩, e3, e4⟩ := HPQ2.out
        rw [hV', hgp, hga, hgb, HV.out, e1, e2, e3, e4]
        rfl)
      have HGA : Hid (∀ w', Below w.heap.size w w' → Calls Try.prog 65 #[.slice a ss.length cap, .agg #[.int .i64 P', .int .i64 Q']] w' fun e w'' => e = .returned (.int .i64 ga) ∧ Below w'.heap.size w' w'') := Lib.hid (fun w' hb => by rw [hga]; exact HG.out w' P' Q' hb)
      have HGB : Hid (∀ w', Below w.heap.size w w' → Calls Try.prog 65 #[.slice a ss.length cap, .agg #[.int .i64 R', .int .i64 S']] w' fun e w'' => e = .returned (.int .i64 gb) ∧ Below w'.heap.size w' w'') := Lib.hid (fun w' hb => by rw [hgb]; exact HG.out w' R' S' hb)
      have HK1 : Hid (∀ w', Calls Try.prog 78 #[.int .i64 ga, .int .i64 gb] w' fun e w'' => e = .returned (.int .i64 gp) ∧ Below w'.heap.size w' w'') := Lib.hid (fun w' => by rw [hgp]; exact pickE_any ga gb w')
      have HK2 : Hid (∀ w', Calls Try.prog 78 #[.int .i64 V, .int .i64 gp] w' fun e w'' => e = .returned (.int .i64 V') ∧ Below w'.heap.size w' w'') := Lib.hid (fun w' => by rw [hV']; exact pickE_any V gp w')
      have HC6 := Lib.hid (fun (w' : World) (h : SX w w.heap.size A B x y P' Q' R' S' w') => (show SX w w.heap.size A B x y P' Q' R' S' w' ∧ w'.cell? ⟨ps, 0, none⟩ = some (.slice a ss.length cap) ∧ w'.cell? ⟨pf, 0, none⟩ = some (.func (.func 78) #[] #[]) ∧ w'.cell? ⟨A, 0, none⟩ = some (.int .i64 P') ∧ w'.cell? ⟨A, 1, none⟩ = some (.int .i64 Q') ∧ w'.cell? ⟨B, 0, none⟩ = some (.int .i64 R') ∧ w'.cell? ⟨B, 1, none⟩ = some (.int .i64 S') from
        ⟨h, (HQ.out w' h.b).cs, (HQ.out w' h.b).cf, (block_two h.hA).1, (block_two h.hA).2.1, (block_two h.hB).1, (block_two h.hB).2.1⟩))
      have HSB := Lib.hid (fun (w' : World) (h : SX w w.heap.size A B x y P' Q' R' S' w') => h.b)
      clear hga hgb hgp hV'
      go_upto_region 6 with fail
      go_region_held3 (fun w' => SX w w.heap.size A B x y P' Q' R' S' w' ∧ w'.cell? ⟨ps, 0, none⟩ = some (.slice a ss.length cap) ∧ w'.cell? ⟨pf, 0, none⟩ = some (.func (.func 78) #[] #[]) ∧ w'.cell? ⟨A, 0, none⟩ = some (.int .i64 P') ∧ w'.cell? ⟨A, 1, none⟩ = some (.int .i64 Q') ∧ w'.cell? ⟨B, 0, none⟩ = some (.int .i64 R') ∧ w'.cell? ⟨B, 1, none⟩ = some (.int .i64 S'))
        (first | exact HC6.out _ hcut.out.drew | (go_split_ands; exact HC6.out _ (SX.step (by assumption) (by assumption))))
        (first
          | (go_at_call 65; go_split_ands; (first | with_reducible (refine (HGA.out _ (HSB.out _ (by assumption))).mono ?_) | with_reducible (refine (HGB.out _ (HSB.out _ (by assumption))).mono ?_)); rintro e w3 ⟨rfl, hb3⟩)
          | (go_at_call 78; go_split_ands; (first | with_reducible (refine (HK1.out _).mono ?_) | with_reducible (refine (HK2.out _).mono ?_)); rintro e w3 ⟨rfl, hb3⟩))
      all_goals
        go_split_ands
        have HS7 := Lib.hid (by assumption : SX w w.heap.size A B x y P' Q' R' S' w3)
        go_wp2
        go_roundg gk'
        case measure => exact Nat.lt_succ_self _
        case rel => exact ⟨j + 1, by omega, by go_num, ⟨V', rfl, HNV⟩, P', Q', R', S', HBN.out.1, HBN.out.2, HPQ2, HS7⟩
    · obtain rfl : j = k := by omega
      have HE : Hid (V = RES) := Lib.hid (by rw [HV.out, HEND.out])
      go_wp2
      go_ret
      exact ⟨by rw [HE.out]; rfl, HS.out.b⟩

set_option maxRecDepth 100000 in
set_option maxHeartbeats 6400000 in
theorem sweepE01 (w0 : World) (ps pn pt pf : Nat) (a : Option Addr) (cap : Nat) (ss : List ByteArray) (hs : skB ss = true) (k : Nat) (hk : k ≤ 48) (hq : SQ w0 ps pn pt pf a cap ss k 0 1 (.func (.func 78) #[] #[])) (x y : Nat) (hx : x ≤ 48) (hy : y ≤ 48) (w : World) (hb : Below w0.heap.size w0 w) :
    Calls Try.prog 99 #[.agg #[.int .i64 x, .int .i64 y], .pointer (some ⟨ps, 0, none⟩), .pointer (some ⟨pn, 0, none⟩), .pointer (some ⟨pt, 0, none⟩), .pointer (some ⟨pf, 0, none⟩)] w fun e w' => e = .returned (.int .i64 (swN true ss 0 1 k x y)) ∧ Below w.heap.size w w' := by
  have HQ : Hid (∀ w', Below w.heap.size w w' → SQ w' ps pn pt pf a cap ss k 0 1 (.func (.func 78) #[] #[])) := Lib.hid (fun w' hb' => (hq.below hb).below hb')
  have HG : Hid (∀ w' (p q : Int), Below w.heap.size w w' → Calls Try.prog 65 #[.slice a ss.length cap, .agg #[.int .i64 p, .int .i64 q]] w' fun e w'' => e = .returned (.int .i64 (grd ss p q)) ∧ Below w'.heap.size w' w'') := Lib.hid (fun w' p q hb' => gradeAt_any a cap ss hs p q w' ((hq.below hb).below hb').st)
  have HEND : Hid (swG true ss 0 1 k x y = (swN true ss 0 1 k x y : Int)) := Lib.hid (swN_eq true hs 0 1 k x y).1
  obtain ⟨RES, hRES⟩ : ∃ r, r = (swN true ss 0 1 k x y : Int) := ⟨_, rfl⟩
  rw [← hRES] at HEND ⊢
  have HM0 := Lib.hid ((Mem.nil w).alloc #[.int .i64 x, .int .i64 y] 87)
  have hq0 := HQ.out _ HM0.out.b
  have l1 := hq0.l.1
  have c1 := hq0.cs
  obtain ⟨g0, hg0⟩ : ∃ g, g = grd ss x y := ⟨_, rfl⟩
  have HG0 := Lib.hid (HG.out _ x y HM0.out.b)
  rw [← hg0] at HG0
  have HG00 := Lib.hid hg0
  clear hq hb hs hRES hg0 hq0
  go_enter Try.func99, Try.ntmps99
  go_wp2_with fail
  refine HG0.out.mono ?_
  rintro e w1 ⟨rfl, hb1⟩
  have HM1 := Lib.hid (HM0.out.step hb1)
  obtain ⟨d0, d1, -, -, d2⟩ := HM1.out.c2
  clear hb1 l1 c1
  go_upto_region 2 with fail
  go_cut [8, 9] (fun s8 s9 wx => ∃ A B : Nat, s8 = .pointer (some ⟨A, 0, none⟩) ∧ s9 = .pointer (some ⟨B, 0, none⟩) ∧ Hid (SX w w.heap.size A B x y x y x y wx))
  case first =>
    have HC9 : Hid (∀ w', Mem w [(w.heap.size, #[.int .i64 x, .int .i64 y], 87)] w' → Mem w [(w.heap.size, #[.int .i64 x, .int .i64 y], 87)] w' ∧ w'.cell? ⟨w.heap.size, 0, none⟩ = some (.int .i64 x) ∧ w'.cell? ⟨w.heap.size, 1, none⟩ = some (.int .i64 y)) := Lib.hid (fun w' hm => ⟨hm, hm.c2.1, hm.c2.2.1⟩)
    clear d0 d1
    go_region_held3 (fun w' => Mem w [(w.heap.size, #[.int .i64 x, .int .i64 y], 87)] w' ∧ w'.cell? ⟨w.heap.size, 0, none⟩ = some (.int .i64 x) ∧ w'.cell? ⟨w.heap.size, 1, none⟩ = some (.int .i64 y))
      (first | (refine HC9.out _ ?_; repeat (first | exact HM1.out | refine Mem.drew ?_ | refine Mem.skip ?_ _ | refine Mem.set_new2 ?_ (by simp; omega) _ _)))
      (fail)
    all_goals go_wp2_with fail
    all_goals
      go_meet
      first
        | exact ⟨_, _, rfl, rfl, Lib.hid (SX.of1 ((HM1.out.alloc_at rfl _ _).alloc_at (World.size_alloc _ _) _ _).drew)⟩
        | exact ⟨_, _, rfl, rfl, Lib.hid (SX.of2 ((HM1.out.alloc_at rfl _ _).alloc_at (World.size_alloc _ _) _ _).drew)⟩
  case rest =>
  obtain ⟨A, B, rfl, rfl, HSX⟩ := hcut
  clear d0 d1 d2
  have cn := (HQ.out _ HSX.out.b).cn
  have ln := (HQ.out _ HSX.out.b).l.2.1
  go_wp2
  clear cn ln
  go_loopg [7, 16] k (fun gk v i wr => ∃ j : Nat, j + gk = k ∧ i = .int .i64 j ∧ (∃ V : Int, v = .int .i64 V ∧ Hid (V = swG true ss 0 1 j x y)) ∧ ∃ P Q R S : Int, ((-50 ≤ P ∧ P ≤ 100) ∧ (-50 ≤ Q ∧ Q ≤ 100)) ∧ ((-50 ≤ R ∧ R ≤ 100) ∧ (-50 ≤ S ∧ S ≤ 100)) ∧ Hid ((P = x - j * 0 ∧ Q = y - j * 1) ∧ R = x + j * 0 ∧ S = y + j * 1) ∧ Hid (SX w w.heap.size A B x y P Q R S wr))
  case atStart => exact ⟨0, by omega, rfl, ⟨g0, rfl, Lib.hid HG00.out⟩, x, y, x, y, by omega, by omega, Lib.hid (by omega), HSX⟩
  case round =>
    obtain ⟨j, hj, rfl, ⟨V, rfl, HV⟩, P, Q, R, S, ⟨⟨p1, p2⟩, q1, q2⟩, ⟨⟨r1, r2⟩, s1, s2⟩, HPQ, HS⟩ := hrel
    by_cases hlt : j < k
    · obtain ⟨gk', rfl⟩ : ∃ m, gk = m + 1 := ⟨gk - 1, by omega⟩
      have hlt' : (j : Int) < k := by omega
      obtain ⟨P', hP⟩ : ∃ z, z = P - 0 := ⟨_, rfl⟩
      obtain ⟨Q', hQ⟩ : ∃ z, z = Q - 1 := ⟨_, rfl⟩
      obtain ⟨R', hR⟩ : ∃ z, z = R + 0 := ⟨_, rfl⟩
      obtain ⟨S', hS⟩ : ∃ z, z = S + 1 := ⟨_, rfl⟩
      have HMI : Hid (∀ w', Calls Try.prog 100 #[.agg #[.int .i64 P, .int .i64 Q], .agg #[.int .i64 0, .int .i64 1]] w' fun e w'' => e = .returned (.agg #[.int .i64 P', .int .i64 Q']) ∧ Below w'.heap.size w' w'') := Lib.hid (fun w' => by
        rw [hP, hQ]; exact cminus_any P Q 0 1 (by omega) (by omega) (by omega) (by omega) w')
      have HPL : Hid (∀ w', Calls Try.prog 68 #[.agg #[.int .i64 R, .int .i64 S], .agg #[.int .i64 0, .int .i64 1]] w' fun e w'' => e = .returned (.agg #[.int .i64 R', .int .i64 S']) ∧ Below w'.heap.size w' w'') := Lib.hid (fun w' => by
        rw [hR, hS]; exact cplus_any R S 0 1 (by omega) (by omega) (by omega) (by omega) w')
      have HPQ2 : Hid ((P' = x - (j + 1 : Nat) * 0 ∧ Q' = y - (j + 1 : Nat) * 1) ∧ R' = x + (j + 1 : Nat) * 0 ∧ S' = y + (j + 1 : Nat) * 1) := Lib.hid (by have := HPQ.out; omega)
      have HBN : Hid (((-50 ≤ P' ∧ P' ≤ 100) ∧ (-50 ≤ Q' ∧ Q' ≤ 100)) ∧ ((-50 ≤ R' ∧ R' ≤ 100) ∧ (-50 ≤ S' ∧ S' ≤ 100))) := Lib.hid (by have := HPQ2.out; omega)
      have HQT : Hid (∀ w', Below w.heap.size w w' → w'.cell? ⟨pt, 0, none⟩ = some (.int .i64 0) ∧ w'.cell? ⟨pt, 1, none⟩ = some (.int .i64 1)) := Lib.hid (fun w' hb => (HQ.out w' hb).ct)
      clear hP hQ hR hS
      go_upto_region 5 with fail
      go_cut [] (fun wx => Hid (SX w w.heap.size A B x y P' Q' R' S' wx))
      case first =>
        have hs0 := HS.out.drew
        refine wp_region_held_drew (S := fun w' => w'.cell? ⟨pt, 0, none⟩ = some (.int .i64 0) ∧ w'.cell? ⟨pt, 1, none⟩ = some (.int .i64 1)) (by kernel_rfl) (HQT.out _ hs0.b) (fun hHeld => ?_)
        refine wpAnyH_take (i := 1) (oi := { dst := some 19, op := Op.load 87 (Operand.tmp 3), type := 87, pos := "spread.go:39", after := #[], guard := none }) (v := ?_) rfl (by kernel_rfl) (by kernel_rfl) (by kernel_rfl) (fun _ _ _ h => h) (Or.inl ⟨by rfl, ?_⟩) (by assumption) ?_
        rotate_left
        · intro w' hSw
          (try dsimp only at hSw)
          go_simp
          try with_reducible rfl
        (try simp only [Act.put, List.setIfInBounds_toArray, List.set_cons_zero, List.set_cons_succ])
        refine wpAnyH_take (i := 4) (oi := { dst := some 22, op := Op.load 87 (Operand.tmp 3), type := 87, pos := "spread.go:39", after := #[], guard := none }) (v := ?_) rfl (by kernel_rfl) (by kernel_rfl) (by kernel_rfl) (fun _ _ _ h => h) (Or.inl ⟨by rfl, ?_⟩) (by assumption) ?_
        rotate_left
        · intro w' hSw
          (try dsimp only at hSw)
          go_simp
          try with_reducible rfl
        (try simp only [Act.put, List.setIfInBounds_toArray, List.set_cons_zero, List.set_cons_succ])
        refine wpAnyH_ready (rs := [0, 3]) (by kernel_rfl) (by simp) ?_
        refine (AllReadyH.cons (o := { dst := some 18, op := Op.load 87 (Operand.tmp 8), type := 87, pos := "spread.go:39", after := #[], guard := none }) rfl (fun K hK => ?_) (AllReadyH.cons (o := { dst := some 21, op := Op.load 87 (Operand.tmp 9), type := 87, pos := "spread.go:39", after := #[], guard := none }) rfl (fun K hK => ?_) AllReadyH.nil))
        · obtain ⟨a0, a1, a2, a3, a4⟩ := block_two' hs0.hA
          go_simp
          clear a0 a1 a2 a3 a4
          refine hK.out _ _ (HQT.out _ hs0.b) (fun hHeld => ?_)
          clear hK K
          (try simp only [Act.put, List.setIfInBounds_toArray, List.set_cons_zero, List.set_cons_succ])
          refine wpAnyH_ready (rs := [2, 3]) (by kernel_rfl) (by simp) ?_
          refine (AllReadyH.cons (o := { dst := some 20, op := Op.call { callee := Callee.value (Operand.func 100), args := #[Operand.tmp 18, Operand.tmp 19], argTypes := #[87, 87] }, type := 87, pos := "spread.go:39", after := #[{ on := 0, ground := Ground.data }, { on := 1, ground := Ground.data }], guard := none }) rfl (fun K hK => ?_) (AllReadyH.cons (o := { dst := some 21, op := Op.load 87 (Operand.tmp 9), type := 87, pos := "spread.go:39", after := #[], guard := none }) rfl (fun K hK => ?_) AllReadyH.nil))
          · go_simp
            go_at_call 100
            with_reducible (refine (HMI.out _).mono ?_)
            rintro e w5 ⟨rfl, hb5⟩
            have hs1 := hs0.step hb5
            (try go_wp2_with fail)
            refine hK.out _ _ (HQT.out _ hs1.b) (fun hHeld => ?_)
            clear hK K
            (try simp only [Act.put, List.setIfInBounds_toArray, List.set_cons_zero, List.set_cons_succ])
            refine wpAnyH_ready (rs := [3]) (by kernel_rfl) (by simp) ?_
            refine (AllReadyH.cons (o := { dst := some 21, op := Op.load 87 (Operand.tmp 9), type := 87, pos := "spread.go:39", after := #[], guard := none }) rfl (fun K hK => ?_) AllReadyH.nil)
            obtain ⟨a0, a1, a2, a3, a4⟩ := block_two' hs1.hB
            go_simp
            clear a0 a1 a2 a3 a4
            refine hK.out _ _ (HQT.out _ hs1.b) (fun hHeld => ?_)
            clear hK K
            (try simp only [Act.put, List.setIfInBounds_toArray, List.set_cons_zero, List.set_cons_succ])
            refine wpAnyH_ready (rs := [5]) (by kernel_rfl) (by simp) ?_
            refine (AllReadyH.cons (o := { dst := some 23, op := Op.call { callee := Callee.value (Operand.func 68), args := #[Operand.tmp 21, Operand.tmp 22], argTypes := #[87, 87] }, type := 87, pos := "spread.go:39", after := #[{ on := 3, ground := Ground.data }, { on := 4, ground := Ground.data }, { on := 2, ground := Ground.chain }], guard := none }) rfl (fun K hK => ?_) AllReadyH.nil)
            go_simp
            go_at_call 68
            with_reducible (refine (HPL.out _).mono ?_)
            rintro e w6 ⟨rfl, hb6⟩
            have hs2 := hs1.step hb6
            (try go_wp2_with fail)
            refine hK.out _ _ (HQT.out _ hs2.b) (fun hHeld => ?_)
            clear hK K
            (try simp only [Act.put, List.setIfInBounds_toArray, List.set_cons_zero, List.set_cons_succ])
            refine wpAnyH_ready (rs := [6]) (by kernel_rfl) (by simp) ?_
            refine (AllReadyH.cons (o := { dst := none, op := Op.store 87 (Operand.tmp 8) (Operand.tmp 20), type := 0, pos := "spread.go:39", after := #[{ on := 2, ground := Ground.data }, { on := 5, ground := Ground.chain }, { on := 0, ground := Ground.phase }, { on := 1, ground := Ground.phase }, { on := 2, ground := Ground.phase }, { on := 3, ground := Ground.textOnly Departure.lateStores }, { on := 4, ground := Ground.textOnly Departure.lateStores }, { on := 5, ground := Ground.textOnly Departure.lateStoresUnsure }], guard := none }) rfl (fun K hK => ?_) AllReadyH.nil)
            obtain ⟨a0, a1, a2, a3, a4⟩ := block_two' hs2.hA
            have hs3 := hs2.setA P' Q'
            go_simp
            clear a0 a1 a2 a3 a4
            refine hK.out _ _ (HQT.out _ hs3.b) (fun hHeld => ?_)
            clear hK K
            (try simp only [Act.put, List.setIfInBounds_toArray, List.set_cons_zero, List.set_cons_succ])
            refine wpAnyH_ready (rs := [7]) (by kernel_rfl) (by simp) ?_
            refine (AllReadyH.cons (o := { dst := none, op := Op.store 87 (Operand.tmp 9) (Operand.tmp 23), type := 0, pos := "spread.go:39", after := #[{ on := 5, ground := Ground.data }, { on := 6, ground := Ground.chain }, { on := 0, ground := Ground.phase }, { on := 1, ground := Ground.phase }, { on := 2, ground := Ground.phase }, { on := 3, ground := Ground.phase }, { on := 4, ground := Ground.phase }, { on := 5, ground := Ground.phase }, { on := 6, ground := Ground.phase }], guard := none }) rfl (fun K hK => ?_) AllReadyH.nil)
            obtain ⟨a0, a1, a2, a3, a4⟩ := block_two' hs3.hB
            have hs4 := hs3.setB R' S'
            go_simp
            clear a0 a1 a2 a3 a4
            refine hK.out _ _ (HQT.out _ hs4.b) (fun hHeld => ?_)
            clear hK K
            (try simp only [Act.put, List.setIfInBounds_toArray, List.set_cons_zero, List.set_cons_succ])
            refine wpAnyH_done (by kernel_rfl) ?_ _
            go_wp2_with fail
            go_meet
            exact Lib.hid hs4
          · obtain ⟨a0, a1, a2, a3, a4⟩ := block_two' hs0.hB
            go_simp
            clear a0 a1 a2 a3 a4
            refine hK.out _ _ (HQT.out _ hs0.b) (fun hHeld => ?_)
            clear hK K
            (try simp only [Act.put, List.setIfInBounds_toArray, List.set_cons_zero, List.set_cons_succ])
            refine wpAnyH_ready (rs := [2]) (by kernel_rfl) (by simp) ?_
            refine (AllReadyH.cons (o := { dst := some 20, op := Op.call { callee := Callee.value (Operand.func 100), args := #[Operand.tmp 18, Operand.tmp 19], argTypes := #[87, 87] }, type := 87, pos := "spread.go:39", after := #[{ on := 0, ground := Ground.data }, { on := 1, ground := Ground.data }], guard := none }) rfl (fun K hK => ?_) AllReadyH.nil)
            go_simp
            go_at_call 100
            with_reducible (refine (HMI.out _).mono ?_)
            rintro e w5 ⟨rfl, hb5⟩
            have hs1 := hs0.step hb5
            (try go_wp2_with fail)
            refine hK.out _ _ (HQT.out _ hs1.b) (fun hHeld => ?_)
            clear hK K
            (try simp only [Act.put, List.setIfInBounds_toArray, List.set_cons_zero, List.set_cons_succ])
            refine wpAnyH_ready (rs := [5]) (by kernel_rfl) (by simp) ?_
            refine (AllReadyH.cons (o := { dst := some 23, op := Op.call { callee := Callee.value (Operand.func 68), args := #[Operand.tmp 21, Operand.tmp 22], argTypes := #[87, 87] }, type := 87, pos := "spread.go:39", after := #[{ on := 3, ground := Ground.data }, { on := 4, ground := Ground.data }, { on := 2, ground := Ground.chain }], guard := none }) rfl (fun K hK => ?_) AllReadyH.nil)
            go_simp
            go_at_call 68
            with_reducible (refine (HPL.out _).mono ?_)
            rintro e w6 ⟨rfl, hb6⟩
            have hs2 := hs1.step hb6
            (try go_wp2_with fail)
            refine hK.out _ _ (HQT.out _ hs2.b) (fun hHeld => ?_)
            clear hK K
            (try simp only [Act.put, List.setIfInBounds_toArray, List.set_cons_zero, List.set_cons_succ])
            refine wpAnyH_ready (rs := [6]) (by kernel_rfl) (by simp) ?_
            refine (AllReadyH.cons (o := { dst := none, op := Op.store 87 (Operand.tmp 8) (Operand.tmp 20), type := 0, pos := "spread.go:39", after := #[{ on := 2, ground := Ground.data }, { on := 5, ground := Ground.chain }, { on := 0, ground := Ground.phase }, { on := 1, ground := Ground.phase }, { on := 2, ground := Ground.phase }, { on := 3, ground := Ground.textOnly Departure.lateStores }, { on := 4, ground := Ground.textOnly Departure.lateStores }, { on := 5, ground := Ground.textOnly Departure.lateStoresUnsure }], guard := none }) rfl (fun K hK => ?_) AllReadyH.nil)
            obtain ⟨a0, a1, a2, a3, a4⟩ := block_two' hs2.hA
            have hs3 := hs2.setA P' Q'
            go_simp
            clear a0 a1 a2 a3 a4
            refine hK.out _ _ (HQT.out _ hs3.b) (fun hHeld => ?_)
            clear hK K
            (try simp only [Act.put, List.setIfInBounds_toArray, List.set_cons_zero, List.set_cons_succ])
            refine wpAnyH_ready (rs := [7]) (by kernel_rfl) (by simp) ?_
            refine (AllReadyH.cons (o := { dst := none, op := Op.store 87 (Operand.tmp 9) (Operand.tmp 23), type := 0, pos := "spread.go:39", after := #[{ on := 5, ground := Ground.data }, { on := 6, ground := Ground.chain }, { on := 0, ground := Ground.phase }, { on := 1, ground := Ground.phase }, { on := 2, ground := Ground.phase }, { on := 3, ground := Ground.phase }, { on := 4, ground := Ground.phase }, { on := 5, ground := Ground.phase }, { on := 6, ground := Ground.phase }], guard := none }) rfl (fun K hK => ?_) AllReadyH.nil)
            obtain ⟨a0, a1, a2, a3, a4⟩ := block_two' hs3.hB
            have hs4 := hs3.setB R' S'
            go_simp
            clear a0 a1 a2 a3 a4
            refine hK.out _ _ (HQT.out _ hs4.b) (fun hHeld => ?_)
            clear hK K
            (try simp only [Act.put, List.setIfInBounds_toArray, List.set_cons_zero, List.set_cons_succ])
            refine wpAnyH_done (by kernel_rfl) ?_ _
            go_wp2_with fail
            go_meet
            exact Lib.hid hs4
        · obtain ⟨a0, a1, a2, a3, a4⟩ := block_two' hs0.hB
          go_simp
          clear a0 a1 a2 a3 a4
          refine hK.out _ _ (HQT.out _ hs0.b) (fun hHeld => ?_)
          clear hK K
          (try simp only [Act.put, List.setIfInBounds_toArray, List.set_cons_zero, List.set_cons_succ])
          refine wpAnyH_ready (rs := [0]) (by kernel_rfl) (by simp) ?_
          refine (AllReadyH.cons (o := { dst := some 18, op := Op.load 87 (Operand.tmp 8), type := 87, pos := "spread.go:39", after := #[], guard := none }) rfl (fun K hK => ?_) AllReadyH.nil)
          obtain ⟨a0, a1, a2, a3, a4⟩ := block_two' hs0.hA
          go_simp
          clear a0 a1 a2 a3 a4
          refine hK.out _ _ (HQT.out _ hs0.b) (fun hHeld => ?_)
          clear hK K
          (try simp only [Act.put, List.setIfInBounds_toArray, List.set_cons_zero, List.set_cons_succ])
          refine wpAnyH_ready (rs := [2]) (by kernel_rfl) (by simp) ?_
          refine (AllReadyH.cons (o := { dst := some 20, op := Op.call { callee := Callee.value (Operand.func 100), args := #[Operand.tmp 18, Operand.tmp 19], argTypes := #[87, 87] }, type := 87, pos := "spread.go:39", after := #[{ on := 0, ground := Ground.data }, { on := 1, ground := Ground.data }], guard := none }) rfl (fun K hK => ?_) AllReadyH.nil)
          go_simp
          go_at_call 100
          with_reducible (refine (HMI.out _).mono ?_)
          rintro e w5 ⟨rfl, hb5⟩
          have hs1 := hs0.step hb5
          (try go_wp2_with fail)
          refine hK.out _ _ (HQT.out _ hs1.b) (fun hHeld => ?_)
          clear hK K
          (try simp only [Act.put, List.setIfInBounds_toArray, List.set_cons_zero, List.set_cons_succ])
          refine wpAnyH_ready (rs := [5]) (by kernel_rfl) (by simp) ?_
          refine (AllReadyH.cons (o := { dst := some 23, op := Op.call { callee := Callee.value (Operand.func 68), args := #[Operand.tmp 21, Operand.tmp 22], argTypes := #[87, 87] }, type := 87, pos := "spread.go:39", after := #[{ on := 3, ground := Ground.data }, { on := 4, ground := Ground.data }, { on := 2, ground := Ground.chain }], guard := none }) rfl (fun K hK => ?_) AllReadyH.nil)
          go_simp
          go_at_call 68
          with_reducible (refine (HPL.out _).mono ?_)
          rintro e w6 ⟨rfl, hb6⟩
          have hs2 := hs1.step hb6
          (try go_wp2_with fail)
          refine hK.out _ _ (HQT.out _ hs2.b) (fun hHeld => ?_)
          clear hK K
          (try simp only [Act.put, List.setIfInBounds_toArray, List.set_cons_zero, List.set_cons_succ])
          refine wpAnyH_ready (rs := [6]) (by kernel_rfl) (by simp) ?_
          refine (AllReadyH.cons (o := { dst := none, op := Op.store 87 (Operand.tmp 8) (Operand.tmp 20), type := 0, pos := "spread.go:39", after := #[{ on := 2, ground := Ground.data }, { on := 5, ground := Ground.chain }, { on := 0, ground := Ground.phase }, { on := 1, ground := Ground.phase }, { on := 2, ground := Ground.phase }, { on := 3, ground := Ground.textOnly Departure.lateStores }, { on := 4, ground := Ground.textOnly Departure.lateStores }, { on := 5, ground := Ground.textOnly Departure.lateStoresUnsure }], guard := none }) rfl (fun K hK => ?_) AllReadyH.nil)
          obtain ⟨a0, a1, a2, a3, a4⟩ := block_two' hs2.hA
          have hs3 := hs2.setA P' Q'
          go_simp
          clear a0 a1 a2 a3 a4
          refine hK.out _ _ (HQT.out _ hs3.b) (fun hHeld => ?_)
          clear hK K
          (try simp only [Act.put, List.setIfInBounds_toArray, List.set_cons_zero, List.set_cons_succ])
          refine wpAnyH_ready (rs := [7]) (by kernel_rfl) (by simp) ?_
          refine (AllReadyH.cons (o := { dst := none, op := Op.store 87 (Operand.tmp 9) (Operand.tmp 23), type := 0, pos := "spread.go:39", after := #[{ on := 5, ground := Ground.data }, { on := 6, ground := Ground.chain }, { on := 0, ground := Ground.phase }, { on := 1, ground := Ground.phase }, { on := 2, ground := Ground.phase }, { on := 3, ground := Ground.phase }, { on := 4, ground := Ground.phase }, { on := 5, ground := Ground.phase }, { on := 6, ground := Ground.phase }], guard := none }) rfl (fun K hK => ?_) AllReadyH.nil)
          obtain ⟨a0, a1, a2, a3, a4⟩ := block_two' hs3.hB
          have hs4 := hs3.setB R' S'
          go_simp
          clear a0 a1 a2 a3 a4
          refine hK.out _ _ (HQT.out _ hs4.b) (fun hHeld => ?_)
          clear hK K
          (try simp only [Act.put, List.setIfInBounds_toArray, List.set_cons_zero, List.set_cons_succ])
          refine wpAnyH_done (by kernel_rfl) ?_ _
          go_wp2_with fail
          go_meet
          exact Lib.hid hs4
      case rest =>
      obtain ⟨ga, hga⟩ : ∃ z, z = grd ss P' Q' := ⟨_, rfl⟩
      obtain ⟨gb, hgb⟩ : ∃ z, z = grd ss R' S' := ⟨_, rfl⟩
      obtain ⟨gp, hgp⟩ : ∃ z, z = pk true ga gb := ⟨_, rfl⟩
      obtain ⟨V', hV'⟩ : ∃ z, z = pk true V gp := ⟨_, rfl⟩
      have HNV : Hid (V' = swG true ss 0 1 (j + 1) x y) := Lib.hid (by
        obtain ⟨⟨e1, e2⟩, e3, e4⟩ := HPQ2.out
        rw [hV', hgp, hga, hgb, HV.out, e1, e2, e3, e4]
        rfl)
      have HGA : Hid (∀ w', Below w.heap.size w w' → Calls Try.prog 65 #[.slice a ss.length cap, .agg #[.int .i64 P', .int .i64 Q']] w' fun e w'' => e = .returned (.int .i64 ga) ∧ Below w'.heap.size w' w'') := Lib.hid (fun w' hb => by rw [hga]; exact HG.out w' P' Q' hb)
      have HGB : Hid (∀ w', Below w.heap.size w w' → Calls Try.prog 65 #[.slice a ss.length cap, .agg #[.int .i64 R', .int .i64 S']] w' fun e w'' => e = .returned (.int .i64 gb) ∧ Below w'.heap.size w' w'') := Lib.hid (fun w' hb => by rw [hgb]; exact HG.out w' R' S' hb)
      have HK1 : Hid (∀ w', Calls Try.prog 78 #[.int .i64 ga, .int .i64 gb] w' fun e w'' => e = .returned (.int .i64 gp) ∧ Below w'.heap.size w' w'') := Lib.hid (fun w' => by rw [hgp]; exact pickE_any ga gb w')
      have HK2 : Hid (∀ w', Calls Try.prog 78 #[.int .i64 V, .int .i64 gp] w' fun e w'' => e = .returned (.int .i64 V') ∧ Below w'.heap.size w' w'') := Lib.hid (fun w' => by rw [hV']; exact pickE_any V gp w')
      have HC6 := Lib.hid (fun (w' : World) (h : SX w w.heap.size A B x y P' Q' R' S' w') => (show SX w w.heap.size A B x y P' Q' R' S' w' ∧ w'.cell? ⟨ps, 0, none⟩ = some (.slice a ss.length cap) ∧ w'.cell? ⟨pf, 0, none⟩ = some (.func (.func 78) #[] #[]) ∧ w'.cell? ⟨A, 0, none⟩ = some (.int .i64 P') ∧ w'.cell? ⟨A, 1, none⟩ = some (.int .i64 Q') ∧ w'.cell? ⟨B, 0, none⟩ = some (.int .i64 R') ∧ w'.cell? ⟨B, 1, none⟩ = some (.int .i64 S') from
        ⟨h, (HQ.out w' h.b).cs, (HQ.out w' h.b).cf, (block_two h.hA).1, (block_two h.hA).2.1, (block_two h.hB).1, (block_two h.hB).2.1⟩))
      have HSB := Lib.hid (fun (w' : World) (h : SX w w.heap.size A B x y P' Q' R' S' w') => h.b)
      clear hga hgb hgp hV'
      go_upto_region 6 with fail
      go_region_held3 (fun w' => SX w w.heap.size A B x y P' Q' R' S' w' ∧ w'.cell? ⟨ps, 0, none⟩ = some (.slice a ss.length cap) ∧ w'.cell? ⟨pf, 0, none⟩ = some (.func (.func 78) #[] #[]) ∧ w'.cell? ⟨A, 0, none⟩ = some (.int .i64 P') ∧ w'.cell? ⟨A, 1, none⟩ = some (.int .i64 Q') ∧ w'.cell? ⟨B, 0, none⟩ = some (.int .i64 R') ∧ w'.cell? ⟨B, 1, none⟩ = some (.int .i64 S'))
        (first | exact HC6.out _ hcut.out.drew | (go_split_ands; exact HC6.out _ (SX.step (by assumption) (by assumption))))
        (first
          | (go_at_call 65; go_split_ands; (first | with_reducible (refine (HGA.out _ (HSB.out _ (by assumption))).mono ?_) | with_reducible (refine (HGB.out _ (HSB.out _ (by assumption))).mono ?_)); rintro e w3 ⟨rfl, hb3⟩)
          | (go_at_call 78; go_split_ands; (first | with_reducible (refine (HK1.out _).mono ?_) | with_reducible (refine (HK2.out _).mono ?_)); rintro e w3 ⟨rfl, hb3⟩))
      all_goals
        go_split_ands
        have HS7 := Lib.hid (by assumption : SX w w.heap.size A B x y P' Q' R' S' w3)
        go_wp2
        go_roundg gk'
        case measure => exact Nat.lt_succ_self _
        case rel => exact ⟨j + 1, by omega, by go_num, ⟨V', rfl, HNV⟩, P', Q', R', S', HBN.out.1, HBN.out.2, HPQ2, HS7⟩
    · obtain rfl : j = k := by omega
      have HE : Hid (V = RES) := Lib.hid (by rw [HV.out, HEND.out])
      go_wp2
      go_ret
      exact ⟨by rw [HE.out]; rfl, HS.out.b⟩

set_option maxRecDepth 100000 in
set_option maxHeartbeats 6400000 in
theorem sweepD10 (w0 : World) (ps pn pt pf : Nat) (a : Option Addr) (cap : Nat) (ss : List ByteArray) (hs : skB ss = true) (k : Nat) (hk : k ≤ 48) (hq : SQ w0 ps pn pt pf a cap ss k 1 0 (.func (.func 80) #[] #[])) (x y : Nat) (hx : x ≤ 48) (hy : y ≤ 48) (w : World) (hb : Below w0.heap.size w0 w) :
    Calls Try.prog 99 #[.agg #[.int .i64 x, .int .i64 y], .pointer (some ⟨ps, 0, none⟩), .pointer (some ⟨pn, 0, none⟩), .pointer (some ⟨pt, 0, none⟩), .pointer (some ⟨pf, 0, none⟩)] w fun e w' => e = .returned (.int .i64 (swN false ss 1 0 k x y)) ∧ Below w.heap.size w w' := by
  have HQ : Hid (∀ w', Below w.heap.size w w' → SQ w' ps pn pt pf a cap ss k 1 0 (.func (.func 80) #[] #[])) := Lib.hid (fun w' hb' => (hq.below hb).below hb')
  have HG : Hid (∀ w' (p q : Int), Below w.heap.size w w' → Calls Try.prog 65 #[.slice a ss.length cap, .agg #[.int .i64 p, .int .i64 q]] w' fun e w'' => e = .returned (.int .i64 (grd ss p q)) ∧ Below w'.heap.size w' w'') := Lib.hid (fun w' p q hb' => gradeAt_any a cap ss hs p q w' ((hq.below hb).below hb').st)
  have HEND : Hid (swG false ss 1 0 k x y = (swN false ss 1 0 k x y : Int)) := Lib.hid (swN_eq false hs 1 0 k x y).1
  obtain ⟨RES, hRES⟩ : ∃ r, r = (swN false ss 1 0 k x y : Int) := ⟨_, rfl⟩
  rw [← hRES] at HEND ⊢
  have HM0 := Lib.hid ((Mem.nil w).alloc #[.int .i64 x, .int .i64 y] 87)
  have hq0 := HQ.out _ HM0.out.b
  have l1 := hq0.l.1
  have c1 := hq0.cs
  obtain ⟨g0, hg0⟩ : ∃ g, g = grd ss x y := ⟨_, rfl⟩
  have HG0 := Lib.hid (HG.out _ x y HM0.out.b)
  rw [← hg0] at HG0
  have HG00 := Lib.hid hg0
  clear hq hb hs hRES hg0 hq0
  go_enter Try.func99, Try.ntmps99
  go_wp2_with fail
  refine HG0.out.mono ?_
  rintro e w1 ⟨rfl, hb1⟩
  have HM1 := Lib.hid (HM0.out.step hb1)
  obtain ⟨d0, d1, -, -, d2⟩ := HM1.out.c2
  clear hb1 l1 c1
  go_upto_region 2 with fail
  go_cut [8, 9] (fun s8 s9 wx => ∃ A B : Nat, s8 = .pointer (some ⟨A, 0, none⟩) ∧ s9 = .pointer (some ⟨B, 0, none⟩) ∧ Hid (SX w w.heap.size A B x y x y x y wx))
  case first =>
    have HC9 : Hid (∀ w', Mem w [(w.heap.size, #[.int .i64 x, .int .i64 y], 87)] w' → Mem w [(w.heap.size, #[.int .i64 x, .int .i64 y], 87)] w' ∧ w'.cell? ⟨w.heap.size, 0, none⟩ = some (.int .i64 x) ∧ w'.cell? ⟨w.heap.size, 1, none⟩ = some (.int .i64 y)) := Lib.hid (fun w' hm => ⟨hm, hm.c2.1, hm.c2.2.1⟩)
    clear d0 d1
    go_region_held3 (fun w' => Mem w [(w.heap.size, #[.int .i64 x, .int .i64 y], 87)] w' ∧ w'.cell? ⟨w.heap.size, 0, none⟩ = some (.int .i64 x) ∧ w'.cell? ⟨w.heap.size, 1, none⟩ = some (.int .i64 y))
      (first | (refine HC9.out _ ?_; repeat (first | exact HM1.out | refine Mem.drew ?_ | refine Mem.skip ?_ _ | refine Mem.set_new2 ?_ (by simp; omega) _ _)))
      (fail)
    all_goals go_wp2_with fail
    all_goals
      go_meet
      first
        | exact ⟨_, _, rfl, rfl, Lib.hid (SX.of1 ((HM1.out.alloc_at rfl _ _).alloc_at (World.size_alloc _ _) _ _).drew)⟩
        | exact ⟨_, _, rfl, rfl, Lib.hid (SX.of2 ((HM1.out.alloc_at rfl _ _).alloc_at (World.size_alloc _ _) _ _).drew)⟩
  case rest =>
  obtain ⟨A, B, rfl, rfl, HSX⟩ := hcut
  clear d0 d1 d2
  have cn := (HQ.out _ HSX.out.b).cn
  have ln := (HQ.out _ HSX.out.b).l.2.1
  go_wp2
  clear cn ln
  go_loopg [7, 16] k (fun gk v i wr => ∃ j : Nat, j + gk = k ∧ i = .int .i64 j ∧ (∃ V : Int, v = .int .i64 V ∧ Hid (V = swG false ss 1 0 j x y)) ∧ ∃ P Q R S : Int, ((-50 ≤ P ∧ P ≤ 100) ∧ (-50 ≤ Q ∧ Q ≤ 100)) ∧ ((-50 ≤ R ∧ R ≤ 100) ∧ (-50 ≤ S ∧ S ≤ 100)) ∧ Hid ((P = x - j * 1 ∧ Q = y - j * 0) ∧ R = x + j * 1 ∧ S = y + j * 0) ∧ Hid (SX w w.heap.size A B x y P Q R S wr))
  case atStart => exact ⟨0, by omega, rfl, ⟨g0, rfl, Lib.hid HG00.out⟩, x, y, x, y, by omega, by omega, Lib.hid (by omega), HSX⟩
  case round =>
    obtain ⟨j, hj, rfl, ⟨V, rfl, HV⟩, P, Q, R, S, ⟨⟨p1, p2⟩, q1, q2⟩, ⟨⟨r1, r2⟩, s1, s2⟩, HPQ, HS⟩ := hrel
    by_cases hlt : j < k
    · obtain ⟨gk', rfl⟩ : ∃ m, gk = m + 1 := ⟨gk - 1, by omega⟩
      have hlt' : (j : Int) < k := by omega
      obtain ⟨P', hP⟩ : ∃ z, z = P - 1 := ⟨_, rfl⟩
      obtain ⟨Q', hQ⟩ : ∃ z, z = Q - 0 := ⟨_, rfl⟩
      obtain ⟨R', hR⟩ : ∃ z, z = R + 1 := ⟨_, rfl⟩
      obtain ⟨S', hS⟩ : ∃ z, z = S + 0 := ⟨_, rfl⟩
      have HMI : Hid (∀ w', Calls Try.prog 100 #[.agg #[.int .i64 P, .int .i64 Q], .agg #[.int .i64 1, .int .i64 0]] w' fun e w'' => e = .returned (.agg #[.int .i64 P', .int .i64 Q']) ∧ Below w'.heap.size w' w'') := Lib.hid (fun w' => by
        rw [hP, hQ]; exact cminus_any P Q 1 0 (by omega) (by omega) (by omega) (by omega) w')
      have HPL : Hid (∀ w', Calls Try.prog 68 #[.agg #[.int .i64 R, .int .i64 S], .agg #[.int .i64 1, .int .i64 0]] w' fun e w'' => e = .returned (.agg #[.int .i64 R', .int .i64 S']) ∧ Below w'.heap.size w' w'') := Lib.hid (fun w' => by
        rw [hR, hS]; exact cplus_any R S 1 0 (by omega) (by omega) (by omega) (by omega) w')
      have HPQ2 : Hid ((P' = x - (j + 1 : Nat) * 1 ∧ Q' = y - (j + 1 : Nat) * 0) ∧ R' = x + (j + 1 : Nat) * 1 ∧ S' = y + (j + 1 : Nat) * 0) := Lib.hid (by have := HPQ.out; omega)
      have HBN : Hid (((-50 ≤ P' ∧ P' ≤ 100) ∧ (-50 ≤ Q' ∧ Q' ≤ 100)) ∧ ((-50 ≤ R' ∧ R' ≤ 100) ∧ (-50 ≤ S' ∧ S' ≤ 100))) := Lib.hid (by have := HPQ2.out; omega)
      have HQT : Hid (∀ w', Below w.heap.size w w' → w'.cell? ⟨pt, 0, none⟩ = some (.int .i64 1) ∧ w'.cell? ⟨pt, 1, none⟩ = some (.int .i64 0)) := Lib.hid (fun w' hb => (HQ.out w' hb).ct)
      clear hP hQ hR hS
      go_upto_region 5 with fail
      go_cut [] (fun wx => Hid (SX w w.heap.size A B x y P' Q' R' S' wx))
      case first =>
        have hs0 := HS.out.drew
        refine wp_region_held_drew (S := fun w' => w'.cell? ⟨pt, 0, none⟩ = some (.int .i64 1) ∧ w'.cell? ⟨pt, 1, none⟩ = some (.int .i64 0)) (by kernel_rfl) (HQT.out _ hs0.b) (fun hHeld => ?_)
        refine wpAnyH_take (i := 1) (oi := { dst := some 19, op := Op.load 87 (Operand.tmp 3), type := 87, pos := "spread.go:39", after := #[], guard := none }) (v := ?_) rfl (by kernel_rfl) (by kernel_rfl) (by kernel_rfl) (fun _ _ _ h => h) (Or.inl ⟨by rfl, ?_⟩) (by assumption) ?_
        rotate_left
        · intro w' hSw
          (try dsimp only at hSw)
          go_simp
          try with_reducible rfl
        (try simp only [Act.put, List.setIfInBounds_toArray, List.set_cons_zero, List.set_cons_succ])
        refine wpAnyH_take (i := 4) (oi := { dst := some 22, op := Op.load 87 (Operand.tmp 3), type := 87, pos := "spread.go:39", after := #[], guard := none }) (v := ?_) rfl (by kernel_rfl) (by kernel_rfl) (by kernel_rfl) (fun _ _ _ h => h) (Or.inl ⟨by rfl, ?_⟩) (by assumption) ?_
        rotate_left
        · intro w' hSw
          (try dsimp only at hSw)
          go_simp
          try with_reducible rfl
        (try simp only [Act.put, List.setIfInBounds_toArray, List.set_cons_zero, List.set_cons_succ])
        refine wpAnyH_ready (rs := [0, 3]) (by kernel_rfl) (by simp) ?_
        refine (AllReadyH.cons (o := { dst := some 18, op := Op.load 87 (Operand.tmp 8), type := 87, pos := "spread.go:39", after := #[], guard := none }) rfl (fun K hK => ?_) (AllReadyH.cons (o := { dst := some 21, op := Op.load 87 (Operand.tmp 9), type := 87, pos := "spread.go:39", after := #[], guard := none }) rfl (fun K hK => ?_) AllReadyH.nil))
        · obtain ⟨a0, a1, a2, a3, a4⟩ := block_two' hs0.hA
          go_simp
          clear a0 a1 a2 a3 a4
          refine hK.out _ _ (HQT.out _ hs0.b) (fun hHeld => ?_)
          clear hK K
          (try simp only [Act.put, List.setIfInBounds_toArray, List.set_cons_zero, List.set_cons_succ])
          refine wpAnyH_ready (rs := [2, 3]) (by kernel_rfl) (by simp) ?_
          refine (AllReadyH.cons (o := { dst := some 20, op := Op.call { callee := Callee.value (Operand.func 100), args := #[Operand.tmp 18, Operand.tmp 19], argTypes := #[87, 87] }, type := 87, pos := "spread.go:39", after := #[{ on := 0, ground := Ground.data }, { on := 1, ground := Ground.data }], guard := none }) rfl (fun K hK => ?_) (AllReadyH.cons (o := { dst := some 21, op := Op.load 87 (Operand.tmp 9), type := 87, pos := "spread.go:39", after := #[], guard := none }) rfl (fun K hK => ?_) AllReadyH.nil))
          · go_simp
            go_at_call 100
            with_reducible (refine (HMI.out _).mono ?_)
            rintro e w5 ⟨rfl, hb5⟩
            have hs1 := hs0.step hb5
            (try go_wp2_with fail)
            refine hK.out _ _ (HQT.out _ hs1.b) (fun hHeld => ?_)
            clear hK K
            (try simp only [Act.put, List.setIfInBounds_toArray, List.set_cons_zero, List.set_cons_succ])
            refine wpAnyH_ready (rs := [3]) (by kernel_rfl) (by simp) ?_
            refine (AllReadyH.cons (o := { dst := some 21, op := Op.load 87 (Operand.tmp 9), type := 87, pos := "spread.go:39", after := #[], guard := none }) rfl (fun K hK => ?_) AllReadyH.nil)
            obtain ⟨a0, a1, a2, a3, a4⟩ := block_two' hs1.hB
            go_simp
            clear a0 a1 a2 a3 a4
            refine hK.out _ _ (HQT.out _ hs1.b) (fun hHeld => ?_)
            clear hK K
            (try simp only [Act.put, List.setIfInBounds_toArray, List.set_cons_zero, List.set_cons_succ])
            refine wpAnyH_ready (rs := [5]) (by kernel_rfl) (by simp) ?_
            refine (AllReadyH.cons (o := { dst := some 23, op := Op.call { callee := Callee.value (Operand.func 68), args := #[Operand.tmp 21, Operand.tmp 22], argTypes := #[87, 87] }, type := 87, pos := "spread.go:39", after := #[{ on := 3, ground := Ground.data }, { on := 4, ground := Ground.data }, { on := 2, ground := Ground.chain }], guard := none }) rfl (fun K hK => ?_) AllReadyH.nil)
            go_simp
            go_at_call 68
            with_reducible (refine (HPL.out _).mono ?_)
            rintro e w6 ⟨rfl, hb6⟩
            have hs2 := hs1.step hb6
            (try go_wp2_with fail)
            refine hK.out _ _ (HQT.out _ hs2.b) (fun hHeld => ?_)
            clear hK K
            (try simp only [Act.put, List.setIfInBounds_toArray, List.set_cons_zero, List.set_cons_succ])
            refine wpAnyH_ready (rs := [6]) (by kernel_rfl) (by simp) ?_
            refine (AllReadyH.cons (o := { dst := none, op := Op.store 87 (Operand.tmp 8) (Operand.tmp 20), type := 0, pos := "spread.go:39", after := #[{ on := 2, ground := Ground.data }, { on := 5, ground := Ground.chain }, { on := 0, ground := Ground.phase }, { on := 1, ground := Ground.phase }, { on := 2, ground := Ground.phase }, { on := 3, ground := Ground.textOnly Departure.lateStores }, { on := 4, ground := Ground.textOnly Departure.lateStores }, { on := 5, ground := Ground.textOnly Departure.lateStoresUnsure }], guard := none }) rfl (fun K hK => ?_) AllReadyH.nil)
            obtain ⟨a0, a1, a2, a3, a4⟩ := block_two' hs2.hA
            have hs3 := hs2.setA P' Q'
            go_simp
            clear a0 a1 a2 a3 a4
            refine hK.out _ _ (HQT.out _ hs3.b) (fun hHeld => ?_)
            clear hK K
            (try simp only [Act.put, List.setIfInBounds_toArray, List.set_cons_zero, List.set_cons_succ])
            refine wpAnyH_ready (rs := [7]) (by kernel_rfl) (by simp) ?_
            refine (AllReadyH.cons (o := { dst := none, op := Op.store 87 (Operand.tmp 9) (Operand.tmp 23), type := 0, pos := "spread.go:39", after := #[{ on := 5, ground := Ground.data }, { on := 6, ground := Ground.chain }, { on := 0, ground := Ground.phase }, { on := 1, ground := Ground.phase }, { on := 2, ground := Ground.phase }, { on := 3, ground := Ground.phase }, { on := 4, ground := Ground.phase }, { on := 5, ground := Ground.phase }, { on := 6, ground := Ground.phase }], guard := none }) rfl (fun K hK => ?_) AllReadyH.nil)
            obtain ⟨a0, a1, a2, a3, a4⟩ := block_two' hs3.hB
            have hs4 := hs3.setB R' S'
            go_simp
            clear a0 a1 a2 a3 a4
            refine hK.out _ _ (HQT.out _ hs4.b) (fun hHeld => ?_)
            clear hK K
            (try simp only [Act.put, List.setIfInBounds_toArray, List.set_cons_zero, List.set_cons_succ])
            refine wpAnyH_done (by kernel_rfl) ?_ _
            go_wp2_with fail
            go_meet
            exact Lib.hid hs4
          · obtain ⟨a0, a1, a2, a3, a4⟩ := block_two' hs0.hB
            go_simp
            clear a0 a1 a2 a3 a4
            refine hK.out _ _ (HQT.out _ hs0.b) (fun hHeld => ?_)
            clear hK K
            (try simp only [Act.put, List.setIfInBounds_toArray, List.set_cons_zero, List.set_cons_succ])
            refine wpAnyH_ready (rs := [2]) (by kernel_rfl) (by simp) ?_
            refine (AllReadyH.cons (o := { dst := some 20, op := Op.call { callee := Callee.value (Operand.func 100), args := #[Operand.tmp 18, Operand.tmp 19], argTypes := #[87, 87] }, type := 87, pos := "spread.go:39", after := #[{ on := 0, ground := Ground.data }, { on := 1, ground := Ground.data }], guard := none }) rfl (fun K hK => ?_) AllReadyH.nil)
            go_simp
            go_at_call 100
            with_reducible (refine (HMI.out _).mono ?_)
            rintro e w5 ⟨rfl, hb5⟩
            have hs1 := hs0.step hb5
            (try go_wp2_with fail)
            refine hK.out _ _ (HQT.out _ hs1.b) (fun hHeld => ?_)
            clear hK K
            (try simp only [Act.put, List.setIfInBounds_toArray, List.set_cons_zero, List.set_cons_succ])
            refine wpAnyH_ready (rs := [5]) (by kernel_rfl) (by simp) ?_
            refine (AllReadyH.cons (o := { dst := some 23, op := Op.call { callee := Callee.value (Operand.func 68), args := #[Operand.tmp 21, Operand.tmp 22], argTypes := #[87, 87] }, type := 87, pos := "spread.go:39", after := #[{ on := 3, ground := Ground.data }, { on := 4, ground := Ground.data }, { on := 2, ground := Ground.chain }], guard := none }) rfl (fun K hK => ?_) AllReadyH.nil)
            go_simp
            go_at_call 68
            with_reducible (refine (HPL.out _).mono ?_)
            rintro e w6 ⟨rfl, hb6⟩
            have hs2 := hs1.step hb6
            (try go_wp2_with fail)
            refine hK.out _ _ (HQT.out _ hs2.b) (fun hHeld => ?_)
            clear hK K
            (try simp only [Act.put, List.setIfInBounds_toArray, List.set_cons_zero, List.set_cons_succ])
            refine wpAnyH_ready (rs := [6]) (by kernel_rfl) (by simp) ?_
            refine (AllReadyH.cons (o := { dst := none, op := Op.store 87 (Operand.tmp 8) (Operand.tmp 20), type := 0, pos := "spread.go:39", after := #[{ on := 2, ground := Ground.data }, { on := 5, ground := Ground.chain }, { on := 0, ground := Ground.phase }, { on := 1, ground := Ground.phase }, { on := 2, ground := Ground.phase }, { on := 3, ground := Ground.textOnly Departure.lateStores }, { on := 4, ground := Ground.textOnly Departure.lateStores }, { on := 5, ground := Ground.textOnly Departure.lateStoresUnsure }], guard := none }) rfl (fun K hK => ?_) AllReadyH.nil)
            obtain ⟨a0, a1, a2, a3, a4⟩ := block_two' hs2.hA
            have hs3 := hs2.setA P' Q'
            go_simp
            clear a0 a1 a2 a3 a4
            refine hK.out _ _ (HQT.out _ hs3.b) (fun hHeld => ?_)
            clear hK K
            (try simp only [Act.put, List.setIfInBounds_toArray, List.set_cons_zero, List.set_cons_succ])
            refine wpAnyH_ready (rs := [7]) (by kernel_rfl) (by simp) ?_
            refine (AllReadyH.cons (o := { dst := none, op := Op.store 87 (Operand.tmp 9) (Operand.tmp 23), type := 0, pos := "spread.go:39", after := #[{ on := 5, ground := Ground.data }, { on := 6, ground := Ground.chain }, { on := 0, ground := Ground.phase }, { on := 1, ground := Ground.phase }, { on := 2, ground := Ground.phase }, { on := 3, ground := Ground.phase }, { on := 4, ground := Ground.phase }, { on := 5, ground := Ground.phase }, { on := 6, ground := Ground.phase }], guard := none }) rfl (fun K hK => ?_) AllReadyH.nil)
            obtain ⟨a0, a1, a2, a3, a4⟩ := block_two' hs3.hB
            have hs4 := hs3.setB R' S'
            go_simp
            clear a0 a1 a2 a3 a4
            refine hK.out _ _ (HQT.out _ hs4.b) (fun hHeld => ?_)
            clear hK K
            (try simp only [Act.put, List.setIfInBounds_toArray, List.set_cons_zero, List.set_cons_succ])
            refine wpAnyH_done (by kernel_rfl) ?_ _
            go_wp2_with fail
            go_meet
            exact Lib.hid hs4
        · obtain ⟨a0, a1, a2, a3, a4⟩ := block_two' hs0.hB
          go_simp
          clear a0 a1 a2 a3 a4
          refine hK.out _ _ (HQT.out _ hs0.b) (fun hHeld => ?_)
          clear hK K
          (try simp only [Act.put, List.setIfInBounds_toArray, List.set_cons_zero, List.set_cons_succ])
          refine wpAnyH_ready (rs := [0]) (by kernel_rfl) (by simp) ?_
          refine (AllReadyH.cons (o := { dst := some 18, op := Op.load 87 (Operand.tmp 8), type := 87, pos := "spread.go:39", after := #[], guard := none }) rfl (fun K hK => ?_) AllReadyH.nil)
          obtain ⟨a0, a1, a2, a3, a4⟩ := block_two' hs0.hA
          go_simp
          clear a0 a1 a2 a3 a4
          refine hK.out _ _ (HQT.out _ hs0.b) (fun hHeld => ?_)
          clear hK K
          (try simp only [Act.put, List.setIfInBounds_toArray, List.set_cons_zero, List.set_cons_succ])
          refine wpAnyH_ready (rs := [2]) (by kernel_rfl) (by simp) ?_
          refine (AllReadyH.cons (o := { dst := some 20, op := Op.call { callee := Callee.value (Operand.func 100), args := #[Operand.tmp 18, Operand.tmp 19], argTypes := #[87, 87] }, type := 87, pos := "spread.go:39", after := #[{ on := 0, ground := Ground.data }, { on := 1, ground := Ground.data }], guard := none }) rfl (fun K hK => ?_) AllReadyH.nil)
          go_simp
          go_at_call 100
          with_reducible (refine (HMI.out _).mono ?_)
          rintro e w5 ⟨rfl, hb5⟩
          have hs1 := hs0.step hb5
          (try go_wp2_with fail)
          refine hK.out _ _ (HQT.out _ hs1.b) (fun hHeld => ?_)
          clear hK K
          (try simp only [Act.put, List.setIfInBounds_toArray, List.set_cons_zero, List.set_cons_succ])
          refine wpAnyH_ready (rs := [5]) (by kernel_rfl) (by simp) ?_
          refine (AllReadyH.cons (o := { dst := some 23, op := Op.call { callee := Callee.value (Operand.func 68), args := #[Operand.tmp 21, Operand.tmp 22], argTypes := #[87, 87] }, type := 87, pos := "spread.go:39", after := #[{ on := 3, ground := Ground.data }, { on := 4, ground := Ground.data }, { on := 2, ground := Ground.chain }], guard := none }) rfl (fun K hK => ?_) AllReadyH.nil)
          go_simp
          go_at_call 68
          with_reducible (refine (HPL.out _).mono ?_)
          rintro e w6 ⟨rfl, hb6⟩
          have hs2 := hs1.step hb6
          (try go_wp2_with fail)
          refine hK.out _ _ (HQT.out _ hs2.b) (fun hHeld => ?_)
          clear hK K
          (try simp only [Act.put, List.setIfInBounds_toArray, List.set_cons_zero, List.set_cons_succ])
          refine wpAnyH_ready (rs := [6]) (by kernel_rfl) (by simp) ?_
          refine (AllReadyH.cons (o := { dst := none, op := Op.store 87 (Operand.tmp 8) (Operand.tmp 20), type := 0, pos := "spread.go:39", after := #[{ on := 2, ground := Ground.data }, { on := 5, ground := Ground.chain }, { on := 0, ground := Ground.phase }, { on := 1, ground := Ground.phase }, { on := 2, ground := Ground.phase }, { on := 3, ground := Ground.textOnly Departure.lateStores }, { on := 4, ground := Ground.textOnly Departure.lateStores }, { on := 5, ground := Ground.textOnly Departure.lateStoresUnsure }], guard := none }) rfl (fun K hK => ?_) AllReadyH.nil)
          obtain ⟨a0, a1, a2, a3, a4⟩ := block_two' hs2.hA
          have hs3 := hs2.setA P' Q'
          go_simp
          clear a0 a1 a2 a3 a4
          refine hK.out _ _ (HQT.out _ hs3.b) (fun hHeld => ?_)
          clear hK K
          (try simp only [Act.put, List.setIfInBounds_toArray, List.set_cons_zero, List.set_cons_succ])
          refine wpAnyH_ready (rs := [7]) (by kernel_rfl) (by simp) ?_
          refine (AllReadyH.cons (o := { dst := none, op := Op.store 87 (Operand.tmp 9) (Operand.tmp 23), type := 0, pos := "spread.go:39", after := #[{ on := 5, ground := Ground.data }, { on := 6, ground := Ground.chain }, { on := 0, ground := Ground.phase }, { on := 1, ground := Ground.phase }, { on := 2, ground := Ground.phase }, { on := 3, ground := Ground.phase }, { on := 4, ground := Ground.phase }, { on := 5, ground := Ground.phase }, { on := 6, ground := Ground.phase }], guard := none }) rfl (fun K hK => ?_) AllReadyH.nil)
          obtain ⟨a0, a1, a2, a3, a4⟩ := block_two' hs3.hB
          have hs4 := hs3.setB R' S'
          go_simp
          clear a0 a1 a2 a3 a4
          refine hK.out _ _ (HQT.out _ hs4.b) (fun hHeld => ?_)
          clear hK K
          (try simp only [Act.put, List.setIfInBounds_toArray, List.set_cons_zero, List.set_cons_succ])
          refine wpAnyH_done (by kernel_rfl) ?_ _
          go_wp2_with fail
          go_meet
          exact Lib.hid hs4
      case rest =>
      obtain ⟨ga, hga⟩ : ∃ z, z = grd ss P' Q' := ⟨_, rfl⟩
      obtain ⟨gb, hgb⟩ : ∃ z, z = grd ss R' S' := ⟨_, rfl⟩
      obtain ⟨gp, hgp⟩ : ∃ z, z = pk false ga gb := ⟨_, rfl⟩
      obtain ⟨V', hV'⟩ : ∃ z, z = pk false V gp := ⟨_, rfl⟩
      have HNV : Hid (V' = swG false ss 1 0 (j + 1) x y) := Lib.hid (by
        obtain ⟨⟨e1, e2⟩, e3, e4⟩ := HPQ2.out
        rw [hV', hgp, hga, hgb, HV.out, e1, e2, e3, e4]
        rfl)
      have HGA : Hid (∀ w', Below w.heap.size w w' → Calls Try.prog 65 #[.slice a ss.length cap, .agg #[.int .i64 P', .int .i64 Q']] w' fun e w'' => e = .returned (.int .i64 ga) ∧ Below w'.heap.size w' w'') := Lib.hid (fun w' hb => by rw [hga]; exact HG.out w' P' Q' hb)
      have HGB : Hid (∀ w', Below w.heap.size w w' → Calls Try.prog 65 #[.slice a ss.length cap, .agg #[.int .i64 R', .int .i64 S']] w' fun e w'' => e = .returned (.int .i64 gb) ∧ Below w'.heap.size w' w'') := Lib.hid (fun w' hb => by rw [hgb]; exact HG.out w' R' S' hb)
      have HK1 : Hid (∀ w', Calls Try.prog 80 #[.int .i64 ga, .int .i64 gb] w' fun e w'' => e = .returned (.int .i64 gp) ∧ Below w'.heap.size w' w'') := Lib.hid (fun w' => by rw [hgp]; exact pickD_any ga gb w')
      have HK2 : Hid (∀ w', Calls Try.prog 80 #[.int .i64 V, .int .i64 gp] w' fun e w'' => e = .returned (.int .i64 V') ∧ Below w'.heap.size w' w'') := Lib.hid (fun w' => by rw [hV']; exact pickD_any V gp w')
      have HC6 := Lib.hid (fun (w' : World) (h : SX w w.heap.size A B x y P' Q' R' S' w') => (show SX w w.heap.size A B x y P' Q' R' S' w' ∧ w'.cell? ⟨ps, 0, none⟩ = some (.slice a ss.length cap) ∧ w'.cell? ⟨pf, 0, none⟩ = some (.func (.func 80) #[] #[]) ∧ w'.cell? ⟨A, 0, none⟩ = some (.int .i64 P') ∧ w'.cell? ⟨A, 1, none⟩ = some (.int .i64 Q') ∧ w'.cell? ⟨B, 0, none⟩ = some (.int .i64 R') ∧ w'.cell? ⟨B, 1, none⟩ = some (.int .i64 S') from
        ⟨h, (HQ.out w' h.b).cs, (HQ.out w' h.b).cf, (block_two h.hA).1, (block_two h.hA).2.1, (block_two h.hB).1, (block_two h.hB).2.1⟩))
      have HSB := Lib.hid (fun (w' : World) (h : SX w w.heap.size A B x y P' Q' R' S' w') => h.b)
      clear hga hgb hgp hV'
      go_upto_region 6 with fail
      go_region_held3 (fun w' => SX w w.heap.size A B x y P' Q' R' S' w' ∧ w'.cell? ⟨ps, 0, none⟩ = some (.slice a ss.length cap) ∧ w'.cell? ⟨pf, 0, none⟩ = some (.func (.func 80) #[] #[]) ∧ w'.cell? ⟨A, 0, none⟩ = some (.int .i64 P') ∧ w'.cell? ⟨A, 1, none⟩ = some (.int .i64 Q') ∧ w'.cell? ⟨B, 0, none⟩ = some (.int .i64 R') ∧ w'.cell? ⟨B, 1, none⟩ = some (.int .i64 S'))
        (first | exact HC6.out _ hcut.out.drew | (go_split_ands; exact HC6.out _ (SX.step (by assumption) (by assumption))))
        (first
          | (go_at_call 65; go_split_ands; (first | with_reducible (refine (HGA.out _ (HSB.out _ (by assumption))).mono ?_) | with_reducible (refine (HGB.out _ (HSB.out _ (by assumption))).mono ?_)); rintro e w3 ⟨rfl, hb3⟩)
          | (go_at_call 80; go_split_ands; (first | with_reducible (refine (HK1.out _).mono ?_) | with_reducible (refine (HK2.out _).mono ?_)); rintro e w3 ⟨rfl, hb3⟩))
      all_goals
        go_split_ands
        have HS7 := Lib.hid (by assumption : SX w w.heap.size A B x y P' Q' R' S' w3)
        go_wp2
        go_roundg gk'
        case measure => exact Nat.lt_succ_self _
        case rel => exact ⟨j + 1, by omega, by go_num, ⟨V', rfl, HNV⟩, P', Q', R', S', HBN.out.1, HBN.out.2, HPQ2, HS7⟩
    · obtain rfl : j = k := by omega
      have HE : Hid (V = RES) := Lib.hid (by rw [HV.out, HEND.out])
      go_wp2
      go_ret
      exact ⟨by rw [HE.out]; rfl, HS.out.b⟩

set_option maxRecDepth 100000 in
set_option maxHeartbeats 6400000 in
theorem sweepD01 (w0 : World) (ps pn pt pf : Nat) (a : Option Addr) (cap : Nat) (ss : List ByteArray) (hs : skB ss = true) (k : Nat) (hk : k ≤ 48) (hq : SQ w0 ps pn pt pf a cap ss k 0 1 (.func (.func 80) #[] #[])) (x y : Nat) (hx : x ≤ 48) (hy : y ≤ 48) (w : World) (hb : Below w0.heap.size w0 w) :
    Calls Try.prog 99 #[.agg #[.int .i64 x, .int .i64 y], .pointer (some ⟨ps, 0, none⟩), .pointer (some ⟨pn, 0, none⟩), .pointer (some ⟨pt, 0, none⟩), .pointer (some ⟨pf, 0, none⟩)] w fun e w' => e = .returned (.int .i64 (swN false ss 0 1 k x y)) ∧ Below w.heap.size w w' := by
  have HQ : Hid (∀ w', Below w.heap.size w w' → SQ w' ps pn pt pf a cap ss k 0 1 (.func (.func 80) #[] #[])) := Lib.hid (fun w' hb' => (hq.below hb).below hb')
  have HG : Hid (∀ w' (p q : Int), Below w.heap.size w w' → Calls Try.prog 65 #[.slice a ss.length cap, .agg #[.int .i64 p, .int .i64 q]] w' fun e w'' => e = .returned (.int .i64 (grd ss p q)) ∧ Below w'.heap.size w' w'') := Lib.hid (fun w' p q hb' => gradeAt_any a cap ss hs p q w' ((hq.below hb).below hb').st)
  have HEND : Hid (swG false ss 0 1 k x y = (swN false ss 0 1 k x y : Int)) := Lib.hid (swN_eq false hs 0 1 k x y).1
  obtain ⟨RES, hRES⟩ : ∃ r, r = (swN false ss 0 1 k x y : Int) := ⟨_, rfl⟩
  rw [← hRES] at HEND ⊢
  have HM0 := Lib.hid ((Mem.nil w).alloc #[.int .i64 x, .int .i64 y] 87)
  have hq0 := HQ.out _ HM0.out.b
  have l1 := hq0.l.1
  have c1 := hq0.cs
  obtain ⟨g0, hg0⟩ : ∃ g, g = grd ss x y := ⟨_, rfl⟩
  have HG0 := Lib.hid (HG.out _ x y HM0.out.b)
  rw [← hg0] at HG0
  have HG00 := Lib.hid hg0
  clear hq hb hs hRES hg0 hq0
  go_enter Try.func99, Try.ntmps99
  go_wp2_with fail
  refine HG0.out.mono ?_
  rintro e w1 ⟨rfl, hb1⟩
  have HM1 := Lib.hid (HM0.out.step hb1)
  obtain ⟨d0, d1, -, -, d2⟩ := HM1.out.c2
  clear hb1 l1 c1
  go_upto_region 2 with fail
  go_cut [8, 9] (fun s8 s9 wx => ∃ A B : Nat, s8 = .pointer (some ⟨A, 0, none⟩) ∧ s9 = .pointer (some ⟨B, 0, none⟩) ∧ Hid (SX w w.heap.size A B x y x y x y wx))
  case first =>
    have HC9 : Hid (∀ w', Mem w [(w.heap.size, #[.int .i64 x, .int .i64 y], 87)] w' → Mem w [(w.heap.size, #[.int .i64 x, .int .i64 y], 87)] w' ∧ w'.cell? ⟨w.heap.size, 0, none⟩ = some (.int .i64 x) ∧ w'.cell? ⟨w.heap.size, 1, none⟩ = some (.int .i64 y)) := Lib.hid (fun w' hm => ⟨hm, hm.c2.1, hm.c2.2.1⟩)
    clear d0 d1
    go_region_held3 (fun w' => Mem w [(w.heap.size, #[.int .i64 x, .int .i64 y], 87)] w' ∧ w'.cell? ⟨w.heap.size, 0, none⟩ = some (.int .i64 x) ∧ w'.cell? ⟨w.heap.size, 1, none⟩ = some (.int .i64 y))
      (first | (refine HC9.out _ ?_; repeat (first | exact HM1.out | refine Mem.drew ?_ | refine Mem.skip ?_ _ | refine Mem.set_new2 ?_ (by simp; omega) _ _)))
      (fail)
    all_goals go_wp2_with fail
    all_goals
      go_meet
      first
        | exact ⟨_, _, rfl, rfl, Lib.hid (SX.of1 ((HM1.out.alloc_at rfl _ _).alloc_at (World.size_alloc _ _) _ _).drew)⟩
        | exact ⟨_, _, rfl, rfl, Lib.hid (SX.of2 ((HM1.out.alloc_at rfl _ _).alloc_at (World.size_alloc _ _) _ _).drew)⟩
  case rest =>
  obtain ⟨A, B, rfl, rfl, HSX⟩ := hcut
  clear d0 d1 d2
  have cn := (HQ.out _ HSX.out.b).cn
  have ln := (HQ.out _ HSX.out.b).l.2.1
  go_wp2
  clear cn ln
  go_loopg [7, 16] k (fun gk v i wr => ∃ j : Nat, j + gk = k ∧ i = .int .i64 j ∧ (∃ V : Int, v = .int .i64 V ∧ Hid (V = swG false ss 0 1 j x y)) ∧ ∃ P Q R S : Int, ((-50 ≤ P ∧ P ≤ 100) ∧ (-50 ≤ Q ∧ Q ≤ 100)) ∧ ((-50 ≤ R ∧ R ≤ 100) ∧ (-50 ≤ S ∧ S ≤ 100)) ∧ Hid ((P = x - j * 0 ∧ Q = y - j * 1) ∧ R = x + j * 0 ∧ S = y + j * 1) ∧ Hid (SX w w.heap.size A B x y P Q R S wr))
  case atStart => exact ⟨0, by omega, rfl, ⟨g0, rfl, Lib.hid HG00.out⟩, x, y, x, y, by omega, by omega, Lib.hid (by omega), HSX⟩
  case round =>
    obtain ⟨j, hj, rfl, ⟨V, rfl, HV⟩, P, Q, R, S, ⟨⟨p1, p2⟩, q1, q2⟩, ⟨⟨r1, r2⟩, s1, s2⟩, HPQ, HS⟩ := hrel
    by_cases hlt : j < k
    · obtain ⟨gk', rfl⟩ : ∃ m, gk = m + 1 := ⟨gk - 1, by omega⟩
      have hlt' : (j : Int) < k := by omega
      obtain ⟨P', hP⟩ : ∃ z, z = P - 0 := ⟨_, rfl⟩
      obtain ⟨Q', hQ⟩ : ∃ z, z = Q - 1 := ⟨_, rfl⟩
      obtain ⟨R', hR⟩ : ∃ z, z = R + 0 := ⟨_, rfl⟩
      obtain ⟨S', hS⟩ : ∃ z, z = S + 1 := ⟨_, rfl⟩
      have HMI : Hid (∀ w', Calls Try.prog 100 #[.agg #[.int .i64 P, .int .i64 Q], .agg #[.int .i64 0, .int .i64 1]] w' fun e w'' => e = .returned (.agg #[.int .i64 P', .int .i64 Q']) ∧ Below w'.heap.size w' w'') := Lib.hid (fun w' => by
        rw [hP, hQ]; exact cminus_any P Q 0 1 (by omega) (by omega) (by omega) (by omega) w')
      have HPL : Hid (∀ w', Calls Try.prog 68 #[.agg #[.int .i64 R, .int .i64 S], .agg #[.int .i64 0, .int .i64 1]] w' fun e w'' => e = .returned (.agg #[.int .i64 R', .int .i64 S']) ∧ Below w'.heap.size w' w'') := Lib.hid (fun w' => by
        rw [hR, hS]; exact cplus_any R S 0 1 (by omega) (by omega) (by omega) (by omega) w')
      have HPQ2 : Hid ((P' = x - (j + 1 : Nat) * 0 ∧ Q' = y - (j + 1 : Nat) * 1) ∧ R' = x + (j + 1 : Nat) * 0 ∧ S' = y + (j + 1 : Nat) * 1) := Lib.hid (by have := HPQ.out; omega)
      have HBN : Hid (((-50 ≤ P' ∧ P' ≤ 100) ∧ (-50 ≤ Q' ∧ Q' ≤ 100)) ∧ ((-50 ≤ R' ∧ R' ≤ 100) ∧ (-50 ≤ S' ∧ S' ≤ 100))) := Lib.hid (by have := HPQ2.out; omega)
      have HQT : Hid (∀ w', Below w.heap.size w w' → w'.cell? ⟨pt, 0, none⟩ = some (.int .i64 0) ∧ w'.cell? ⟨pt, 1, none⟩ = some (.int .i64 1)) := Lib.hid (fun w' hb => (HQ.out w' hb).ct)
      clear hP hQ hR hS
      go_upto_region 5 with fail
      go_cut [] (fun wx => Hid (SX w w.heap.size A B x y P' Q' R' S' wx))
      case first =>
        have hs0 := HS.out.drew
        refine wp_region_held_drew (S := fun w' => w'.cell? ⟨pt, 0, none⟩ = some (.int .i64 0) ∧ w'.cell? ⟨pt, 1, none⟩ = some (.int .i64 1)) (by kernel_rfl) (HQT.out _ hs0.b) (fun hHeld => ?_)
        refine wpAnyH_take (i := 1) (oi := { dst := some 19, op := Op.load 87 (Operand.tmp 3), type := 87, pos := "spread.go:39", after := #[], guard := none }) (v := ?_) rfl (by kernel_rfl) (by kernel_rfl) (by kernel_rfl) (fun _ _ _ h => h) (Or.inl ⟨by rfl, ?_⟩) (by assumption) ?_
        rotate_left
        · intro w' hSw
          (try dsimp only at hSw)
          go_simp
          try with_reducible rfl
        (try simp only [Act.put, List.setIfInBounds_toArray, List.set_cons_zero, List.set_cons_succ])
        refine wpAnyH_take (i := 4) (oi := { dst := some 22, op := Op.load 87 (Operand.tmp 3), type := 87, pos := "spread.go:39", after := #[], guard := none }) (v := ?_) rfl (by kernel_rfl) (by kernel_rfl) (by kernel_rfl) (fun _ _ _ h => h) (Or.inl ⟨by rfl, ?_⟩) (by assumption) ?_
        rotate_left
        · intro w' hSw
          (try dsimp only at hSw)
          go_simp
          try with_reducible rfl
        (try simp only [Act.put, List.setIfInBounds_toArray, List.set_cons_zero, List.set_cons_succ])
        refine wpAnyH_ready (rs := [0, 3]) (by kernel_rfl) (by simp) ?_
        refine (AllReadyH.cons (o := { dst := some 18, op := Op.load 87 (Operand.tmp 8), type := 87, pos := "spread.go:39", after := #[], guard := none }) rfl (fun K hK => ?_) (AllReadyH.cons (o := { dst := some 21, op := Op.load 87 (Operand.tmp 9), type := 87, pos := "spread.go:39", after := #[], guard := none }) rfl (fun K hK => ?_) AllReadyH.nil))
        · obtain ⟨a0, a1, a2, a3, a4⟩ := block_two' hs0.hA
          go_simp
          clear a0 a1 a2 a3 a4
          refine hK.out _ _ (HQT.out _ hs0.b) (fun hHeld => ?_)
          clear hK K
          (try simp only [Act.put, List.setIfInBounds_toArray, List.set_cons_zero, List.set_cons_succ])
          refine wpAnyH_ready (rs := [2, 3]) (by kernel_rfl) (by simp) ?_
          refine (AllReadyH.cons (o := { dst := some 20, op := Op.call { callee := Callee.value (Operand.func 100), args := #[Operand.tmp 18, Operand.tmp 19], argTypes := #[87, 87] }, type := 87, pos := "spread.go:39", after := #[{ on := 0, ground := Ground.data }, { on := 1, ground := Ground.data }], guard := none }) rfl (fun K hK => ?_) (AllReadyH.cons (o := { dst := some 21, op := Op.load 87 (Operand.tmp 9), type := 87, pos := "spread.go:39", after := #[], guard := none }) rfl (fun K hK => ?_) AllReadyH.nil))
          · go_simp
            go_at_call 100
            with_reducible (refine (HMI.out _).mono ?_)
            rintro e w5 ⟨rfl, hb5⟩
            have hs1 := hs0.step hb5
            (try go_wp2_with fail)
            refine hK.out _ _ (HQT.out _ hs1.b) (fun hHeld => ?_)
            clear hK K
            (try simp only [Act.put, List.setIfInBounds_toArray, List.set_cons_zero, List.set_cons_succ])
            refine wpAnyH_ready (rs := [3]) (by kernel_rfl) (by simp) ?_
            refine (AllReadyH.cons (o := { dst := some 21, op := Op.load 87 (Operand.tmp 9), type := 87, pos := "spread.go:39", after := #[], guard := none }) rfl (fun K hK => ?_) AllReadyH.nil)
            obtain ⟨a0, a1, a2, a3, a4⟩ := block_two' hs1.hB
            go_simp
            clear a0 a1 a2 a3 a4
            refine hK.out _ _ (HQT.out _ hs1.b) (fun hHeld => ?_)
            clear hK K
            (try simp only [Act.put, List.setIfInBounds_toArray, List.set_cons_zero, List.set_cons_succ])
            refine wpAnyH_ready (rs := [5]) (by kernel_rfl) (by simp) ?_
            refine (AllReadyH.cons (o := { dst := some 23, op := Op.call { callee := Callee.value (Operand.func 68), args := #[Operand.tmp 21, Operand.tmp 22], argTypes := #[87, 87] }, type := 87, pos := "spread.go:39", after := #[{ on := 3, ground := Ground.data }, { on := 4, ground := Ground.data }, { on := 2, ground := Ground.chain }], guard := none }) rfl (fun K hK => ?_) AllReadyH.nil)
            go_simp
            go_at_call 68
            with_reducible (refine (HPL.out _).mono ?_)
            rintro e w6 ⟨rfl, hb6⟩
            have hs2 := hs1.step hb6
            (try go_wp2_with fail)
            refine hK.out _ _ (HQT.out _ hs2.b) (fun hHeld => ?_)
            clear hK K
            (try simp only [Act.put, List.setIfInBounds_toArray, List.set_cons_zero, List.set_cons_succ])
            refine wpAnyH_ready (rs := [6]) (by kernel_rfl) (by simp) ?_
            refine (AllReadyH.cons (o := { dst := none, op := Op.store 87 (Operand.tmp 8) (Operand.tmp 20), type := 0, pos := "spread.go:39", after := #[{ on := 2, ground := Ground.data }, { on := 5, ground := Ground.chain }, { on := 0, ground := Ground.phase }, { on := 1, ground := Ground.phase }, { on := 2, ground := Ground.phase }, { on := 3, ground := Ground.textOnly Departure.lateStores }, { on := 4, ground := Ground.textOnly Departure.lateStores }, { on := 5, ground := Ground.textOnly Departure.lateStoresUnsure }], guard := none }) rfl (fun K hK => ?_) AllReadyH.nil)
            obtain ⟨a0, a1, a2, a3, a4⟩ := block_two' hs2.hA
            have hs3 := hs2.setA P' Q'
            go_simp
            clear a0 a1 a2 a3 a4
            refine hK.out _ _ (HQT.out _ hs3.b) (fun hHeld => ?_)
            clear hK K
            (try simp only [Act.put, List.setIfInBounds_toArray, List.set_cons_zero, List.set_cons_succ])
            refine wpAnyH_ready (rs := [7]) (by kernel_rfl) (by simp) ?_
            refine (AllReadyH.cons (o := { dst := none, op := Op.store 87 (Operand.tmp 9) (Operand.tmp 23), type := 0, pos := "spread.go:39", after := #[{ on := 5, ground := Ground.data }, { on := 6, ground := Ground.chain }, { on := 0, ground := Ground.phase }, { on := 1, ground := Ground.phase }, { on := 2, ground := Ground.phase }, { on := 3, ground := Ground.phase }, { on := 4, ground := Ground.phase }, { on := 5, ground := Ground.phase }, { on := 6, ground := Ground.phase }], guard := none }) rfl (fun K hK => ?_) AllReadyH.nil)
            obtain ⟨a0, a1, a2, a3, a4⟩ := block_two' hs3.hB
            have hs4 := hs3.setB R' S'
            go_simp
            clear a0 a1 a2 a3 a4
            refine hK.out _ _ (HQT.out _ hs4.b) (fun hHeld => ?_)
            clear hK K
            (try simp only [Act.put, List.setIfInBounds_toArray, List.set_cons_zero, List.set_cons_succ])
            refine wpAnyH_done (by kernel_rfl) ?_ _
            go_wp2_with fail
            go_meet
            exact Lib.hid hs4
          · obtain ⟨a0, a1, a2, a3, a4⟩ := block_two' hs0.hB
            go_simp
            clear a0 a1 a2 a3 a4
            refine hK.out _ _ (HQT.out _ hs0.b) (fun hHeld => ?_)
            clear hK K
            (try simp only [Act.put, List.setIfInBounds_toArray, List.set_cons_zero, List.set_cons_succ])
            refine wpAnyH_ready (rs := [2]) (by kernel_rfl) (by simp) ?_
            refine (AllReadyH.cons (o := { dst := some 20, op := Op.call { callee := Callee.value (Operand.func 100), args := #[Operand.tmp 18, Operand.tmp 19], argTypes := #[87, 87] }, type := 87, pos := "spread.go:39", after := #[{ on := 0, ground := Ground.data }, { on := 1, ground := Ground.data }], guard := none }) rfl (fun K hK => ?_) AllReadyH.nil)
            go_simp
            go_at_call 100
            with_reducible (refine (HMI.out _).mono ?_)
            rintro e w5 ⟨rfl, hb5⟩
            have hs1 := hs0.step hb5
            (try go_wp2_with fail)
            refine hK.out _ _ (HQT.out _ hs1.b) (fun hHeld => ?_)
            clear hK K
            (try simp only [Act.put, List.setIfInBounds_toArray, List.set_cons_zero, List.set_cons_succ])
            refine wpAnyH_ready (rs := [5]) (by kernel_rfl) (by simp) ?_
            refine (AllReadyH.cons (o := { dst := some 23, op := Op.call { callee := Callee.value (Operand.func 68), args := #[Operand.tmp 21, Operand.tmp 22], argTypes := #[87, 87] }, type := 87, pos := "spread.go:39", after := #[{ on := 3, ground := Ground.data }, { on := 4, ground := Ground.data }, { on := 2, ground := Ground.chain }], guard := none }) rfl (fun K hK => ?_) AllReadyH.nil)
            go_simp
            go_at_call 68
            with_reducible (refine (HPL.out _).mono ?_)
            rintro e w6 ⟨rfl, hb6⟩
            have hs2 := hs1.step hb6
            (try go_wp2_with fail)
            refine hK.out _ _ (HQT.out _ hs2.b) (fun hHeld => ?_)
            clear hK K
            (try simp only [Act.put, List.setIfInBounds_toArray, List.set_cons_zero, List.set_cons_succ])
            refine wpAnyH_ready (rs := [6]) (by kernel_rfl) (by simp) ?_
            refine (AllReadyH.cons (o := { dst := none, op := Op.store 87 (Operand.tmp 8) (Operand.tmp 20), type := 0, pos := "spread.go:39", after := #[{ on := 2, ground := Ground.data }, { on := 5, ground := Ground.chain }, { on := 0, ground := Ground.phase }, { on := 1, ground := Ground.phase }, { on := 2, ground := Ground.phase }, { on := 3, ground := Ground.textOnly Departure.lateStores }, { on := 4, ground := Ground.textOnly Departure.lateStores }, { on := 5, ground := Ground.textOnly Departure.lateStoresUnsure }], guard := none }) rfl (fun K hK => ?_) AllReadyH.nil)
            obtain ⟨a0, a1, a2, a3, a4⟩ := block_two' hs2.hA
            have hs3 := hs2.setA P' Q'
            go_simp
            clear a0 a1 a2 a3 a4
            refine hK.out _ _ (HQT.out _ hs3.b) (fun hHeld => ?_)
            clear hK K
            (try simp only [Act.put, List.setIfInBounds_toArray, List.set_cons_zero, List.set_cons_succ])
            refine wpAnyH_ready (rs := [7]) (by kernel_rfl) (by simp) ?_
            refine (AllReadyH.cons (o := { dst := none, op := Op.store 87 (Operand.tmp 9) (Operand.tmp 23), type := 0, pos := "spread.go:39", after := #[{ on := 5, ground := Ground.data }, { on := 6, ground := Ground.chain }, { on := 0, ground := Ground.phase }, { on := 1, ground := Ground.phase }, { on := 2, ground := Ground.phase }, { on := 3, ground := Ground.phase }, { on := 4, ground := Ground.phase }, { on := 5, ground := Ground.phase }, { on := 6, ground := Ground.phase }], guard := none }) rfl (fun K hK => ?_) AllReadyH.nil)
            obtain ⟨a0, a1, a2, a3, a4⟩ := block_two' hs3.hB
            have hs4 := hs3.setB R' S'
            go_simp
            clear a0 a1 a2 a3 a4
            refine hK.out _ _ (HQT.out _ hs4.b) (fun hHeld => ?_)
            clear hK K
            (try simp only [Act.put, List.setIfInBounds_toArray, List.set_cons_zero, List.set_cons_succ])
            refine wpAnyH_done (by kernel_rfl) ?_ _
            go_wp2_with fail
            go_meet
            exact Lib.hid hs4
        · obtain ⟨a0, a1, a2, a3, a4⟩ := block_two' hs0.hB
          go_simp
          clear a0 a1 a2 a3 a4
          refine hK.out _ _ (HQT.out _ hs0.b) (fun hHeld => ?_)
          clear hK K
          (try simp only [Act.put, List.setIfInBounds_toArray, List.set_cons_zero, List.set_cons_succ])
          refine wpAnyH_ready (rs := [0]) (by kernel_rfl) (by simp) ?_
          refine (AllReadyH.cons (o := { dst := some 18, op := Op.load 87 (Operand.tmp 8), type := 87, pos := "spread.go:39", after := #[], guard := none }) rfl (fun K hK => ?_) AllReadyH.nil)
          obtain ⟨a0, a1, a2, a3, a4⟩ := block_two' hs0.hA
          go_simp
          clear a0 a1 a2 a3 a4
          refine hK.out _ _ (HQT.out _ hs0.b) (fun hHeld => ?_)
          clear hK K
          (try simp only [Act.put, List.setIfInBounds_toArray, List.set_cons_zero, List.set_cons_succ])
          refine wpAnyH_ready (rs := [2]) (by kernel_rfl) (by simp) ?_
          refine (AllReadyH.cons (o := { dst := some 20, op := Op.call { callee := Callee.value (Operand.func 100), args := #[Operand.tmp 18, Operand.tmp 19], argTypes := #[87, 87] }, type := 87, pos := "spread.go:39", after := #[{ on := 0, ground := Ground.data }, { on := 1, ground := Ground.data }], guard := none }) rfl (fun K hK => ?_) AllReadyH.nil)
          go_simp
          go_at_call 100
          with_reducible (refine (HMI.out _).mono ?_)
          rintro e w5 ⟨rfl, hb5⟩
          have hs1 := hs0.step hb5
          (try go_wp2_with fail)
          refine hK.out _ _ (HQT.out _ hs1.b) (fun hHeld => ?_)
          clear hK K
          (try simp only [Act.put, List.setIfInBounds_toArray, List.set_cons_zero, List.set_cons_succ])
          refine wpAnyH_ready (rs := [5]) (by kernel_rfl) (by simp) ?_
          refine (AllReadyH.cons (o := { dst := some 23, op := Op.call { callee := Callee.value (Operand.func 68), args := #[Operand.tmp 21, Operand.tmp 22], argTypes := #[87, 87] }, type := 87, pos := "spread.go:39", after := #[{ on := 3, ground := Ground.data }, { on := 4, ground := Ground.data }, { on := 2, ground := Ground.chain }], guard := none }) rfl (fun K hK => ?_) AllReadyH.nil)
          go_simp
          go_at_call 68
          with_reducible (refine (HPL.out _).mono ?_)
          rintro e w6 ⟨rfl, hb6⟩
          have hs2 := hs1.step hb6
          (try go_wp2_with fail)
          refine hK.out _ _ (HQT.out _ hs2.b) (fun hHeld => ?_)
          clear hK K
          (try simp only [Act.put, List.setIfInBounds_toArray, List.set_cons_zero, List.set_cons_succ])
          refine wpAnyH_ready (rs := [6]) (by kernel_rfl) (by simp) ?_
          refine (AllReadyH.cons (o := { dst := none, op := Op.store 87 (Operand.tmp 8) (Operand.tmp 20), type := 0, pos := "spread.go:39", after := #[{ on := 2, ground := Ground.data }, { on := 5, ground := Ground.chain }, { on := 0, ground := Ground.phase }, { on := 1, ground := Ground.phase }, { on := 2, ground := Ground.phase }, { on := 3, ground := Ground.textOnly Departure.lateStores }, { on := 4, ground := Ground.textOnly Departure.lateStores }, { on := 5, ground := Ground.textOnly Departure.lateStoresUnsure }], guard := none }) rfl (fun K hK => ?_) AllReadyH.nil)
          obtain ⟨a0, a1, a2, a3, a4⟩ := block_two' hs2.hA
          have hs3 := hs2.setA P' Q'
          go_simp
          clear a0 a1 a2 a3 a4
          refine hK.out _ _ (HQT.out _ hs3.b) (fun hHeld => ?_)
          clear hK K
          (try simp only [Act.put, List.setIfInBounds_toArray, List.set_cons_zero, List.set_cons_succ])
          refine wpAnyH_ready (rs := [7]) (by kernel_rfl) (by simp) ?_
          refine (AllReadyH.cons (o := { dst := none, op := Op.store 87 (Operand.tmp 9) (Operand.tmp 23), type := 0, pos := "spread.go:39", after := #[{ on := 5, ground := Ground.data }, { on := 6, ground := Ground.chain }, { on := 0, ground := Ground.phase }, { on := 1, ground := Ground.phase }, { on := 2, ground := Ground.phase }, { on := 3, ground := Ground.phase }, { on := 4, ground := Ground.phase }, { on := 5, ground := Ground.phase }, { on := 6, ground := Ground.phase }], guard := none }) rfl (fun K hK => ?_) AllReadyH.nil)
          obtain ⟨a0, a1, a2, a3, a4⟩ := block_two' hs3.hB
          have hs4 := hs3.setB R' S'
          go_simp
          clear a0 a1 a2 a3 a4
          refine hK.out _ _ (HQT.out _ hs4.b) (fun hHeld => ?_)
          clear hK K
          (try simp only [Act.put, List.setIfInBounds_toArray, List.set_cons_zero, List.set_cons_succ])
          refine wpAnyH_done (by kernel_rfl) ?_ _
          go_wp2_with fail
          go_meet
          exact Lib.hid hs4
      case rest =>
      obtain ⟨ga, hga⟩ : ∃ z, z = grd ss P' Q' := ⟨_, rfl⟩
      obtain ⟨gb, hgb⟩ : ∃ z, z = grd ss R' S' := ⟨_, rfl⟩
      obtain ⟨gp, hgp⟩ : ∃ z, z = pk false ga gb := ⟨_, rfl⟩
      obtain ⟨V', hV'⟩ : ∃ z, z = pk false V gp := ⟨_, rfl⟩
      have HNV : Hid (V' = swG false ss 0 1 (j + 1) x y) := Lib.hid (by
        obtain ⟨⟨e1, e2⟩, e3, e4⟩ := HPQ2.out
        rw [hV', hgp, hga, hgb, HV.out, e1, e2, e3, e4]
        rfl)
      have HGA : Hid (∀ w', Below w.heap.size w w' → Calls Try.prog 65 #[.slice a ss.length cap, .agg #[.int .i64 P', .int .i64 Q']] w' fun e w'' => e = .returned (.int .i64 ga) ∧ Below w'.heap.size w' w'') := Lib.hid (fun w' hb => by rw [hga]; exact HG.out w' P' Q' hb)
      have HGB : Hid (∀ w', Below w.heap.size w w' → Calls Try.prog 65 #[.slice a ss.length cap, .agg #[.int .i64 R', .int .i64 S']] w' fun e w'' => e = .returned (.int .i64 gb) ∧ Below w'.heap.size w' w'') := Lib.hid (fun w' hb => by rw [hgb]; exact HG.out w' R' S' hb)
      have HK1 : Hid (∀ w', Calls Try.prog 80 #[.int .i64 ga, .int .i64 gb] w' fun e w'' => e = .returned (.int .i64 gp) ∧ Below w'.heap.size w' w'') := Lib.hid (fun w' => by rw [hgp]; exact pickD_any ga gb w')
      have HK2 : Hid (∀ w', Calls Try.prog 80 #[.int .i64 V, .int .i64 gp] w' fun e w'' => e = .returned (.int .i64 V') ∧ Below w'.heap.size w' w'') := Lib.hid (fun w' => by rw [hV']; exact pickD_any V gp w')
      have HC6 := Lib.hid (fun (w' : World) (h : SX w w.heap.size A B x y P' Q' R' S' w') => (show SX w w.heap.size A B x y P' Q' R' S' w' ∧ w'.cell? ⟨ps, 0, none⟩ = some (.slice a ss.length cap) ∧ w'.cell? ⟨pf, 0, none⟩ = some (.func (.func 80) #[] #[]) ∧ w'.cell? ⟨A, 0, none⟩ = some (.int .i64 P') ∧ w'.cell? ⟨A, 1, none⟩ = some (.int .i64 Q') ∧ w'.cell? ⟨B, 0, none⟩ = some (.int .i64 R') ∧ w'.cell? ⟨B, 1, none⟩ = some (.int .i64 S') from
        ⟨h, (HQ.out w' h.b).cs, (HQ.out w' h.b).cf, (block_two h.hA).1, (block_two h.hA).2.1, (block_two h.hB).1, (block_two h.hB).2.1⟩))
      have HSB := Lib.hid (fun (w' : World) (h : SX w w.heap.size A B x y P' Q' R' S' w') => h.b)
      clear hga hgb hgp hV'
      go_upto_region 6 with fail
      go_region_held3 (fun w' => SX w w.heap.size A B x y P' Q' R' S' w' ∧ w'.cell? ⟨ps, 0, none⟩ = some (.slice a ss.length cap) ∧ w'.cell? ⟨pf, 0, none⟩ = some (.func (.func 80) #[] #[]) ∧ w'.cell? ⟨A, 0, none⟩ = some (.int .i64 P') ∧ w'.cell? ⟨A, 1, none⟩ = some (.int .i64 Q') ∧ w'.cell? ⟨B, 0, none⟩ = some (.int .i64 R') ∧ w'.cell? ⟨B, 1, none⟩ = some (.int .i64 S'))
        (first | exact HC6.out _ hcut.out.drew | (go_split_ands; exact HC6.out _ (SX.step (by assumption) (by assumption))))
        (first
          | (go_at_call 65; go_split_ands; (first | with_reducible (refine (HGA.out _ (HSB.out _ (by assumption))).mono ?_) | with_reducible (refine (HGB.out _ (HSB.out _ (by assumption))).mono ?_)); rintro e w3 ⟨rfl, hb3⟩)
          | (go_at_call 80; go_split_ands; (first | with_reducible (refine (HK1.out _).mono ?_) | with_reducible (refine (HK2.out _).mono ?_)); rintro e w3 ⟨rfl, hb3⟩))
      all_goals
        go_split_ands
        have HS7 := Lib.hid (by assumption : SX w w.heap.size A B x y P' Q' R' S' w3)
        go_wp2
        go_roundg gk'
        case measure => exact Nat.lt_succ_self _
        case rel => exact ⟨j + 1, by omega, by go_num, ⟨V', rfl, HNV⟩, P', Q', R', S', HBN.out.1, HBN.out.2, HPQ2, HS7⟩
    · obtain rfl : j = k := by omega
      have HE : Hid (V = RES) := Lib.hid (by rw [HV.out, HEND.out])
      go_wp2
      go_ret
      exact ⟨by rw [HE.out]; rfl, HS.out.b⟩

end Go.Proofs.Ytfnkomecbbmfmaa

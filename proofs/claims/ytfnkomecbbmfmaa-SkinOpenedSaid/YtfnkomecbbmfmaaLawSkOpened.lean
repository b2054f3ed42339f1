/- SkinOpened: Open is idempotent and raises no grade; a cell of the eroded skin has at least grade g just if the square around it lies inside and is usable; for every slice of strings and all ints; no condition. -/
import Derived.Test.YtfnkomecbbmfmaaRows
import Derived.ProofKit
import Derived.OpenShut
import Derived.Lib.SmallJoins
import Derived.Test.YtfnkomecbbmfmaaSmD
import Derived.Test.YtfnkomecbbmfmaaSmE
namespace Go.Proofs.Ytfnkomecbbmfmaa.lawSkinOpened
open Go.ChangeShapes Go.WideShapes Go.ChangeAt Go.RowKit Go.Joins
set_option linter.unusedVariables false

/-- What a round keeps: the three skins and the table. -/
def Kept (w : World) (a : Option Addr) (ss : List ByteArray) (nT : Nat) (T : List ByteArray) (nC : Nat) (C : List ByteArray) (p n : Nat) (m : Nat → Nat) (g : Int) (wr : World) : Prop :=
  Below w.heap.size w wr ∧ StrS wr a ss ∧ StrS wr (some ⟨nT, 0, none⟩) T ∧ StrS wr (some ⟨nC, 0, none⟩) C ∧ TabS wr p n m (wid ss) ss.length (fun x y => tab (usB ss g) x y)
theorem Kept.below {w : World} {a : Option Addr} {ss T C : List ByteArray} {nT nC p n : Nat} {m : Nat → Nat} {g : Int} {wr w2 : World} (h : Kept w a ss nT T nC C p n m g wr) (hb : Below wr.heap.size wr w2) : Kept w a ss nT T nC C p n m g w2 :=
  ⟨h.1.trans (hb.mono h.1.size), h.2.1.below hb, h.2.2.1.below hb, h.2.2.2.1.below hb, h.2.2.2.2.below hb⟩

/-- A row of a skin. -/
theorem row_at {X : List ByteArray} (hs : skB X = true) {y : Nat} (hy : y < X.length) : X[y].size = wid X ∧ ∀ (x : Nat) (h : x < X[y].size), (X[y][x].toNat : Int) = 48 + grd X x y := by
  obtain ⟨-, -, hr⟩ := skB_iff.1 hs
  obtain ⟨h1, h2⟩ := hr y hy
  refine ⟨h1, fun x h => ?_⟩
  have := grd_in (ss := X) (x := x) (y := y) (xn := x) (yn := y) rfl rfl (by omega) hy h
  omega

set_option maxRecDepth 100000 in
set_option maxHeartbeats 3200000 in
theorem walk_yes (a : Option Addr) (cap : Nat) (ss : List ByteArray) (hs : skB ss = true) (g : Int) (h1 : 1 ≤ g) (h9 : g ≤ 9) (K : Nat) (hK : K ≤ 48) (w : World) (h : StrS w a ss) :
    Calls Try.prog 9 #[.slice a ss.length cap, .int .i64 g, .int .i64 K] w fun e w' => e = .returned (.bool true) ∧ Below w.heap.size w w' := by
  obtain ⟨⟨hl1, hl2⟩, ⟨hw1, hw2⟩, hrw⟩ := skB_iff.1 hs
  have hl := sk_long hs
  obtain ⟨T, hT⟩ : ∃ T, T = opB ss K := ⟨_, rfl⟩
  obtain ⟨C, hC⟩ : ∃ C, C = spB true ss K := ⟨_, rfl⟩
  obtain ⟨H, hH⟩ : ∃ H, H = ss.length := ⟨_, rfl⟩
  obtain ⟨W, hW⟩ : ∃ W, W = wid ss := ⟨_, rfl⟩
  have hsT : skB T = true := by rw [hT]; exact opB_sk hs K
  have hsC : skB C = true := by rw [hC]; exact spB_sk true hs K
  have hTl : T.length = H := by rw [hT, hH]; exact opB_len ss K
  have hTw : wid T = W := by rw [hT, hW]; exact opB_wid hs K
  have hCl : C.length = H := by rw [hC, hH]; unfold spB; rw [swB_len, swB_len]
  have hCw : wid C = W := by
    rw [hC, hW]; unfold spB
    rw [swB_wid true (swB_sk true hs 1 0 K), swB_wid true hs]
  have HO1 : Hid (Calls Try.prog 42 #[.slice a H cap, .int .i64 K] w fun e w'' => ∃ n, e = .returned (.tuple #[.slice (some ⟨n, 0, none⟩) H H, .int .i64 0]) ∧ StrS w'' (some ⟨n, 0, none⟩) T ∧ Below w.heap.size w w'') := Lib.hid (by
    have := open_yes a cap ss hs K hK w h
    rw [show spB false (spB true ss K) K = T from hT.symm, hTl, ← hH] at this
    exact this)
  have HO2 : Hid (∀ n w', StrS w' (some ⟨n, 0, none⟩) T → Calls Try.prog 42 #[.slice (some ⟨n, 0, none⟩) H H, .int .i64 K] w' fun e w'' => ∃ n, e = .returned (.tuple #[.slice (some ⟨n, 0, none⟩) H H, .int .i64 0]) ∧ StrS w'' (some ⟨n, 0, none⟩) T ∧ Below w'.heap.size w' w'') := Lib.hid (fun n w' hn => by
    have := open_yes (some ⟨n, 0, none⟩) H T hsT K hK w' hn
    rw [show spB false (spB true T K) K = T from by
      show opB T K = T
      rw [hT]; exact opB_op hs K, hTl] at this
    exact this)
  have HE1 : Hid (∀ w', Below w.heap.size w w' → Calls Try.prog 38 #[.slice a H cap, .int .i64 K] w' fun e w'' => ∃ n, e = .returned (.tuple #[.slice (some ⟨n, 0, none⟩) H H, .int .i64 0]) ∧ StrS w'' (some ⟨n, 0, none⟩) C ∧ Below w'.heap.size w' w'') := Lib.hid (fun w' hb => by
    have := erE_yes a cap ss hs K hK w' (h.below hb)
    rw [← hC, hCl, ← hH] at this
    exact this)
  have HQ : Hid (∀ n n' w', StrS w' (some ⟨n, 0, none⟩) T → StrS w' (some ⟨n', 0, none⟩) T → Calls Try.prog 31 #[.slice (some ⟨n, 0, none⟩) H H, .slice (some ⟨n', 0, none⟩) H H] w' fun e w'' => e = .returned (.bool true) ∧ Below w'.heap.size w' w'') := Lib.hid (fun n n' w' k1 k2 => by
    have := equalS_any (some ⟨n, 0, none⟩) (some ⟨n', 0, none⟩) H H T (by omega) w' k1 k2
    rw [hTl] at this
    exact this)
  have HN : Hid (∀ w', Below w.heap.size w w' → Calls Try.prog 21 #[.slice a H cap, .int .i64 g] w' fun e w'' => ∃ p n m, e = .returned (.tuple #[.pointer (some ⟨p, 0, none⟩), .int .i64 0]) ∧ TabS w'' p n m (wid ss) ss.length (fun x y => tab (usB ss g) x y) ∧ Below w'.heap.size w' w'') := Lib.hid (fun w' hb => by
    have := newTable_yes a cap ss hs g h1 h9 w' (h.below hb)
    rw [← hH] at this ⊢
    exact this.mono (fun e w'' ⟨p, n, m, h1, h2, _, h3⟩ => ⟨p, n, m, h1, h2, h3⟩))
  have HG : Hid (∀ w', Below w.heap.size w w' → Calls Try.prog 22 #[.slice a H cap, .int .i64 g] w' fun e w'' => e = .returned (.bool true) ∧ w' = w'') := Lib.hid (fun w' hb => by
    have := rGood_any a cap ss hl.1 hl.2 g w' (h.below hb)
    rw [show (skB ss && (decide (1 ≤ g) && decide (g ≤ 9))) = true by rw [hs]; simp [h1, h9], ← hH] at this
    exact this)
  have HKP : Hid (∀ nT nC p n m w', Below w.heap.size w w' → StrS w' (some ⟨nT, 0, none⟩) T → StrS w' (some ⟨nC, 0, none⟩) C → TabS w' p n m (wid ss) ss.length (fun x y => tab (usB ss g) x y) → Kept w a ss nT T nC C p n m g w') := Lib.hid (fun nT nC p n m w' hb k1 k2 k3 => ⟨hb, h.below hb, k1, k2, k3⟩)
  -- a cell's three bytes
  have HB3 : Hid (∀ y, y < H → ∃ rs rt rc : ByteArray, rs.size = W ∧ rt.size = W ∧ rc.size = W ∧ (∀ nT nC p n m w', Kept w a ss nT T nC C p n m g w' → w'.cell? ⟨nT, y, none⟩ = some (.string rt) ∧ w'.cell? ⟨nC, y, none⟩ = some (.string rc) ∧ nT < w'.heap.size ∧ nC < w'.heap.size ∧ ∃ b off, a = some ⟨b, off, none⟩ ∧ b < w'.heap.size ∧ w'.cell? ⟨b, off + y, none⟩ = some (.string rs)) ∧
      ∀ (x : Nat) (e1 : x < rs.size) (e2 : x < rt.size) (e3 : x < rc.size), (rs[x].toNat : Int) = 48 + grd ss x y ∧ (rt[x].toNat : Int) = 48 + grd T x y ∧ (rc[x].toNat : Int) = 48 + grd C x y) := Lib.hid (fun y hy => by
    have hy1 : y < ss.length := by omega
    have hy2 : y < T.length := by omega
    have hy3 : y < C.length := by omega
    obtain ⟨z1, f1⟩ := row_at hs hy1
    obtain ⟨z2, f2⟩ := row_at hsT hy2
    obtain ⟨z3, f3⟩ := row_at hsC hy3
    refine ⟨ss[y], T[y], C[y], by omega, by omega, by omega, fun nT nC p n m w' hk => ?_, fun x e1 e2 e3 => ⟨f1 x e1, f2 x e2, f3 x e3⟩⟩
    obtain ⟨b2, o2, g2, l2, c2⟩ := hk.2.2.1.at_ hy2
    obtain ⟨b3, o3, g3, l3, c3⟩ := hk.2.2.2.1.at_ hy3
    obtain ⟨b1, o1, g1, l1, c1⟩ := hk.2.1.at_ hy1
    simp only [Option.some.injEq, Addr.mk.injEq, and_true] at g2 g3
    obtain ⟨rfl, rfl⟩ := g2
    obtain ⟨rfl, rfl⟩ := g3
    rw [Nat.zero_add] at c2 c3
    exact ⟨c2, c3, l2, l3, b1, o1, g1, l1, c1⟩)
  -- what Count answers around a cell
  have HCN : Hid (∀ nT nC p n m w' (x y : Nat), K ≤ x → K ≤ y → x < W → y < H → Kept w a ss nT T nC C p n m g w' → ∃ c e : Int, (c == (((2 * K + 1) * (2 * K + 1) : Nat) : Int)) = decide (g ≤ grd C x y) ∧ Calls Try.prog 23 #[.pointer (some ⟨p, 0, none⟩), .agg #[.int .i64 ((x : Int) - K), .int .i64 ((y : Int) - K), .int .i64 (2 * (K : Int) + 1), .int .i64 (2 * (K : Int) + 1)]] w' fun e' w'' => e' = .returned (.tuple #[.int .i64 c, .int .i64 e]) ∧ Below w'.heap.size w' w'') := Lib.hid (fun nT nC p n m w' x y hx hy hxW hyH hk => by
    have heu := erode_usable hs K g h1 (x := x) (y := y) (by omega) (by omega)
    rw [← hC, ← hW, ← hH] at heu
    by_cases hin : x + K < W ∧ y + K < H
    · have hc := count_box p n m ss hs g (x - K) (y - K) (2 * K + 1) (2 * K + 1) (by omega) (by omega) (by omega) (by omega) w' hk.2.2.2.2
      rw [show ((x - K : Nat) : Int) = (x : Int) - K by omega, show ((y - K : Nat) : Int) = (y : Int) - K by omega, show ((2 * K + 1 : Nat) : Int) = 2 * (K : Int) + 1 by omega] at hc
      refine ⟨_, _, ?_, hc⟩
      rw [Bool.eq_iff_iff, beq_iff_eq, decide_eq_true_iff, heu]
      constructor
      · intro e; exact ⟨hx, hy, hin.1, hin.2, by exact_mod_cast e⟩
      · rintro ⟨-, -, -, -, e⟩; exact_mod_cast e
    · have hc := count_range p n m (wid ss) ss.length hw2 hl2 _ ((x : Int) - K) ((y : Int) - K) (2 * (K : Int) + 1) (2 * (K : Int) + 1) (rectB_iff.2 (by omega)) (by
        cases e : liesB ((x : Int) - K) ((y : Int) - K) (2 * (K : Int) + 1) (2 * (K : Int) + 1) (wid ss) ss.length with
        | false => rfl
        | true => have := liesB_iff.1 e; omega) w' hk.2.2.2.2
      refine ⟨_, _, ?_, hc⟩
      have hpos : 0 < (2 * K + 1) * (2 * K + 1) := Nat.mul_pos (by omega) (by omega)
      rw [Bool.eq_iff_iff, beq_iff_eq, decide_eq_true_iff, heu]
      constructor
      · intro e; omega
      · rintro ⟨-, -, z1, z2, -⟩; omega)
  have HNO : Hid (∀ x y : Nat, x < W → y < H → x < K ∨ y < K → ((-1 : Int) == (((2 * K + 1) * (2 * K + 1) : Nat) : Int)) = decide (g ≤ grd C x y)) := Lib.hid (fun x y hx hy hlt => by
    have heu := erode_usable hs K g h1 (x := x) (y := y) (by omega) (by omega)
    rw [← hC, ← hW, ← hH] at heu
    rw [Bool.eq_iff_iff, beq_iff_eq, decide_eq_true_iff, heu]
    constructor
    · intro e; omega
    · rintro ⟨z1, z2, -⟩; omega)
  have HLE : Hid (∀ x y : Int, grd T x y ≤ grd ss x y) := Lib.hid (fun x y => by rw [hT]; exact opB_le hs K x y)
  have HG9 : Hid (∀ x y : Int, (0 ≤ grd ss x y ∧ grd ss x y ≤ 9) ∧ (0 ≤ grd T x y ∧ grd T x y ≤ 9) ∧ (0 ≤ grd C x y ∧ grd C x y ≤ 9)) := Lib.hid (fun x y => ⟨grd_le9 hs x y, grd_le9 hsT x y, grd_le9 hsC x y⟩)
  have k0 : (0 : Int) ≤ K := by omega
  have k48 : ¬ (48 : Int) < K := by omega
  have k0' : ¬ (K : Int) < 0 := by omega
  have hH48 : (H : Int) ≤ 48 := by omega
  have hH1 : (1 : Int) ≤ H := by omega
  have hW48 : W ≤ 48 := by omega
  have hHH : ((H : Int) != (H : Int)) = false := by simp
  rw [← hH]
  clear hs hsT hsC hTl hTw hCl hCw hT hC hW hH h hl hrw hw1 hw2 hl1 hl2
  go_enter Try.func9, Try.ntmps9
  go_wp2_with fail
  refine HO1.out.mono ?_
  rintro e w1 ⟨nT, rfl, s1, hb⟩
  have S1 := Lib.hid (And.intro hb s1)
  clear hb s1
  go_wp2_with fail
  refine (HG.out _ S1.out.1).mono ?_
  rintro e w2 ⟨rfl, rfl⟩
  go_wp2_with fail
  refine (HO2.out _ _ S1.out.2).mono ?_
  rintro e w2 ⟨nU, rfl, s2, hb⟩
  have S2 := Lib.hid (And.intro (S1.out.1.trans (hb.mono S1.out.1.size)) (And.intro (S1.out.2.below hb) s2))
  clear hb s2
  go_wp2_with fail
  refine (HQ.out _ _ _ S2.out.2.1 S2.out.2.2).mono ?_
  rintro e w3 ⟨rfl, hb⟩
  have S3 := Lib.hid (And.intro (S2.out.1.trans (hb.mono S2.out.1.size)) (S2.out.2.1.below hb))
  clear hb
  go_wp2_with fail
  refine (HE1.out _ S3.out.1).mono ?_
  rintro e w4 ⟨nC, rfl, s4, hb⟩
  have S4 := Lib.hid (And.intro (S3.out.1.trans (hb.mono S3.out.1.size)) (And.intro (S3.out.2.below hb) s4))
  clear hb s4
  go_wp2_with fail
  refine (HN.out _ S4.out.1).mono ?_
  rintro e w5 ⟨p, n, m, rfl, ht, hb⟩
  have HK0 := Lib.hid (HKP.out nT nC p n m w5 (S4.out.1.trans (hb.mono S4.out.1.size)) (S4.out.2.1.below hb) (S4.out.2.2.below hb) ht)
  clear hb ht
  go_wp2
  go_loopg [102] H (fun gk i wr => ∃ y : Nat, y + gk = H ∧ i = .int .i64 y ∧ Hid (Kept w a ss nT T nC C p n m g wr))
  case atStart => exact ⟨0, by omega, rfl, HK0⟩
  case round =>
    obtain ⟨y, hy, rfl, HI⟩ := hrel
    by_cases hlt : y < H
    · obtain ⟨gk', rfl⟩ : ∃ m, gk = m + 1 := ⟨gk - 1, by omega⟩
      have hlt' : (y : Int) < H := by omega
      have hy0 : (0 : Int) ≤ y := by omega
      obtain ⟨rs, rt, rc, z1, z2, z3, hcell, hbyte⟩ := HB3.out y hlt
      have HCE := Lib.hid hcell
      have HBY := Lib.hid hbyte
      clear hcell hbyte
      obtain ⟨c1, c2, l1, l2, b, off, rfl, l3, c3⟩ := HCE.out _ _ _ _ _ _ HI.out
      have e1 : ((rt.size : Int) != (rs.size : Int)) = false := by rw [z1, z2]; simp
      have e2 : ((rc.size : Int) != (rs.size : Int)) = false := by rw [z1, z3]; simp
      have hsz : (rs.size : Int) ≤ 48 := by omega
      have HZ := Lib.hid (And.intro z1 (And.intro z2 z3))
      clear z1 z2 z3
      have HD := Lib.hid (fun nq => HI.out.below (below_drewN (Below.refl wr.heap.size wr) nq))
      go_wp2_with fail
      go_quiet (fail)
      go_wp2
      go_loopg [134] rs.size (fun gj i wr => ∃ x : Nat, x + gj = rs.size ∧ i = .int .i64 x ∧ Hid (Kept w (some ⟨b, off, none⟩) ss nT T nC C p n m g wr))
      case atStart => exact ⟨0, by omega, rfl, Lib.hid (HD.out _)⟩
      case round =>
        obtain ⟨x, hx, rfl, HI2⟩ := hrel
        clear c1 c2 c3 l1 l2 l3 e1 e2
        by_cases hlx : x < rs.size
        · obtain ⟨gj', rfl⟩ : ∃ m, gk = m + 1 := ⟨gk - 1, by omega⟩
          have hlx' : (x : Int) < rs.size := by omega
          have hx0 : (0 : Int) ≤ x := by omega
          have hxW : x < W := by have := HZ.out.1; omega
          go_upto_region 20 with fail
          go_cut [144] (fun v wx => ∃ q : Bool, v = .bool q ∧ Hid (q = decide (K ≤ x ∧ K ≤ y)) ∧ Hid (Kept w (some ⟨b, off, none⟩) ss nT T nC C p n m g wx))
          case first =>
            by_cases i1 : K ≤ x
            · have i1' : (K : Int) ≤ x := by omega
              by_cases i2 : K ≤ y
              · have HQ : Hid (true = decide (K ≤ x ∧ K ≤ y)) := Lib.hid (decide_eq_true ⟨i1, i2⟩).symm
                have i2' : (K : Int) ≤ y := by omega
                go_wp2_with fail
                go_meet
                exact ⟨_, rfl, HQ, HI2⟩
              · have HQ : Hid (false = decide (K ≤ x ∧ K ≤ y)) := Lib.hid (decide_eq_false fun h => i2 h.2).symm
                have i2' : ¬ (K : Int) ≤ y := by omega
                go_wp2_with fail
                go_meet
                exact ⟨_, rfl, HQ, HI2⟩
            · have HQ : Hid (false = decide (K ≤ x ∧ K ≤ y)) := Lib.hid (decide_eq_false fun h => i1 h.1).symm
              have i1' : ¬ (K : Int) ≤ x := by omega
              go_wp2_with fail
              go_meet
              exact ⟨_, rfl, HQ, HI2⟩
          case rest =>
          obtain ⟨q, rfl, HQ, HI2a⟩ := hcut
          go_upto_if 144 with fail
          go_cut [15] (fun v wx => ∃ c : Int, v = .int .i64 c ∧ Hid ((c == (((2 * K + 1) * (2 * K + 1) : Nat) : Int)) = decide (g ≤ grd C x y)) ∧ Hid (Kept w (some ⟨b, off, none⟩) ss nT T nC C p n m g wx))
          case first =>
            cases q with
            | true =>
              obtain ⟨i1, i2⟩ := of_decide_eq_true HQ.out.symm
              obtain ⟨c, e, hc, hcall⟩ := HCN.out nT nC p n m _ x y i1 i2 hxW hlt HI2a.out
              have HC1 := Lib.hid hc
              have HCL := Lib.hid hcall
              clear hc hcall
              have i1' : (K : Int) ≤ x := by omega
              have i2' : (K : Int) ≤ y := by omega
              go_wp2_with fail
              refine HCL.out.mono ?_
              rintro e' w6 ⟨rfl, hb⟩
              have HI3 := Lib.hid (HI2a.out.below hb)
              clear hb
              go_wp2_with fail
              go_meet
              exact ⟨_, rfl, HC1, HI3⟩
            | false =>
              have HC1 := Lib.hid (HNO.out x y hxW hlt (by have := of_decide_eq_false HQ.out.symm; omega))
              go_wp2_with fail
              go_meet
              exact ⟨_, rfl, HC1, HI2a⟩
          case rest =>
          obtain ⟨c, rfl, HC1, HI3⟩ := hcut
          obtain ⟨c1, c2, l1, l2, b', off', he, l3, c3⟩ := HCE.out _ _ _ _ _ _ HI3.out
          simp only [Option.some.injEq, Addr.mk.injEq, and_true] at he
          obtain ⟨rfl, rfl⟩ := he
          have x1 : x < rt.size := by have := HZ.out; omega
          have x2 : x < rc.size := by have := HZ.out; omega
          have x1' : (x : Int) < rt.size := by omega
          have x2' : (x : Int) < rc.size := by omega
          obtain ⟨y1, y2, y3⟩ := HBY.out x hlx x1 x2
          have hle := HLE.out x y
          obtain ⟨⟨p1, p2⟩, ⟨p3, p4⟩, ⟨p5, p6⟩⟩ := HG9.out x y
          have hd : decide (rs[x].toNat < rt[x].toNat) = false := by simp; omega
          have v1 : IntKind.i64.wrap (48 + g) = 48 + g := IntWalk.i64_in _ (by omega)
          have v2 : IntKind.u8.wrap (48 + g) = 48 + g := IntWalk.u8_in _ (by omega)
          have v3 : IntKind.i64.wrap (2 * (K : Int)) = 2 * (K : Int) := IntWalk.i64_in _ (by omega)
          have v4 : IntKind.i64.wrap (2 * (K : Int) + 1) = 2 * (K : Int) + 1 := IntWalk.i64_in _ (by omega)
          have hmul : (2 * K + 1) * (2 * K + 1) ≤ 97 * 97 := Nat.mul_le_mul (by omega) (by omega)
          obtain ⟨M, hM⟩ : ∃ M : Int, M = (((2 * K + 1) * (2 * K + 1) : Nat) : Int) := ⟨_, rfl⟩
          have v5 : IntKind.i64.wrap ((2 * (K : Int) + 1) * (2 * (K : Int) + 1)) = M := by
            rw [show (2 * (K : Int) + 1) * (2 * (K : Int) + 1) = M by rw [hM]; simp]
            exact IntWalk.i64_in _ (by omega)
          have hcm := HC1.out
          rw [← hM] at hcm
          have HD3 := Lib.hid (fun nq => HI3.out.below (below_drewN (Below.refl _ _) nq))
          by_cases hE : g ≤ grd C x y
          · rw [decide_eq_true hE] at hcm
            have hE1 : 48 + g ≤ (rc[x].toNat : Int) := by omega
            have hE2 : decide (48 + g ≤ (rc[x].toNat : Int)) = true := decide_eq_true hE1
            clear hM hmul y1 y2 y3 hle p1 p2 p3 p4 p5 p6 hE
            go_wp2_with fail
            go_quiet (fail)
            go_wp2
            go_roundg gj'
            case measure => exact Nat.lt_succ_self _
            case rel => exact ⟨x + 1, by omega, by go_num, Lib.hid (HD3.out _)⟩
          · rw [decide_eq_false hE] at hcm
            have hE1 : ¬ 48 + g ≤ (rc[x].toNat : Int) := by omega
            have hE2 : decide (48 + g ≤ (rc[x].toNat : Int)) = false := decide_eq_false hE1
            clear hM hmul y1 y2 y3 hle p1 p2 p3 p4 p5 p6 hE
            go_wp2_with fail
            go_quiet (fail)
            go_wp2
            go_roundg gj'
            case measure => exact Nat.lt_succ_self _
            case rel => exact ⟨x + 1, by omega, by go_num, Lib.hid (HD3.out _)⟩
        · obtain rfl : x = rs.size := by omega
          have hlx' : ¬ (rs.size : Int) < rs.size := by omega
          go_wp2
          go_roundg gk'
          case measure => exact Nat.lt_succ_self _
          case rel => exact ⟨y + 1, by omega, by go_num, HI2⟩
    · obtain rfl : y = H := by omega
      have hlt' : ¬ (y : Int) < y := by omega
      go_wp2_with fail
      refine (skAwake_any _).mono ?_
      rintro e w9 ⟨rfl, hb⟩
      have HE := Lib.hid (HI.out.1.trans (hb.mono HI.out.1.size))
      clear hb
      go_wp2
      go_ret
      exact ⟨rfl, HE.out⟩

set_option maxRecDepth 100000 in
set_option maxHeartbeats 1600000 in
/-- Open goes, but the least grade is none. -/
theorem walk_g (a : Option Addr) (cap : Nat) (ss : List ByteArray) (hs : skB ss = true) (g : Int) (hg : ¬ (1 ≤ g ∧ g ≤ 9)) (K : Nat) (hK : K ≤ 48) (w : World) (h : StrS w a ss) :
    Calls Try.prog 9 #[.slice a ss.length cap, .int .i64 g, .int .i64 K] w fun e w' => e = .returned (.bool true) ∧ Below w.heap.size w w' := by
  have hl := sk_long hs
  have HO1 := Lib.hid (open_yes a cap ss hs K hK w h)
  have HG : Hid (∀ w', Below w.heap.size w w' → Calls Try.prog 22 #[.slice a ss.length cap, .int .i64 g] w' fun e w'' => e = .returned (.bool false) ∧ w' = w'') := Lib.hid (fun w' hb => by
    have := rGood_any a cap ss hl.1 hl.2 g w' (h.below hb)
    rw [show (skB ss && (decide (1 ≤ g) && decide (g ≤ 9))) = false by
      rw [Bool.eq_false_iff]; intro e; simp at e; exact hg e.2] at this
    exact this)
  have HV : Hid (∀ w', Below w.heap.size w w' → Calls Try.prog 18 #[.slice a ss.length cap] w' fun e w'' => e = .returned (.bool true) ∧ w' = w'') := Lib.hid (fun w' hb => by
    have := rValid_any a cap ss hl.1 hl.2 w' (h.below hb)
    rw [hs] at this
    exact this)
  have k0 : (0 : Int) ≤ K := by omega
  have k48 : (K : Int) ≤ 48 := by omega
  clear h hs hg hl
  go_enter Try.func9, Try.ntmps9
  go_wp2_with fail
  refine HO1.out.mono ?_
  rintro e w1 ⟨nT, rfl, s1, hb⟩
  have HB := Lib.hid hb
  clear hb s1
  go_wp2_with fail
  refine (HG.out _ HB.out).mono ?_
  rintro e w2 ⟨rfl, rfl⟩
  go_wp2_with fail
  refine (HV.out _ HB.out).mono ?_
  rintro e w2 ⟨rfl, rfl⟩
  go_wp2_with fail
  refine (skAwake_any _).mono ?_
  rintro e w9 ⟨rfl, hb⟩
  have HE := Lib.hid (HB.out.trans (hb.mono HB.out.size))
  clear hb
  go_wp2
  go_ret
  exact ⟨rfl, HE.out⟩

set_option maxRecDepth 100000 in
set_option maxHeartbeats 1600000 in
/-- Open refuses. -/
theorem walk_no (a : Option Addr) (cap : Nat) (ss : List ByteArray) (l1 : (ss.length : Int) ≤ 9223372036854775807) (l2 : ∀ s ∈ ss, s.size ≤ 9223372036854775807) (g k : Int) (hn : skB ss = false ∨ k < 0 ∨ 48 < k) (w : World) (h : StrS w a ss) :
    Calls Try.prog 9 #[.slice a ss.length cap, .int .i64 g, .int .i64 k] w fun e w' => e = .returned (.bool true) ∧ Below w.heap.size w w' := by
  have HO1 := Lib.hid (open_no a cap ss l1 l2 k hn w h)
  have HG := Lib.hid (rGood_any a cap ss l1 l2 g w h)
  have HV := Lib.hid (rValid_any a cap ss l1 l2 w h)
  obtain ⟨b, hb⟩ : ∃ b, b = (skB ss && (decide (1 ≤ g) && decide (g ≤ 9))) := ⟨_, rfl⟩
  rw [← hb] at HG
  obtain ⟨v, hv⟩ : ∃ v, v = skB ss := ⟨_, rfl⟩
  rw [← hv] at HV
  have hbv : v = false → b = false := by intro e; rw [hb, ← hv, e]; rfl
  have hvk : v = false ∨ k < 0 ∨ 48 < k := by rw [hv]; exact hn
  clear hb hv hn h
  cases v with
  | false =>
    have hb0 := hbv rfl
    rw [hb0] at HG
    clear hb0 hbv hvk
    go_enter Try.func9, Try.ntmps9
    go_wp2_with fail
    refine HO1.out.mono ?_
    rintro e w1 ⟨rfl, rfl⟩
    go_wp2_with fail
    refine HG.out.mono ?_
    rintro e w2 ⟨rfl, rfl⟩
    go_wp2_with fail
    refine HV.out.mono ?_
    rintro e w2 ⟨rfl, rfl⟩
    go_wp2_with fail
    refine (skAwake_any _).mono ?_
    rintro e w9 ⟨rfl, hb⟩
    have HE := Lib.hid hb
    clear hb
    go_wp2
    go_ret
    exact ⟨rfl, HE.out⟩
  | true =>
    have hk : k < 0 ∨ 48 < k := by rcases hvk with h | h; · cases h
                                   · exact h
    clear hvk hbv
    rcases hk with hk | hk
    · have hk2 : ¬ (0 : Int) ≤ k := by omega
      cases b with
      | false =>
        go_enter Try.func9, Try.ntmps9
        go_wp2_with fail
        refine HO1.out.mono ?_
        rintro e w1 ⟨rfl, rfl⟩
        go_wp2_with fail
        refine HG.out.mono ?_
        rintro e w2 ⟨rfl, rfl⟩
        go_wp2_with fail
        refine HV.out.mono ?_
        rintro e w2 ⟨rfl, rfl⟩
        go_wp2_with fail
        refine (skAwake_any _).mono ?_
        rintro e w9 ⟨rfl, hb⟩
        have HE := Lib.hid hb
        clear hb
        go_wp2
        go_ret
        exact ⟨rfl, HE.out⟩
      | true =>
        go_enter Try.func9, Try.ntmps9
        go_wp2_with fail
        refine HO1.out.mono ?_
        rintro e w1 ⟨rfl, rfl⟩
        go_wp2_with fail
        refine HG.out.mono ?_
        rintro e w2 ⟨rfl, rfl⟩
        go_wp2_with fail
        refine HV.out.mono ?_
        rintro e w2 ⟨rfl, rfl⟩
        go_wp2_with fail
        refine (skAwake_any _).mono ?_
        rintro e w9 ⟨rfl, hb⟩
        have HE := Lib.hid hb
        clear hb
        go_wp2
        go_ret
        exact ⟨rfl, HE.out⟩
    · have hk0 : (0 : Int) ≤ k := by omega
      have hk1 : ¬ k < 0 := by omega
      have hk2d : decide (k ≤ 48) = false := by simp; omega
      have hk2 : ¬ k ≤ 48 := by omega
      cases b with
      | false =>
        go_enter Try.func9, Try.ntmps9
        go_wp2_with fail
        refine HO1.out.mono ?_
        rintro e w1 ⟨rfl, rfl⟩
        go_wp2_with fail
        refine HG.out.mono ?_
        rintro e w2 ⟨rfl, rfl⟩
        go_wp2_with fail
        refine HV.out.mono ?_
        rintro e w2 ⟨rfl, rfl⟩
        go_wp2_with fail
        refine (skAwake_any _).mono ?_
        rintro e w9 ⟨rfl, hb⟩
        have HE := Lib.hid hb
        clear hb
        go_wp2
        go_ret
        exact ⟨rfl, HE.out⟩
      | true =>
        go_enter Try.func9, Try.ntmps9
        go_wp2_with fail
        refine HO1.out.mono ?_
        rintro e w1 ⟨rfl, rfl⟩
        go_wp2_with fail
        refine HG.out.mono ?_
        rintro e w2 ⟨rfl, rfl⟩
        go_wp2_with fail
        refine HV.out.mono ?_
        rintro e w2 ⟨rfl, rfl⟩
        go_wp2_with fail
        refine (skAwake_any _).mono ?_
        rintro e w9 ⟨rfl, hb⟩
        have HE := Lib.hid hb
        clear hb
        go_wp2
        go_ret
        exact ⟨rfl, HE.out⟩

theorem walk (a : Option Addr) (cap : Nat) (ss : List ByteArray) (wf : ss.length ≤ maxLen ∧ ∀ s ∈ ss, s.size ≤ maxLen) (g : Int) (wg : (Lit.int .i64 g).wf = true) (k : Int) (wk : (Lit.int .i64 k).wf = true) (w : World) (h : StrS w a ss) :
    Calls Try.prog 9 #[.slice a ss.length cap, .int .i64 g, .int .i64 k] w fun e w' => e = .returned (.bool true) ∧ Below w.heap.size w w' := by
  obtain ⟨l1, l2⟩ := wf
  have l1' : (ss.length : Int) ≤ 9223372036854775807 := by unfold maxLen at l1; omega
  have l2' : ∀ s ∈ ss, s.size ≤ 9223372036854775807 := fun s hs => by have := l2 s hs; unfold maxLen at this; omega
  by_cases hn : skB ss = false ∨ k < 0 ∨ 48 < k
  · exact walk_no a cap ss l1' l2' g k hn w h
  · have hs : skB ss = true := by
      cases e : skB ss with
      | true => rfl
      | false => exact absurd (.inl e) hn
    obtain ⟨K, rfl⟩ := Int.eq_ofNat_of_zero_le (show 0 ≤ k by omega)
    by_cases hg : 1 ≤ g ∧ g ≤ 9
    · exact walk_yes a cap ss hs g hg.1 hg.2 K (by omega) w h
    · exact walk_g a cap ss hs g hg K (by omega) w h

theorem own : ownKnob Try.prog.godebug = none := by kernel_rfl

set_option maxRecDepth 100000 in
theorem lifted (os : Os) (started : os.Started) (H : Type) (enc : TypeId × Value → H) :
    ReturnsInHanded {} Try.checked os 9 .any (Rows.skinOpenedSpec.pre6 enc Try.prog Try.f9 Rows.skinOpenedRow.domain false) (Rows.skinOpenedSpec.post enc Try.prog Try.f9 false true false false) := by
  refine returnsInHanded_of_change (C := Try.checked) own started (by kernel_rfl) Try.func9
    (ChangeSpec.witness6 (enc := enc) (C := Try.checked) false ⟨#[], #[.slice none 0 0, .int .i64 0, .int .i64 0], []⟩ 8 (by kernel_rfl) (by kernel_rfl) (by kernel_rfl) (by kernel_rfl)) ?_
  intro W base args ds gs before hval0 hW hcnd _
  have hval : ∀ (j : Nat) t v, Try.f9.params[j]? = some t → args[j]? = some v → Value.okWide Try.prog W .any base t v := hval0
  have hW' := hW
  obtain ⟨p, q, hA0, hV, rfl, hfz, hnd⟩ := hW
  have hA : DataW.TrodAll enc Try.prog W 0 (fun _ => true) true Try.f9.params.toList args.toList ds p := hA0
  rw [Try.params9] at hA hval
  obtain ⟨v0, vs0, d0, ds0, p0, q0, hargs, rfl, rfl, h0, r0⟩ := trodAll_cons hA
  obtain ⟨v1, vs1, d1, ds1, p1, q1, rfl, rfl, rfl, h1, r1⟩ := trodAll_cons r0
  obtain ⟨v2, vs2, d2, ds2, p2, q2, rfl, rfl, rfl, h2, r2⟩ := trodAll_cons r1
  obtain ⟨rfl, rfl, rfl⟩ := trodAll_nil r2
  obtain rfl : args = #[v0, v1, v2] := by cases args; simp_all
  obtain ⟨rfl, rfl⟩ := trodVars_none hV
  obtain ⟨a0, len0, cap0, rfl⟩ := okWide_slice Try.underlying22 (hval 0 22 v0 rfl rfl)
  have k0 := h0
  have lt0 : ∀ x ∈ p0, x.block < W.heap.size := by obtain ⟨m, hm⟩ := k0; exact DataW.trod_lt m _ _ _ hm
  obtain ⟨fs0, hl0, hF0, wf0⟩ := open_skS h0
  subst hl0
  obtain ⟨n1, rfl, rfl, rfl, wn1⟩ := open_int Try.underlying3 (hval 1 3 v1 rfl rfl) h1
  obtain ⟨n2, rfl, rfl, rfl, wn2⟩ := open_int Try.underlying3 (hval 2 3 v2 rfl rfl) h2
  clear hA0 hval0
  refine (walk a0 cap0 fs0 wf0 n1 wn1 n2 wn2 W hF0).mono fun e W' ⟨he, hb⟩ => ?_
  subst he
  exact ⟨_, rfl, _, _, _, [], _, [], hW', trodAll_mk1 (shut_bool Try.underlying4 _), (trodAll_cons_mk (Below.trod laidOut (by kernel_rfl) (of_decide_eq_true (by kernel_rfl)) k0 hb lt0) (trodAll_cons_mk (shut_int Try.underlying3 wn1) (trodAll_cons_mk (shut_int Try.underlying3 wn2) trodAll_mk0))), rfl, hb.frame _, fun h => by cases h⟩

theorem over : Rows.skinOpenedRow.holds Try.pinned (OpenSpec.ofChange Rows.skinOpenedSpec) :=
  OpenClaim.holds_of_wide 9 Try.f9 rfl rfl rfl rfl rfl rfl rfl ⟨rfl, rfl, rfl, rfl, rfl⟩ rfl rfl rfl rfl rfl (by kernel_rfl) Try.func9 (by kernel_rfl)
    (of_decide_eq_true (by kernel_rfl)) (by unfold Func.isWrapper; first | (rw [if_pos (by decide +kernel)]; kernel_rfl) | (rw [if_neg (by decide +kernel)]; exact ⟨rfl, rfl⟩))
    (fun os started H enc _ => lifted os started H enc)

/-- THE STATEMENT. -/
theorem proved : Rows.SkinOpenedSaid := over
#print axioms proved

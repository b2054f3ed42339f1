/- Skins: Maximal. -/
import Derived.Test.YtndhnpljdldlpabSmT
import Derived.Test.YtndhnpljdldlpabSmK
namespace Go.Proofs.Ytndhnpljdldlpab
open Go.RowKit

set_option maxRecDepth 100000 in
set_option maxHeartbeats 1600000 in
theorem tall_max (pd pv nd my : Nat) (W H : Nat) (hW : W ≤ 48) (hH : H ≤ 48) (U : Int → Int → Bool) (p1 p2 : Value) (X Y : Nat) (hX : X < W) (hY : Y < H) (w : World) (J : Nat → World → Prop)
    (h0 : J 0 (w.alloc (.cells #[.int .i64 X, .int .i64 Y] 93)))
    (hM : ∀ n w', J n w' → EachM pd pv nd my W H U Y (.func (.func 34) #[] #[p1, p2]) w' ∧ w'.heap[w.heap.size]? = some (.cells #[.int .i64 X, .int .i64 Y] 93 (0, 0)))
    (hstep : ∀ n w', X + n < W → 1 ≤ low U H X Y (n + 1) → J n w' → Calls Try.prog 34 #[.agg #[.int .i64 X, .int .i64 Y, .int .i64 (n + 1 : Nat), .int .i64 (low U H X Y (n + 1))], p1, p2] w' fun e w'' => e = .returned (.tuple #[]) ∧ J (n + 1) w'') :
    Calls Try.prog 70 #[.agg #[.int .i64 X, .int .i64 Y], .pointer (some ⟨pd, 0, none⟩), .pointer (some ⟨pv, 0, none⟩)] w fun e w' => e = .returned (.tuple #[]) ∧ ∃ n, J n w' ∧ (X + n = W ∨ dep U (X + n) Y (H - Y) = 0) := by
  have H0 := Lib.hid h0
  have HM := Lib.hid hM
  have HST := Lib.hid hstep
  have hk := hM 0 _ h0
  obtain ⟨e1, e2, e3, e4, e5, e6, e7, e8⟩ := hk.1
  have b1 := block_two hk.2
  obtain ⟨q1, q2, ql⟩ := b1
  have c1 := e7 X hX
  obtain ⟨L, hL⟩ : ∃ L : Nat, L = H + 1 := ⟨_, rfl⟩
  have HL := Lib.hid hL
  rw [← hL] at e1
  have i1 : (Y : Int) < L := by omega
  have i2 : Y < L := by omega
  have i3 : (X : Int) < W := by omega
  have hd := dep_le U X (H - Y) Y
  obtain ⟨d, hdd⟩ : ∃ d, d = dep U X Y (H - Y) := ⟨_, rfl⟩
  rw [← hdd] at c1 hd
  have HD0 : Hid (d = low U H X Y 0) := Lib.hid hdd
  have HQ : Hid (∃ wz, wz = w.alloc (.cells #[.int .i64 X, .int .i64 Y] 93)) := Lib.hid ⟨_, rfl⟩
  have hd48 : d ≤ 48 := by omega
  have hX' : X ≤ 48 := by omega
  have hY' : Y ≤ 48 := by omega
  clear h0 hM hstep hk e7 hL hdd hd
  go_enter Try.func70, Try.ntmps70
  go_wp2
  clear e1 e2 e3 e4 e5 e6 e8 q1 q2 ql c1
  go_loopg [5, 6] (W - X) (fun gk v i wr => ∃ q lo : Nat, q + gk = W ∧ X ≤ q ∧ i = .int .i64 q ∧ v = .int .i64 lo ∧ lo ≤ 48 ∧ (q = X ∨ 1 ≤ lo) ∧ Hid (lo = low U H X Y (q - X)) ∧ Hid (J (q - X) wr))
  case atStart => exact ⟨X, d, by omega, Nat.le_refl _, rfl, rfl, hd48, .inl rfl, Lib.hid (by rw [Nat.sub_self]; exact HD0.out), Lib.hid (by rw [Nat.sub_self]; exact H0.out)⟩
  case round =>
    obtain ⟨q, lo, hn, hXq, rfl, rfl, hlo48, hlo1, HLO, HJ⟩ := hrel
    have hk := HM.out _ _ HJ.out
    obtain ⟨e1, e2, e3, e4, e5, e6, e7, e8⟩ := hk.1
    obtain ⟨q1, q2, ql⟩ := block_two hk.2
    by_cases hlt : q < W
    · obtain ⟨gk', rfl⟩ : ∃ m, gk = m + 1 := ⟨gk - 1, by omega⟩
      have c1 := e7 q hlt
      have hd := dep_le U q (H - Y) Y
      have hqW : (q : Int) < W := by omega
      have hq0 : (0 : Int) ≤ q := by omega
      have hq48 : q ≤ 48 := by omega
      obtain ⟨d2, hd2⟩ : ∃ d, d = dep U q Y (H - Y) := ⟨_, rfl⟩
      rw [← hd2] at c1 hd
      have hd248 : d2 ≤ 48 := by omega
      by_cases hpos : 0 < d2
      · have hpos' : (0 : Int) < d2 := by omega
        obtain ⟨n1, hn1⟩ : ∃ n1, n1 = q - X + 1 := ⟨_, rfl⟩
        obtain ⟨lo2, hlo2⟩ : ∃ l, l = low U H X Y (q - X + 1) := ⟨_, rfl⟩
        have hmin : lo2 = min lo d2 := by rw [hlo2, hd2, HLO.out, low, show X + (q - X) = q by omega]
        have hlo21 : 1 ≤ lo2 := by
          rcases hlo1 with h | h
          · subst h
            have e1 : lo = dep U q Y (H - Y) := by rw [HLO.out, Nat.sub_self]; rfl
            omega
          · omega
        have hminI : min (lo : Int) (d2 : Int) = lo2 := by omega
        have hlo248 : lo2 ≤ 48 := by omega
        obtain ⟨n0, hn0⟩ : ∃ n0 : Nat, n0 = q - X := ⟨_, rfl⟩
        have hw1 : IntKind.i64.wrap ((q : Int) - X) = (n0 : Int) := by rw [IntWalk.i64_in _ (by omega)]; omega
        have hw2 : IntKind.i64.wrap ((n0 : Int) + 1) = (n1 : Int) := by rw [IntWalk.i64_in _ (by omega)]; omega
        have HC := Lib.hid (HST.out (q - X) _ (by omega) (by rw [← hlo2]; exact hlo21) HJ.out)
        rw [← hlo2, ← hn1] at HC
        have HLN : Hid (lo2 = low U H X Y (q + 1 - X)) := Lib.hid (by rw [show q + 1 - X = q - X + 1 by omega]; exact hlo2)
        have HN1 : Hid (n1 = q + 1 - X) := Lib.hid (by omega)
        have hn48 : n1 ≤ 49 := by omega
        clear hlo2 hn1 hd2 hk e7 hn0
        clear hminI
        go_wp2_with fail
        · obtain rfl : lo2 = d2 := by omega
          refine HC.out.mono ?_
          rintro e w3 ⟨rfl, hj⟩
          have HJ3 : Hid (J (q + 1 - X) w3) := Lib.hid (by rw [← HN1.out]; exact hj)
          clear hj e1 e2 e3 e4 e5 e6 e8 q1 q2 ql c1 hmin hlo1 hw1 hw2
          go_wp2
          go_roundg gk'
          case measure => exact Nat.lt_succ_self _
          case rel => exact ⟨q + 1, lo2, by omega, by omega, by go_num, rfl, hlo248, .inr hlo21, HLN, HJ3⟩
        · obtain rfl : lo2 = lo := by omega
          refine HC.out.mono ?_
          rintro e w3 ⟨rfl, hj⟩
          have HJ3 : Hid (J (q + 1 - X) w3) := Lib.hid (by rw [← HN1.out]; exact hj)
          clear hj e1 e2 e3 e4 e5 e6 e8 q1 q2 ql c1 hmin hlo1 hw1 hw2
          go_wp2
          go_roundg gk'
          case measure => exact Nat.lt_succ_self _
          case rel => exact ⟨q + 1, lo2, by omega, by omega, by go_num, rfl, hlo248, .inr hlo21, HLN, HJ3⟩
      · have hz : d2 = 0 := by omega
        have HE : Hid (∃ n, J n wr ∧ (X + n = W ∨ dep U (X + n) Y (H - Y) = 0)) := Lib.hid ⟨q - X, HJ.out, .inr (by rw [show X + (q - X) = q by omega, ← hd2]; exact hz)⟩
        have hpos' : ¬ (0 : Int) < d2 := by omega
        clear hz hk e7 hd2
        go_wp2
        go_end0
        exact ⟨rfl, HE.out⟩
    · have HE : Hid (∃ n, J n wr ∧ (X + n = W ∨ dep U (X + n) Y (H - Y) = 0)) := Lib.hid ⟨q - X, HJ.out, .inl (by omega)⟩
      have hqW : ¬ (q : Int) < W := by omega
      clear hk e7
      go_wp2
      go_end0
      exact ⟨rfl, HE.out⟩

set_option maxRecDepth 100000 in
set_option maxHeartbeats 1600000 in
/-- One cell's tall rectangles. -/
theorem tallStep_max (w0 : World) (pt p nb : Nat) (mb : Nat → Nat) (pd pv nd pl : Nat) (m : Nat → Nat) (ss : List ByteArray) (hs : skB ss = true) (g : Int) (x y : Nat) (hx : x < wid ss) (hy : y < ss.length) (v : Value) (w : World)
    (h : XM w0 pt p nb mb pd pv nd pl m (wid ss) ss.length (usB ss g) (.func (.func 34) #[] #[.pointer (some ⟨pt, 0, none⟩), .pointer (some ⟨pl, 0, none⟩)]) v (mxTo (usB ss g) (wid ss) ss.length y x 0 0) w) :
    Calls Try.prog 70 #[.agg #[.int .i64 x, .int .i64 y], .pointer (some ⟨pd, 0, none⟩), .pointer (some ⟨pv, 0, none⟩)] w fun e w' => e = .returned (.tuple #[]) ∧ ∃ v', XM w0 pt p nb mb pd pv nd pl m (wid ss) ss.length (usB ss g) (.func (.func 34) #[] #[.pointer (some ⟨pt, 0, none⟩), .pointer (some ⟨pl, 0, none⟩)]) v' (mxTo (usB ss g) (wid ss) ss.length y (x + 1) 0 0) w' := by
  obtain ⟨⟨hl1, hl2⟩, ⟨hw1, hw2⟩, -⟩ := skB_iff.1 hs
  have hpl := block_lt h.hl
  refine (tall_max pd pv nd (m y) (wid ss) ss.length hw2 hl2 (usB ss g) (.pointer (some ⟨pt, 0, none⟩)) (.pointer (some ⟨pl, 0, none⟩)) x y hx hy w (fun n w' => x + n ≤ wid ss ∧ (∃ v', XM w0 pt p nb mb pd pv nd pl m (wid ss) ss.length (usB ss g) (.func (.func 34) #[] #[.pointer (some ⟨pt, 0, none⟩), .pointer (some ⟨pl, 0, none⟩)]) v' (mxTo (usB ss g) (wid ss) ss.length y x n 0) w') ∧ w'.heap[w.heap.size]? = some (.cells #[.int .i64 x, .int .i64 y] 93 (0, 0))) ?_ ?_ ?_).mono ?_
  · exact ⟨by omega, ⟨_, h.step ((Below.refl _ _).alloc (Nat.le_refl _) _)⟩, heap_alloc_new _ _⟩
  · rintro n w' ⟨-, ⟨v', h1⟩, h3⟩
    exact ⟨h1.each (by omega), h3⟩
  · rintro n w' hn hl ⟨h0, ⟨v', h1⟩, h3⟩
    have hlo := low_le (usB ss g) ss.length x y (n + 1)
    have hlen := mxTo_len (usB ss g) (wid ss) ss.length y x n 0 hw2 hl2 (by omega) (by omega) (by omega) (by omega)
    refine (maxClo w0 pt p nb mb pd pv nd pl m ss hs g _ v' _ hlen x y (n + 1) (low (usB ss g) ss.length x y (n + 1)) (by omega) hl (by omega) (by omega) (by omega) (by omega) w' h1).mono ?_
    rintro e w'' ⟨he, hfr, v'', h4⟩
    refine ⟨he, by omega, ⟨v'', ?_⟩, hfr _ _ _ (show (93 : Nat) ≠ 29 by decide) (by omega) h3⟩
    rw [mxTo_tall _ _ _ _ _ _ (by omega) hl]
    exact h4
  · rintro e w' ⟨he, n, ⟨h0, ⟨v', h1⟩, -⟩, hend⟩
    refine ⟨he, v', ?_⟩
    rw [← mxTo_end _ _ _ _ _ n h0 hend]
    exact h1

set_option maxRecDepth 100000 in
set_option maxHeartbeats 1600000 in
theorem eachTall_max (a : Option Addr) (cap : Nat) (ss : List ByteArray) (hs : skB ss = true) (g : Int) (ps pg pt p nb : Nat) (mb : Nat → Nat) (pl : Nat) (w0 w : World) (hb0 : Below w0.heap.size w0 w) (h : LeaM w ps pg a ss cap g) (hpt : w.heap[pt]? = some (.cells #[.pointer (some ⟨p, 0, none⟩)] 61 (0, 0))) (htb : TabS w p nb mb (wid ss) ss.length (fun x y => tab (usB ss g) x y)) (hpl : w.heap[pl]? = some (.cells #[.slice none 0 0] 23 (0, 0))) (hle : w0.heap.size ≤ pl) (hlt : pt < pl ∧ p < pl ∧ nb < pl ∧ ∀ y, y ≤ ss.length → mb y < pl) :
    Calls Try.prog 33 #[.slice a ss.length cap, .func (.func 67) #[] #[.pointer (some ⟨ps, 0, none⟩), .pointer (some ⟨pg, 0, none⟩)], .func (.func 34) #[] #[.pointer (some ⟨pt, 0, none⟩), .pointer (some ⟨pl, 0, none⟩)]] w fun e w' => e = .returned (.tuple #[]) ∧ ∃ v', w'.heap[pl]? = some (.cells #[v'] 23 (0, 0)) ∧ w'.ownsRow (pl + 1) 29 4 v' (mxTo (usB ss g) (wid ss) ss.length ss.length 0 0 0).length (rcVals (mxTo (usB ss g) (wid ss) ss.length ss.length 0 0 0)) ∧ Below w0.heap.size w0 w' := by
  obtain ⟨⟨hl1, hl2⟩, ⟨hw1, hw2⟩, -⟩ := skB_iff.1 hs
  have lr := block_lt hpl
  have HD := Lib.hid (fun w' hb => depths_any a cap ss hs g ps pg w' (h.below hb))
  have HLM : Hid (∀ pv w1 nd m w2, Below w.heap.size w w1 → w1.heap[pv]? = some (.cells #[.func (.func 34) #[] #[.pointer (some ⟨pt, 0, none⟩), .pointer (some ⟨pl, 0, none⟩)]] 64 (0, 0)) → w.heap.size ≤ pv → DM w1 nd (wid ss) ss.length 0 m (fun y x => dep (usB ss g) x y (ss.length - y)) w2 → XM w0 pt p nb mb w2.heap.size pv nd pl m (wid ss) ss.length (usB ss g) (.func (.func 34) #[] #[.pointer (some ⟨pt, 0, none⟩), .pointer (some ⟨pl, 0, none⟩)]) (.slice none 0 0) [] (w2.alloc (.cells #[.slice (some ⟨nd, 0, none⟩) (ss.length + 1) (ss.length + 1)] 118))) := Lib.hid (fun pv w1 nd m w2 hb hpv hlv hd => by
    have hbb := hb.trans (hd.b.mono hb.size)
    have h2 : Below w2.heap.size w2 (w2.alloc (.cells #[.slice (some ⟨nd, 0, none⟩) (ss.length + 1) (ss.length + 1)] 118)) := (Below.refl _ _).alloc (Nat.le_refl _) _
    have h3 := hbb.trans (h2.mono hbb.size)
    have hz1 := hb.size
    have hz2 := hd.le
    have hz3 := hd.ln
    exact ⟨(hd.rebase (hb0.trans (hb.mono hb0.size))).step h2, (h3.block _ (block_lt hpt)).trans hpt, htb.below h3, heap_alloc_new _ _, (h2.block _ (by have := block_lt hpv; have := hd.b.size; omega)).trans ((hd.b.block _ (block_lt hpv)).trans hpv), (h3.block _ lr).trans hpl, ⟨by simp [rcVals], .inl ⟨rfl, rfl⟩⟩, hle, ⟨hlt.1, by omega, by omega, by omega⟩, hlt.2⟩)
  have HW : Hid (∀ pd pv nd m w2, XM w0 pt p nb mb pd pv nd pl m (wid ss) ss.length (usB ss g) (.func (.func 34) #[] #[.pointer (some ⟨pt, 0, none⟩), .pointer (some ⟨pl, 0, none⟩)]) (.slice none 0 0) [] w2 → StrS w2 a ss → Calls Try.prog 63 #[.slice a ss.length cap, .func (.func 70) #[] #[.pointer (some ⟨pd, 0, none⟩), .pointer (some ⟨pv, 0, none⟩)]] w2 fun e w' => e = .returned (.tuple #[]) ∧ ∃ v', XM w0 pt p nb mb pd pv nd pl m (wid ss) ss.length (usB ss g) (.func (.func 34) #[] #[.pointer (some ⟨pt, 0, none⟩), .pointer (some ⟨pl, 0, none⟩)]) v' (mxTo (usB ss g) (wid ss) ss.length ss.length 0 0 0) w') := Lib.hid (fun pd pv nd m w2 hl hs2 =>
    walk_tall a cap ss hs _ _ (fun y x w' => ∃ v', XM w0 pt p nb mb pd pv nd pl m (wid ss) ss.length (usB ss g) (.func (.func 34) #[] #[.pointer (some ⟨pt, 0, none⟩), .pointer (some ⟨pl, 0, none⟩)]) v' (mxTo (usB ss g) (wid ss) ss.length y x 0 0) w') w2 hs2 ⟨_, hl⟩ (fun y w' ⟨v', h1⟩ => ⟨v', by rw [← mxTo_row]; exact h1⟩) (fun x y w' hx hy ⟨v', h1⟩ => tallStep_max w0 pt p nb mb pd pv nd pl m ss hs g x y hx hy v' w' h1))
  have HS := Lib.hid h.2.2.2.2
  have HA : Hid (Below w.heap.size w (w.alloc (.cells #[.func (.func 34) #[] #[.pointer (some ⟨pt, 0, none⟩), .pointer (some ⟨pl, 0, none⟩)]] 64))) := Lib.hid ((Below.refl _ _).alloc (Nat.le_refl _) _)
  have HN : Hid ((w.alloc (.cells #[.func (.func 34) #[] #[.pointer (some ⟨pt, 0, none⟩), .pointer (some ⟨pl, 0, none⟩)]] 64)).heap[w.heap.size]? = some (.cells #[.func (.func 34) #[] #[.pointer (some ⟨pt, 0, none⟩), .pointer (some ⟨pl, 0, none⟩)]] 64 (0, 0))) := Lib.hid (heap_alloc_new _ _)
  obtain ⟨MX, hMX⟩ : ∃ MX, MX = mxTo (usB ss g) (wid ss) ss.length ss.length 0 0 0 := ⟨_, rfl⟩
  obtain ⟨U, hU⟩ : ∃ U, U = usB ss g := ⟨_, rfl⟩
  obtain ⟨W, hW⟩ : ∃ W, W = wid ss := ⟨_, rfl⟩
  obtain ⟨H, hH⟩ : ∃ H, H = ss.length := ⟨_, rfl⟩
  rw [← hMX] at HW
  rw [← hMX]
  rw [← hU, ← hW, ← hH] at HD HLM HW
  rw [← hH]
  have HH := Lib.hid (And.intro hU (And.intro hW (And.intro hH hMX)))
  clear hs h hb0 hpt htb hpl hle hlt lr hU hW hH hMX hl1 hl2 hw1 hw2
  go_enter Try.func33, Try.ntmps33
  go_wp2_with fail
  refine (HD.out _ HA.out).mono ?_
  rintro e w1 ⟨nd, m, rfl, hd⟩
  have HL := Lib.hid (HLM.out _ _ nd m w1 HA.out HN.out (Nat.le_refl _) hd)
  have HS1 := Lib.hid ((HS.out.below (HA.out.trans (hd.b.mono HA.out.size))).below ((Below.refl w1.heap.size w1).alloc (Nat.le_refl _) (.cells #[.slice (some ⟨nd, 0, none⟩) (H + 1) (H + 1)] 118)))
  clear hd
  go_wp2_with fail
  refine (HW.out _ _ _ _ _ HL.out HS1.out).mono ?_
  rintro e w2 ⟨rfl, v', h1⟩
  have HE := Lib.hid (And.intro h1.hl (And.intro h1.own h1.dm.b))
  clear h1
  go_wp2
  go_end0
  exact ⟨rfl, v', HE.out⟩

set_option maxRecDepth 100000 in
set_option maxHeartbeats 1600000 in
theorem maximal_yes (a : Option Addr) (cap : Nat) (ss : List ByteArray) (hs : skB ss = true) (g : Int) (h1 : 1 ≤ g) (h9 : g ≤ 9) (w : World) (h : StrS w a ss) :
    Calls Try.prog 8 #[.slice a ss.length cap, .int .i64 g] w fun e w' => ∃ a' c', e = .returned (.tuple #[.slice a' (mxTo (usB ss g) (wid ss) ss.length ss.length 0 0 0).length c', .int .i64 0]) ∧ RecS w' a' (mxTo (usB ss g) (wid ss) ss.length ss.length 0 0 0) ∧ Below w.heap.size w w' := by
  have HL := Lib.hid (leather_yes a cap ss hs g h1 h9 w h)
  have HT := Lib.hid (fun ps pg w' hl => tableOf_any a cap ss hs g ps pg w' hl)
  have HE : Hid (∀ ps pg p nb mb w2, Below w.heap.size w w2 → LeaM w2 ps pg a ss cap g → TabS w2 p nb mb (wid ss) ss.length (fun x y => tab (usB ss g) x y) → Calls Try.prog 33 #[.slice a ss.length cap, .func (.func 67) #[] #[.pointer (some ⟨ps, 0, none⟩), .pointer (some ⟨pg, 0, none⟩)], .func (.func 34) #[] #[.pointer (some ⟨w2.heap.size, 0, none⟩), .pointer (some ⟨w2.heap.size + 1, 0, none⟩)]] ((w2.alloc (.cells #[.pointer (some ⟨p, 0, none⟩)] 61)).alloc (.cells #[.slice none 0 0] 23)) fun e w' => e = .returned (.tuple #[]) ∧ ∃ v', w'.heap[w2.heap.size + 1]? = some (.cells #[v'] 23 (0, 0)) ∧ w'.ownsRow (w2.heap.size + 1 + 1) 29 4 v' (mxTo (usB ss g) (wid ss) ss.length ss.length 0 0 0).length (rcVals (mxTo (usB ss g) (wid ss) ss.length ss.length 0 0 0)) ∧ Below w.heap.size w w') := Lib.hid (fun ps pg p nb mb w2 hb hl ht => by
    have b1 : Below w2.heap.size w2 (w2.alloc (.cells #[.pointer (some ⟨p, 0, none⟩)] 61)) := (Below.refl _ _).alloc (Nat.le_refl _) _
    have e1 : (w2.alloc (.cells #[.pointer (some ⟨p, 0, none⟩)] 61)).heap.size = w2.heap.size + 1 := by simp
    have b2 := b1.alloc (by omega) (.cells #[.slice none 0 0] 23)
    have hn := heap_alloc_new (w2.alloc (.cells #[.pointer (some ⟨p, 0, none⟩)] 61)) (.cells #[.slice none 0 0] 23)
    rw [e1] at hn
    have hsz := hb.size
    exact eachTall_max a cap ss hs g ps pg w2.heap.size p nb mb (w2.heap.size + 1) w _ (hb.trans (b2.mono hb.size)) (hl.below b2) ((Below.heap_alloc _ _ _ (by omega)).trans (heap_alloc_new _ _)) (ht.below b2) hn (by omega) ⟨by omega, by have := ht.hp; omega, by have := ht.hn; omega, fun y hy => by have := ht.hm y hy; omega⟩)
  obtain ⟨MX, hMX⟩ : ∃ MX, MX = mxTo (usB ss g) (wid ss) ss.length ss.length 0 0 0 := ⟨_, rfl⟩
  rw [← hMX] at HE
  rw [← hMX]
  clear hs h h1 h9 hMX
  go_enter Try.func8, Try.ntmps8
  go_wp2_with fail
  refine HL.out.mono ?_
  rintro e w1 ⟨rfl, hl, hb⟩
  have HL1 := Lib.hid (And.intro hl hb)
  clear hl hb
  go_wp2_with fail
  refine (HT.out _ _ _ HL1.out.1).mono ?_
  rintro e w2 ⟨p, nb, mb, rfl, ht, -, hb⟩
  have HL2 := Lib.hid (And.intro (HL1.out.2.trans (hb.mono HL1.out.2.size)) (And.intro (HL1.out.1.below hb) ht))
  clear ht hb
  go_wp2_with fail
  refine (HE.out _ _ _ _ _ _ HL2.out.1 HL2.out.2.1 HL2.out.2.2).mono ?_
  rintro e w3 ⟨rfl, v', hp, hown, hb⟩
  obtain ⟨a', c', rfl, hr⟩ := ownsRow_recs hown
  have e0 := (block_box hp).1
  have e1 := block_lt hp
  have HX := Lib.hid (And.intro hr hb)
  clear hp hown hr hb
  go_wp2
  go_ret2
  exact ⟨_, _, rfl, HX.out⟩

set_option maxRecDepth 100000 in
theorem maximal_no (a : Option Addr) (cap : Nat) (ss : List ByteArray) (hl : (ss.length : Int) ≤ 9223372036854775807) (hz : ∀ s ∈ ss, s.size ≤ 9223372036854775807) (g : Int) (hn : ¬ (skB ss = true ∧ 1 ≤ g ∧ g ≤ 9)) (w : World) (h : StrS w a ss) :
    Calls Try.prog 8 #[.slice a ss.length cap, .int .i64 g] w fun e w' => e = .returned (.tuple #[.slice none 0 0, .int .i64 2]) ∧ Below w.heap.size w w' := by
  have HL := Lib.hid (leather_no a cap ss hl hz g hn w h)
  clear h hl hz hn
  go_enter Try.func8, Try.ntmps8
  go_wp2_with fail
  refine HL.out.mono ?_
  rintro e w1 ⟨rfl, hb⟩
  have HB := Lib.hid hb
  clear hb
  go_wp2
  go_ret2
  exact ⟨rfl, HB.out⟩

end Go.Proofs.Ytndhnpljdldlpab

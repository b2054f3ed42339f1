/- Skins: eachTall, best, Largest, Square. -/
import Derived.Test.YtndhnpljdldlpabSmJ
namespace Go.Proofs.Ytndhnpljdldlpab
open Go.RowKit

theorem bestTo_le {sq : Bool} {U : Int → Int → Bool} {W H y x n m a b c d : Nat} (h : bestTo sq U W H y x n m a b c d) (hW : W ≤ 48) (hH : H ≤ 48) : a ≤ 48 ∧ b ≤ 48 ∧ c ≤ 48 ∧ d ≤ 48 := by
  rcases h with ⟨h1, h2, h3, h4, -⟩ | ⟨h1, -⟩
  · omega
  · obtain ⟨_, _, h3, h4, -⟩ := h1
    omega
theorem bestTo_L {U : Int → Int → Bool} {W H y x n bx bY bn bm a b c d : Nat} (h : bestTo false U W H y x n 1 bx bY bn bm) (hn : 1 ≤ n) (hx : x + n ≤ W) (hl : 1 ≤ low U H x y n) (hp : PickL x y n (low U H x y n) bx bY bn bm a b c d) : bestTo false U W H y x (n + 1) 1 a b c d := by
  rcases hp with ⟨hc, rfl, rfl, rfl, rfl⟩ | ⟨hc, rfl, rfl, rfl, rfl⟩
  · exact bestTo_tall h hn hx hl hc
  · exact bestTo_tallNo h hn hx hl hc
theorem bestTo_S {U : Int → Int → Bool} {W H y x n bx bY bn bm a b c d : Nat} (h : bestTo true U W H y x n 1 bx bY bn bm) (hn : 1 ≤ n) (hx : x + n ≤ W) (hl : 1 ≤ low U H x y n) (hp : PickS x y n (low U H x y n) bx bY bn bm a b c d) : bestTo true U W H y x (n + 1) 1 a b c d := by
  rcases hp with ⟨hc, rfl, rfl, rfl, rfl⟩ | ⟨hc, rfl, rfl, rfl, rfl⟩
  · exact bestTo_side h hn hx hl hc
  · exact bestTo_sideNo h hn hx hl hc
/-- Where the widths end, nothing wider is usable. -/
theorem tall_end {U : Int → Int → Bool} {W H x y n : Nat} (h : x + n = W ∨ dep U (x + n) y (H - y) = 0) : ∀ n' m', n + 1 ≤ n' → ¬ fullR U W H x y n' m' := by
  intro n' m' hn hf
  rcases h with h | h
  · have := hf.2.2.1; omega
  · have hl := (full_low U W H x y n' m' hf.1 hf.2.2.1 hf.2.1).1 hf
    have h1 := (low_iff U H x y m' n' hf.1).1 hl n (by omega)
    have := hf.2.1
    omega

theorem DM.rebase {w0 w1 wr : World} {n W H K : Nat} {m : Nat → Nat} {f : Nat → Nat → Int} (h : DM w1 n W H K m f wr) (hb : Below w0.heap.size w0 w1) : DM w0 n W H K m f wr :=
  ⟨hb.trans (h.b.mono hb.size), Nat.le_trans hb.size h.le, h.hn, h.hm, h.gt, h.anti⟩

section
variable {w0 wr : World} {pb pr pd pv nd : Nat} {m : Nat → Nat} {W H : Nat} {U : Int → Int → Bool} {vb vv : Value} {x y n k : Nat}
theorem LM.each (h : LM w0 pb pr pd pv nd m W H U vb vv x y n k wr) {Y : Nat} (hY : Y ≤ H) : EachM pd pv nd (m Y) W H U Y vv wr := by
  refine ⟨?_, block_lt h.hd, ?_, block_lt h.hv, h.dm.cn (Nat.zero_le _) hY, h.dm.ln, fun x hx => h.dm.cm (Nat.zero_le _) hY hx, h.dm.lm (Nat.zero_le _) hY⟩
  · simp only [World.cell?]; rw [h.hd]; rfl
  · simp only [World.cell?]; rw [h.hv]; rfl
end

set_option maxRecDepth 100000 in
set_option maxHeartbeats 1600000 in
theorem walk_tall (a : Option Addr) (cap : Nat) (ss : List ByteArray) (hs : skB ss = true) (p1 p2 : Value) (I : Nat → Nat → World → Prop) (w : World) (h : StrS w a ss) (h0 : I 0 0 w)
    (hrow : ∀ y w', I y (wid ss) w' → I (y + 1) 0 w')
    (hstep : ∀ x y w', x < wid ss → y < ss.length → I y x w' → Calls Try.prog 70 #[.agg #[.int .i64 x, .int .i64 y], p1, p2] w' fun e w'' => e = .returned (.tuple #[]) ∧ I y (x + 1) w'') :
    Calls Try.prog 63 #[.slice a ss.length cap, .func (.func 70) #[] #[p1, p2]] w fun e w' => e = .returned (.tuple #[]) ∧ I ss.length 0 w' := by
  obtain ⟨⟨hl1, hl2⟩, ⟨hw1, hw2⟩, -⟩ := skB_iff.1 hs
  have HSZ : Hid (Calls Try.prog 58 #[.slice a ss.length cap] w fun e w'' => e = .returned (.tuple #[.int .i64 (wid ss), .int .i64 ss.length]) ∧ w = w'') := Lib.hid (skSize_any a cap ss (by omega) (by omega) w h)
  obtain ⟨W, hW⟩ : ∃ W, W = wid ss := ⟨_, rfl⟩
  obtain ⟨H, hH⟩ : ∃ H, H = ss.length := ⟨_, rfl⟩
  rw [← hW] at HSZ hrow hstep hw1 hw2
  rw [← hH] at hstep hl1 hl2 ⊢
  have hSZ := HSZ.out
  rw [← hH] at hSZ
  have HSZ2 := Lib.hid hSZ
  have HROW := Lib.hid hrow
  have HSTEP := Lib.hid hstep
  have H0 := Lib.hid h0
  clear hrow hstep h0 hW hH h hs HSZ hSZ
  go_enter Try.func63, Try.ntmps63
  go_wp2_with fail
  refine HSZ2.out.mono ?_
  rintro e w1 ⟨rfl, rfl⟩
  go_wp2
  go_loopg [14] H (fun gk i wr => ∃ y : Nat, y + gk = H ∧ i = .int .i64 y ∧ Hid (I y 0 wr))
  case atStart => exact ⟨0, by omega, rfl, H0⟩
  case round =>
    obtain ⟨y, hy, rfl, HI⟩ := hrel
    by_cases hlt : y < H
    · obtain ⟨gk', rfl⟩ : ∃ m, gk = m + 1 := ⟨gk - 1, by omega⟩
      have hlt' : (y : Int) < H := by omega
      go_wp2
      go_loopg [18] W (fun gj i wr => ∃ x : Nat, x + gj = W ∧ i = .int .i64 x ∧ Hid (I y x wr))
      case atStart => exact ⟨0, by omega, rfl, HI⟩
      case round =>
        obtain ⟨x, hx, rfl, HI2⟩ := hrel
        by_cases hlx : x < W
        · obtain ⟨gj', rfl⟩ : ∃ m, gk = m + 1 := ⟨gk - 1, by omega⟩
          have hlx' : (x : Int) < W := by omega
          go_wp2_with fail
          refine (HSTEP.out x y _ hlx hlt HI2.out).mono ?_
          rintro e w3 ⟨rfl, hi3⟩
          have HI3 := Lib.hid hi3
          clear hi3
          go_wp2
          go_roundg gj'
          case measure => exact Nat.lt_succ_self _
          case rel => exact ⟨x + 1, by omega, by go_num, HI3⟩
        · obtain rfl : x = W := by omega
          have hlx' : ¬ (x : Int) < x := by omega
          go_wp2
          go_roundg gk'
          case measure => exact Nat.lt_succ_self _
          case rel => exact ⟨y + 1, by omega, by go_num, Lib.hid (HROW.out _ _ HI2.out)⟩
    · obtain rfl : y = H := by omega
      go_wp2
      go_end0
      exact ⟨rfl, HI.out⟩


set_option maxRecDepth 100000 in
set_option maxHeartbeats 1600000 in
/-- One cell's tall rectangles. -/
theorem tallStep_L (w0 : World) (pb pr pd pv nd : Nat) (m : Nat → Nat) (W H : Nat) (hW : W ≤ 48) (hH : H ≤ 48) (U : Int → Int → Bool) (x y : Nat) (hx : x < W) (hy : y < H) (bx bY bn bm : Nat) (w : World)
    (h : LM w0 pb pr pd pv nd m W H U (.func (.func 40) #[] #[]) (.func (.func 72) #[] #[.pointer (some ⟨pb, 0, none⟩), .pointer (some ⟨pr, 0, none⟩)]) bx bY bn bm w) (hbest : bestTo false U W H y x 1 1 bx bY bn bm) :
    Calls Try.prog 70 #[.agg #[.int .i64 x, .int .i64 y], .pointer (some ⟨pd, 0, none⟩), .pointer (some ⟨pv, 0, none⟩)] w fun e w' => e = .returned (.tuple #[]) ∧ ∃ a b c d, LM w0 pb pr pd pv nd m W H U (.func (.func 40) #[] #[]) (.func (.func 72) #[] #[.pointer (some ⟨pb, 0, none⟩), .pointer (some ⟨pr, 0, none⟩)]) a b c d w' ∧ bestTo false U W H y (x + 1) 1 1 a b c d := by
  have hpr := block_lt h.hr
  refine (tall_best pd pv nd (m y) W H hW hH U (.pointer (some ⟨pb, 0, none⟩)) (.pointer (some ⟨pr, 0, none⟩)) x y hx hy w (fun n w' => (∃ a b c d, LM w0 pb pr pd pv nd m W H U (.func (.func 40) #[] #[]) (.func (.func 72) #[] #[.pointer (some ⟨pb, 0, none⟩), .pointer (some ⟨pr, 0, none⟩)]) a b c d w' ∧ bestTo false U W H y x (n + 1) 1 a b c d) ∧ w'.heap[w.heap.size]? = some (.cells #[.int .i64 x, .int .i64 y] 93 (0, 0))) ?_ ?_ ?_).mono ?_
  · exact ⟨⟨_, _, _, _, h.step ((Below.refl _ _).alloc (Nat.le_refl _) _), hbest⟩, heap_alloc_new _ _⟩
  · rintro n w' ⟨⟨a, b, c, d, h1, h2⟩, h3⟩
    exact ⟨h1.each (by omega), h3⟩
  · rintro n w' hn hl ⟨⟨a, b, c, d, h1, h2⟩, h3⟩
    have hle := bestTo_le h2 hW hH
    have hlo := low_le U H x y (n + 1)
    refine (best1_L w0 pb pr pd pv nd m W H U _ x y (n + 1) (low U H x y (n + 1)) a b c d (by omega) (by omega) hle.2.2.1 hle.2.2.2 w' h1).mono ?_
    rintro e w'' ⟨he, hg, a', b', c', d', hp, h4⟩
    refine ⟨he, ⟨a', b', c', d', h4, bestTo_L h2 (by omega) (by omega) hl hp⟩, ?_⟩
    rw [hg.block _ (block_lt h3) (by intro e; have := Option.some.inj e; omega)]
    exact h3
  · rintro e w' ⟨he, n, ⟨⟨a, b, c, d, h1, h2⟩, -⟩, hend⟩
    exact ⟨he, a, b, c, d, h1, bestTo_skip h2 (tall_end hend)⟩

set_option maxRecDepth 100000 in
set_option maxHeartbeats 1600000 in
theorem eachTall_L (a : Option Addr) (cap : Nat) (ss : List ByteArray) (hs : skB ss = true) (g : Int) (ps pg pb pr : Nat) (w0 w : World) (hb0 : Below w0.heap.size w0 w) (h : LeaM w ps pg a ss cap g) (hpb : w.heap[pb]? = some (.cells #[.func (.func 40) #[] #[]] 71 (0, 0))) (hpr : w.heap[pr]? = some (.cells #[.int .i64 0, .int .i64 0, .int .i64 0, .int .i64 0] 29 (0, 0))) (hle : w0.heap.size ≤ pr) (hne : pb ≠ pr) :
    Calls Try.prog 33 #[.slice a ss.length cap, .func (.func 67) #[] #[.pointer (some ⟨ps, 0, none⟩), .pointer (some ⟨pg, 0, none⟩)], .func (.func 72) #[] #[.pointer (some ⟨pb, 0, none⟩), .pointer (some ⟨pr, 0, none⟩)]] w fun e w' => e = .returned (.tuple #[]) ∧ ∃ a b c d : Nat, w'.heap[pr]? = some (.cells #[.int .i64 a, .int .i64 b, .int .i64 c, .int .i64 d] 29 (0, 0)) ∧ bestTo false (usB ss g) (wid ss) ss.length ss.length 0 1 1 a b c d ∧ Below w0.heap.size w0 w' := by
  obtain ⟨⟨hl1, hl2⟩, ⟨hw1, hw2⟩, -⟩ := skB_iff.1 hs
  have lb := block_lt hpb
  have lr := block_lt hpr
  have HD := Lib.hid (fun w' hb => depths_any a cap ss hs g ps pg w' (h.below hb))
  have HLM : Hid (∀ pv w1 nd m w2, Below w.heap.size w w1 → w1.heap[pv]? = some (.cells #[.func (.func 72) #[] #[.pointer (some ⟨pb, 0, none⟩), .pointer (some ⟨pr, 0, none⟩)]] 64 (0, 0)) → w.heap.size ≤ pv → DM w1 nd (wid ss) ss.length 0 m (fun y x => dep (usB ss g) x y (ss.length - y)) w2 → LM w0 pb pr w2.heap.size pv nd m (wid ss) ss.length (usB ss g) (.func (.func 40) #[] #[]) (.func (.func 72) #[] #[.pointer (some ⟨pb, 0, none⟩), .pointer (some ⟨pr, 0, none⟩)]) 0 0 0 0 (w2.alloc (.cells #[.slice (some ⟨nd, 0, none⟩) (ss.length + 1) (ss.length + 1)] 118))) := Lib.hid (fun pv w1 nd m w2 hb hpv hlv hd => by
    have hbb := hb.trans (hd.b.mono hb.size)
    have h2 : Below w2.heap.size w2 (w2.alloc (.cells #[.slice (some ⟨nd, 0, none⟩) (ss.length + 1) (ss.length + 1)] 118)) := (Below.refl _ _).alloc (Nat.le_refl _) _
    have h3 := hbb.trans (h2.mono hbb.size)
    have hz1 := hb.size
    have hz2 := hd.le
    have hz3 := hd.ln
    exact ⟨(hd.rebase (hb0.trans (hb.mono hb0.size))).step h2, (h3.block _ lb).trans hpb, (h3.block _ lr).trans hpr, heap_alloc_new _ _, (h2.block _ (by have := block_lt hpv; have := hd.b.size; omega)).trans ((hd.b.block _ (block_lt hpv)).trans hpv), hle, hne, by omega, by omega, by omega⟩)
  have HW : Hid (∀ pd pv nd m w2, LM w0 pb pr pd pv nd m (wid ss) ss.length (usB ss g) (.func (.func 40) #[] #[]) (.func (.func 72) #[] #[.pointer (some ⟨pb, 0, none⟩), .pointer (some ⟨pr, 0, none⟩)]) 0 0 0 0 w2 → StrS w2 a ss → Calls Try.prog 63 #[.slice a ss.length cap, .func (.func 70) #[] #[.pointer (some ⟨pd, 0, none⟩), .pointer (some ⟨pv, 0, none⟩)]] w2 fun e w' => e = .returned (.tuple #[]) ∧ ∃ a b c d, LM w0 pb pr pd pv nd m (wid ss) ss.length (usB ss g) (.func (.func 40) #[] #[]) (.func (.func 72) #[] #[.pointer (some ⟨pb, 0, none⟩), .pointer (some ⟨pr, 0, none⟩)]) a b c d w' ∧ bestTo false (usB ss g) (wid ss) ss.length ss.length 0 1 1 a b c d) := Lib.hid (fun pd pv nd m w2 hl hs2 =>
    walk_tall a cap ss hs _ _ (fun y x w' => ∃ a b c d, LM w0 pb pr pd pv nd m (wid ss) ss.length (usB ss g) (.func (.func 40) #[] #[]) (.func (.func 72) #[] #[.pointer (some ⟨pb, 0, none⟩), .pointer (some ⟨pr, 0, none⟩)]) a b c d w' ∧ bestTo false (usB ss g) (wid ss) ss.length y x 1 1 a b c d) w2 hs2 ⟨_, _, _, _, hl, bestTo_start _ _ _ _⟩ (fun y w' ⟨a, b, c, d, h1, h2⟩ => ⟨a, b, c, d, h1, bestTo_row h2⟩) (fun x y w' hx hy ⟨a, b, c, d, h1, h2⟩ => tallStep_L w0 pb pr pd pv nd m _ _ hw2 hl2 _ x y hx hy a b c d w' h1 h2))
  have HS := Lib.hid h.2.2.2.2
  have HA : Hid (Below w.heap.size w (w.alloc (.cells #[.func (.func 72) #[] #[.pointer (some ⟨pb, 0, none⟩), .pointer (some ⟨pr, 0, none⟩)]] 64))) := Lib.hid ((Below.refl _ _).alloc (Nat.le_refl _) _)
  have HN : Hid ((w.alloc (.cells #[.func (.func 72) #[] #[.pointer (some ⟨pb, 0, none⟩), .pointer (some ⟨pr, 0, none⟩)]] 64)).heap[w.heap.size]? = some (.cells #[.func (.func 72) #[] #[.pointer (some ⟨pb, 0, none⟩), .pointer (some ⟨pr, 0, none⟩)]] 64 (0, 0))) := Lib.hid (heap_alloc_new _ _)
  obtain ⟨U, hU⟩ : ∃ U, U = usB ss g := ⟨_, rfl⟩
  obtain ⟨W, hW⟩ : ∃ W, W = wid ss := ⟨_, rfl⟩
  obtain ⟨H, hH⟩ : ∃ H, H = ss.length := ⟨_, rfl⟩
  rw [← hU, ← hW, ← hH] at HD HLM HW
  rw [← hU, ← hW, ← hH]
  have HH := Lib.hid (And.intro hU (And.intro hW hH))
  clear hs h hb0 hpb hpr hle hne lb lr hU hW hH
  go_enter Try.func33, Try.ntmps33
  go_wp2_with fail
  refine (HD.out _ HA.out).mono ?_
  rintro e w1 ⟨nd, m, rfl, hd⟩
  have HL := Lib.hid (HLM.out _ _ nd m w1 HA.out HN.out (Nat.le_refl _) hd)
  have HS1 := Lib.hid ((HS.out.below (HA.out.trans (hd.b.mono HA.out.size))).below ((Below.refl w1.heap.size w1).alloc (Nat.le_refl _) (.cells #[.slice (some ⟨nd, 0, none⟩) (H + 1) (H + 1)] 118)))
  clear hd
  go_wp2_with fail
  refine (HW.out _ _ _ _ _ HL.out HS1.out).mono ?_
  rintro e w2 ⟨rfl, a', b', c', d', h1, h2⟩
  have HE := Lib.hid (And.intro h1.hr (And.intro h2 h1.dm.b))
  clear h1 h2
  go_wp2
  go_end0
  exact ⟨rfl, a', b', c', d', HE.out⟩


end Go.Proofs.Ytndhnpljdldlpab

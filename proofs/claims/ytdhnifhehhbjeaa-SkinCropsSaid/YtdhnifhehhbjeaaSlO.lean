/- Skins: the reference's usable, box. -/
import Derived.Test.YtdhnifhehhbjeaaSlN
import Derived.Test.YtdhnifhehhbjeaaSlF
import Derived.BigQuiet
namespace Go.Proofs.Ytdhnifhehhbjeaa
open Go.RowKit

/-- The world w0, with new blocks: v is a slice of its own, of the cells l. -/
structure UV (w0 : World) (v : Value) (l : List (Int × Int)) (wr : World) : Prop where
  b : Below w0.heap.size w0 wr
  own : wr.ownsRow w0.heap.size 107 2 v l.length (cellVals l)
theorem UV.start (w : World) : UV w (.slice none 0 0) [] w := ⟨Below.refl _ _, ⟨by simp [cellVals], .inl ⟨rfl, rfl⟩⟩⟩
theorem UV.step {w0 : World} {v : Value} {l : List (Int × Int)} {wr w2 : World} (h : UV w0 v l wr) (hb : Below wr.heap.size wr w2) : UV w0 v l w2 :=
  ⟨h.b.trans (hb.mono h.b.size), h.own.kept (row := none) (grownBy_below none hb) (by
    cases hk : v.ownBlock with
    | none => exact .inl rfl
    | some k => exact .inr (by simp))⟩
theorem UV.push {w0 : World} {v v' : Value} {l : List (Int × Int)} {c : Int × Int} {wr w2 : World} (h : UV w0 v l wr) (hown : w2.ownsRow w0.heap.size 107 2 v' (l.length + 1) (cellVals l ++ [.int .i64 c.1, .int .i64 c.2])) (hg : wr.grownBy w2 v.ownBlock) : UV w0 v' (l ++ [c]) w2 := by
  have hlt := h.own.lt
  refine ⟨⟨hg.os.trans h.b.os, hg.tape.trans h.b.tape, hg.output.trans h.b.output, Nat.le_trans h.b.size hg.size, fun i hi => ?_⟩, ?_⟩
  · exact (hg.block i (Nat.lt_of_lt_of_le hi h.b.size) (fun e => by have := (hlt i e.symm).1; omega)).trans (h.b.block i hi)
  · rw [cellVals_append, List.length_append]
    simpa [cellVals] using hown
theorem UV.form {w0 : World} {v : Value} {l : List (Int × Int)} {wr : World} (h : UV w0 v l wr) : ∃ a cap, v = .slice a l.length cap ∧ (0 < l.length → ∃ g, a = some ⟨g, 0, none⟩ ∧ CellS wr g l) := by
  rcases h.own.2 with ⟨hv, h0⟩ | ⟨g, cap, cur, hv, hb, hh, -⟩
  · exact ⟨none, 0, by rw [hv, h0], fun hp => by omega⟩
  · refine ⟨some ⟨g, 0, none⟩, cap, hv, fun _ => ⟨g, rfl, block_lt hh, fun k hk => ?_⟩⟩
    obtain ⟨h1, h2⟩ := cellVals_get hk
    have e1 := h.own.cells (g := g) (by rw [hv]; rfl) _ _ h1
    have e2 := h.own.cells (g := g) (by rw [hv]; rfl) _ _ h2
    rw [add_off, Nat.zero_add] at e1 e2
    exact ⟨e1, e2⟩

theorem infoPair : (Try.prog.info? 107).map (fun i => (i.zero, i.size, i.bytes)) = some (some (.agg #[.int .i64 0, .int .i64 0]), 2, 16) := by kernel_rfl
theorem uPairs : Try.prog.underlying 98 = some (.slice 107) := by kernel_rfl

set_option maxRecDepth 100000 in
set_option maxHeartbeats 3200000 in
theorem rUsable_one (a : Option Addr) (cap : Nat) (ss : List ByteArray) (hs : skB ss = true) (w : World) (h : StrS w a ss) :
    Calls Try.prog 76 #[.slice a ss.length cap, .int .i64 1] w fun e w' => ∃ v, e = .returned v ∧ UV w v (trimTo ss (wid ss) ss.length 0) w' := by
  obtain ⟨i0, hi, hz0, hz1, hz2⟩ := info_parts infoPair
  have HI0 := Lib.hid (And.intro hi (And.intro hz0 (And.intro hz1 hz2)))
  clear hi hz0 hz1 hz2
  obtain ⟨⟨hl1, hl2⟩, ⟨hw1, hW2⟩, hr⟩ := skB_iff.1 hs
  have HGR : Hid (∀ w' (x y : Nat), Below w.heap.size w w' → ∃ g : Nat, g ≤ 9 ∧ grd ss x y = g ∧ Calls Try.prog 51 #[.slice a ss.length cap, .int .i64 x, .int .i64 y] w' fun e w'' => e = .returned (.int .i64 g) ∧ Below w'.heap.size w' w'') := Lib.hid (fun w' x y hb => by
    obtain ⟨g, hg, hg9⟩ := grd_nat hs x y
    refine ⟨g, hg9, hg, ?_⟩
    have h := rGrade_any a cap ss hs x y w' (h.below hb)
    rw [hg] at h
    exact h.mono (fun e w'' ⟨h1, h2⟩ => ⟨h1, h2 ▸ Below.refl _ _⟩))
  obtain ⟨b, off, rfl, hb, hc⟩ := h.at_ (k := 0) (by omega)
  obtain ⟨s0, hs0⟩ : ∃ s, s = ss[0] := ⟨_, rfl⟩
  obtain ⟨W, hW⟩ : ∃ W, W = wid ss := ⟨_, rfl⟩
  have hz0 : (s0.size : Int) = W := by rw [hs0, hW, (hr 0 (by omega)).1]
  rw [← hs0, Nat.add_zero] at hc
  rw [← hW] at hw1 hW2 ⊢
  have HSC := Lib.hid (And.intro hb hc)
  obtain ⟨H, hH⟩ : ∃ H, H = ss.length := ⟨_, rfl⟩
  rw [← hH] at hl1 hl2 HGR ⊢
  have hH0 : (0 : Int) < H := by omega
  have hW48 : (W : Int) ≤ 48 := by omega
  have hH48 : (H : Int) ≤ 48 := by omega
  have HO0 : Hid (UV w (.slice none 0 0) (trimTo ss W 0 0) w) := Lib.hid (UV.start w)
  clear hs h hr hs0 hW hH hb hc
  go_enter Try.func76, Try.ntmps76
  go_wp2
  go_loopg [5, 10] H (fun gk v i wr => ∃ y : Nat, y + gk = H ∧ i = .int .i64 y ∧ Hid (UV w v (trimTo ss W y 0) wr))
  case atStart => exact ⟨0, by omega, rfl, HO0⟩
  case round =>
    obtain ⟨y, hy, rfl, HI⟩ := hrel
    by_cases hlt : y < H
    · obtain ⟨gk', rfl⟩ : ∃ m, gk = m + 1 := ⟨gk - 1, by omega⟩
      have hlt' : (y : Int) < H := by omega
      have hmul : y * W ≤ 47 * 48 := Nat.mul_le_mul (by omega) hW2
      have c0 := (HI.out.b.cell (p := ⟨b, off, none⟩) HSC.out.1).trans HSC.out.2
      have c1 := Nat.lt_of_lt_of_le HSC.out.1 HI.out.b.size
      go_wp2
      go_loopg [5, 17] W (fun gj v i wr => ∃ x : Nat, x + gj = W ∧ i = .int .i64 x ∧ Hid (UV w v (trimTo ss W y x) wr))
      case atStart => exact ⟨0, by omega, rfl, HI⟩
      case round =>
        obtain ⟨x, hx, rfl, HI2⟩ := hrel
        clear c0 c1
        by_cases hlx : x < W
        · obtain ⟨gj', rfl⟩ : ∃ m, gk = m + 1 := ⟨gk - 1, by omega⟩
          have hlx' : (x : Int) < W := by omega
          obtain ⟨g, hg9, hg, hcall⟩ := HGR.out wr x y HI2.out.b
          have HCL := Lib.hid hcall
          have HNX := Lib.hid (trimTo_next ss W y x)
          have hlen := trimTo_len ss W y x
          obtain ⟨L, hL⟩ : ∃ L, L = trimTo ss W y x := ⟨_, rfl⟩
          rw [← hL] at HNX HI2 hlen
          rw [hg] at HNX
          clear hcall hg hL
          rcases Nat.eq_zero_or_pos g with rfl | hgp
          · have HN : Hid (trimTo ss W y (x + 1) = L) := Lib.hid (by rw [HNX.out]; simp)
            clear HNX
            go_wp2_with fail
            refine HCL.out.mono ?_
            rintro e w3 ⟨rfl, hb3⟩
            have HI3 : Hid (UV w u5 (trimTo ss W y (x + 1)) w3) := Lib.hid (by rw [HN.out]; exact HI2.out.step hb3)
            clear hb3
            go_wp2
            go_roundg gj'
            case measure => exact Nat.lt_succ_self _
            case rel => exact ⟨x + 1, by omega, by go_num, HI3⟩
          · have HN : Hid (trimTo ss W y (x + 1) = L ++ [((x : Int), (y : Int))]) := Lib.hid (by rw [HNX.out, if_pos (by omega)])
            have hgi : (1 : Int) ≤ g := by omega
            obtain ⟨n, hnn⟩ : ∃ n, n = L.length := ⟨_, rfl⟩
            have hn2 : n ≤ 2304 := by omega
            clear HNX
            go_wp2_with fail
            refine HCL.out.mono ?_
            rintro e w3 ⟨rfl, hb3⟩
            have HI3 := Lib.hid (HI2.out.step hb3)
            have hown := HI3.out.own
            rw [← hnn] at hown
            have hbs := HI3.out.b.size
            have HOL : Hid (∀ v' w6, w6.ownsRow w.heap.size 107 2 v' (n + 1) (cellVals L ++ [.int .i64 x, .int .i64 y]) → (w3.alloc (.cells #[.int .i64 x, .int .i64 y] 107)).grownBy w6 u5.ownBlock → UV w v' (trimTo ss W y (x + 1)) w6) := Lib.hid (fun v' w6 ho hg => by
              rw [HN.out]
              exact (HI3.out.step ((Below.refl _ _).alloc (Nat.le_refl _) _)).push (c := ((x : Int), (y : Int))) (by rw [← hnn]; exact ho) hg)
            clear hb3 hnn hlen
            go_wp2_with (at_builtin; refine wpList_append_own _ rfl _ _ 98 rfl w.heap.size 107 i0 (.agg #[.int .i64 0, .int .i64 0]) 2 16 uPairs HI0.out.1 HI0.out.2.1 HI0.out.2.2.1 HI0.out.2.2.2 rfl (by decide) u5 n _ rfl (hown.alloc _) ⟨w3.heap.size, 0, none⟩ 1 1 [.int .i64 x, .int .i64 y] rfl rfl (cell_two_new _ _ _ _) (by intro u hu; simp at hu; rcases hu with rfl | rfl <;> rfl) (by unfold maxLen; omega) (by omega) (by simp; omega) ?_)
            intro v' w6 hown6 hgrow6 hnil6
            have HN2 := Lib.hid (HOL.out v' w6 hown6 hgrow6)
            clear hown6 hgrow6 hnil6 hown
            go_wp2
            go_roundg gj'
            case measure => exact Nat.lt_succ_self _
            case rel => exact ⟨x + 1, by omega, by go_num, HN2⟩
        · obtain rfl : x = W := by omega
          have HR : Hid (UV w u5 (trimTo ss x (y + 1) 0) wr) := Lib.hid (by rw [trimTo_row]; exact HI2.out)
          have hlx' : ¬ (x : Int) < x := by omega
          go_wp2
          go_roundg gk'
          case measure => exact Nat.lt_succ_self _
          case rel => exact ⟨y + 1, by omega, by go_num, HR⟩
    · obtain rfl : y = H := by omega
      go_wp2
      go_ret
      exact ⟨_, rfl, HI.out⟩

end Go.Proofs.Ytdhnifhehhbjeaa

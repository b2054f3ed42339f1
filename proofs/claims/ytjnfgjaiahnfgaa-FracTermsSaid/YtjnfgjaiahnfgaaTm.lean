/- The program's Terms; slices.Equal of two slices that read alike. -/
import Derived.BigRegion
import Derived.Deep.LoopGhost
import Derived.Test.YtjnfgjaiahnfgaaFTp
import Derived.Test.YtjnfgjaiahnfgaaRnd
namespace Go.Proofs.Ytjnfgjaiahnfgaa
open Go.RowKit
set_option linter.unusedSimpArgs false
set_option linter.unusedVariables false

def ints (zs : List Int) : List Value := zs.map (Value.int .i64)
theorem ints_append (a b : List Int) : ints (a ++ b) = ints a ++ ints b := by simp [ints]
theorem ints_length (a : List Int) : (ints a).length = a.length := by simp [ints]

theorem Try.infoInt : (Try.prog.info? 3).map (fun i => (i.zero, i.size, i.bytes)) = some (some (.int .i64 0), 1, 8) := by kernel_rfl

theorem owns_step {w w' : World} {base : Nat} {e : TypeId} {size : Nat} {v : Value} {n : Nat} {xs : List Value} (h : w.ownsRow base e size v n xs) (hb : Below w.heap.size w w') : w'.ownsRow base e size v n xs :=
  h.kept (row := none) ⟨hb.os, hb.tape, hb.output, hb.size, fun i hi _ => hb.block i hi⟩ (by cases hv : v.ownBlock <;> simp)

/-- A slice of the call's own that reads as these ints. -/
theorem IntS.of_owns {w : World} {base : Nat} {v : Value} {zs : List Int} (h : w.ownsRow base 3 1 v zs.length (ints zs)) : ∃ a cap, v = .slice a zs.length cap ∧ zs.length ≤ cap ∧ (cap : Int) ≤ 9223372036854775807 ∧ IntS w a zs := by
  obtain ⟨_, h | ⟨g, cap, cur, hv, _, hg, hn, hm, _, ht⟩⟩ := h
  · obtain ⟨hv, hl⟩ := h
    have : zs = [] := List.length_eq_zero_iff.1 hl
    subst this
    exact ⟨none, 0, hv, Nat.le_refl _, by decide, .inl rfl⟩
  · refine ⟨some ⟨g, 0, none⟩, cap, hv, hn, by unfold maxLen at hm; omega, .inr ⟨g, 0, rfl, (Array.getElem?_eq_some_iff.1 hg).1, fun j hj => ?_⟩⟩
    rw [Nat.zero_add, cell_of_row w g j cur _ _ hg]
    have e : (ints zs)[j]? = some (.int .i64 zs[j]) := by simp [ints, hj]
    rw [← ht, List.getElem?_take] at e
    split at e
    · simpa using e
    · cases e

theorem Mem.grown {w0 w w' : World} {L : List (Nat × Array Value × TypeId)} {row : Option Nat} (h : Mem w0 L w) (hg : w.grownBy w' row) (hne : ∀ x ∈ L, row ≠ some x.1) (hr : ∀ k, row = some k → w0.heap.size ≤ k) : Mem w0 L w' := by
  refine ⟨⟨hg.os.trans h.b.os, hg.tape.trans h.b.tape, hg.output.trans h.b.output, Nat.le_trans h.b.size hg.size, fun i hi => ?_⟩, fun x hx => ⟨(h.h x hx).1, ?_⟩, h.p⟩
  · exact (hg.block i (Nat.lt_of_lt_of_le hi h.b.size) (fun e => by have := hr i e.symm; omega)).trans (h.b.block i hi)
  · exact (hg.block x.1 (h.lt hx) (hne x hx).symm).trans (h.h x hx).2

/-- Terms, by its definition. -/
noncomputable def termS (n d : Int) : List Int × Int := if vfB n d = true then (cf (d.toNat + 1) n d, 0) else ([], 2)
theorem termS_yes {n d : Int} (h : VF n d) : termS n d = (cf (d.toNat + 1) n d, 0) := by unfold termS; rw [if_pos ((vfB_iff _ _).2 h)]
theorem termS_no {n d : Int} (h : ¬ VF n d) : termS n d = ([], 2) := by unfold termS; rw [if_neg (fun h2 => h ((vfB_iff _ _).1 h2))]

theorem cf_short {n d : Int} (h : d ≤ 1000000000) (k : Nat) : (cf k n d).length ≤ 60 := by
  have e : (2 : Int) ^ 30 = 1073741824 := by decide
  exact cf_len 30 k n d (by omega)

/-- A row of ints is no block of another type. -/
theorem own_ne {w : World} {base : Nat} {e T : TypeId} {size : Nat} {v : Value} {n : Nat} {xs : List Value} {g : Nat} {cs : Array Value} (h : w.ownsRow base e size v n xs) (hg : w.heap[g]? = some (.cells cs T (0, 0))) (hT : T ≠ e) : v.ownBlock ≠ some g := by
  intro hk
  rcases h.2 with ⟨rfl, _⟩ | ⟨g', cap, cur, rfl, _, hgg, _⟩
  · simp [Value.ownBlock] at hk
  · simp [Value.ownBlock] at hk
    subst hk
    rw [hg] at hgg
    injection hgg with h1
    injection h1 with _ h2
    exact hT h2

theorem owns_set {w : World} {base : Nat} {e : TypeId} {size : Nat} {v : Value} {n : Nat} {xs : List Value} (h : w.ownsRow base e size v n xs) {g : Nat} (hne : v.ownBlock ≠ some g) (i : Nat) (u : Value) : (w.setCell ⟨g, i, none⟩ u).ownsRow base e size v n xs :=
  h.kept (row := some g) ⟨rfl, rfl, rfl, by simp [World.setCell], fun k _ hk => Below.heap_setCell w ⟨g, i, none⟩ u k (fun e => hk (by rw [e]))⟩ (.inr hne)

set_option maxRecDepth 100000 in
set_option maxHeartbeats 1600000 in
theorem equal_same (a b : Option Addr) (cap cap2 : Nat) (zs : List Int) (hl : zs.length ≤ 1000000) (w : World) (h : IntS w a zs) (g : IntS w b zs) :
    Calls Try.prog 47 #[.slice a zs.length cap, .slice b zs.length cap2] w fun e w' => e = .returned (.bool true) ∧ Below w.heap.size w w' := by
  have HF := Lib.hid (And.intro h g)
  obtain ⟨n, hn⟩ : ∃ n, n = zs.length := ⟨_, rfl⟩
  rw [← hn] at hl ⊢
  have HN := Lib.hid hn
  clear h g hn
  go_enter Try.func47, Try.ntmps47
  go_wp2
  go_loopw [13] (fun i wr => ∃ k : Nat, k ≤ n ∧ i = .int .i64 k ∧ Hid (Below w.heap.size w wr)) (fun i _ => n - (intOf i).toNat)
  case atStart => exact ⟨0, Nat.zero_le _, rfl, Lib.hid (Below.refl _ _)⟩
  case round =>
    obtain ⟨k, hk, rfl, HB⟩ := hrel
    by_cases hlt : k < n
    · obtain ⟨b1, o1, rfl, hg1, hc1⟩ := (HF.out.1.below HB.out).at_ (k := k) (by have := HN.out; omega)
      obtain ⟨b2, o2, rfl, hg2, hc2⟩ := (HF.out.2.below HB.out).at_ (k := k) (by have := HN.out; omega)
      obtain ⟨x, hx⟩ : ∃ x, x = zs[k]'(by have := HN.out; omega) := ⟨_, rfl⟩
      rw [← hx] at hc1 hc2
      clear hx
      have hk0 : (0 : Int) ≤ (k : Int) := by omega
      have hkn : (k : Int) < (n : Int) := by omega
      go_wp2
      go_region
      all_goals
        go_wp2
        go_roundw
        case rel => exact ⟨k + 1, by omega, by go_num, Lib.hid HB.out.drew⟩
        case measure => simp [intOf]; omega
    · go_wp2
      go_ret
      exact ⟨rfl, HB.out⟩

set_option maxRecDepth 100000 in
set_option maxHeartbeats 3200000 in
theorem terms_p (n d : Int) (w : World) :
    Calls Try.prog 45 #[.agg #[.int .i64 n, .int .i64 d]] w fun e w' => ∃ a cap l z, e = .returned (.tuple #[.slice a l.length cap, .int .i64 z]) ∧ Hid (termS n d = (l, z)) ∧ Hid (IntS w' a l ∧ l.length ≤ cap ∧ (cap : Int) ≤ 9223372036854775807) ∧ Below w.heap.size w w' := by
  obtain ⟨i0, hi, hz0, hz1, hz2⟩ := info_parts Try.infoInt
  have HI := Lib.hid (And.intro hi (And.intro hz0 (And.intro hz1 hz2)))
  clear hi hz0 hz1 hz2
  have HM0 := Lib.hid ((Mem.nil w).alloc #[.int .i64 n, .int .i64 d] 23)
  by_cases hv : VF n d
  · have HV : Hid (vfB n d = true) := Lib.hid ((vfB_iff _ _).2 hv)
    have HS := Lib.hid (termS_yes hv)
    have v1 := hv.n1; have v2 := hv.n2; have v3 := hv.d1; have v4 := hv.d2
    obtain ⟨L, hL⟩ : ∃ L, L = cf (d.toNat + 1) n d := ⟨_, rfl⟩
    rw [← hL] at HS
    have HLL := Lib.hid hL
    have HLEN : Hid (L.length ≤ 60) := Lib.hid (by rw [hL]; exact cf_short v4 _)
    clear hv hL
    go_enter Try.func45, Try.ntmps45
    go_wp2_with fail
    refine (valid_any n d _).mono ?_
    rintro e w1 ⟨rfl, hb⟩
    rw [HV.out]
    have hM1 := HM0.out.step hb
    obtain ⟨c0, c1, -, -, c4⟩ := hM1.c2
    have HM1 := Lib.hid hM1
    clear hb hM1
    go_wp2_with fail
    refine (of_p n d _).mono ?_
    rintro e w2 ⟨rfl, hb⟩
    have hM2 := (HM1.out.step hb).alloc #[.int .i64 n, .int .i64 d] 67
    have HM2 := Lib.hid hM2
    clear hb c0 c1 c4 hM2
    go_wp2
    go_loopg [4, 5] (d.toNat + 1) (fun gk v p wr => ∃ (N D : Int) (xs : List Int) (g : Nat), p = .pointer (some ⟨g, 0, none⟩) ∧ 0 ≤ D ∧ D < (gk : Int) ∧ -1000000000 ≤ N ∧ N ≤ 1000000000 ∧ D ≤ 1000000000 ∧ Hid (xs ++ cf gk N D = L) ∧ Hid (wr.ownsRow (w.heap.size + 1) 3 1 v xs.length (ints xs)) ∧ Hid (Mem w [(g, #[.int .i64 N, .int .i64 D], 67), (w.heap.size, #[.int .i64 n, .int .i64 d], 23)] wr))
    case atStart => exact ⟨n, d, [], w2.heap.size, rfl, by omega, by omega, v1, v2, v4, Lib.hid HLL.out.symm, Lib.hid (World.ownsRow_nil _ _ _ _), HM2⟩
    case round =>
      obtain ⟨N, D, xs, g, rfl, hD0, hDk, hN1, hN2, hD9, HX, HOWN, HR⟩ := hrel
      obtain ⟨c0, c1, c2, c3, c4⟩ := HR.out.c2
      by_cases hz : D = 0
      · subst hz
        have HXL : Hid (xs = L) := Lib.hid (by have := HX.out; rw [cf_zero (Int.le_refl 0), List.append_nil] at this; exact this)
        obtain ⟨a, cap, rfl, hcap, hcm, hints⟩ := IntS.of_owns HOWN.out
        have HE := Lib.hid (And.intro hints (And.intro hcap hcm))
        clear hcap hcm hints HOWN
        go_wp2
        go_ret2
        exact ⟨a, cap, xs, 0, rfl, Lib.hid (by rw [HS.out, HXL.out]), HE, HR.out.b⟩
      · have hDp : 0 < D := by omega
        have hne0 : (D == 0) = false := by simpa using hz
        obtain ⟨gk', rfl⟩ : ∃ m, gk = m + 1 := ⟨gk - 1, by omega⟩
        have he := Int.emod_add_mul_ediv N D
        have he1 := Int.emod_nonneg N (show D ≠ 0 by omega)
        have he2 := Int.emod_lt_of_pos N hDp
        obtain ⟨q, hq⟩ : ∃ q, q = N / D := ⟨_, rfl⟩
        obtain ⟨R, hR⟩ : ∃ R, R = N % D := ⟨_, rfl⟩
        rw [← hq, ← hR] at he
        rw [← hR] at he1 he2
        have hqD : q * D = N - R := by rw [Int.mul_comm]; omega
        have HX2 : Hid ((xs ++ [q]) ++ cf gk' D R = L) := Lib.hid (by
          have := HX.out
          rw [cf_pos hDp, ← hq, ← hR] at this
          rw [List.append_assoc]; exact this)
        have HQ := Lib.hid hq
        have hq1 : -2000000000 ≤ q * D := by omega
        have hq2 : q * D ≤ 2000000000 := by omega
        have HQD := Lib.hid hqD
        have hxl : xs.length + 1 ≤ 60 := by
          have h1 := HLEN.out
          rw [← HX2.out] at h1
          simp only [List.length_append, List.length_cons, List.length_nil] at h1
          omega
        clear hz he hq hR hqD
        go_wp2_with fail
        refine (floor_r N D hDp (by omega) (by omega) _).mono ?_
        rintro e w3 ⟨rfl, hb⟩
        rw [← HQ.out]
        have hR3 := HR.out.step hb
        have hown := owns_step HOWN.out hb
        have HR3 := Lib.hid hR3
        clear hb c0 c1 c2 c3 c4
        obtain ⟨c0, c1, c2, c3, c4⟩ := hR3.c2
        have hsz := hR3.b.size
        have hlt3 := hR3.head_lt
        have hge3 : w.heap.size < w3.heap.size := hR3.tail.head_lt
        clear hR3
        go_wp2_with (at_builtin; refine wpList_append_own _ rfl _ _ 51 rfl (w.heap.size + 1) 3 i0 (.int .i64 0) 1 8 Try.underlying51 HI.out.1 HI.out.2.1 HI.out.2.2.1 HI.out.2.2.2 rfl (by decide) _ _ _ rfl (hown.alloc _) ⟨w3.heap.size, 0, none⟩ 1 1 [.int .i64 q] rfl rfl (cell_one_new _ _ _) (by intro u hu; simp at hu; subst hu; rfl) (by unfold maxLen; omega) (by omega) (by simp; omega) ?_)
        intro v' w4 hown' hgrow _
        have hR4 := (HR3.out.skip (.cells #[.int .i64 q] 3)).grown hgrow (by
          intro x hx
          simp only [List.mem_cons, List.not_mem_nil, or_false] at hx
          rcases hx with rfl | rfl
          · exact own_ne (hown.alloc (.cells #[.int .i64 q] 3)) ((HR3.out.skip _).h _ (by simp)).2 (show (67 : Nat) ≠ 3 by decide)
          · exact own_ne (hown.alloc (.cells #[.int .i64 q] 3)) ((HR3.out.skip _).h _ (by simp)).2 (show (23 : Nat) ≠ 3 by decide)) (fun k hk => by have := ((hown.alloc (.cells #[.int .i64 q] 3)).lt k hk).1; omega)
        have HOWN4 : Hid (w4.ownsRow (w.heap.size + 1) 3 1 v' (xs ++ [q]).length (ints (xs ++ [q]))) := Lib.hid (by
          rw [ints_append, List.length_append]; exact hown')
        have HR4 := Lib.hid hR4
        have HNE : Hid (v'.ownBlock ≠ some g) := Lib.hid (own_ne hown' (hR4.h (g, #[.int .i64 N, .int .i64 D], 67) (by simp)).2 (show (67 : Nat) ≠ 3 by decide))
        clear hown hown' hgrow c0 c1 c2 c3 c4
        obtain ⟨c0, c1, c2, c3, c4⟩ := hR4.c2
        clear hR4
        have HN : Hid (N - q * D = R) := Lib.hid (by rw [HQD.out]; omega)
        go_wp2
        go_roundg gk'
        case measure => omega
        case rel =>
          have hN := HN.out
          exact ⟨D, N - q * D, xs ++ [q], w4.heap.size, rfl, by omega, by omega, by omega, by omega, by omega, Lib.hid (by rw [HN.out]; exact HX2.out), Lib.hid ((owns_set (owns_set HOWN4.out HNE.out 0 _) HNE.out 1 _).alloc _), Lib.hid (((HR4.out.put2 _ _).alloc_at (by simp) _ _).drop2)⟩
  · have HV : Hid (vfB n d = false) := Lib.hid (vfB_false hv)
    have HS := Lib.hid (termS_no hv)
    clear hv
    go_enter Try.func45, Try.ntmps45
    go_wp2_with fail
    refine (valid_any n d _).mono ?_
    rintro e w1 ⟨rfl, hb⟩
    rw [HV.out]
    have HM1 := Lib.hid (HM0.out.step hb)
    clear hb
    go_wp2
    go_ret2
    exact ⟨none, 0, [], 2, rfl, HS, Lib.hid ⟨.inl rfl, Nat.le_refl _, by decide⟩, HM1.out.b⟩

end Go.Proofs.Ytjnfgjaiahnfgaa

/- Pairs: slices.Repeat of one int. -/
import Derived.Test.YtchhadkmemckbabPaI
import Derived.Shelf.Bits.Mul64
import Derived.Laws.CopyOwn
namespace Go.Proofs.Ytchhadkmemckbab
open Go.RowKit
set_option linter.unusedSimpArgs false
set_option linter.unusedVariables false

set_option maxRecDepth 100000 in
set_option maxHeartbeats 1000000 in
theorem pMul64_any (x y : Nat) (hx : x < 18446744073709551616) (hy : y < 18446744073709551616) (w : World) :
    Calls Try.prog 75 #[.int .u64 x, .int .u64 y] w fun e w' => e = .returned (.tuple #[.int .u64 ((x * y / 18446744073709551616 : Nat) : Int), .int .u64 ((x * y % 18446744073709551616 : Nat) : Int)]) ∧ w' = w := by
  obtain ⟨bd, bt, bw, hhi⟩ := Lib.mul64_hi x y hx hy
  have ba := Lib.half_mul_le (a := x / 4294967296) (b := y / 4294967296) (by omega) (by omega)
  have bb := Lib.half_mul_le (a := x / 4294967296) (b := y % 4294967296) (by omega) (by omega)
  have bc := Lib.half_mul_le (a := x % 4294967296) (b := y / 4294967296) (by omega) (by omega)
  have ba' : x / 4294967296 * (y / 4294967296) < 18446744073709551616 := by omega
  have bb' : x / 4294967296 * (y % 4294967296) < 18446744073709551616 := by omega
  have bc' : x % 4294967296 * (y / 4294967296) < 18446744073709551616 := by omega
  have HF := Lib.hid (And.intro bd (And.intro bt (And.intro bw (And.intro hhi (And.intro ba (And.intro bb (And.intro bc (And.intro ba' (And.intro bb' bc')))))))))
  have HX := Lib.hid (And.intro hx hy)
  clear bd bt bw hhi ba bb bc ba' bb' bc' hx hy
  go_enter Try.func75, Try.ntmps75
  go_wp2
  obtain ⟨bd, bt, bw, hhi, ba, bb, bc, ba', bb', bc'⟩ := HF.out
  obtain ⟨hx, hy⟩ := HX.out
  have btot : x * y / 18446744073709551616 < 18446744073709551616 := by
    have : x * y ≤ 18446744073709551615 * 18446744073709551615 := Nat.mul_le_mul (by omega) (by omega)
    omega
  have bh : x / 4294967296 * (y / 4294967296) + (x / 4294967296 * (y % 4294967296) + x % 4294967296 * (y % 4294967296) / 4294967296) / 4294967296 + (((x / 4294967296 * (y % 4294967296) + x % 4294967296 * (y % 4294967296) / 4294967296) % 4294967296 + x % 4294967296 * (y / 4294967296)) / 4294967296) < 18446744073709551616 := by rw [hhi]; exact btot
  have bh1 : x / 4294967296 * (y / 4294967296) + (x / 4294967296 * (y % 4294967296) + x % 4294967296 * (y % 4294967296) / 4294967296) / 4294967296 < 18446744073709551616 := by omega
  simp only [Mul64.maskN x hx, Mul64.maskN y hy, Mul64.divN, Mul64.mulN, Mul64.addN, Mul64.wrapN _ bd, Mul64.wrapN _ bb', Mul64.wrapN _ bt, Mul64.maskN _ bt, Mul64.wrapN _ bc', Mul64.wrapN _ bw, Mul64.wrapN _ ba', Mul64.wrapN _ bh1, Mul64.wrapN _ bh, Mul64.wrapM]
  rw [hhi]
  go_ret2
  exact ⟨rfl, rfl⟩

set_option maxRecDepth 100000 in
theorem mul_small (x y : Nat) (hx : x < 1000000) (hy : y < 1000000) (w : World) :
    Calls Try.prog 71 #[.int .u64 x, .int .u64 y] w fun e w' => e = .returned (.tuple #[.int .u64 0, .int .u64 ((x * y : Nat) : Int)]) ∧ w' = w := by
  have hxy : x * y < 1000000 * 1000000 := by
    rcases Nat.eq_zero_or_pos x with rfl | h0
    · simp
    · exact Nat.lt_of_lt_of_le (Nat.mul_lt_mul_of_pos_left hy h0) (Nat.mul_le_mul_right _ (by omega))
  have h := pMul64_any x y (by omega) (by omega) w
  rw [Nat.div_eq_of_lt (by omega), Nat.mod_eq_of_lt (by omega)] at h
  have H := Lib.hid h
  clear h hxy
  go_enter Try.func71, Try.ntmps71
  go_wp2_with fail
  refine H.out.mono ?_
  rintro e w1 ⟨rfl, rfl⟩
  go_wp2
  go_ret2
  exact ⟨rfl, rfl⟩

/-- n cells as a list. -/
def clI (n : Nat) (f : Nat → Int) : List Value := (List.range n).map fun i => .int .i64 (f i)
theorem clI_len (n : Nat) (f : Nat → Int) : (clI n f).length = n := by simp [clI]
theorem clI_get {n : Nat} {f : Nat → Int} {i : Nat} (h : i < (clI n f).length) : (clI n f)[i] = .int .i64 (f i) := by simp [clI]
theorem clI_arr (n : Nat) (f : Nat → Int) : cA n f = (clI n f).toArray := by
  apply Array.ext
  · rw [cA_size]; simp [clI]
  · intro i h1 h2
    have hi : i < n := by rw [cA_size] at h1; exact h1
    have e := cA_get (f := f) hi
    rw [Array.getElem?_eq_getElem h1] at e
    rw [Option.some.inj e]
    simp [clI]
theorem clI_congr {n : Nat} {f g : Nat → Int} (h : ∀ k, k < n → f k = g k) : clI n f = clI n g := List.map_congr_left fun k hk => by rw [h k (List.mem_range.1 hk)]
theorem spl_cl (c : Int) (n k m : Nat) (h : k + m ≤ n) : splice (clI n fun j => if j < k then c else 0) k (List.replicate m (.int .i64 c)) = clI n fun j => if j < k + m then c else 0 := by
  show List.take k _ ++ (_ ++ List.drop _ _) = _
  apply List.ext_getElem
  · simp [clI_len]; omega
  · intro i h1 h2
    have hi : i < n := by rw [clI_len] at h2; exact h2
    rw [clI_get]
    by_cases a : i < k
    · rw [List.getElem_append_left (by rw [List.length_take, clI_len]; omega), List.getElem_take, clI_get, if_pos a, if_pos (by omega)]
    · rw [List.getElem_append_right (by rw [List.length_take, clI_len]; omega)]
      have e : (List.take k (clI n fun j => if j < k then c else 0)).length = k := by rw [List.length_take, clI_len]; omega
      by_cases b : i < k + m
      · rw [List.getElem_append_left (by rw [e, List.length_replicate]; omega), List.getElem_replicate, if_pos b]
      · rw [List.getElem_append_right (by rw [e, List.length_replicate]; omega), List.getElem_drop, clI_get]
        simp only [e, List.length_replicate]
        rw [show k + m + (i - k - m) = i by omega, if_neg a, if_neg b]

theorem copy_ex {P : Program} {w w0 : World} (dT sT ty elem : TypeId) (hu : P.underlying dT = some (.slice elem)) (hsz : (P.info? elem).map (·.size) = some 1)
    (dp sp : Option Addr) (dLen dCap sLen sCap g off : Nat) (cur : List Value) (t : TypeId) (hg : w.heap[g]? = some (.cells cur.toArray t (0, 0))) (cs : List Value) (hn : cs.length = Nat.min sLen dLen)
    (hpos : 0 < cs.length → dp = some ⟨g, off, none⟩ ∧ ∃ ad, sp = some ad ∧ ∀ j v, cs[j]? = some v → w.cell? (ad.add j) = some v)
    (hfit : off + cs.length ≤ cur.length) (h1 : ∀ v ∈ cs, v.oneCell' = true) (B : Nat) (hb : Below B w0 w) (hBg : B ≤ g) :
    ∃ w4, (Builtin.copy_ #[dT, sT] ty #[.slice dp dLen dCap, .slice sp sLen sCap]).run P w = .ok (.int .i64 (cs.length : Int)) w4 ∧ w4.heap[g]? = some (.cells (splice cur off cs).toArray t (0, 0)) ∧ Below B w0 w4 := by
  by_cases h0 : cs.length = 0
  · obtain rfl : cs = [] := List.eq_nil_of_length_eq_zero h0
    exact ⟨w, run_copy_none (P := P) w dT sT ty elem dp sp dLen dCap sLen sCap hu hsz (by simpa using hn.symm), by simpa [splice] using hg, hb⟩
  · obtain ⟨rfl, ad, rfl, hsrc⟩ := hpos (by omega)
    exact ⟨_, run_copy_row (P := P) w dT sT ty elem g off dLen dCap ad sLen sCap cur.toArray t cs hu hsz hg hn hsrc (by simpa using hfit) h1, by simpa [splice] using setRow_heap w g _ _ t _ hg, below_setRow hb hBg _⟩

set_option maxRecDepth 100000 in
set_option maxHeartbeats 3200000 in
theorem repeat_any (g n : Nat) (hn : n ≤ 100) (c : Int) (w : World) (hg : g < w.heap.size) (hc : w.cell? ⟨g, 0, none⟩ = some (.int .i64 c)) :
    Calls Try.prog 56 #[.slice (some ⟨g, 0, none⟩) 1 1, .int .i64 n] w fun e w' => e = .returned (.slice (some ⟨w.heap.size, 0, none⟩) n n) ∧ CT w w.heap.size n 3 (fun _ => c) w' := by
  have HM := Lib.hid (mul_small 1 n (by omega) (by omega) w)
  rw [Nat.one_mul] at HM
  have HC := Lib.hid (And.intro hg hc)
  have hn0 : decide ((n : Int) < 0) = false := decide_eq_false (by omega)
  have hw1 : IntKind.u64.wrap (n : Int) = (n : Int) := by rw [IntKind.wrap_u64]; omega
  have hw2 : IntKind.i64.wrap (n : Int) = (n : Int) := IntWalk.i64_in _ (by omega)
  have hlo : decide ((9223372036854775807 : Int) < n) = false := decide_eq_false (by omega)
  have hmk := pa_makeInt n (by omega) w
  have HA0 : Hid ((w.alloc (.cells (cA n fun _ => 0) 3)).heap[w.heap.size]? = some (.cells (clI n fun j => if j < 0 then c else 0).toArray 3 (0, 0))) := Lib.hid (by
    rw [heap_alloc_new, clI_arr]
    rfl)
  have HB0 : Hid (Below w.heap.size w (w.alloc (.cells (cA n fun _ => 0) 3))) := Lib.hid ((Below.refl _ _).alloc (Nat.le_refl _) _)
  have HS0 : Hid ((w.alloc (.cells (cA n fun _ => 0) 3)).cell? ⟨g, 0, none⟩ = some (.int .i64 c)) := Lib.hid ((HB0.out.cell (p := ⟨g, 0, none⟩) hg).trans hc)
  clear hg hc
  go_enter Try.func56, Try.ntmps56
  go_wp2_with fail
  refine HM.out.mono ?_
  rintro e w1 ⟨rfl, hw⟩
  rw [hw]
  clear hw
  go_upto_region 7 with fail
  clear hmk hlo hn0 hw1 hw2 HM
  obtain ⟨wa, hwa⟩ : ∃ z, z = w.alloc (.cells (cA n fun _ => 0) 3) := ⟨_, rfl⟩
  rw [← hwa] at HA0 HB0 HS0 ⊢
  clear hwa
  have HSR : Hid (∀ m, m ≤ 1 → ∀ j v, (List.replicate m (Value.int .i64 c))[j]? = some v → wa.cell? ((⟨g, 0, none⟩ : Addr).add j) = some v) := Lib.hid (fun m hm j v hv => by
    rw [List.getElem?_replicate] at hv
    split at hv
    · obtain rfl : j = 0 := by omega
      simp only [Option.some.injEq] at hv
      subst hv
      rw [add_off]
      exact HS0.out
    · simp at hv)
  obtain ⟨w4, hcp, hg4, hb4⟩ := copy_ex (P := Try.prog) 36 36 3 3 Try.underlying36 (by kernel_rfl) (some ⟨w.heap.size, 0, none⟩) (some ⟨g, 0, none⟩) n n 1 1 w.heap.size 0 (clI n fun j => if j < 0 then c else 0) 3 HA0.out (List.replicate (min 1 n) (.int .i64 c)) (by simp) (fun _ => ⟨rfl, _, rfl, HSR.out _ (Nat.min_le_left _ _)⟩) (by rw [clI_len]; simp; omega) (fun v hv => by rw [List.eq_of_mem_replicate hv]; rfl) w.heap.size HB0.out (Nat.le_refl _)
  rw [List.length_replicate] at hcp
  have HG4 : Hid (w4.heap[w.heap.size]? = some (.cells (clI n fun j => if j < min 1 n then c else 0).toArray 3 (0, 0))) := Lib.hid (by
    have h := spl_cl c n 0 (min 1 n) (by omega)
    rw [Nat.zero_add] at h
    rw [← h]
    exact hg4)
  have HB4 := Lib.hid hb4
  clear hg4 hb4 HSR HS0 HA0 HB0
  obtain ⟨m1, hm1⟩ : ∃ z, z = min 1 n := ⟨_, rfl⟩
  rw [← hm1] at hcp HG4
  have HM1 := Lib.hid hm1
  clear hm1
  go_wp2_with fail
  clear hcp
  go_loopg [8] (n - m1) (fun gk x wr => ∃ k : Nat, x = .int .i64 k ∧ k ≤ n ∧ k + gk = n ∧ (0 < n → 0 < k) ∧ Hid (wr.heap[w.heap.size]? = some (.cells (clI n fun j => if j < k then c else 0).toArray 3 (0, 0))) ∧ Hid (Below w.heap.size w wr))
  case atStart => exact ⟨m1, rfl, by have := HM1.out; omega, by have := HM1.out; omega, by have := HM1.out; omega, HG4, HB4⟩
  case round =>
    obtain ⟨k, rfl, hkn, hgk, hk0, HG, HBD⟩ := hrel
    by_cases hlt : k < n
    · have hlt' : (k : Int) < n := by omega
      have hk1 := hk0 (by omega)
      have hk2 : (0 : Int) ≤ k := by omega
      have HSRC : Hid (∀ j v, (List.replicate (min k (n - k)) (Value.int .i64 c))[j]? = some v → wr.drew.cell? ((⟨w.heap.size, 0, none⟩ : Addr).add j) = some v) := Lib.hid (fun j v hv => by
        rw [List.getElem?_replicate] at hv
        split at hv
        · simp only [Option.some.injEq] at hv
          subst hv
          rw [add_off, World.cell?_drew, blkc HG.out, ← clI_arr, Nat.zero_add, cA_get (by omega), if_pos (by omega)]
        · simp at hv)
      have HGD := Lib.hid (blk_keep HG.out (Below.refl _ _).drew)
      have HBDD := Lib.hid HBD.out.drew
      go_upto_region 9 with fail
      refine wp_region_held_drew (S := fun _ => True) (by kernel_rfl) trivial (fun hHeld => ?_)
      refine wpAnyH_take (i := 0) (oi := { dst := some 38, op := Op.move (Operand.tmp 8), type := 3, pos := "slices.go:528", after := #[], guard := none }) (v := ?_) rfl (by kernel_rfl) (by kernel_rfl) (by kernel_rfl) (fun _ _ _ h => h) (Or.inl ⟨by rfl, ?_⟩) (by assumption) ?_
      rotate_left
      · intro w' hSw
        (try dsimp only at hSw)
        (try go_split_ands)
        go_simp
        try with_reducible rfl
      (try simp only [Act.put, List.setIfInBounds_toArray, List.set_cons_zero, List.set_cons_succ])
      refine wpAnyH_take (i := 1) (oi := { dst := some 39, op := Op.move (Operand.tmp 7), type := 36, pos := "slices.go:528", after := #[], guard := none }) (v := ?_) rfl (by kernel_rfl) (by kernel_rfl) (by kernel_rfl) (fun _ _ _ h => h) (Or.inl ⟨by rfl, ?_⟩) (by assumption) ?_
      rotate_left
      · intro w' hSw
        (try dsimp only at hSw)
        (try go_split_ands)
        go_simp
        try with_reducible rfl
      (try simp only [Act.put, List.setIfInBounds_toArray, List.set_cons_zero, List.set_cons_succ])
      refine wpAnyH_take (i := 2) (oi := { dst := some 40, op := Op.move (Operand.tmp 8), type := 3, pos := "slices.go:528", after := #[], guard := none }) (v := ?_) rfl (by kernel_rfl) (by kernel_rfl) (by kernel_rfl) (fun _ _ _ h => h) (Or.inl ⟨by rfl, ?_⟩) (by assumption) ?_
      rotate_left
      · intro w' hSw
        (try dsimp only at hSw)
        (try go_split_ands)
        go_simp
        try with_reducible rfl
      (try simp only [Act.put, List.setIfInBounds_toArray, List.set_cons_zero, List.set_cons_succ])
      refine wpAnyH_take (i := 3) (oi := { dst := some 41, op := Op.slice 36 (Operand.tmp 39) (some (Operand.tmp 40)) none none, type := 36, pos := "slices.go:528", after := #[{ on := 1, ground := Ground.data }, { on := 2, ground := Ground.data }], guard := none }) (v := ?_) rfl (by kernel_rfl) (by kernel_rfl) (by kernel_rfl) (fun _ _ _ h => h) (Or.inl ⟨by rfl, ?_⟩) (by assumption) ?_
      rotate_left
      · intro w' hSw
        (try dsimp only at hSw)
        (try go_split_ands)
        go_simp
        try with_reducible rfl
      (try simp only [Act.put, List.setIfInBounds_toArray, List.set_cons_zero, List.set_cons_succ])
      refine wpAnyH_take (i := 4) (oi := { dst := some 42, op := Op.move (Operand.tmp 7), type := 36, pos := "slices.go:528", after := #[], guard := none }) (v := ?_) rfl (by kernel_rfl) (by kernel_rfl) (by kernel_rfl) (fun _ _ _ h => h) (Or.inl ⟨by rfl, ?_⟩) (by assumption) ?_
      rotate_left
      · intro w' hSw
        (try dsimp only at hSw)
        (try go_split_ands)
        go_simp
        try with_reducible rfl
      (try simp only [Act.put, List.setIfInBounds_toArray, List.set_cons_zero, List.set_cons_succ])
      refine wpAnyH_take (i := 5) (oi := { dst := some 43, op := Op.move (Operand.tmp 8), type := 3, pos := "slices.go:528", after := #[], guard := none }) (v := ?_) rfl (by kernel_rfl) (by kernel_rfl) (by kernel_rfl) (fun _ _ _ h => h) (Or.inl ⟨by rfl, ?_⟩) (by assumption) ?_
      rotate_left
      · intro w' hSw
        (try dsimp only at hSw)
        (try go_split_ands)
        go_simp
        try with_reducible rfl
      (try simp only [Act.put, List.setIfInBounds_toArray, List.set_cons_zero, List.set_cons_succ])
      refine wpAnyH_take (i := 6) (oi := { dst := some 44, op := Op.slice 36 (Operand.tmp 42) none (some (Operand.tmp 43)) none, type := 36, pos := "slices.go:528", after := #[{ on := 4, ground := Ground.data }, { on := 5, ground := Ground.data }], guard := none }) (v := ?_) rfl (by kernel_rfl) (by kernel_rfl) (by kernel_rfl) (fun _ _ _ h => h) (Or.inl ⟨by rfl, ?_⟩) (by assumption) ?_
      rotate_left
      · intro w' hSw
        (try dsimp only at hSw)
        (try go_split_ands)
        go_simp
        try with_reducible rfl
      (try simp only [Act.put, List.setIfInBounds_toArray, List.set_cons_zero, List.set_cons_succ])
      refine wpAnyH_ready (rs := [7]) (by kernel_rfl) (by simp) ?_
      refine (AllReadyH.cons (o := { dst := some 45, op := Op.call { callee := Callee.builtin Builtin.copy, args := #[Operand.tmp 41, Operand.tmp 44], argTypes := #[36, 36] }, type := 3, pos := "slices.go:528", after := #[{ on := 3, ground := Ground.data }, { on := 6, ground := Ground.data }], guard := none }) rfl (fun K hK => ?_) AllReadyH.nil)
      refine step_copy_splice rfl (.tmp 41) (.tmp 44) 36 36 rfl 3 Try.underlying36 (by kernel_rfl) (if n = k then some ⟨w.heap.size, 0, none⟩ else some ⟨w.heap.size, k, none⟩) (some ⟨w.heap.size, 0, none⟩) (n - k) (n - k) k n (by rfl) (by rfl) w.heap.size k (clI n fun j => if j < k then c else 0) 3 HGD.out (List.replicate (min k (n - k)) (.int .i64 c)) (by simp) (fun _ => ⟨if_neg (by omega), _, rfl, HSRC.out⟩) (by rw [clI_len]; simp; omega) (fun v hv => by rw [List.eq_of_mem_replicate hv]; rfl) w.heap.size w HBDD.out (Nat.le_refl _) ?_
      intro w4 hg4 hb4
      have HG4 := Lib.hid (hg4.out.trans (by rw [spl_cl c n k (min k (n - k)) (by omega)]))
      have HB4 := Lib.hid hb4
      refine hK.out _ _ trivial (fun hHeld => ?_)
      clear hK K hg4 hb4
      simp only [List.length_replicate]
      (try simp only [Act.put, List.setIfInBounds_toArray, List.set_cons_zero, List.set_cons_succ])
      refine wpAnyH_take (i := 8) (oi := { dst := some 46, op := Op.binOp BinOp.add 3 (Operand.tmp 38) (Operand.tmp 45) 3, type := 3, pos := "slices.go:528", after := #[{ on := 0, ground := Ground.data }, { on := 7, ground := Ground.data }], guard := none }) (v := ?_) rfl (by kernel_rfl) (by kernel_rfl) (by kernel_rfl) (fun _ _ _ h => h) (Or.inl ⟨by rfl, ?_⟩) (by assumption) ?_
      rotate_left
      · intro w' hSw
        (try dsimp only at hSw)
        (try go_split_ands)
        go_simp
        try with_reducible rfl
      (try simp only [Act.put, List.setIfInBounds_toArray, List.set_cons_zero, List.set_cons_succ])
      refine wpAnyH_take (i := 9) (oi := { dst := some 8, op := Op.assign (Operand.tmp 46), type := 3, pos := "slices.go:528", after := #[{ on := 8, ground := Ground.data }, { on := 7, ground := Ground.chain }, { on := 0, ground := Ground.phase }, { on := 1, ground := Ground.phase }, { on := 2, ground := Ground.phase }, { on := 3, ground := Ground.phase }, { on := 4, ground := Ground.phase }, { on := 5, ground := Ground.phase }, { on := 6, ground := Ground.phase }, { on := 7, ground := Ground.phase }, { on := 8, ground := Ground.phase }], guard := none }) (v := ?_) rfl (by kernel_rfl) (by kernel_rfl) (by kernel_rfl) (fun _ _ _ h => h) (Or.inl ⟨by rfl, ?_⟩) (by assumption) ?_
      rotate_left
      · intro w' hSw
        (try dsimp only at hSw)
        (try go_split_ands)
        go_simp
        try with_reducible rfl
      (try simp only [Act.put, List.setIfInBounds_toArray, List.set_cons_zero, List.set_cons_succ])
      refine wpAnyH_done (by kernel_rfl) ?_ _
      have hk3 : k + min k (n - k) ≤ n := by omega
      have hk4 : 0 < k + min k (n - k) := by omega
      have hw : IntKind.i64.wrap ((k : Int) + ((min k (n - k) : Nat) : Int)) = ((k + min k (n - k) : Nat) : Int) := by rw [IntWalk.i64_in _ (by omega)]; omega
      simp only [hw]
      clear hHeld hw
      (try go_wp2_with fail)
      go_roundg (n - (k + min k (n - k)))
      case measure => omega
      case rel => exact ⟨k + min k (n - k), rfl, hk3, by omega, fun _ => hk4, HG4, HB4⟩
    · obtain rfl : k = n := by omega
      have HE : Hid (CT w w.heap.size k 3 (fun _ => c) wr) := Lib.hid ⟨HBD.out, Nat.le_refl _, by
        rw [HG.out, clI_arr]
        congr 2
        exact congrArg List.toArray (clI_congr fun j hj => if_pos hj)⟩
      go_wp2
      go_ret
      exact ⟨rfl, HE.out⟩

end Go.Proofs.Ytchhadkmemckbab

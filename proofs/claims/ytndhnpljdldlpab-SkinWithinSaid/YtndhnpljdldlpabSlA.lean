/- Skins: blocks of any cells; skins that are drawn. -/
import Derived.Test.YtndhnpljdldlpabSkY
import Derived.Laws.BytesArg
namespace Go.Proofs.Ytndhnpljdldlpab
open Go.RowKit

/-- N cells. -/
def cV (N : Nat) (V : Nat → Value) : Array Value := Array.ofFn (n := N) fun i => V i
theorem cV_size (N : Nat) (V : Nat → Value) : (cV N V).size = N := by unfold cV; exact Array.size_ofFn
theorem cV_get {N : Nat} {V : Nat → Value} {i : Nat} (h : i < N) : (cV N V)[i]? = some (V i) := by
  rw [Array.getElem?_eq_getElem (by rw [cV_size]; exact h)]
  unfold cV
  rw [Array.getElem_ofFn]
theorem cV_congr {N : Nat} {V V' : Nat → Value} (h : ∀ k, k < N → V k = V' k) : cV N V = cV N V' := by
  apply Array.ext
  · rw [cV_size, cV_size]
  · intro i h1 h2
    have hi : i < N := by rw [cV_size] at h1; exact h1
    have e1 := cV_get (V := V) hi
    have e2 := cV_get (V := V') hi
    rw [Array.getElem?_eq_getElem h1] at e1
    rw [Array.getElem?_eq_getElem h2] at e2
    rw [Option.some.inj e1, Option.some.inj e2, h i hi]
theorem cV_set {N : Nat} {V : Nat → Value} {i : Nat} (x : Value) : (cV N V).setIfInBounds i x = cV N fun k => if k = i then x else V k := by
  apply Array.ext
  · rw [Array.size_setIfInBounds, cV_size, cV_size]
  · intro k h1 h2
    have hk : k < N := by rw [cV_size] at h2; exact h2
    rw [Array.getElem_setIfInBounds]
    have e2 := cV_get (V := fun k => if k = i then x else V k) hk
    rw [Array.getElem?_eq_getElem h2] at e2
    have e1 := cV_get (V := V) hk
    rw [Array.getElem?_eq_getElem (by rw [cV_size]; exact hk)] at e1
    rw [Option.some.inj e2]
    by_cases hki : k = i
    · subst hki; simp
    · rw [if_neg (fun e => hki e.symm), Option.some.inj e1, if_neg hki]
    rw [cV_size]; exact hk

/-- The world w0, with new blocks, block n of them N cells. -/
structure VT (w0 : World) (n N : Nat) (T : TypeId) (V : Nat → Value) (wr : World) : Prop where
  b : Below w0.heap.size w0 wr
  le : w0.heap.size ≤ n
  arr : wr.heap[n]? = some (.cells (cV N V) T (0, 0))
section
variable {w0 wr w2 : World} {n N : Nat} {T : TypeId} {V V' : Nat → Value}
theorem VT.step (h : VT w0 n N T V wr) (hb : Below wr.heap.size wr w2) : VT w0 n N T V w2 := ⟨h.b.trans (hb.mono h.b.size), h.le, (hb.block _ (block_lt h.arr)).trans h.arr⟩
theorem VT.cell (h : VT w0 n N T V wr) {i : Nat} (hi : i < N) : wr.cell? ⟨n, i, none⟩ = some (V i) := by
  simp only [World.cell?]; rw [h.arr]; exact cV_get hi
theorem VT.frozen (h : VT w0 n N T V wr) (i : Nat) : wr.frozen? ⟨n, i, none⟩ = false := by
  simp only [World.frozen?]; rw [h.arr]; simp
theorem VT.lt (h : VT w0 n N T V wr) : n < wr.heap.size := block_lt h.arr
theorem VT.set (h : VT w0 n N T V wr) (i : Nat) (x : Value) : VT w0 n N T (fun k => if k = i then x else V k) (wr.setCell ⟨n, i, none⟩ x) := by
  refine ⟨h.b.setCell h.le _, h.le, ?_⟩
  simp only [World.setCell, Array.getElem?_modify, h.arr]
  simp [cV_set]
theorem VT.congr (h : VT w0 n N T V wr) (e : ∀ k, k < N → V k = V' k) : VT w0 n N T V' wr := ⟨h.b, h.le, by rw [h.arr, cV_congr e]⟩
theorem VT.new (w : World) (N : Nat) (T : TypeId) (V : Nat → Value) : VT w w.heap.size N T V (w.alloc (.cells (cV N V) T)) := ⟨(Below.refl _ _).alloc (Nat.le_refl _) _, Nat.le_refl _, heap_alloc_new _ _⟩
end

theorem cV_made (v : Value) (hv : v.cells = #[v]) (n : Nat) : madeCells v.cells n = cV n fun _ => v := by
  rw [hv]
  apply Array.ext'
  apply List.ext_getElem
  · simp [madeCells, cV]
  · intro i h1 h2
    simp [madeCells, cV, Nat.mod_one]

theorem sk_infoStr : (Try.prog.info? 9).map (fun i => (i.zero, i.size, i.bytes)) = some (some (.string ByteArray.empty), 1, 16) := by kernel_rfl
theorem sk_infoByte : (Try.prog.info? 5).map (fun i => (i.zero, i.size, i.bytes)) = some (some (.int .u8 0), 1, 1) := by kernel_rfl

theorem sk_makeStr (n : Nat) (hn : (n : Int) ≤ 1000000) (w : World) :
    (Instr.makeSlice 22 (.int .i64 n) (.int .i64 n)).run Try.prog w = .ok (.slice (some ⟨w.heap.size, 0, none⟩) n n) (w.alloc (.cells (cV n fun _ => .string ByteArray.empty) 9)) := by
  obtain ⟨i0, hi, hz0, hz1, hz2⟩ := info_parts sk_infoStr
  have h := run_make (P := Try.prog) w 22 9 i0 (.string ByteArray.empty) Try.underlying22 hi hz0 .i64 .i64 n n (by omega) (by omega) (by rw [hz2]; omega) (by omega)
  rw [h]
  simp only [Int.toNat_natCast, hz1, Nat.mul_one, cV_made (.string ByteArray.empty) rfl]
theorem sk_makeByte (n : Nat) (hn : (n : Int) ≤ 1000000) (w : World) :
    (Instr.makeSlice 141 (.int .i64 n) (.int .i64 n)).run Try.prog w = .ok (.slice (some ⟨w.heap.size, 0, none⟩) n n) (w.alloc (.cells (cV n fun _ => .int .u8 0) 5)) := by
  obtain ⟨i0, hi, hz0, hz1, hz2⟩ := info_parts sk_infoByte
  have h := run_make (P := Try.prog) w 141 5 i0 (.int .u8 0) Try.underlying141 hi hz0 .i64 .i64 n n (by omega) (by omega) (by rw [hz2]; omega) (by omega)
  rw [h]
  simp only [Int.toNat_natCast, hz1, Nat.mul_one, cV_made (.int .u8 0) rfl]

/-- A row, a skin, drawn by a grade for each place. -/
def rowN (W : Nat) (f : Nat → Nat) : List Int := (List.range W).map fun x => ((48 + f x : Nat) : Int)
def rowB (W : Nat) (f : Nat → Nat) : ByteArray := strOfNums (rowN W f)
def drawB (W H : Nat) (G : Nat → Nat → Nat) : List ByteArray := (List.range H).map fun y => rowB W (fun x => G x y)
theorem rowN_len (W : Nat) (f : Nat → Nat) : (rowN W f).length = W := by simp [rowN]
theorem rowN_get {W : Nat} {f : Nat → Nat} {x : Nat} (h : x < W) : (rowN W f).getD x 0 = ((48 + f x : Nat) : Int) := by
  unfold rowN
  rw [List.getD_eq_getElem?_getD, List.getElem?_map, List.getElem?_range h]
  rfl
theorem rowB_size (W : Nat) (f : Nat → Nat) : (rowB W f).size = W := by unfold rowB; rw [strOfNums_size, rowN_len]
theorem drawB_len (W H : Nat) (G : Nat → Nat → Nat) : (drawB W H G).length = H := by simp [drawB]
theorem drawB_get {W H : Nat} {G : Nat → Nat → Nat} {y : Nat} (h : y < (drawB W H G).length) : (drawB W H G)[y] = rowB W (fun x => G x y) := by simp [drawB]
theorem drawB_wid {W H : Nat} (G : Nat → Nat → Nat) (h : 0 < H) : wid (drawB W H G) = W := by
  rw [wid_eq (by rw [drawB_len]; exact h), drawB_get, rowB_size]
theorem drawB_congr {W H : Nat} {G G' : Nat → Nat → Nat} (h : ∀ x y, x < W → y < H → G x y = G' x y) : drawB W H G = drawB W H G' := by
  unfold drawB
  refine List.map_congr_left fun y hy => ?_
  unfold rowB rowN
  congr 1
  refine List.map_congr_left fun x hx => ?_
  show ((48 + G x y : Nat) : Int) = ((48 + G' x y : Nat) : Int)
  rw [h x y (List.mem_range.1 hx) (List.mem_range.1 hy)]

theorem byte_nat {g : Nat} (h : g ≤ 9) : (UInt8.ofNat (((48 + g : Nat) : Int).toNat)).toNat = 48 + g := by
  rw [Int.toNat_natCast]
  simp [UInt8.toNat_ofNat']
  omega
theorem rowB_at {W : Nat} {f : Nat → Nat} {x : Nat} (hx : x < W) (hf : f x ≤ 9) (h : x < (rowB W f).size) : (rowB W f)[x].toNat = 48 + f x := by
  have e : (rowB W f).data.toList[x]? = some (UInt8.ofNat (((48 + f x : Nat) : Int).toNat)) := by
    unfold rowB
    rw [strOfNums_data]
    unfold rowN
    rw [List.getElem?_map, List.getElem?_map, List.getElem?_range hx]
    rfl
  have hl : x < (rowB W f).data.toList.length := by rw [Array.length_toList]; exact h
  have e2 : (rowB W f)[x] = (rowB W f).data.toList[x] := rfl
  rw [List.getElem?_eq_getElem hl] at e
  rw [e2, Option.some.inj e, byte_nat hf]
theorem drawB_sk {W H : Nat} {G : Nat → Nat → Nat} (hW : 1 ≤ W ∧ W ≤ 48) (hH : 1 ≤ H ∧ H ≤ 48) (hG : ∀ x y, x < W → y < H → G x y ≤ 9) : skB (drawB W H G) = true := by
  rw [skB_iff]
  refine ⟨by rw [drawB_len]; exact hH, by rw [drawB_wid G hH.1]; exact hW, fun k hk => ?_⟩
  have hk' : k < H := by rw [drawB_len] at hk; exact hk
  rw [drawB_get hk, drawB_wid G hH.1, rowB_size]
  refine ⟨rfl, grB_iff.2 fun x hx => ?_⟩
  have hx' : x < W := by rw [rowB_size] at hx; exact hx
  have hg := hG x k hx' hk'
  rw [rowB_at hx' hg hx]
  omega
theorem drawB_grd {W H : Nat} {G : Nat → Nat → Nat} (hG : ∀ x y, x < W → y < H → G x y ≤ 9) {x y : Nat} (hx : x < W) (hy : y < H) : grd (drawB W H G) x y = G x y := by
  have hyl : y < (drawB W H G).length := by rw [drawB_len]; exact hy
  have hxs : x < (drawB W H G)[y].size := by rw [drawB_get hyl, rowB_size]; exact hx
  rw [grd_in (xn := x) (yn := y) rfl rfl (by rw [drawB_wid G (by omega)]; exact hx) hyl hxs]
  have e : (drawB W H G)[y][x].toNat = 48 + G x y := by
    have h2 := rowB_at (f := fun x => G x y) hx (hG x y hx hy) (by rw [rowB_size]; exact hx)
    rw [← h2]
    congr 1
    simp only [drawB_get hyl]
  rw [e]
  omega

end Go.Proofs.Ytndhnpljdldlpab

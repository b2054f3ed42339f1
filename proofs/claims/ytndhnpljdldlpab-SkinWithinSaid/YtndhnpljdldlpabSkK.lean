/- Skins: the map of the cells that were seen. -/
import Derived.Test.YtndhnpljdldlpabSkD
import Derived.Maps.OwnOps
import Derived.Maps.Views
import Derived.DeepKeys4
namespace Go.Proofs.Ytndhnpljdldlpab
open Go.RowKit
open Go.Maps (Keyed)

theorem uCell : ∃ fs, Try.prog.underlying 93 = some (.struct fs) ∧ (fs.toList.map fun f => (f.type, f.offset, f.name != "_")) = [(3, 0, true), (3, 1, true)] :=
  ⟨(match Try.prog.underlying 93 with | some (.struct fs) => fs | _ => #[]), by kernel_rfl, by kernel_rfl⟩
theorem uMap : Try.prog.underlying 90 = some (.map 93 4) := by kernel_rfl
theorem uBool : Try.prog.underlying 4 = some .bool := by kernel_rfl
theorem uInt : Try.prog.underlying 3 = some (.int .i64) := by kernel_rfl
theorem laidOut : laidOutB Try.prog = true := by kernel_rfl
theorem cellRow : (93 : TypeId) < Try.prog.types.size := of_decide_eq_true (by kernel_rfl)
theorem cellAt : Try.prog.keyTypeAt 3 93 = true := by kernel_rfl
theorem cellType : Try.prog.keyType 93 = true := by kernel_rfl
theorem cellCells : Try.prog.cellsOf 93 = 2 := by kernel_rfl
theorem intCells : Try.prog.cellsOf 3 = 1 := by kernel_rfl
theorem cellKeyed : Keyed Try.prog 93 := by
  obtain ⟨fs, hu, -⟩ := uCell
  exact Keyed.of_law (deep_law_laid laidOut (m := 3) (by omega) cellRow cellAt (by rw [hu]))

/-- What a cell reads as, as a key. -/
def ckl (x y : Int) : Lit := .string (keyBytes [.int .i64 x, .int .i64 y])

theorem size_pos {k n : Nat} (h : k < n) : ∃ m, n = m + 1 := ⟨n - 1, by omega⟩
theorem cell_key {x y : Int} (hx : (Lit.int .i64 x).wf = true) (hy : (Lit.int .i64 y).wf = true) : keyOf Try.prog 93 (.agg #[.int .i64 x, .int .i64 y]) = some (ckl x y) := by
  obtain ⟨fs, hu, hfs⟩ := uCell
  obtain ⟨m, hm⟩ : ∃ m, Try.prog.types.size = m + 1 := size_pos cellRow
  obtain ⟨f0, f1, hl⟩ : ∃ f0 f1, fs.toList = [f0, f1] := by
    match h : fs.toList with
    | [] => rw [h] at hfs; simp at hfs
    | [_] => rw [h] at hfs; simp at hfs
    | [a, b] => exact ⟨a, b, rfl⟩
    | _ :: _ :: _ :: _ => rw [h] at hfs; simp at hfs
  rw [hl] at hfs
  simp only [List.map_cons, List.map_nil, List.cons.injEq, Prod.mk.injEq, and_true] at hfs
  obtain ⟨⟨a1, a2, a3⟩, b1, b2, b3⟩ := hfs
  have hall : fs.all (fun f => f.name != "_") = true := by
    rw [← Array.all_toList, hl]; simp [a3, b3]
  have hfo : Value.formed Try.prog 93 (.agg #[.int .i64 x, .int .i64 y]) = true := by
    simp [Value.formed, hu, cellCells]
  unfold keyOf
  rw [hu, cellType, hfo, hm]
  simp only [Bool.and_self, if_true]
  unfold Program.keyLits
  simp only [hu, Value.cells]
  rw [if_pos ⟨by rw [cellCells]; rfl, hall⟩, hl, List.mapM_cons, List.mapM_cons, List.mapM_nil]
  simp [a1, a2, b1, b2, intCells, Program.keyLits, hx, hy, ckl]

theorem zeroBool (w : World) : (zeroValue 4).run Try.prog w = .ok (.bool false) w := by kernel_rfl

/-- Both coordinates are integers of the language. -/
def InI (x y : Int) : Prop := (Lit.int .i64 x).wf = true ∧ (Lit.int .i64 y).wf = true

/-- Block b is the map of the cells of S, of at most n entries. -/
def Seen (w : World) (b n : Nat) (S : List (Int × Int)) : Prop :=
  ∃ D : DataW Unit, w.ownsMap Try.prog 93 (plainElem Try.prog 4) b n D ∧ Maps.IsMap D ∧ ∀ x y, InI x y → D.atKey (ckl x y) (.lit (.bool false)) = .lit (.bool (decide ((x, y) ∈ S)))

theorem Seen.made (w : World) : Seen (w.alloc (.map #[] 0)) w.heap.size 0 [] :=
  ⟨.map [], World.ownsMap_made w _ _ _, Maps.isMap_empty, fun x y _ => by simp [DataW.atKey]⟩
theorem Seen.lt {w : World} {b n : Nat} {S : List (Int × Int)} (h : Seen w b n S) : b < w.heap.size := by
  obtain ⟨D, h, -⟩ := h; exact h.lt
theorem Seen.mono {w : World} {b n n' : Nat} {S : List (Int × Int)} (h : Seen w b n S) (hn : n ≤ n') : Seen w b n' S := by
  obtain ⟨D, h, h2⟩ := h; exact ⟨D, h.mono hn, h2⟩
theorem Seen.below {w w' : World} {b n : Nat} {S : List (Int × Int)} (h : Seen w b n S) (hb : Below w.heap.size w w') : Seen w' b n S := by
  have hlt := h.lt
  obtain ⟨D, ⟨es, clock, hh, F, hs, hD⟩, h2⟩ := h
  exact ⟨D, ⟨es, clock, (hb.block b hlt).trans hh, F, hs, hD⟩, h2⟩

theorem plainElem_bool_inv {P : Program} {e : TypeId} (he : P.underlying e = some .bool) {v : Value} {z : DataW Unit × List MemPlace} (h : plainElem P e v = some z) : ∃ a, v = .bool a ∧ z = (.lit (.bool a), []) := by
  unfold plainElem at h
  rw [he] at h
  cases v <;> simp at h
  subst h
  exact ⟨_, rfl, rfl⟩

theorem Seen.lookup {w : World} {b n : Nat} {S : List (Int × Int)} (h : Seen w b n S) {x y : Int} (hi : InI x y) :
    (Instr.lookup 90 (.map (some b)) (.agg #[.int .i64 x, .int .i64 y]) false).run Try.prog w = .ok (.bool (decide ((x, y) ∈ S))) w := by
  obtain ⟨D, h, -, h2⟩ := h
  obtain ⟨v, ps, hrun, hv⟩ := h.lookup cellKeyed uMap (zeroBool w) (plainElem_bool uBool false) (cell_key hi.1 hi.2)
  obtain ⟨c, rfl, hc⟩ := plainElem_bool_inv uBool hv
  rw [hrun]
  have := h2 x y hi
  simp only [Prod.mk.injEq] at hc
  rw [hc.1] at this
  simp only [DataW.lit.injEq, Lit.bool.injEq] at this
  rw [this]

theorem ckl_ne {x y x' y' : Int} (hi : InI x y) (hi' : InI x' y') (h : (x, y) ≠ (x', y')) : ckl x y ≠ ckl x' y' := by
  intro e
  have := cellKeyed.inj (cell_key hi.1 hi.2) (e ▸ cell_key hi'.1 hi'.2)
  apply h
  simpa using this

theorem Seen.put {D : DataW Unit} {S : List (Int × Int)} (hm : Maps.IsMap D) (h : ∀ x y, InI x y → D.atKey (ckl x y) (.lit (.bool false)) = .lit (.bool (decide ((x, y) ∈ S)))) {x y : Int} (hi : InI x y) :
    Maps.IsMap (D.put (ckl x y) (.lit (.bool true))) ∧ ∀ x' y', InI x' y' → (D.put (ckl x y) (.lit (.bool true))).atKey (ckl x' y') (.lit (.bool false)) = .lit (.bool (decide ((x', y') ∈ (x, y) :: S))) := by
  refine ⟨hm.put _ _, fun x' y' hi' => ?_⟩
  by_cases e : (x', y') = (x, y)
  · simp only [Prod.mk.injEq] at e
    obtain ⟨rfl, rfl⟩ := e
    rw [Maps.atKey_put_same hm (cellKeyed.key (cell_key hi.1 hi.2))]
    simp
  · rw [Maps.atKey_put_other (ckl_ne hi' hi e), h x' y' hi']
    congr 2
    simp [e]

theorem Seen.update {w : World} {b n : Nat} {S : List (Int × Int)} (h : Seen w b n S) {x y : Int} (hi : InI x y) (hn : n < maxLen) :
    ∃ w', (Instr.mapUpdate 90 (.map (some b)) (.agg #[.int .i64 x, .int .i64 y]) (.bool true)).run Try.prog w = .ok () w' ∧ Seen w' b (n + 1) ((x, y) :: S) ∧ w.grownBy w' (some b) := by
  obtain ⟨D, h, hm, h2⟩ := h
  obtain ⟨w', hrun, h', hg⟩ := h.update cellKeyed uMap hn (cell_key hi.1 hi.2) (plainElem_bool uBool true)
  exact ⟨w', hrun, ⟨_, h', Seen.put hm h2 hi⟩, hg⟩

end Go.Proofs.Ytndhnpljdldlpab

/- How the reference's natural numbers lie in memory, and small lemmas on worlds. -/
import Derived.Test.YtpghhfobaionkaaProg
import Derived.Test.YtpghhfobaionkaaNat
import Derived.WalkKit
import Derived.WalkLawsBesides
import Derived.WalkSpells
import Derived.RegionTactic
import Derived.Deep.QuietTactic
import Derived.BigQuiet
import Derived.Lib.Hide
import Derived.OwnWalk
import Derived.Deep.RegionHeld3
namespace Go.Proofs.Ytpghhfobaionkaa
open Go.RowKit

theorem ret_int {k : IntKind} {a b : Int} (h : a = b) : Ending.returned (.int k a) = .returned (.int k b) := by rw [h]

def u32s (l : List Nat) : List Value := l.map fun (d : Nat) => Value.int .u32 (d : Int)
theorem u32s_length (l : List Nat) : (u32s l).length = l.length := by simp [u32s]
theorem u32s_append (a b : List Nat) : u32s (a ++ b) = u32s a ++ u32s b := by simp [u32s]

/-- The slice v reads, in the world w, as the list l of numbers of kind uint32; its cells lie from its block's head on. -/
def IsDig (w : World) (v : Value) (l : List Nat) : Prop :=
  ∃ a cap, v = .slice a l.length cap ∧ l.length ≤ cap ∧ cap ≤ maxLen ∧ (a = none → l = [] ∧ cap = 0) ∧
    ∀ b, a = some b → b.off = 0 ∧ b.spot = none ∧ b.block < w.heap.size ∧ ∀ j (h : j < l.length), w.cell? ⟨b.block, j, none⟩ = some (.int .u32 (l[j] : Int))

/-- .. as the digits of n. -/
def IsNat (w : World) (v : Value) (n : Nat) : Prop := IsDig w v (digs n)

theorem IsDig.below {w w' : World} {v : Value} {l : List Nat} (h : IsDig w v l) (hb : Below w.heap.size w w') : IsDig w' v l := by
  obtain ⟨a, cap, hv, h1, h2, h3, h4⟩ := h
  refine ⟨a, cap, hv, h1, h2, h3, fun b hab => ?_⟩
  obtain ⟨k1, k2, k3, k4⟩ := h4 b hab
  exact ⟨k1, k2, Nat.lt_of_lt_of_le k3 hb.size, fun j hj => (hb.cell (p := ⟨b.block, j, none⟩) k3).trans (k4 j hj)⟩
theorem IsNat.below {w w' : World} {v : Value} {n : Nat} (h : IsNat w v n) (hb : Below w.heap.size w w') : IsNat w' v n := IsDig.below h hb

theorem IsDig.nil (w : World) : IsDig w (.slice none 0 0) [] := ⟨none, 0, rfl, Nat.le_refl _, Nat.zero_le _, fun _ => ⟨rfl, rfl⟩, fun _ h => by cases h⟩
theorem IsNat.zero (w : World) : IsNat w (.slice none 0 0) 0 := by unfold IsNat; rw [digs_zero]; exact IsDig.nil w

/-- What a call has built by append. -/
theorem IsDig.of_owns {w : World} {base : Nat} {v : Value} {l : List Nat} (h : w.ownsRow base 72 1 v l.length (u32s l)) : IsDig w v l := by
  obtain ⟨_, h | ⟨g, cap, cur, hv, _, hg, hn, hm, _, ht⟩⟩ := h
  · obtain ⟨hv, hl⟩ := h
    have : l = [] := List.length_eq_zero_iff.1 hl
    subst this
    rw [hv]; exact IsDig.nil w
  · refine ⟨some ⟨g, 0, none⟩, cap, hv, hn, hm, (by intro h; cases h), ?_⟩
    rintro b hb
    obtain rfl : _ = b := Option.some.inj hb
    refine ⟨rfl, rfl, (Array.getElem?_eq_some_iff.1 hg).1, fun j hj => ?_⟩
    rw [cell_of_row w g j cur _ _ hg]
    have e : (u32s l)[j]? = some (.int .u32 (l[j] : Int)) := by simp [u32s, hj]
    rw [← ht, List.getElem?_take] at e
    split at e
    · simpa using e
    · cases e

theorem IsDig.len {w : World} {v : Value} {l : List Nat} (h : IsDig w v l) : ∃ a cap, v = .slice a l.length cap := by
  obtain ⟨a, cap, hv, _⟩ := h; exact ⟨a, cap, hv⟩

/-- Block g is a row of numbers of kind uint32, nothing else. -/
def HasRow (w : World) (g : Nat) (l : List Nat) : Prop := w.heap[g]? = some (.cells (u32s l).toArray 72 (0, 0))

theorem u32s_get (l : List Nat) (j : Nat) (h : j < l.length) : (u32s l)[j]? = some (.int .u32 (l[j] : Int)) := by simp [u32s, h]

theorem HasRow.lt {w : World} {g : Nat} {l : List Nat} (h : HasRow w g l) : g < w.heap.size := (Array.getElem?_eq_some_iff.1 h).1

theorem HasRow.cell {w : World} {g : Nat} {l : List Nat} (h : HasRow w g l) (j : Nat) (hj : j < l.length) : w.cell? ⟨g, j, none⟩ = some (.int .u32 (l[j] : Int)) := by
  rw [cell_of_row w g j _ _ _ h]
  simpa using u32s_get l j hj

theorem HasRow.frozen {w : World} {g : Nat} {l : List Nat} (h : HasRow w g l) (j : Nat) : w.frozen? ⟨g, j, none⟩ = false := by
  simp [World.frozen?, HasRow] at h ⊢
  simp [h]

theorem HasRow.below {w w' : World} {g : Nat} {l : List Nat} (h : HasRow w g l) (hb : Below w.heap.size w w') : HasRow w' g l :=
  (hb.block g h.lt).trans h

theorem HasRow.set {w : World} {g : Nat} {l : List Nat} (h : HasRow w g l) (j x : Nat) : HasRow (w.setCell ⟨g, j, none⟩ (.int .u32 (x : Int))) g (l.set j x) := by
  have hh : w.heap[g]? = some (.cells (u32s l).toArray 72 (0, 0)) := h
  unfold HasRow
  have e : u32s (l.set j x) = (u32s l).set j (.int .u32 (x : Int)) := by simp [u32s, List.map_set]
  simp only [World.setCell, Array.getElem?_modify, hh, e]
  simp

theorem IsDig.of_row {w : World} {g : Nat} {l : List Nat} (h : HasRow w g l) (hm : l.length ≤ maxLen) : IsDig w (.slice (some ⟨g, 0, none⟩) l.length l.length) l :=
  ⟨some ⟨g, 0, none⟩, l.length, rfl, Nat.le_refl _, hm, (by intro h; cases h), fun b hb => by
    obtain rfl : _ = b := Option.some.inj hb
    exact ⟨rfl, rfl, h.lt, fun j hj => h.cell j hj⟩⟩

theorem IsDig.set_other {w : World} {v : Value} {l : List Nat} (h : IsDig w v l) (p : Addr) (x : Value) (hne : ∀ k, v.ownBlock = some k → k ≠ p.block) : IsDig (w.setCell p x) v l := by
  obtain ⟨a, cap, hv, h1, h2, h3, h4⟩ := h
  refine ⟨a, cap, hv, h1, h2, h3, fun b hab => ?_⟩
  obtain ⟨k1, k2, k3, k4⟩ := h4 b hab
  have hb : b.block ≠ p.block := hne _ (by rw [hv, hab]; rfl)
  refine ⟨k1, k2, by simpa [World.setCell] using k3, fun j hj => ?_⟩
  rw [← k4 j hj]
  exact World.cell?_of_block (Below.heap_setCell _ _ _ _ hb)

theorem one_nat (w : World) : IsNat (w.alloc (.cells #[.int .u32 1] 72)) (.slice (some ⟨w.heap.size, 0, none⟩) 1 1) 1 := by
  have e : digs 1 = [1] := by rw [digs_pos (by decide), show 1 / Bse = 0 from rfl, digs_zero]; rfl
  unfold IsNat
  rw [e]
  exact IsDig.of_row (l := [1]) (heap_alloc_new w _) (by decide)

/-- The row that make lays. -/
def zeroRow (n : Nat) : Obj := .cells (u32s (List.replicate n 0)).toArray 72
theorem HasRow.made (w : World) (n : Nat) : HasRow (w.alloc (zeroRow n)) w.heap.size (List.replicate n 0) := heap_alloc_new w _
theorem made_zero (n : Nat) : madeCells (Value.int .u32 0).cells n = (u32s (List.replicate n 0)).toArray := by
  apply Array.ext'
  apply List.ext_getElem
  · simp [madeCells, u32s]
  · intro i h1 h2
    simp [madeCells, u32s, Value.cells, Nat.mod_one]

theorem Try.infoU32 : (Try.prog.info? 72).map (fun i => (i.zero, i.size, i.bytes)) = some (some (.int .u32 0), 1, 4) := by kernel_rfl

theorem run_make_u32 (n : Nat) (hn : (n : Int) ≤ 70368744177664) (w : World) :
    (Instr.makeSlice 50 (.int .i64 n) (.int .i64 n)).run Try.prog w = .ok (.slice (some ⟨w.heap.size, 0, none⟩) n n) (w.alloc (zeroRow n)) := by
  obtain ⟨i0, hi, hz0, hz1, hz2⟩ := info_parts Try.infoU32
  have h := run_make (P := Try.prog) w 50 72 i0 (.int .u32 0) Try.underlying50 hi hz0 .i64 .i64 n n (by omega) (by omega) (by rw [hz2]; omega) (by omega)
  rw [h]
  simp only [Int.toNat_natCast, hz1, Nat.mul_one, made_zero]
  rfl

end Go.Proofs.Ytpghhfobaionkaa

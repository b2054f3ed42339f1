/- Skins: opening: what Erode and Dilate give at a place; opening twice is opening once. No program. -/
import Derived.Test.YtfnkomecbbmfmaaSlV
namespace Go.Proofs.Ytfnkomecbbmfmaa
open Go.RowKit

theorem grd_spB (least : Bool) {ss : List ByteArray} (hs : skB ss = true) (k : Nat) (x y : Int) : grd (spB least ss k) x y = if 0 ≤ x ∧ x < wid ss ∧ 0 ≤ y ∧ y < ss.length then swG least (swB least ss 1 0 k) 0 1 k x y else 0 := by
  unfold spB
  rw [grd_swB least (swB_sk least hs 1 0 k), swB_wid least hs, swB_len]
theorem grd_nn {ss : List ByteArray} (hs : skB ss = true) (x y : Int) : 0 ≤ grd ss x y := by
  obtain ⟨g, hg, -⟩ := grd_nat hs x y
  omega
/-- Within a skin of this size. -/
def insB (W H : Nat) (x y : Int) : Prop := 0 ≤ x ∧ x < W ∧ 0 ≤ y ∧ y < H
theorem le_erode {ss : List ByteArray} (hs : skB ss = true) (k : Nat) (m : Int) {x y : Int} (h : insB (wid ss) ss.length x y) : m ≤ grd (spB true ss k) x y ↔ ∀ u v : Int, x - k ≤ u → u ≤ x + k → y - k ≤ v → v ≤ y + k → m ≤ grd ss u v := by
  unfold insB at h
  rw [grd_spB true hs, if_pos h]
  have := rl_square true hs k m x y ⟨h.1, h.2.1⟩
  simpa only [rl, if_true] using this
theorem dilate_le {ss : List ByteArray} (hs : skB ss = true) (k : Nat) (m : Int) {x y : Int} (h : insB (wid ss) ss.length x y) : grd (spB false ss k) x y ≤ m ↔ ∀ u v : Int, x - k ≤ u → u ≤ x + k → y - k ≤ v → v ≤ y + k → grd ss u v ≤ m := by
  unfold insB at h
  rw [grd_spB false hs, if_pos h]
  have := rl_square false hs k m x y ⟨h.1, h.2.1⟩
  simpa only [rl, Bool.false_eq_true, if_false] using this
theorem grd_spB_out (least : Bool) {ss : List ByteArray} (hs : skB ss = true) (k : Nat) {x y : Int} (h : ¬ insB (wid ss) ss.length x y) : grd (spB least ss k) x y = 0 := by
  unfold insB at h
  rw [grd_spB least hs, if_neg h]
theorem insB_wl (least : Bool) {ss : List ByteArray} (hs : skB ss = true) (k : Nat) (x y : Int) : insB (wid (spB least ss k)) (spB least ss k).length x y ↔ insB (wid ss) ss.length x y := by
  unfold spB
  rw [swB_wid least (swB_sk least hs 1 0 k), swB_wid least hs, swB_len, swB_len]

/-- Opened. -/
def opB (ss : List ByteArray) (k : Nat) : List ByteArray := spB false (spB true ss k) k
theorem opB_sk {ss : List ByteArray} (hs : skB ss = true) (k : Nat) : skB (opB ss k) = true := spB_sk false (spB_sk true hs k) k
theorem insB_op {ss : List ByteArray} (hs : skB ss = true) (k : Nat) (x y : Int) : insB (wid (opB ss k)) (opB ss k).length x y ↔ insB (wid ss) ss.length x y := by
  unfold opB
  rw [insB_wl false (spB_sk true hs k), insB_wl true hs]
theorem opB_len (ss : List ByteArray) (k : Nat) : (opB ss k).length = ss.length := by
  unfold opB spB
  rw [swB_len, swB_len, swB_len, swB_len]
theorem opB_wid {ss : List ByteArray} (hs : skB ss = true) (k : Nat) : wid (opB ss k) = wid ss := by
  unfold opB
  have h1 := spB_sk true hs k
  unfold spB at h1 ⊢
  rw [swB_wid false (swB_sk false h1 1 0 k), swB_wid false h1, swB_wid true (swB_sk true hs 1 0 k), swB_wid true hs]

/-- Opening raises no grade. -/
theorem opB_le {ss : List ByteArray} (hs : skB ss = true) (k : Nat) (x y : Int) : grd (opB ss k) x y ≤ grd ss x y := by
  unfold opB
  by_cases hin : insB (wid ss) ss.length x y
  · rw [dilate_le (spB_sk true hs k) k _ ((insB_wl true hs k x y).2 hin)]
    intro u v h1 h2 h3 h4
    by_cases hi2 : insB (wid ss) ss.length u v
    · exact (le_erode hs k _ hi2).1 (Int.le_refl _) x y (by omega) (by omega) (by omega) (by omega)
    · rw [grd_spB_out true hs k hi2]
      exact grd_nn hs x y
  · rw [grd_spB_out false (spB_sk true hs k) k (fun h => hin ((insB_wl true hs k x y).1 h))]
    exact grd_nn hs x y
/-- What is opened erodes to the same. -/
theorem erode_op {ss : List ByteArray} (hs : skB ss = true) (k : Nat) (x y : Int) : grd (spB true (opB ss k) k) x y = grd (spB true ss k) x y := by
  by_cases hin : insB (wid ss) ss.length x y
  · have hino := (insB_op hs k x y).2 hin
    refine Int.le_antisymm ?_ ?_
    · rw [le_erode hs k _ hin]
      intro u v h1 h2 h3 h4
      exact Int.le_trans ((le_erode (opB_sk hs k) k _ hino).1 (Int.le_refl _) u v h1 h2 h3 h4) (opB_le hs k u v)
    · rw [le_erode (opB_sk hs k) k _ hino]
      intro u v h1 h2 h3 h4
      by_cases hi2 : insB (wid ss) ss.length u v
      · exact (dilate_le (spB_sk true hs k) k _ ((insB_wl true hs k u v).2 hi2)).1 (Int.le_refl _) x y (by omega) (by omega) (by omega) (by omega)
      · have h5 := (le_erode hs k _ hin).1 (Int.le_refl _) u v h1 h2 h3 h4
        rw [grd_out (ss := ss) (x := u) (y := v) (by unfold insB at hi2; omega)] at h5
        exact Int.le_trans h5 (grd_nn (opB_sk hs k) u v)
  · rw [grd_spB_out true hs k hin, grd_spB_out true (opB_sk hs k) k (fun h => hin ((insB_op hs k x y).1 h))]

/-- What is drawn is told by its grades. -/
theorem drawB_ext {W H : Nat} {G G' : Nat → Nat → Nat} (hG : ∀ x y, x < W → y < H → G x y ≤ 9) (hG' : ∀ x y, x < W → y < H → G' x y ≤ 9) (h : ∀ x y : Int, grd (drawB W H G) x y = grd (drawB W H G') x y) : drawB W H G = drawB W H G' := by
  refine drawB_congr fun x y hx hy => ?_
  have h1 := h x y
  rw [drawB_grd hG hx hy, drawB_grd hG' hx hy] at h1
  omega
theorem spB_ext (l1 l2 : Bool) {ss ts : List ByteArray} (hs : skB ss = true) (ht : skB ts = true) (k : Nat) (hw : wid ss = wid ts) (hl : ss.length = ts.length) (h : ∀ x y : Int, grd (spB l1 ss k) x y = grd (spB l2 ts k) x y) : spB l1 ss k = spB l2 ts k := by
  have e1 : spB l1 ss k = drawB (wid ts) ts.length (swN l1 (swB l1 ss 1 0 k) 0 1 k) := by
    unfold spB
    rw [swB.eq_def l1 (swB l1 ss 1 0 k), swB_wid l1 hs, swB_len, hw, hl]
  have e2 : spB l2 ts k = drawB (wid ts) ts.length (swN l2 (swB l2 ts 1 0 k) 0 1 k) := by
    unfold spB
    rw [swB.eq_def l2 (swB l2 ts 1 0 k), swB_wid l2 ht, swB_len]
  rw [e1, e2] at h ⊢
  exact drawB_ext (fun x y _ _ => (swN_eq l1 (swB_sk l1 hs 1 0 k) 0 1 k x y).2) (fun x y _ _ => (swN_eq l2 (swB_sk l2 ht 1 0 k) 0 1 k x y).2) h

/-- Opening twice is opening once. -/
theorem opB_op {ss : List ByteArray} (hs : skB ss = true) (k : Nat) : opB (opB ss k) k = opB ss k := by
  have e : spB true (opB ss k) k = spB true ss k := spB_ext true true (opB_sk hs k) hs k (opB_wid hs k) (opB_len ss k) (erode_op hs k)
  show spB false (spB true (opB ss k) k) k = spB false (spB true ss k) k
  rw [e]

end Go.Proofs.Ytfnkomecbbmfmaa

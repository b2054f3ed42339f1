/- The reference's Parse: what it makes out of a text. -/
import Derived.Test.YtmgbecfodinhhaaDoorTxH
namespace Go.Proofs.YtmgbecfodinhhaaDoor
open Go.RowKit Go.Lib

/-- The two texts that the reference reads behind the sign. -/
def splitR (l : List UInt8) : List UInt8 × List UInt8 :=
  if (cut l [32]).2.2 = true then ((cut l [32]).1, if (cut l [32]).2.1 = [] then [48, 47, 49] else (cut l [32]).2.1)
  else if contains (cut l [32]).1 [47] = true then ([48], (cut l [32]).1) else ((cut l [32]).1, [48, 47, 49])

theorem splitR_eq {l u v : List UInt8} (h : splitS l = (u, v)) (hv : v ≠ []) : splitR l = (u, v) := by
  unfold splitS at h
  unfold splitR
  split
  · rename_i hc
    rw [if_pos hc] at h
    simp only [Prod.mk.injEq] at h
    rw [if_neg (by rw [h.2]; exact hv), h.1, h.2]
  · rename_i hc
    rw [if_neg hc] at h
    exact h

/-- The number that the reference makes out of a text. -/
noncomputable def valR (l : List UInt8) : Option Rat :=
  match digsS (splitR (signS l).2).1, digsS (cut (splitR (signS l).2).2 [47]).1, digsS (cut (splitR (signS l).2).2 [47]).2.1 with
  | some w, some n, some d => if d = 0 then none else some (if (signS l).1 = true then -(((w : Int) : Rat) + qof n d) else ((w : Int) : Rat) + qof n d)
  | _, _, _ => none

theorem valR_none {l u v a b r : List UInt8} {g k : Bool} (h1 : signS l = (g, r)) (h2 : splitR r = (u, v)) (h3 : cut v [47] = (a, b, k)) (h : digsS u = none ∨ digsS a = none ∨ digsS b = none ∨ digsS b = some 0) : valR l = none := by
  unfold valR
  rw [h1]
  simp only [h2, h3]
  rcases h with h | h | h | h
  · rw [h]
  · rw [h]; cases digsS u <;> rfl
  · rw [h]; cases digsS u <;> cases digsS a <;> rfl
  · rw [h]; cases digsS u <;> cases digsS a <;> simp

theorem valR_some {l u v a b r : List UInt8} {g k : Bool} {x y z : Nat} (h1 : signS l = (g, r)) (h2 : splitR r = (u, v)) (h3 : cut v [47] = (a, b, k)) (hx : digsS u = some x) (hy : digsS a = some y) (hz : digsS b = some z) (h0 : z ≠ 0) :
    valR l = some (if g = true then -(((x : Int) : Rat) + qof y z) else ((x : Int) : Rat) + qof y z) := by
  unfold valR
  rw [h1]
  simp only [h2, h3]
  rw [hx, hy, hz]
  simp only [h0, if_false]

theorem whole_qof (w u v : Int) (hv : 0 < v) : (w : Rat) + qof u v = qof (w * v + u) v := by
  unfold qof
  rw [Rat.intCast_add, Rat.intCast_mul]
  have h2 : (v : Rat) ≠ 0 := by
    intro h
    have : v = 0 := by exact_mod_cast h
    omega
  grind

theorem qof_negs (n d : Int) : -qof n d = qof (-n) d := by
  unfold qof
  rw [Rat.intCast_neg, Rat.div_def, Rat.div_def, Rat.neg_mul]

theorem valR_print {n d : Int} (h : VF n d) : valR (printS n d) = some (qof n d) := by
  have := h.d1; have := h.n1
  have h0 := pieces_print h
  obtain ⟨w, u, v, h1, h2, h3, h4, h5, h6, h7⟩ := h0
  unfold piecesS at h1
  simp only [Prod.mk.injEq] at h1
  obtain ⟨k1, k2, k3⟩ := h1
  obtain ⟨⟨s1, s2⟩, hs⟩ : ∃ x, splitS (signS (printS n d)).2 = x := ⟨_, rfl⟩
  rw [hs] at k1 k2 k3
  simp only at k1 k2 k3
  have hne : s2 ≠ [] := by
    intro he
    rw [he] at k2
    have : cut [] [47] = ([], [], false) := cut_miss [] 47 (by simp)
    rw [this] at k2
    exact dec_ne u k2.symm
  have hR := splitR_eq hs hne
  obtain ⟨g, hg⟩ : ∃ g, (signS (printS n d)).1 = g := ⟨_, rfl⟩
  have hg' : g = decide (n < 0) := by rw [← hg, sign_print]
  rw [valR_some (l := printS n d) (g := g) (r := (signS (printS n d)).2) (u := s1) (v := s2) (a := (cut s2 [47]).1) (b := (cut s2 [47]).2.1) (k := (cut s2 [47]).2.2) (by rw [← hg]) hR rfl (by rw [k1]; exact digs_dec h4) (by rw [k2]; exact digs_dec h5) (by rw [k3]; exact digs_dec h6) (by omega)]
  congr 1
  rw [whole_qof _ _ _ (by omega)]
  have e : ((w : Int) * v + u) = n.natAbs := by
    have : ((w * d.natAbs + u : Nat) : Int) = (n.natAbs : Int) := by rw [h3]
    rw [h2, ← this]; simp
  have e2 : (v : Int) = d := by omega
  rw [e, e2, qof_negs, hg']
  by_cases hn : n < 0
  · rw [if_pos (by simpa using hn)]
    congr 1; omega
  · rw [if_neg (by simpa using hn)]
    congr 1; omega

theorem ParQ.rnone {l : List UInt8} (h : valR l = none) : ParQ l 0 0 6 :=
  .inr ⟨fun ⟨n, d, hv, hl⟩ => (by rw [hl, valR_print hv] at h; cases h), rfl, rfl, rfl⟩
theorem ParQ.rbad {l : List UInt8} {q : Rat} (h : valR l = some q) (hr : ¬ Rep q) : ParQ l 0 0 6 :=
  .inr ⟨fun ⟨n, d, hv, hl⟩ => (by
    rw [hl, valR_print hv] at h
    simp only [Option.some.injEq] at h
    exact hr (h ▸ hv.rep)), rfl, rfl, rfl⟩
theorem ParQ.rother {l : List UInt8} {q : Rat} (h : valR l = some q) (hc : printS q.num (q.den : Int) ≠ l) : ParQ l 0 0 6 :=
  .inr ⟨fun ⟨n, d, hv, hl⟩ => (by
    have h' := h
    rw [hl, valR_print hv] at h'
    simp only [Option.some.injEq] at h'
    subst h'
    rw [hv.num.1, hv.num.2] at hc
    exact hc hl.symm), rfl, rfl, rfl⟩

theorem lenq_qof {a b : Int} (h1 : -9223372036854775808 ≤ a) (h2 : a ≤ 9223372036854775807) (h3 : 0 < b) (h4 : b ≤ 9223372036854775807) : LenQ (qof a b) 2 := by
  have hp := qof_parts (n := a) (d := b) (by omega)
  have x1 : a.natAbs / Nat.gcd a.natAbs b.natAbs ≤ a.natAbs := Nat.div_le_self _ _
  have x2 : b.natAbs / Nat.gcd a.natAbs b.natAbs ≤ b.natAbs := Nat.div_le_self _ _
  refine ⟨?_, ?_⟩
  · rw [digs_length_le_iff, hp.1]
    unfold Bse; omega
  · rw [digs_length_le_iff, hp.2]
    unfold Bse; omega

/-! ### The reference's operations, with the values behind names -/
theorem int_v (n : Int) (q : Rat) (hq : Hid (q = (n : Rat))) (h1 : -9223372036854775808 ≤ n) (h2 : n ≤ 9223372036854775807) (w : World) :
    Calls Tryd.prog 21 #[.int .i64 n] w fun e w' => ∃ z, e = .returned z ∧ IsQ w' z q ∧ Below w.heap.size w w' := by
  rw [hq.out]; exact int_any n h1 h2 w

theorem over_v (x y : Value) (u v : Int) (p q r : Rat) (hp : Hid (p = (u : Rat))) (hq : Hid (q = (v : Rat))) (hr : Hid (r = qof u v)) (h0 : 0 < v) (b1 : -9223372036854775808 ≤ u) (b2 : u ≤ 9223372036854775807) (b3 : v ≤ 9223372036854775807) (w : World) (h : IsQ w x p) (g : IsQ w y q) :
    Calls Tryd.prog 22 #[x, y] w fun e w' => ∃ z, e = .returned z ∧ IsQ w' z r ∧ Below w.heap.size w w' := by
  have e : r = p / q := by rw [hr.out, hp.out, hq.out]; rfl
  have l1 := LenQ.int (n := u) b1 b2
  have l2 := LenQ.int (n := v) (by omega) b3
  rw [← hp.out] at l1
  rw [← hq.out] at l2
  rw [e]
  have hz : q ≠ 0 := by
    rw [hq.out]
    intro h
    have : v = 0 := by exact_mod_cast h
    omega
  exact over_any x y p q hz w h g (by have := l1.n; omega) (by have := l1.d; omega) (by have := l2.n; omega) (by have := l2.d; omega)

theorem plus_v (x y : Value) (n u v : Int) (p q r : Rat) (hp : Hid (p = (n : Rat))) (hq : Hid (q = qof u v)) (hr : Hid (r = p + q)) (h0 : 0 < v) (b1 : -9223372036854775808 ≤ u) (b2 : u ≤ 9223372036854775807) (b3 : v ≤ 9223372036854775807) (b4 : -9223372036854775808 ≤ n) (b5 : n ≤ 9223372036854775807) (w : World) (h : IsQ w x p) (g : IsQ w y q) :
    Calls Tryd.prog 20 #[x, y] w fun e w' => ∃ b u k c u2 k2 c2, e = .returned (.agg #[.bool b, .slice u k c, .slice u2 k2 c2]) ∧ IsQ w' (.agg #[.bool b, .slice u k c, .slice u2 k2 c2]) r ∧ Below w.heap.size w w' := by
  have l1 := LenQ.int (n := n) b4 b5
  have l2 := lenq_qof (a := u) (b := v) b1 b2 h0 b3
  rw [← hp.out] at l1
  rw [← hq.out] at l2
  rw [hr.out]
  exact calls_q (plus_q_any x y p q w h g (by have := l1.n; omega) (by have := l1.d; omega) (by have := l2.n; omega) (by have := l2.d; omega))

theorem minus_v (x : Value) (q r : Rat) (hr : Hid (r = -q)) (w : World) (h : IsQ w x q) :
    Calls Tryd.prog 23 #[x] w fun e w' => ∃ b u k c u2 k2 c2, e = .returned (.agg #[.bool b, .slice u k c, .slice u2 k2 c2]) ∧ IsQ w' (.agg #[.bool b, .slice u k c, .slice u2 k2 c2]) r ∧ Below w.heap.size w w' := by
  rw [hr.out]; exact calls_q (minus_any x q w h)

theorem fracq_yes (x : Value) (q : Rat) (a b : Int) (ha : Hid (q.num = a ∧ (q.den : Int) = b)) (w : World) (h : IsQ w x q) (hr : Hid (Rep q)) :
    Calls Tryd.prog 24 #[x] w fun e w' => e = .returned (.tuple #[.agg #[.int .i64 a, .int .i64 b], .bool true]) ∧ Below w.heap.size w w' := by
  rw [← ha.out.1, ← ha.out.2]; exact frac_yes x q w h hr.out

end Go.Proofs.YtmgbecfodinhhaaDoor

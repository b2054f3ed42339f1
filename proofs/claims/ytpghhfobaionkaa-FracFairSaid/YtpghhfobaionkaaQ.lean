/- The reference's rational numbers in memory; made. -/
import Derived.Test.YtpghhfobaionkaaNatE
namespace Go.Proofs.Ytpghhfobaionkaa
open Go.RowKit

/-- The value x reads, in the world w, as the rational number q. -/
def IsQ (w : World) (x : Value) (q : Rat) : Prop :=
  ∃ (a1 a2 : Option Addr) (n1 n2 c1 c2 : Nat), x = .agg #[.bool (decide (q < 0)), .slice a1 n1 c1, .slice a2 n2 c2] ∧ IsNat w (.slice a1 n1 c1) q.num.natAbs ∧ IsNat w (.slice a2 n2 c2) q.den

theorem IsQ.below {w w' : World} {x : Value} {q : Rat} (h : IsQ w x q) (hb : Below w.heap.size w w') : IsQ w' x q := by
  obtain ⟨a1, a2, n1, n2, c1, c2, hx, h1, h2⟩ := h
  exact ⟨a1, a2, n1, n2, c1, c2, hx, h1.below hb, h2.below hb⟩

/-- The rational number of a sign, a numerator and a denominator. -/
def mkQ (ng : Bool) (m n : Nat) : Rat := mkRat (if ng then -(m : Int) else (m : Int)) n

theorem mkQ_natAbs (ng : Bool) (m n : Nat) (hn : n ≠ 0) : (mkQ ng m n).num.natAbs = m / Nat.gcd m n ∧ (mkQ ng m n).den = n / Nat.gcd m n := by
  unfold mkQ
  rw [Rat.num_mkRat, Rat.den_mkRat, if_neg hn, if_neg hn]
  cases ng
  · simp only [Bool.false_eq_true, if_false, Int.natAbs_natCast]
    rw [Nat.gcd_comm n m]
    exact ⟨by rw [← Int.natCast_ediv, Int.natAbs_natCast], rfl⟩
  · simp only [if_true, Int.natAbs_neg, Int.natAbs_natCast]
    rw [Nat.gcd_comm n m]
    refine ⟨?_, rfl⟩
    rw [Int.neg_ediv_of_dvd (Int.natCast_dvd_natCast.2 (Nat.gcd_dvd_left m n)), Int.natAbs_neg, ← Int.natCast_ediv, Int.natAbs_natCast]

theorem mkQ_neg (ng : Bool) (m n : Nat) (hn : n ≠ 0) (hm : m ≠ 0) : decide (mkQ ng m n < 0) = ng := by
  have h0 : mkQ ng m n < 0 ↔ ng = true := by
    rw [Rat.lt_iff]
    have hnum : (mkQ ng m n).num = (if ng then -(m : Int) else (m : Int)) / (Nat.gcd n m : Nat) := by
      unfold mkQ; rw [Rat.num_mkRat, if_neg hn]; cases ng <;> simp
    have hg : 0 < Nat.gcd n m := Nat.gcd_pos_of_pos_left _ (by omega)
    simp only [Rat.zero_num, Rat.zero_den, Int.zero_mul, hnum]
    cases ng
    · simp only [Bool.false_eq_true, if_false, iff_false]
      have : (0 : Int) ≤ (m : Int) / (Nat.gcd n m : Nat) := Int.ediv_nonneg (by omega) (by omega)
      omega
    · simp only [if_true, iff_true]
      have : -(m : Int) / (Nat.gcd n m : Nat) < 0 := Int.ediv_neg_of_neg_of_pos (by omega) (by omega)
      omega
  by_cases h : mkQ ng m n < 0
  · rw [decide_eq_true h, h0.1 h]
  · rw [decide_eq_false h]; cases ng
    · rfl
    · exact absurd (h0.2 rfl) h

theorem mkQ_zero (ng : Bool) (n : Nat) : mkQ ng 0 n = 0 := by unfold mkQ; cases ng <;> simp

/-- Digits lie in no block whose head is no number. -/
theorem IsDig.of_blocks {w w' : World} {v : Value} {l : List Nat} (h : IsDig w v l) (g : Nat) (hg : ∀ n, w.cell? ⟨g, 0, none⟩ ≠ some (.int .u32 n)) (hs : w.heap.size ≤ w'.heap.size) (hb : ∀ k, k ≠ g → w'.heap[k]? = w.heap[k]?) : IsDig w' v l := by
  obtain ⟨a, cap, hv, h1, h2, h3, h4⟩ := h
  refine ⟨a, cap, hv, h1, h2, h3, fun b hab => ?_⟩
  obtain ⟨k1, k2, k3, k4⟩ := h4 b hab
  refine ⟨k1, k2, Nat.lt_of_lt_of_le k3 hs, fun j hj => ?_⟩
  by_cases hbg : b.block = g
  · have := k4 0 (by omega)
    rw [hbg] at this
    exact absurd this (hg _)
  · rw [← k4 j hj]
    exact World.cell?_of_block (hb _ hbg)

theorem heap_set3 (w : World) (g : Nat) (x y z : Value) (k : Nat) (hk : k ≠ g) : (((w.setCell ⟨g, 0, none⟩ x).setCell ⟨g, 1, none⟩ y).setCell ⟨g, 2, none⟩ z).heap[k]? = w.heap[k]? := by
  rw [Below.heap_setCell _ _ _ _ hk, Below.heap_setCell _ _ _ _ hk, Below.heap_setCell _ _ _ _ hk]

/-- A block of three cells that the call itself has laid, in a later world. -/
theorem blk3 {w w1 : World} {c0 c1 c2 : Value} {T : TypeId} (h : Below (w.heap.size + 1) (w.alloc (.cells #[c0, c1, c2] T)) w1) :
    w1.cell? ⟨w.heap.size, 0, none⟩ = some c0 ∧ w1.cell? ⟨w.heap.size, 1, none⟩ = some c1 ∧ w1.cell? ⟨w.heap.size, 2, none⟩ = some c2 ∧
      w1.frozen? ⟨w.heap.size, 0, none⟩ = false ∧ w1.frozen? ⟨w.heap.size, 1, none⟩ = false ∧ w1.frozen? ⟨w.heap.size, 2, none⟩ = false ∧ w.heap.size < w1.heap.size := by
  have hb := (h.block w.heap.size (by omega)).trans (heap_alloc_new w (.cells #[c0, c1, c2] T))
  have hlt : w.heap.size < w1.heap.size := (Array.getElem?_eq_some_iff.1 hb).1
  have ec : ∀ j, w1.cell? ⟨w.heap.size, j, none⟩ = #[c0, c1, c2][j]? := fun j => by simp only [World.cell?]; rw [hb]; rfl
  have ef : ∀ j, w1.frozen? ⟨w.heap.size, j, none⟩ = false := fun j => by simp only [World.frozen?]; rw [hb]; simp
  exact ⟨ec 0, ec 1, ec 2, ef 0, ef 1, ef 2, hlt⟩

theorem rat_neg_iff (p : Rat) : p < 0 ↔ p.num < 0 := by
  rw [Rat.lt_iff]; simp

theorem natAbs_of_neg {p : Rat} {b : Bool} (h : decide (p < 0) = b) : (if b then -(p.num.natAbs : Int) else (p.num.natAbs : Int)) = p.num := by
  subst h
  by_cases hp : p < 0
  · have := (rat_neg_iff p).1 hp
    simp [hp]; omega
  · have : ¬ p.num < 0 := fun h => hp ((rat_neg_iff p).2 h)
    simp [hp]; omega

theorem mkQ_over {p q : Rat} {pn qn : Bool} (hp : decide (p < 0) = pn) (hqn : decide (q < 0) = qn) : mkQ (!(pn == qn)) (p.num.natAbs * q.den) (p.den * q.num.natAbs) = p / q := by
  have e1 := natAbs_of_neg hp
  have e2 := natAbs_of_neg hqn
  have e3 : p / q = Rat.divInt (p.num * q.den) (p.den * q.num) := by
    rw [Rat.div_def, Rat.inv_def]
    conv => lhs; rw [← Rat.num_divInt_den p]
    rw [Rat.divInt_mul_divInt]
  rw [e3]
  unfold mkQ
  rw [← Rat.divInt_ofNat]
  generalize p.num.natAbs = a at e1
  generalize q.num.natAbs = b at e2
  rw [← e1, ← e2]
  cases pn <;> cases qn
  · rw [if_neg (by decide), if_neg (by decide), if_neg (by decide), Int.natCast_mul, Int.natCast_mul]
  · rw [if_pos (by decide), if_neg (by decide), if_pos (by decide), Int.natCast_mul, Int.natCast_mul, Int.mul_neg, Rat.divInt_neg']
  · rw [if_pos (by decide), if_pos (by decide), if_neg (by decide), Int.natCast_mul, Int.natCast_mul, Int.neg_mul]
  · rw [if_neg (by decide), if_pos (by decide), if_pos (by decide), Int.natCast_mul, Int.natCast_mul, Int.neg_mul, Int.mul_neg, Rat.divInt_neg', Int.neg_neg]

theorem mkQ_times {p q : Rat} {pn qn : Bool} (hp : decide (p < 0) = pn) (hqn : decide (q < 0) = qn) : mkQ (!(pn == qn)) (p.num.natAbs * q.num.natAbs) (p.den * q.den) = p * q := by
  have e1 := natAbs_of_neg hp
  have e2 := natAbs_of_neg hqn
  rw [Rat.mul_def']
  unfold mkQ
  generalize p.num.natAbs = a at e1
  generalize q.num.natAbs = b at e2
  rw [← e1, ← e2]
  cases pn <;> cases qn
  · rw [if_neg (by decide), if_neg (by decide), if_neg (by decide), Int.natCast_mul]
  · rw [if_pos (by decide), if_neg (by decide), if_pos (by decide), Int.natCast_mul, Int.mul_neg]
  · rw [if_pos (by decide), if_pos (by decide), if_neg (by decide), Int.natCast_mul, Int.neg_mul]
  · rw [if_neg (by decide), if_pos (by decide), if_pos (by decide), Int.natCast_mul, Int.neg_mul, Int.mul_neg, Int.neg_neg]

theorem mkQ_int (n : Int) (b : Bool) (h : b = decide (n < 0)) : mkQ b n.natAbs 1 = (n : Rat) := by
  unfold mkQ
  have e : (if b then -(n.natAbs : Int) else (n.natAbs : Int)) = n := by
    subst h
    by_cases h : n < 0
    · simp [h]; omega
    · simp [h]; omega
  rw [e, Rat.mkRat_eq_div]
  grind

set_option maxRecDepth 100000 in
set_option maxHeartbeats 800000 in
theorem made_any (ng : Bool) (v u : Value) (m n : Nat) (hn : n ≠ 0) (w : World) (h : IsNat w v m) (g : IsNat w u n) (hlm : ((digs m).length : Int) ≤ 100000000) (hln : ((digs n).length : Int) ≤ 100000000) :
    Calls Try.prog 36 #[.bool ng, v, u] w fun e w' => ∃ x, e = .returned x ∧ IsQ w' x (mkQ ng m n) ∧ Below w.heap.size w w' := by
  obtain ⟨a, cap, rfl⟩ := IsDig.len h
  obtain ⟨b, cap2, rfl⟩ := IsDig.len g
  have HH := Lib.hid (And.intro h g)
  have HL := Lib.hid (And.intro hlm hln)
  have hl0 := digs_length_pos (n := m)
  clear h g hlm hln
  revert HH hl0
  generalize (digs m).length = la
  generalize (digs n).length = lb
  intro HH hl0
  by_cases h0 : m = 0
  · obtain rfl : la = 0 := by omega
    clear hl0
    go_enter Try.func36, Try.ntmps36
    go_wp2
    refine bodyPost_ret (v := .agg #[.bool false, .slice none 0 0, .slice (some ⟨w.heap.size + 1, 0, none⟩) 1 1]) (by simp [results, Try.results36, go_sem]) rfl ⟨_, rfl, ?_, ((Below.refl _ _).alloc (Nat.le_refl _) _).alloc (by simp) _⟩
    subst h0
    rw [mkQ_zero]
    have h1 := one_nat (w.alloc (.cells #[.bool false, .slice none 0 0, .slice (some ⟨w.heap.size + 1, 0, none⟩) 1 1] 52))
    simp only [World.size_alloc] at h1
    exact ⟨none, some ⟨w.heap.size + 1, 0, none⟩, 0, 1, 0, 1, rfl, IsNat.zero _, h1⟩
  · have HZ : Hid (Nat.gcd m n ≠ 0) := Lib.hid (by have := Nat.gcd_pos_of_pos_left n (Nat.pos_of_ne_zero h0); omega)
    have HG : Hid (((digs (Nat.gcd m n)).length : Int) ≤ 100000000) := Lib.hid (by have := digs_length_mono (Nat.gcd_le_left n (Nat.pos_of_ne_zero h0)); have := HL.out.1; omega)
    have hla : ((la : Int) == 0) = false := by have := hl0.2 h0; simp; omega
    clear hl0
    go_enter Try.func36, Try.ntmps36
    go_wp2_with fail
    have hB0 : Below w.heap.size w (w.alloc (.cells #[.bool false, .slice none 0 0, .slice none 0 0] 52)) := (Below.refl _ _).alloc (Nat.le_refl _) _
    have HM0 := Lib.hid (And.intro (HH.out.1.below hB0) (HH.out.2.below hB0))
    have HB0 := Lib.hid hB0
    clear hB0
    refine (divisor_any _ _ m n _ HM0.out.1 HM0.out.2 HL.out.1 HL.out.2).mono ?_
    rintro e w1 ⟨v1, rfl, hz1, hb1⟩
    have HZ1 := Lib.hid (And.intro hz1 hb1)
    clear hz1 hb1
    go_wp2_with fail
    refine (divided_any _ _ m _ HZ.out w1 (HM0.out.1.below HZ1.out.2) HZ1.out.1 HL.out.1 HG.out).mono ?_
    rintro e w2 ⟨v2, v3, rfl, hz2, hz3, hb2⟩
    have HZ2 := Lib.hid (And.intro hz2 hb2)
    clear hz2 hz3 hb2
    go_wp2_with fail
    refine (divided_any _ _ n _ HZ.out w2 ((HM0.out.2.below HZ1.out.2).below HZ2.out.2) (HZ1.out.1.below HZ2.out.2) HL.out.2 HG.out).mono ?_
    rintro e w3 ⟨v4, v5, rfl, hz4, hz5, hb3⟩
    have HZ3 := Lib.hid (And.intro hz4 hb3)
    have hb4 : Below (w.heap.size + 1) (w.alloc (.cells #[.bool false, .slice none 0 0, .slice none 0 0] 52)) w3 := by
      have h1 := HZ1.out.2
      have h2 := HZ2.out.2
      simp only [World.size_alloc] at h1
      have s1 := h1.size
      have s2 := h2.size
      simp only [World.size_alloc] at s1
      exact (h1.trans (h2.mono s1)).trans (hb3.mono (by omega))
    have HB4 := Lib.hid hb4
    obtain ⟨hc0, hc1, hc2, hf0, hf1, hf2, hsz⟩ := blk3 hb4
    obtain ⟨a2, n2, c2, hv2⟩ : ∃ a2 n2 c2, v2 = .slice a2 n2 c2 := by obtain ⟨a2, c2, h⟩ := IsDig.len HZ2.out.1; exact ⟨a2, _, c2, h⟩
    obtain ⟨a4, n4, c4, hv4⟩ : ∃ a2 n2 c2, v4 = .slice a2 n2 c2 := by obtain ⟨a2, c2, h⟩ := IsDig.len hz4; exact ⟨a2, _, c2, h⟩
    clear hz4 hz5 hb3 hb4
    subst hv2 hv4
    go_wp2
    refine bodyPost_ret (v := .agg #[.bool ng, .slice a2 n2 c2, .slice a4 n4 c4]) (by simp [results, Try.results36, go_sem, hc0, hc1, hc2]) rfl ?_
    have hq := mkQ_natAbs ng m n hn
    have hneg := mkQ_neg ng m n hn h0
    have hg : ∀ n, w3.cell? ⟨w.heap.size, 0, none⟩ ≠ some (.int .u32 n) := fun n h => by rw [hc0] at h; cases h
    have r2 := IsDig.of_blocks (w' := ((w3.setCell ⟨w.heap.size, 0, none⟩ (.bool ng)).setCell ⟨w.heap.size, 1, none⟩ (.slice a2 n2 c2)).setCell ⟨w.heap.size, 2, none⟩ (.slice a4 n4 c4)) (HZ2.out.1.below HZ3.out.2) w.heap.size hg (by simp [World.setCell]) (heap_set3 _ _ _ _ _)
    have r4 := IsDig.of_blocks (w' := ((w3.setCell ⟨w.heap.size, 0, none⟩ (.bool ng)).setCell ⟨w.heap.size, 1, none⟩ (.slice a2 n2 c2)).setCell ⟨w.heap.size, 2, none⟩ (.slice a4 n4 c4)) HZ3.out.1 w.heap.size hg (by simp [World.setCell]) (heap_set3 _ _ _ _ _)
    refine ⟨_, rfl, ⟨a2, a4, n2, n4, c2, c4, by rw [hneg], by unfold IsNat; rw [hq.1]; exact r2, by unfold IsNat; rw [hq.2]; exact r4⟩, ?_⟩
    exact (((HB0.out.trans (HB4.out.mono (by omega))).setCell (Nat.le_refl _) _).setCell (Nat.le_refl _) _).setCell (Nat.le_refl _) _

/-- The value of a rational, part by part. -/
theorem IsQ.agg {w : World} {x : Value} {q : Rat} (h : IsQ w x q) : ∃ b u k c u2 k2 c2, x = .agg #[.bool b, .slice u k c, .slice u2 k2 c2] ∧ IsQ w (.agg #[.bool b, .slice u k c, .slice u2 k2 c2]) q := by
  obtain ⟨a1, a2, n1, n2, c1, c2, hx, h1, h2⟩ := h
  exact ⟨_, _, _, _, _, _, _, hx, a1, a2, n1, n2, c1, c2, rfl, h1, h2⟩

/-- A contract whose result is a rational, part by part. -/
theorem calls_q {f : FuncId} {args : Array Value} {w : World} {q : Rat} (h : Calls Try.prog f args w fun e w' => ∃ x, e = .returned x ∧ IsQ w' x q ∧ Below w.heap.size w w') :
    Calls Try.prog f args w fun e w' => ∃ b u k c u2 k2 c2, e = .returned (.agg #[.bool b, .slice u k c, .slice u2 k2 c2]) ∧ IsQ w' (.agg #[.bool b, .slice u k c, .slice u2 k2 c2]) q ∧ Below w.heap.size w w' :=
  h.mono fun e w' ⟨x, he, hq, hb⟩ => by
    obtain ⟨b, u, k, c, u2, k2, c2, hx, hq2⟩ := hq.agg
    exact ⟨b, u, k, c, u2, k2, c2, by rw [he, hx], hq2, hb⟩

end Go.Proofs.Ytpghhfobaionkaa

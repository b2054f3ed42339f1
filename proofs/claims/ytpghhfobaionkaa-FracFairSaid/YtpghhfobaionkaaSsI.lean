/- Sorting in place: blocks of twenty, then merges: the stable sort of 0, 1, .. N - 1 (no program). -/
import Derived.Test.YtpghhfobaionkaaSsB
namespace Go.Proofs.Ytpghhfobaionkaa

/-- The first e places are sorted in blocks of B, each of which holds its own numbers; behind them each place holds its own. -/
structure Blk (key : Int → Int) (B N e : Nat) (f : Nat → Int) : Prop where
  srt : ∀ i j, i < j → j < e → i / B = j / B → ahd key (f i) (f j)
  own : ∀ i, i < e → 0 ≤ f i ∧ ((f i).toNat) / B = i / B ∧ f i < N
  rest : ∀ i, e ≤ i → i < N → f i = i

/-- One block of twenty more. -/
theorem Blk.step {key : Int → Int} {N e b : Nat} {f g : Nat → Int} (h : Blk key 20 N e f) (he : e % 20 = 0) (hb : b ≤ e + 20) (heb : e ≤ b) (hN : b ≤ N) (p : Pm N e b f g) (s : Srt key e b g) : Blk key 20 N b g where
  srt i j h1 h2 h3 := by
    by_cases hj : j < e
    · rw [p.out i (by omega), p.out j (by omega)]; exact h.srt i j h1 hj h3
    · exact s i j (by omega) h1 h2
  own i hi := by
    by_cases hie : i < e
    · rw [p.out i (by omega)]; exact h.own i hie
    · obtain ⟨k, h1, h2, e1⟩ := p.img i (by omega) hi
      rw [e1, h.rest k h1 (by omega)]
      refine ⟨by omega, ?_, by omega⟩
      omega
  rest i h1 h2 := by rw [p.out i (by omega)]; exact h.rest i (by omega) h2

theorem Blk.start (key : Int → Int) (N : Nat) : Blk key 20 N 0 fun k => k := ⟨fun _ _ _ h => by omega, fun _ h => by omega, fun _ _ _ => rfl⟩

theorem Blk.inc {key : Int → Int} {N e b : Nat} {f : Nat → Int} (h : Blk key 20 N e f) (hN : b ≤ N) : ∀ i j, e ≤ i → i < j → j < b → f i < f j := fun i j h1 h2 h3 => by
  rw [h.rest i h1 (by omega), h.rest j (by omega) (by omega)]; omega

/-- All blocks of B sorted. -/
def BlkA (key : Int → Int) (B N : Nat) (f : Nat → Int) : Prop := Blk key B N N f

/-- Two neighbouring blocks before they are merged. -/
theorem BlkA.pre20 {key : Int → Int} {N a b : Nat} {f : Nat → Int} (h : BlkA key 20 N f) (ha : a = 0 ∨ a = 40) (h1 : a + 20 < b) (h2 : b ≤ a + 40) (hN : b ≤ N) : Srt key a (a + 20) f ∧ Srt key (a + 20) b f ∧ Lft a (a + 20) b f := by
  refine ⟨fun i j p q r => h.srt i j q (by omega) (by omega), fun i j p q r => h.srt i j q (by omega) (by omega), fun i j p q r s => ?_⟩
  have o1 := h.own i (by omega)
  have o2 := h.own j (by omega)
  omega
theorem BlkA.pre40 {key : Int → Int} {N b : Nat} {f : Nat → Int} (h : BlkA key 40 N f) (h1 : 40 < b) (h2 : b ≤ 80) (hN : b ≤ N) : Srt key 0 40 f ∧ Srt key 40 b f ∧ Lft 0 40 b f := by
  refine ⟨fun i j p q r => h.srt i j q (by omega) (by omega), fun i j p q r => h.srt i j q (by omega) (by omega), fun i j p q r s => ?_⟩
  have o1 := h.own i (by omega)
  have o2 := h.own j (by omega)
  omega

/-- Merging: the blocks up to e are of forty, those behind of twenty. -/
structure Mx (key : Int → Int) (N e : Nat) (f : Nat → Int) : Prop where
  lo : ∀ i j, i < j → j < e → i / 40 = j / 40 → ahd key (f i) (f j)
  hi : ∀ i j, e ≤ i → i < j → j < N → i / 20 = j / 20 → ahd key (f i) (f j)
  o1 : ∀ i, i < e → 0 ≤ f i ∧ ((f i).toNat) / 40 = i / 40 ∧ f i < N
  o2 : ∀ i, e ≤ i → i < N → 0 ≤ f i ∧ ((f i).toNat) / 20 = i / 20 ∧ f i < N

theorem Mx.start {key : Int → Int} {N : Nat} {f : Nat → Int} (h : BlkA key 20 N f) : Mx key N 0 f :=
  ⟨fun _ _ _ h => by omega, fun i j _ h1 h2 h3 => h.srt i j h1 h2 h3, fun _ h => by omega, fun i _ h1 => h.own i h1⟩

theorem Mx.pre {key : Int → Int} {N a b : Nat} {f : Nat → Int} (h : Mx key N a f) (ha : a % 40 = 0) (h1 : a + 20 < b) (h2 : b ≤ a + 40) (hN : b ≤ N) : Srt key a (a + 20) f ∧ Srt key (a + 20) b f ∧ Lft a (a + 20) b f := by
  refine ⟨fun i j p q r => h.hi i j p q (by omega) (by omega), fun i j p q r => h.hi i j (by omega) q (by omega) (by omega), fun i j p q r s => ?_⟩
  have o1 := h.o2 i p (by omega)
  have o2 := h.o2 j (by omega) (by omega)
  omega

theorem Mx.step {key : Int → Int} {N a b : Nat} {f g : Nat → Int} (h : Mx key N a f) (ha : a % 40 = 0) (h1 : a + 20 < b) (h2 : b ≤ a + 40) (hN : b ≤ N) (hb : b = a + 40 ∨ b = N) (p : Pm N a b f g) (s : Srt key a b g) : Mx key N b g where
  lo i j q r t := by
    by_cases hj : j < a
    · rw [p.out i (by omega), p.out j (by omega)]; exact h.lo i j q hj t
    · exact s i j (by omega) q r
  hi i j q r t u := by rw [p.out i (by omega), p.out j (by omega)]; exact h.hi i j (by omega) r t u
  o1 i hi := by
    by_cases hia : i < a
    · rw [p.out i (by omega)]; exact h.o1 i hia
    · obtain ⟨k, q1, q2, e⟩ := p.img i (by omega) hi
      have := h.o2 k q1 (by omega)
      rw [e]
      omega
  o2 i q r := by rw [p.out i (by omega)]; exact h.o2 i (by omega) r

/-- No second block: the tail stays as it is. -/
theorem Mx.done {key : Int → Int} {N a : Nat} {f : Nat → Int} (h : Mx key N a f) (ha : a % 40 = 0) (haN : a ≤ N) (h1 : N ≤ a + 20) : BlkA key 40 N f where
  srt i j p q r := by
    by_cases hj : j < a
    · exact h.lo i j p hj r
    · exact h.hi i j (by omega) p q (by omega)
  own i hi := by
    by_cases hia : i < a
    · exact h.o1 i hia
    · have := h.o2 i (by omega) hi
      omega
  rest i h1 h2 := by omega
theorem Mx.full {key : Int → Int} {N : Nat} {f : Nat → Int} (h : Mx key N N f) : BlkA key 40 N f where
  srt i j p q r := h.lo i j p q r
  own i hi := h.o1 i hi
  rest i h1 h2 := by omega

theorem BlkA.one20 {key : Int → Int} {N : Nat} {f : Nat → Int} (h : BlkA key 20 N f) (hN : N ≤ 20) : Srt key 0 N f := fun i j _ q r => h.srt i j q r (by omega)
theorem BlkA.one40 {key : Int → Int} {N : Nat} {f : Nat → Int} (h : BlkA key 40 N f) (hN : N ≤ 40) : Srt key 0 N f := fun i j _ q r => h.srt i j q r (by omega)

/-- The numbers 0 .. N - 1, sorted. -/
structure Enum (key : Int → Int) (N : Nat) (f : Nat → Int) : Prop where
  srt : Srt key 0 N f
  pm : Pm N 0 N (fun k => k) f

theorem Enum.range {key : Int → Int} {N : Nat} {f : Nat → Int} (h : Enum key N f) {k : Nat} (hk : k < N) : 0 ≤ f k ∧ f k < N := by
  obtain ⟨k', _, h2, e⟩ := h.pm.img k (by omega) hk
  rw [e]; omega
theorem Enum.inj {key : Int → Int} {N : Nat} {f : Nat → Int} (h : Enum key N f) {i j : Nat} (hi : i < N) (hj : j < N) (e : f i = f j) : i = j := by
  by_cases h1 : i < j
  · have := h.srt i j (by omega) h1 hj; rw [e] at this; exact this.irrefl.elim
  · by_cases h2 : j < i
    · have := h.srt j i (by omega) h2 hi; rw [e] at this; exact this.irrefl.elim
    · omega
theorem Enum.onto {key : Int → Int} {N : Nat} {f : Nat → Int} (h : Enum key N f) {x : Nat} (hx : x < N) : ∃ k, k < N ∧ f k = x := by
  obtain ⟨k, _, h2, e⟩ := h.pm.gmi x (by omega) hx
  exact ⟨k, h2, e.symm⟩

end Go.Proofs.Ytpghhfobaionkaa

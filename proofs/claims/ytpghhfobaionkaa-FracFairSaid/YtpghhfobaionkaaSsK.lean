/- The positions by falling remainders: byRemainder. -/
import Derived.Test.YtpghhfobaionkaaSsJ
import Derived.Test.YtpghhfobaionkaaArg
namespace Go.Proofs.Ytpghhfobaionkaa
open Go.RowKit

theorem made_ints (n : Nat) : madeCells (Value.int .i64 0).cells n = arrC n fun _ => 0 := by
  apply Array.ext'
  apply List.ext_getElem
  · simp [madeCells, arrC]
  · intro i h1 h2
    simp [madeCells, arrC, Value.cells, Nat.mod_one]

theorem infoInt : (Try.prog.info? 3).map (fun i => (i.zero, i.size, i.bytes)) = some (some (.int .i64 0), 1, 8) := by kernel_rfl

theorem run_make_ints (n : Nat) (hn : (n : Int) ≤ 1000000) (w : World) :
    (Instr.makeSlice 30 (.int .i64 n) (.int .i64 n)).run Try.prog w = .ok (.slice (some ⟨w.heap.size, 0, none⟩) n n) (w.alloc (.cells (arrC n fun _ => 0) 3)) := by
  obtain ⟨i0, hi, hz0, hz1, hz2⟩ := info_parts infoInt
  have h := run_make (P := Try.prog) w 30 3 i0 (.int .i64 0) Try.underlying30 hi hz0 .i64 .i64 n n (by omega) (by omega) (by rw [hz2]; omega) (by omega)
  rw [h]
  simp only [Int.toNat_natCast, hz1, Nat.mul_one, made_ints]

theorem St.start (w : World) (N : Nat) (f : Nat → Int) (T : TypeId) : St (w.alloc (.cells (arrC N f) T)) w.heap.size N T f (w.alloc (.cells (arrC N f) T)) := ⟨rfl, rfl, rfl, rfl, heap_alloc_new _ _, fun _ _ => rfl⟩

theorem St.below {w wa w' : World} {g N : Nat} {T : TypeId} {f : Nat → Int} (hb : Below w.heap.size w wa) (hg : w.heap.size ≤ g) (h : St wa g N T f w') : Below w.heap.size w w' :=
  ⟨h.os.trans hb.os, h.tape.trans hb.tape, h.output.trans hb.output, by rw [h.size]; exact hb.size, fun k hk => (h.oth k (by omega)).trans (hb.block k hk)⟩

theorem sort_any (g C b3 b4 b5 N : Nat) (av : Option Addr) (cap : Nat) (n all : Int) (ws : List Int) (T : TypeId) (hN : Hid (N = ws.length)) (w : World) (h : St w g N T (fun k => k) w) (hcap : Cap w g b3 b4 b5 av cap n all ws) :
    Calls Try.prog 27 #[.slice (some ⟨g, 0, none⟩) N C, cmpV 28 b3 b4 b5] w fun e w' => e = .returned (.tuple #[]) ∧ ∃ f', Hid (Enum (keyOf n all ws) N f') ∧ St w g N T f' w' := by
  have HS : Hid (Calls Try.prog 42 #[.slice (some ⟨g, 0, none⟩) N C, .int .i64 N, cmpV 28 b3 b4 b5] w fun e w' => e = .returned (.tuple #[]) ∧ ∃ f', Hid (Enum (keyOf n all ws) N f') ∧ St w g N T f' w') := by
    have e := hN.out
    clear hN
    subst e
    exact Lib.hid (stable_any g C b3 b4 b5 av cap n all ws T w h hcap)
  clear h hcap
  go_enter Try.func27, Try.ntmps27
  go_wp2_with fail
  refine HS.out.mono ?_
  rintro e w1 ⟨rfl, f', HE, hW⟩
  have HW := Lib.hid hW
  clear hW
  go_wp2
  go_end0
  exact ⟨rfl, f', HE, HW.out⟩

/-- How byRemainder ends. -/
def RemP (n all : Int) (zs : List Int) (w : World) (e : Ending) (w' : World) : Prop :=
  ∃ g f', e = .returned (.slice (some ⟨g, 0, none⟩) zs.length zs.length) ∧ Hid (Enum (keyOf n all zs) zs.length f') ∧ Hid (w.heap.size ≤ g ∧ w'.heap[g]? = some (.cells (arrC zs.length f') 3 (0, 0))) ∧ Below w.heap.size w w'

set_option maxRecDepth 100000 in
set_option maxHeartbeats 3200000 in
theorem byRem_any (a : Option Addr) (cap : Nat) (zs : List Int) (n all : Int) (hz : ∀ z ∈ zs, 0 ≤ z ∧ z ≤ 1000000000) (hlen : zs.length ≤ 64) (n0 : 0 ≤ n) (n1 : n ≤ 1000000000) (a0 : 0 < all) (a1 : all ≤ 1000000000000) (w : World) (h : IntS w a zs) :
    Calls Try.prog 19 #[.int .i64 n, .slice a zs.length cap, .int .i64 all] w (RemP n all zs w) := by
  obtain ⟨N, hN⟩ : ∃ N, N = zs.length := ⟨_, rfl⟩
  have HN := Lib.hid hN
  have hl : (N : Int) ≤ 64 := by omega
  have hmk := run_make_ints N (by omega) (((w.alloc (.cells #[.int .i64 n] 3)).alloc (.cells #[.slice a N cap] 30)).alloc (.cells #[.int .i64 all] 3))
  have hcap : Cap ((((w.alloc (.cells #[.int .i64 n] 3)).alloc (.cells #[.slice a N cap] 30)).alloc (.cells #[.int .i64 all] 3)).alloc (.cells (arrC N fun _ => 0) 3)) (w.heap.size + 1 + 1 + 1) w.heap.size (w.heap.size + 1) (w.heap.size + 1 + 1) a cap n all zs := by
    have hM := (((Mem.nil w).alloc #[.int .i64 n] 3).alloc #[.slice a N cap] 30).alloc #[.int .i64 all] 3
    have hM := hM.skip (.cells (arrC N fun _ => 0) 3)
    simp only [World.size_alloc] at hM
    refine ⟨by omega, by omega, by omega, hM.tail.tail.cell 0, by rw [← hN]; exact hM.tail.cell 0, hM.cell 0, fun k hk => ?_, n0, n1, a0, a1, hz, hlen⟩
    obtain ⟨b, off, e, hlt, hc⟩ := h.at_ hk
    exact ⟨b, off, e, by omega, (hM.b.cell (p := ⟨b, off + k, none⟩) hlt).trans hc⟩
  have HC := Lib.hid hcap
  have HS0 := Lib.hid (St.start (((w.alloc (.cells #[.int .i64 n] 3)).alloc (.cells #[.slice a N cap] 30)).alloc (.cells #[.int .i64 all] 3)) N (fun _ => 0) 3)
  have HB0 : Hid (Below w.heap.size w ((((w.alloc (.cells #[.int .i64 n] 3)).alloc (.cells #[.slice a N cap] 30)).alloc (.cells #[.int .i64 all] 3)).alloc (.cells (arrC N fun _ => 0) 3))) := Lib.hid (((((Below.refl _ _).alloc (Nat.le_refl _) _).alloc (by simp) _).alloc (by simp; omega) _).alloc (by simp; omega) _)
  rw [← hN]
  clear hcap h hN
  go_enter Try.func19, Try.ntmps19
  go_wp2
  generalize hwa : (((w.alloc (.cells #[.int .i64 n] 3)).alloc (.cells #[.slice a N cap] 30)).alloc (.cells #[.int .i64 all] 3)).alloc (.cells (arrC N fun _ => 0) 3) = wa at *
  have HG : Hid (St wa (w.heap.size + 1 + 1 + 1) N 3 (fun _ => 0) wa) := Lib.hid (by
    have := HS0.out
    simp only [World.size_alloc] at this
    exact this)
  clear HS0 hmk hwa
  go_loopw [14] (fun i wr => ∃ k : Nat, k ≤ N ∧ i = .int .i64 k ∧ Hid (St wa (w.heap.size + 1 + 1 + 1) N 3 (fun p => if p < k then (p : Int) else 0) wr)) (fun i _ => N - (intOf i).toNat)
  case atStart => exact ⟨0, Nat.zero_le _, rfl, Lib.hid (HG.out.congr fun k _ => by rw [if_neg (by omega)])⟩
  case round =>
    obtain ⟨k, hk, rfl, HW⟩ := hrel
    by_cases hlt : k < N
    · have hlt' : (k : Int) < N := by omega
      have c1 := HW.out.cell (i := k) hlt
      have z1 := HW.out.frozen k
      have hk0 : (0 : Int) ≤ (k : Int) := by omega
      have HW' := Lib.hid ((HW.out.set k (k : Int)).congr (f' := fun p => if p < k + 1 then (p : Int) else 0) fun p _ => by
        by_cases e : p = k
        · rw [if_pos e, if_pos (by omega), e]
        · rw [if_neg e]
          by_cases h1 : p < k
          · rw [if_pos h1, if_pos (by omega)]
          · rw [if_neg h1, if_neg (by omega)])
      go_wp2
      go_roundw
      case rel => exact ⟨k + 1, by omega, by go_num, HW'⟩
      case measure => simp [intOf]; omega
    · obtain rfl : k = N := by omega
      have HI : Hid (St wr (w.heap.size + 1 + 1 + 1) k 3 (fun p => (p : Int)) wr) := Lib.hid (HW.out.self.congr fun p hp => by rw [if_pos hp])
      have HC2 := Lib.hid (HC.out.st HW.out)
      go_wp2_with fail
      refine (sort_any (w.heap.size + 1 + 1 + 1) k w.heap.size (w.heap.size + 1) (w.heap.size + 1 + 1) k a cap n all zs 3 HN _ HI.out HC2.out).mono ?_
      rintro e w1 ⟨rfl, f', HE, hW1⟩
      have HF : Hid ((w.heap.size ≤ w.heap.size + 1 + 1 + 1 ∧ w1.heap[w.heap.size + 1 + 1 + 1]? = some (.cells (arrC k f') 3 (0, 0))) ∧ Below w.heap.size w w1) := Lib.hid ⟨⟨by omega, hW1.arr⟩, St.below HB0.out (by omega) (HW.out.trans hW1)⟩
      clear hW1
      go_wp2
      go_ret
      have e := HN.out
      clear HN HC HC2 HI HW
      subst e
      exact ⟨_, f', rfl, HE, Lib.hid HF.out.1, HF.out.2⟩

end Go.Proofs.Ytpghhfobaionkaa

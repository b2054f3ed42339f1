/- Skins: Crop and Punch; the reference's checked and in. -/
import Derived.Test.YtdhnifhehhbjeaaSlI
namespace Go.Proofs.Ytdhnifhehhbjeaa
open Go.RowKit

/-- A rectangle that lies in a skin. -/
theorem rectE_zero {ss : List ByteArray} {x y u v : Int} (h : rectE ss x y u v = 0) : skB ss = true ∧ ∃ X Y U V : Nat, x = X ∧ y = Y ∧ u = U ∧ v = V ∧ 1 ≤ U ∧ 1 ≤ V ∧ X + U ≤ wid ss ∧ Y + V ≤ ss.length := by
  unfold rectE at h
  split at h
  · rename_i hb
    simp only [Bool.and_eq_true] at hb
    split at h
    · rename_i hl
      obtain ⟨r1, r2, r3, r4⟩ := rectB_iff.1 hb.2
      obtain ⟨q1, q2, q3, q4⟩ := liesB_iff.1 hl
      obtain ⟨X, rfl⟩ := Int.eq_ofNat_of_zero_le r1
      obtain ⟨Y, rfl⟩ := Int.eq_ofNat_of_zero_le r2
      obtain ⟨U, rfl⟩ := Int.eq_ofNat_of_zero_le (show 0 ≤ u by omega)
      obtain ⟨V, rfl⟩ := Int.eq_ofNat_of_zero_le (show 0 ≤ v by omega)
      exact ⟨hb.1, X, Y, U, V, rfl, rfl, rfl, rfl, by omega, by omega, by omega, by omega⟩
    · omega
  · omega
theorem rectE_ok (ss : List ByteArray) (x y u v : Int) : rectE ss x y u v = 0 ∨ rectE ss x y u v = 2 ∨ rectE ss x y u v = 5 := by
  unfold rectE
  split
  · split
    · exact .inl rfl
    · exact .inr (.inr rfl)
  · exact .inr (.inl rfl)

def croB (ss : List ByteArray) (X Y U V : Nat) : List ByteArray := drawB U V (croG ss X Y)
def punB (ss : List ByteArray) (X Y U V : Nat) : List ByteArray := drawB (wid ss) ss.length (punG ss X Y U V)
theorem punG_nine {ss : List ByteArray} (hs : skB ss = true) (X Y U V x y : Nat) : punG ss X Y U V x y ≤ 9 := by
  unfold punG
  split
  · omega
  · exact (grd_toNat hs _ _).1

set_option maxRecDepth 100000 in
set_option maxHeartbeats 1600000 in
theorem crop_yes (a : Option Addr) (cap : Nat) (ss : List ByteArray) (hs : skB ss = true) (X Y U V : Nat) (hE : rectE ss X Y U V = 0) (hU : X + U ≤ wid ss) (hV : Y + V ≤ ss.length) (w : World) (h : StrS w a ss) :
    Calls Try.prog 32 #[.slice a ss.length cap, .agg #[.int .i64 X, .int .i64 Y, .int .i64 U, .int .i64 V]] w fun e w' => ∃ n, e = .returned (.tuple #[.slice (some ⟨n, 0, none⟩) (croB ss X Y U V).length (croB ss X Y U V).length, .int .i64 0]) ∧ StrS w' (some ⟨n, 0, none⟩) (croB ss X Y U V) ∧ Below w.heap.size w w' := by
  obtain ⟨⟨hl1, hl2⟩, ⟨hw1, hw2⟩, -⟩ := skB_iff.1 hs
  have HCR := Lib.hid (fun w' (hb : Below w.heap.size w w') => checkRect_any a cap ss (sk_long hs).1 (sk_long hs).2 X Y U V w' (h.below hb))
  rw [hE] at HCR
  have HM := Lib.hid (((Mem.nil w).alloc #[.slice a ss.length cap] 22).alloc_at (H := w.heap.size + 1) (by simp) #[.int .i64 X, .int .i64 Y, .int .i64 U, .int .i64 V] 39)
  have HD : Hid (∀ w' n, Mem w [(n, #[.int .i64 X, .int .i64 Y], 87), (w.heap.size + 1, #[.int .i64 X, .int .i64 Y, .int .i64 U, .int .i64 V], 39), (w.heap.size, #[.slice a ss.length cap], 22)] w' → Calls Try.prog 63 #[.int .i64 U, .int .i64 V, .func (.func 67) #[] #[.pointer (some ⟨w.heap.size, 0, none⟩), .pointer (some ⟨n, 0, none⟩)]] w' fun e w'' => ∃ n, e = .returned (.slice (some ⟨n, 0, none⟩) V V) ∧ StrS w'' (some ⟨n, 0, none⟩) (croB ss X Y U V) ∧ Below w'.heap.size w' w'') := Lib.hid (fun w' n hm =>
    draw_crop _ _ U V (by omega) (by omega) (croG ss X Y) (fun x y _ _ => (grd_toNat hs _ _).1) w' w' (Below.refl _ _) (fun w2 x y hb hx hy =>
      cropClo w' w.heap.size n a cap ss hs X Y (by omega) (by omega) (hm.tail.tail.cell 0) hm.tail.tail.head_lt (hm.cell 0) (hm.cell 1) hm.head_lt (h.mem hm) x y (by omega) (by omega) w2 hb))
  have hlen : (croB ss X Y U V).length = V := drawB_len _ _ _
  rw [hlen]
  obtain ⟨T, hT⟩ : ∃ T, T = croB ss X Y U V := ⟨_, rfl⟩
  rw [← hT] at HD ⊢
  clear hs h hT hlen hE hU hV
  go_enter Try.func32, Try.ntmps32
  go_wp2_with fail
  refine (HCR.out _ HM.out.b).mono ?_
  rintro e w1 ⟨rfl, hb⟩
  have HM1 := Lib.hid (HM.out.step hb)
  have c0 := HM1.out.cell 0
  have c1 := HM1.out.cell 1
  have c2 := HM1.out.cell 2
  have c3 := HM1.out.cell 3
  have l0 := HM1.out.head_lt
  simp at c0 c1 c2 c3
  have HM2 := Lib.hid (HM1.out.alloc #[.int .i64 X, .int .i64 Y] 87)
  clear hb
  go_wp2_with fail
  refine (HD.out _ _ HM2.out).mono ?_
  rintro e w2 ⟨n, rfl, hst, hb⟩
  have HE := Lib.hid (And.intro hst (HM2.out.step hb).b)
  clear hst hb
  go_wp2
  go_ret2
  exact ⟨_, rfl, HE.out.1, HE.out.2⟩

set_option maxRecDepth 100000 in
set_option maxHeartbeats 1600000 in
theorem crop_no (a : Option Addr) (cap : Nat) (ss : List ByteArray) (hl : (ss.length : Int) ≤ 9223372036854775807) (hz : ∀ s ∈ ss, s.size ≤ 9223372036854775807) (x y u v E : Int) (hE : rectE ss x y u v = E) (hE2 : E = 2 ∨ E = 5) (w : World) (h : StrS w a ss) :
    Calls Try.prog 32 #[.slice a ss.length cap, .agg #[.int .i64 x, .int .i64 y, .int .i64 u, .int .i64 v]] w fun e w' => e = .returned (.tuple #[.slice none 0 0, .int .i64 E]) ∧ Below w.heap.size w w' := by
  have HCR := Lib.hid (fun w' (hb : Below w.heap.size w w') => checkRect_any a cap ss hl hz x y u v w' (h.below hb))
  rw [hE] at HCR
  have HM := Lib.hid (((Mem.nil w).alloc #[.slice a ss.length cap] 22).alloc_at (H := w.heap.size + 1) (by simp) #[.int .i64 x, .int .i64 y, .int .i64 u, .int .i64 v] 39)
  clear h hE hl hz
  rcases hE2 with rfl | rfl
  all_goals
    go_enter Try.func32, Try.ntmps32
    go_wp2_with fail
    refine (HCR.out _ HM.out.b).mono ?_
    rintro e w1 ⟨rfl, hb⟩
    have HE := Lib.hid (HM.out.step hb).b
    clear hb
    go_wp2
    go_ret2
    exact ⟨rfl, HE.out⟩

set_option maxRecDepth 100000 in
set_option maxHeartbeats 1600000 in
theorem punch_yes (a : Option Addr) (cap : Nat) (ss : List ByteArray) (hs : skB ss = true) (X Y U V : Nat) (hE : rectE ss X Y U V = 0) (hU : X + U ≤ wid ss) (hV : Y + V ≤ ss.length) (w : World) (h : StrS w a ss) :
    Calls Try.prog 34 #[.slice a ss.length cap, .agg #[.int .i64 X, .int .i64 Y, .int .i64 U, .int .i64 V]] w fun e w' => ∃ n, e = .returned (.tuple #[.slice (some ⟨n, 0, none⟩) (punB ss X Y U V).length (punB ss X Y U V).length, .int .i64 0]) ∧ StrS w' (some ⟨n, 0, none⟩) (punB ss X Y U V) ∧ Below w.heap.size w w' := by
  obtain ⟨⟨hl1, hl2⟩, ⟨hw1, hw2⟩, -⟩ := skB_iff.1 hs
  have HCR := Lib.hid (fun w' (hb : Below w.heap.size w w') => checkRect_any a cap ss (sk_long hs).1 (sk_long hs).2 X Y U V w' (h.below hb))
  rw [hE] at HCR
  have HSZ : Hid (∀ w', Below w.heap.size w w' → Calls Try.prog 62 #[.slice a ss.length cap] w' fun e w'' => e = .returned (.tuple #[.int .i64 (wid ss), .int .i64 ss.length]) ∧ w' = w'') := Lib.hid (fun w' hb => skSize_any a cap ss (by omega) (by omega) w' (h.below hb))
  have HM := Lib.hid (((Mem.nil w).alloc #[.slice a ss.length cap] 22).alloc_at (H := w.heap.size + 1) (by simp) #[.int .i64 X, .int .i64 Y, .int .i64 U, .int .i64 V] 39)
  have HD : Hid (∀ w', Mem w [(w.heap.size + 1, #[.int .i64 X, .int .i64 Y, .int .i64 U, .int .i64 V], 39), (w.heap.size, #[.slice a ss.length cap], 22)] w' → Calls Try.prog 63 #[.int .i64 (wid ss), .int .i64 ss.length, .func (.func 70) #[] #[.pointer (some ⟨w.heap.size + 1, 0, none⟩), .pointer (some ⟨w.heap.size, 0, none⟩)]] w' fun e w'' => ∃ n, e = .returned (.slice (some ⟨n, 0, none⟩) ss.length ss.length) ∧ StrS w'' (some ⟨n, 0, none⟩) (punB ss X Y U V) ∧ Below w'.heap.size w' w'') := Lib.hid (fun w' hm =>
    draw_punch _ _ (wid ss) ss.length hw2 hl2 (punG ss X Y U V) (fun x y _ _ => punG_nine hs X Y U V x y) w' w' (Below.refl _ _) (fun w2 x y hb hx hy =>
      punchClo w' w.heap.size (w.heap.size + 1) a cap ss hs X Y U V (by omega) (by omega) (hm.tail.cell 0) hm.tail.head_lt (hm.cell 0) (hm.cell 1) (hm.cell 2) (hm.cell 3) hm.head_lt (h.mem hm) x y w2 hb))
  have hlen : (punB ss X Y U V).length = ss.length := drawB_len _ _ _
  rw [hlen]
  obtain ⟨T, hT⟩ : ∃ T, T = punB ss X Y U V := ⟨_, rfl⟩
  rw [← hT] at HD ⊢
  clear hs h hT hlen hE hU hV
  go_enter Try.func34, Try.ntmps34
  go_wp2_with fail
  refine (HCR.out _ HM.out.b).mono ?_
  rintro e w1 ⟨rfl, hb⟩
  have HM1 := Lib.hid (HM.out.step hb)
  have s0 := HM1.out.tail.cell 0
  have l0 := HM1.out.tail.head_lt
  simp at s0
  clear hb
  go_wp2_with fail
  refine (HSZ.out _ HM1.out.b).mono ?_
  rintro e w2 ⟨rfl, rfl⟩
  go_wp2_with fail
  refine (HD.out _ HM1.out).mono ?_
  rintro e w2 ⟨n, rfl, hst, hb⟩
  have HE := Lib.hid (And.intro hst (HM1.out.step hb).b)
  clear hst hb
  go_wp2
  go_ret2
  exact ⟨_, rfl, HE.out.1, HE.out.2⟩

set_option maxRecDepth 100000 in
set_option maxHeartbeats 1600000 in
theorem punch_no (a : Option Addr) (cap : Nat) (ss : List ByteArray) (hl : (ss.length : Int) ≤ 9223372036854775807) (hz : ∀ s ∈ ss, s.size ≤ 9223372036854775807) (x y u v E : Int) (hE : rectE ss x y u v = E) (hE2 : E = 2 ∨ E = 5) (w : World) (h : StrS w a ss) :
    Calls Try.prog 34 #[.slice a ss.length cap, .agg #[.int .i64 x, .int .i64 y, .int .i64 u, .int .i64 v]] w fun e w' => e = .returned (.tuple #[.slice none 0 0, .int .i64 E]) ∧ Below w.heap.size w w' := by
  have HCR := Lib.hid (fun w' (hb : Below w.heap.size w w') => checkRect_any a cap ss hl hz x y u v w' (h.below hb))
  rw [hE] at HCR
  have HM := Lib.hid (((Mem.nil w).alloc #[.slice a ss.length cap] 22).alloc_at (H := w.heap.size + 1) (by simp) #[.int .i64 x, .int .i64 y, .int .i64 u, .int .i64 v] 39)
  clear h hE hl hz
  rcases hE2 with rfl | rfl
  all_goals
    go_enter Try.func34, Try.ntmps34
    go_wp2_with fail
    refine (HCR.out _ HM.out.b).mono ?_
    rintro e w1 ⟨rfl, hb⟩
    have HE := Lib.hid (HM.out.step hb).b
    clear hb
    go_wp2
    go_ret2
    exact ⟨rfl, HE.out⟩

end Go.Proofs.Ytdhnifhehhbjeaa

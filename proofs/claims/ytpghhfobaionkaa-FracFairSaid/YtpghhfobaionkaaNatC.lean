/- The reference's less. -/
import Derived.Test.YtpghhfobaionkaaNatA
namespace Go.Proofs.Ytpghhfobaionkaa
open Go.RowKit

theorem less_rel {l r xs : List Nat} {k x : Nat} {b b2 : Nat} (hx : xs.length = k) (hxs : ∀ d ∈ xs, d < Bse)
    (hinv : val xs + val (r.take k) = val (l.take k) + Bse ^ k * b) (hxB : x < Bse) (hs : x + r.getD k 0 + b = l.getD k 0 + Bse * b2) :
    (xs ++ [x]).length = k + 1 ∧ (∀ d ∈ xs ++ [x], d < Bse) ∧ val (xs ++ [x]) + val (r.take (k + 1)) = val (l.take (k + 1)) + Bse ^ (k + 1) * b2 := by
  refine ⟨by rw [List.length_append, hx]; rfl, snoc_lt hxs hxB, ?_⟩
  rw [val_snoc, val_take_getD l, val_take_getD r, hx, Nat.pow_succ]
  have h2 : Bse ^ k * x + Bse ^ k * r.getD k 0 + Bse ^ k * b = Bse ^ k * l.getD k 0 + Bse ^ k * Bse * b2 := by
    rw [Nat.mul_assoc, ← Nat.mul_add, ← Nat.mul_add, ← Nat.mul_add, hs]
  omega

set_option maxRecDepth 100000 in
set_option maxHeartbeats 1000000 in
theorem less_any (v u : Value) (m n : Nat) (w : World) (h : IsNat w v m) (g : IsNat w u n) (hle : n ≤ m) (hlm : (digs m).length ≤ 1000000000) :
    Calls Try.prog 39 #[v, u] w fun e w' => ∃ z, e = .returned z ∧ IsNat w' z (m - n) ∧ (∀ k, z.ownBlock = some k → w.heap.size ≤ k) ∧ Below w.heap.size w w' := by
  obtain ⟨i0, hi, hz0, hz1, hz2⟩ := info_parts Try.infoU32
  obtain ⟨a, cap, rfl⟩ := IsDig.len h
  obtain ⟨b, cap2, rfl⟩ := IsDig.len g
  obtain ⟨_, h1, h2, h3⟩ := IsDig.open_some h
  obtain ⟨_, g1, g2, g3⟩ := IsDig.open_some g
  have hdm := digs_lt m
  have hdn := digs_lt n
  have hvm := Lib.hid (val_digs m)
  have hvn := Lib.hid (val_digs n)
  have HLE := Lib.hid hle
  have hlen := digs_length_mono hle
  clear hle
  revert h g h1 g1 h2 g2 h3 g3 hdm hdn hvm hvn hlm hlen
  generalize digs m = l
  generalize digs n = r
  intro h g hlm h1 h2 h3 g1 g2 g3 hdm hdn hvm hvn hlen
  unfold maxLen at h2 g2
  have HDM := Lib.hid hdm
  have HDN := Lib.hid hdn
  clear hdm hdn
  go_enter Try.func39, Try.ntmps39
  go_wp2
  go_loopw [5, 6, 11] (fun v c i wr => ∃ (k : Nat) (ci : Int) (xs : List Nat), k ≤ l.length ∧ 0 ≤ ci ∧ ci ≤ 1 ∧ i = .int .i64 k ∧ c = .int .i64 ci ∧ xs.length = k ∧ (∀ d ∈ xs, d < Bse) ∧
      val xs + val (r.take k) = val (l.take k) + Bse ^ k * ci.toNat ∧ wr.ownsRow w.heap.size 72 1 v xs.length (u32s xs) ∧ Below w.heap.size w wr) (fun _ _ i _ => l.length - (intOf i).toNat)
  case atStart => exact ⟨0, 0, [], by omega, by omega, by omega, rfl, rfl, rfl, by simp, by simp [val], World.ownsRow_nil _ _ _ _, Below.refl _ _⟩
  case round =>
    obtain ⟨k, c, xs, hk, hc0, hc1, rfl, rfl, hx, hxs, hinv, hown, hB⟩ := hrel
    have HINV := Lib.hid hinv
    have HX := Lib.hid hx
    have HXS := Lib.hid hxs
    clear hinv hx hxs
    by_cases hA : k < l.length
    · obtain ⟨ga, rfl, hga, hca⟩ := h3.resolve_left (fun h => by rw [h] at hA; exact absurd hA (Nat.not_lt_zero _))
      obtain ⟨x, hx0, hx1, hcA, HXV⟩ := dig_at HDM.out hA hB hga (hca k hA)
      have hxl : xs.length + 1 ≤ 1000000002 := by have := HX.out; omega
      by_cases hB1 : k < r.length
      · obtain ⟨gb, rfl, hgb, hcb⟩ := g3.resolve_left (fun h => by rw [h] at hB1; exact absurd hB1 (Nat.not_lt_zero _))
        obtain ⟨y, hy0, hy1, hcB, HYV⟩ := dig_at HDN.out hB1 hB hgb (hcb k hB1)
        by_cases hneg : x - c - y < 0
        · have hdig : (x - c - y + 4294967296).toNat < Bse ∧ (x - c - y + 4294967296).toNat + r.getD k 0 + c.toNat = l.getD k 0 + Bse * 1 := by
            have e1 := HXV.out; have e2 := HYV.out; unfold Bse; omega
          obtain ⟨p1, p2, p3⟩ := less_rel HX.out HXS.out HINV.out hdig.1 hdig.2
          have HS := Lib.hid (And.intro p1 (And.intro p2 p3))
          have HW : Hid ((x - c - y + 4294967296) = (((x - c - y + 4294967296).toNat : Nat) : Int)) := Lib.hid (by omega)
          clear p1 p2 p3 hdig
          go_wp2_with (at_builtin; refine wpList_append_own _ rfl _ _ 50 rfl w.heap.size 72 i0 (.int .u32 0) 1 4 Try.underlying50 hi hz0 hz1 hz2 rfl (by decide) _ _ _ rfl (hown.alloc _) ⟨wr.heap.size, 0, none⟩ 1 1 [.int .u32 (x - c - y + 4294967296)] rfl rfl (cell_one_new _ _ _) (by intro u hu; simp at hu; subst hu; rfl) (by unfold maxLen; omega) (by omega) (by have := hB.size; simp; omega) ?_)
          intro v' w1 hown' hgrow _
          have hB2 : Below w.heap.size w w1 := (hB.alloc hB.size _).grown hgrow (by have := hB.size; simp; omega) (fun k hk => (hown.lt k hk).1)
          have hown2 : w1.ownsRow w.heap.size 72 1 v' (xs ++ [(x - c - y + 4294967296).toNat]).length (u32s (xs ++ [(x - c - y + 4294967296).toNat])) := by
            rw [u32s_append, List.length_append]
            rw [HW.out] at hown'
            exact hown'
          clear hown'
          go_wp2
          go_roundw
          case rel => exact ⟨k + 1, 1, xs ++ [(x - c - y + 4294967296).toNat], by omega, by omega, by omega, by go_num, rfl, HS.out.1, HS.out.2.1, HS.out.2.2, hown2, hB2⟩
          case measure => simp [intOf]; omega
        · have hdig : (x - c - y).toNat < Bse ∧ (x - c - y).toNat + r.getD k 0 + c.toNat = l.getD k 0 + Bse * 0 := by
            have e1 := HXV.out; have e2 := HYV.out; unfold Bse; omega
          obtain ⟨p1, p2, p3⟩ := less_rel HX.out HXS.out HINV.out hdig.1 hdig.2
          have HS := Lib.hid (And.intro p1 (And.intro p2 p3))
          have HW : Hid ((x - c - y) = (((x - c - y).toNat : Nat) : Int)) := Lib.hid (by omega)
          clear p1 p2 p3 hdig
          go_wp2_with (at_builtin; refine wpList_append_own _ rfl _ _ 50 rfl w.heap.size 72 i0 (.int .u32 0) 1 4 Try.underlying50 hi hz0 hz1 hz2 rfl (by decide) _ _ _ rfl (hown.alloc _) ⟨wr.heap.size, 0, none⟩ 1 1 [.int .u32 (x - c - y)] rfl rfl (cell_one_new _ _ _) (by intro u hu; simp at hu; subst hu; rfl) (by unfold maxLen; omega) (by omega) (by have := hB.size; simp; omega) ?_)
          intro v' w1 hown' hgrow _
          have hB2 : Below w.heap.size w w1 := (hB.alloc hB.size _).grown hgrow (by have := hB.size; simp; omega) (fun k hk => (hown.lt k hk).1)
          have hown2 : w1.ownsRow w.heap.size 72 1 v' (xs ++ [(x - c - y).toNat]).length (u32s (xs ++ [(x - c - y).toNat])) := by
            rw [u32s_append, List.length_append]
            rw [HW.out] at hown'
            exact hown'
          clear hown'
          go_wp2
          go_roundw
          case rel => exact ⟨k + 1, 0, xs ++ [(x - c - y).toNat], by omega, by omega, by omega, by go_num, rfl, HS.out.1, HS.out.2.1, HS.out.2.2, hown2, hB2⟩
          case measure => simp [intOf]; omega
      · by_cases hneg : x - c < 0
        · have hdig : (x - c + 4294967296).toNat < Bse ∧ (x - c + 4294967296).toNat + r.getD k 0 + c.toNat = l.getD k 0 + Bse * 1 := by
            have e1 := HXV.out; rw [getD_out r k (by omega)]; unfold Bse; omega
          obtain ⟨p1, p2, p3⟩ := less_rel HX.out HXS.out HINV.out hdig.1 hdig.2
          have HS := Lib.hid (And.intro p1 (And.intro p2 p3))
          have HW : Hid ((x - c + 4294967296) = (((x - c + 4294967296).toNat : Nat) : Int)) := Lib.hid (by omega)
          clear p1 p2 p3 hdig
          go_wp2_with (at_builtin; refine wpList_append_own _ rfl _ _ 50 rfl w.heap.size 72 i0 (.int .u32 0) 1 4 Try.underlying50 hi hz0 hz1 hz2 rfl (by decide) _ _ _ rfl (hown.alloc _) ⟨wr.heap.size, 0, none⟩ 1 1 [.int .u32 (x - c + 4294967296)] rfl rfl (cell_one_new _ _ _) (by intro u hu; simp at hu; subst hu; rfl) (by unfold maxLen; omega) (by omega) (by have := hB.size; simp; omega) ?_)
          intro v' w1 hown' hgrow _
          have hB2 : Below w.heap.size w w1 := (hB.alloc hB.size _).grown hgrow (by have := hB.size; simp; omega) (fun k hk => (hown.lt k hk).1)
          have hown2 : w1.ownsRow w.heap.size 72 1 v' (xs ++ [(x - c + 4294967296).toNat]).length (u32s (xs ++ [(x - c + 4294967296).toNat])) := by
            rw [u32s_append, List.length_append]
            rw [HW.out] at hown'
            exact hown'
          clear hown'
          go_wp2
          go_roundw
          case rel => exact ⟨k + 1, 1, xs ++ [(x - c + 4294967296).toNat], by omega, by omega, by omega, by go_num, rfl, HS.out.1, HS.out.2.1, HS.out.2.2, hown2, hB2⟩
          case measure => simp [intOf]; omega
        · have hdig : (x - c).toNat < Bse ∧ (x - c).toNat + r.getD k 0 + c.toNat = l.getD k 0 + Bse * 0 := by
            have e1 := HXV.out; rw [getD_out r k (by omega)]; unfold Bse; omega
          obtain ⟨p1, p2, p3⟩ := less_rel HX.out HXS.out HINV.out hdig.1 hdig.2
          have HS := Lib.hid (And.intro p1 (And.intro p2 p3))
          have HW : Hid ((x - c) = (((x - c).toNat : Nat) : Int)) := Lib.hid (by omega)
          clear p1 p2 p3 hdig
          go_wp2_with (at_builtin; refine wpList_append_own _ rfl _ _ 50 rfl w.heap.size 72 i0 (.int .u32 0) 1 4 Try.underlying50 hi hz0 hz1 hz2 rfl (by decide) _ _ _ rfl (hown.alloc _) ⟨wr.heap.size, 0, none⟩ 1 1 [.int .u32 (x - c)] rfl rfl (cell_one_new _ _ _) (by intro u hu; simp at hu; subst hu; rfl) (by unfold maxLen; omega) (by omega) (by have := hB.size; simp; omega) ?_)
          intro v' w1 hown' hgrow _
          have hB2 : Below w.heap.size w w1 := (hB.alloc hB.size _).grown hgrow (by have := hB.size; simp; omega) (fun k hk => (hown.lt k hk).1)
          have hown2 : w1.ownsRow w.heap.size 72 1 v' (xs ++ [(x - c).toNat]).length (u32s (xs ++ [(x - c).toNat])) := by
            rw [u32s_append, List.length_append]
            rw [HW.out] at hown'
            exact hown'
          clear hown'
          go_wp2
          go_roundw
          case rel => exact ⟨k + 1, 0, xs ++ [(x - c).toNat], by omega, by omega, by omega, by go_num, rfl, HS.out.1, HS.out.2.1, HS.out.2.2, hown2, hB2⟩
          case measure => simp [intOf]; omega
    · have hkl : k = l.length := by omega
      have hdig := IsDig.of_owns hown
      have hfr := hown.lt
      obtain ⟨az, capz, rfl⟩ := IsDig.len hdig
      have HKL := Lib.hid hkl
      clear hkl
      go_wp2_with fail
      refine (trimmed_any az xs capz HXS.out wr hdig).mono ?_
      rintro e w1 ⟨kz, rfl, hz, rfl⟩
      go_wp2
      go_ret
      have hv := HINV.out
      have hkl := HKL.out
      rw [hkl, List.take_length, List.take_of_length_le hlen, hvm.out, hvn.out] at hv
      have hlt : val xs < Bse ^ l.length := by have := val_lt HXS.out; rwa [HX.out, hkl] at this
      have hmlt : m < Bse ^ l.length := by have := val_lt HDM.out; rwa [hvm.out] at this
      have hle := HLE.out
      have hc : c = 0 := by
        rcases Int.lt_or_le 0 c with h | h
        · obtain rfl : c = 1 := by omega
          have e : Bse ^ l.length * (1 : Int).toNat = Bse ^ l.length := Nat.mul_one _
          omega
        · omega
      subst hc
      have e : Bse ^ l.length * (0 : Int).toNat = 0 := Nat.mul_zero _
      refine ⟨_, rfl, ?_, fun j hj => (hfr j ?_).1, hB⟩
      · rw [show m - n = val xs by omega]; exact hz
      · cases az with
        | none => simp [Value.ownBlock] at hj
        | some _ => simpa [Value.ownBlock] using hj

end Go.Proofs.Ytpghhfobaionkaa

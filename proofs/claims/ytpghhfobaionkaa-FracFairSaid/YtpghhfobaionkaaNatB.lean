/- The reference's plus. -/
import Derived.Test.YtpghhfobaionkaaNatA
namespace Go.Proofs.Ytpghhfobaionkaa
open Go.RowKit

theorem plus_rel {l r xs : List Nat} {k : Nat} {c sI : Int} (hl : ∀ d ∈ l, d < Bse) (hr : ∀ d ∈ r, d < Bse) (hx : xs.length = k) (hxs : ∀ d ∈ xs, d < Bse) (hc0 : 0 ≤ c) (hc1 : c ≤ 1)
    (hinv : val xs + Bse ^ k * c.toNat = val (l.take k) + val (r.take k)) (hs : sI = c + (l.getD k 0 : Int) + (r.getD k 0 : Int)) :
    (xs ++ [sI.toNat % Bse]).length = k + 1 ∧ (∀ d ∈ xs ++ [sI.toNat % Bse], d < Bse) ∧
      val (xs ++ [sI.toNat % Bse]) + Bse ^ (k + 1) * (sI / 4294967296).toNat = val (l.take (k + 1)) + val (r.take (k + 1)) ∧ 0 ≤ sI / 4294967296 ∧ sI / 4294967296 ≤ 1 ∧
      (max l.length r.length + 1 ≤ k + 1 → sI / 4294967296 = 0) ∧ IntKind.u32.wrap sI = ((sI.toNat % Bse : Nat) : Int) := by
  have h1 := getD_lt hl k
  have h2 := getD_lt hr k
  have e1 : (sI / 4294967296).toNat = sI.toNat / Bse := by unfold Bse; omega
  have hB : Bse = 4294967296 := rfl
  refine ⟨by rw [List.length_append, hx]; rfl, snoc_lt hxs (Nat.mod_lt _ Bse_pos), ?_, by omega, by omega, fun hk => ?_, by rw [IntKind.wrap_u32]; unfold Bse; omega⟩
  · rw [e1]; exact plus_step hx hinv (by omega)
  · rw [getD_out l k (by omega), getD_out r k (by omega)] at hs; omega

theorem plus_any (v u : Value) (m n : Nat) (w : World) (h : IsNat w v m) (g : IsNat w u n) (hlm : (digs m).length ≤ 1000000000) (hln : (digs n).length ≤ 1000000000) :
    Calls Try.prog 37 #[v, u] w fun e w' => ∃ z, e = .returned z ∧ IsNat w' z (m + n) ∧ (∀ k, z.ownBlock = some k → w.heap.size ≤ k) ∧ Below w.heap.size w w' := by
  obtain ⟨i0, hi, hz0, hz1, hz2⟩ := info_parts Try.infoU32
  obtain ⟨a, cap, rfl⟩ := IsDig.len h
  obtain ⟨b, cap2, rfl⟩ := IsDig.len g
  obtain ⟨_, h1, h2, h3⟩ := IsDig.open_some h
  obtain ⟨_, g1, g2, g3⟩ := IsDig.open_some g
  have hdm := digs_lt m
  have hdn := digs_lt n
  have hvm := Lib.hid (val_digs m)
  have hvn := Lib.hid (val_digs n)
  revert h g h1 g1 h2 g2 h3 g3 hdm hdn hvm hvn hlm hln
  generalize digs m = l
  generalize digs n = r
  intro h g hlm hln h1 h2 h3 g1 g2 g3 hdm hdn hvm hvn
  have HDM := Lib.hid hdm
  have HDN := Lib.hid hdn
  clear hdm hdn
  go_enter Try.func37, Try.ntmps37
  go_wp2
  go_loopw [5, 6, 7] (fun v c i wr => ∃ (k : Nat) (ci : Int) (xs : List Nat), k ≤ max l.length r.length + 1 ∧ 0 ≤ ci ∧ ci ≤ 1 ∧ i = .int .i64 k ∧ c = .int .u64 ci ∧ xs.length = k ∧ (∀ d ∈ xs, d < Bse) ∧
      val xs + Bse ^ k * ci.toNat = val (l.take k) + val (r.take k) ∧ (max l.length r.length + 1 ≤ k → ci = 0) ∧ wr.ownsRow w.heap.size 72 1 v xs.length (u32s xs) ∧ Below w.heap.size w wr) (fun _ _ i _ => max l.length r.length + 1 - (intOf i).toNat)
  case atStart => exact ⟨0, 0, [], by omega, by omega, by omega, rfl, rfl, rfl, by simp, by simp [val], fun _ => rfl, World.ownsRow_nil _ _ _ _, Below.refl _ _⟩
  case round =>
    obtain ⟨k, c, xs, hk, hc0, hc1, rfl, rfl, hx, hxs, hinv, hlast, hown, hB⟩ := hrel
    have HINV := Lib.hid hinv
    have HX := Lib.hid hx
    have HXS := Lib.hid hxs
    have HLAST := Lib.hid hlast
    clear hinv hx hxs hlast
    by_cases hA : k < l.length <;> by_cases hB1 : k < r.length
    · obtain ⟨ga, rfl, hga, hca⟩ := h3.resolve_left (fun h => by rw [h] at hA; exact absurd hA (Nat.not_lt_zero _))
      obtain ⟨gb, rfl, hgb, hcb⟩ := g3.resolve_left (fun h => by rw [h] at hB1; exact absurd hB1 (Nat.not_lt_zero _))
      have hs : ((c + (l[k]'hA : Int)) + (r[k]'hB1 : Int)) = c + (l.getD k 0 : Int) + (r.getD k 0 : Int) := by rw [getD_in l k hA, getD_in r k hB1]
      obtain ⟨p1, p2, p3, p4, p5, p6, p7⟩ := plus_rel HDM.out HDN.out HX.out HXS.out hc0 hc1 HINV.out hs
      have hlen : xs.length + 1 ≤ 1000000002 := by have := HX.out; omega
      have HS := Lib.hid (And.intro p1 (And.intro p2 (And.intro p3 (And.intro p4 (And.intro p5 (And.intro p6 p7))))))
      clear p1 p2 p3 p4 p5 p6 p7 hs
      have hcA : wr.cell? ⟨ga, k, none⟩ = some (.int .u32 (l[k]'hA : Int)) := (hB.cell (p := ⟨ga, k, none⟩) hga).trans (hca k hA)
      have hbA : (0 : Int) ≤ (l[k]'hA : Int) ∧ (l[k]'hA : Int) ≤ 4294967295 := by have := HDM.out _ (List.getElem_mem hA); unfold Bse at this; omega
      obtain ⟨hbA1, hbA2⟩ := hbA
      have hcB : wr.cell? ⟨gb, k, none⟩ = some (.int .u32 (r[k]'hB1 : Int)) := (hB.cell (p := ⟨gb, k, none⟩) hgb).trans (hcb k hB1)
      have hbB : (0 : Int) ≤ (r[k]'hB1 : Int) ∧ (r[k]'hB1 : Int) ≤ 4294967295 := by have := HDN.out _ (List.getElem_mem hB1); unfold Bse at this; omega
      obtain ⟨hbB1, hbB2⟩ := hbB
      go_wp2_with (at_builtin; refine wpList_append_own _ rfl _ _ 50 rfl w.heap.size 72 i0 (.int .u32 0) 1 4 Try.underlying50 hi hz0 hz1 hz2 rfl (by decide) _ _ _ rfl (hown.alloc _) ⟨wr.heap.size, 0, none⟩ 1 1 [.int .u32 (IntKind.u32.wrap ((c + (l[k]'hA : Int)) + (r[k]'hB1 : Int)))] rfl rfl (cell_one_new _ _ _) (by intro u hu; simp at hu; subst hu; rfl) (by unfold maxLen; omega) (by omega) (by have := hB.size; simp; omega) ?_)
      intro v' w1 hown' hgrow _
      have hB2 : Below w.heap.size w w1 := (hB.alloc hB.size _).grown hgrow (by have := hB.size; simp; omega) (fun k hk => (hown.lt k hk).1)
      have hown2 : w1.ownsRow w.heap.size 72 1 v' (xs ++ [(((c + (l[k]'hA : Int)) + (r[k]'hB1 : Int))).toNat % Bse]).length (u32s (xs ++ [(((c + (l[k]'hA : Int)) + (r[k]'hB1 : Int))).toNat % Bse])) := by
        rw [u32s_append, List.length_append]
        rw [HS.out.2.2.2.2.2.2] at hown'
        exact hown'
      clear hown'
      go_wp2
      go_roundw
      case rel => exact ⟨k + 1, _, xs ++ [(((c + (l[k]'hA : Int)) + (r[k]'hB1 : Int))).toNat % Bse], by omega, HS.out.2.2.2.1, HS.out.2.2.2.2.1, by go_num, rfl, HS.out.1, HS.out.2.1, HS.out.2.2.1, HS.out.2.2.2.2.2.1, hown2, hB2⟩
      case measure => simp [intOf]; omega
    · obtain ⟨ga, rfl, hga, hca⟩ := h3.resolve_left (fun h => by rw [h] at hA; exact absurd hA (Nat.not_lt_zero _))
      have hs : (c + (l[k]'hA : Int)) = c + (l.getD k 0 : Int) + (r.getD k 0 : Int) := by rw [getD_in l k hA, getD_out r k (by omega)]; omega
      obtain ⟨p1, p2, p3, p4, p5, p6, p7⟩ := plus_rel HDM.out HDN.out HX.out HXS.out hc0 hc1 HINV.out hs
      have hlen : xs.length + 1 ≤ 1000000002 := by have := HX.out; omega
      have HS := Lib.hid (And.intro p1 (And.intro p2 (And.intro p3 (And.intro p4 (And.intro p5 (And.intro p6 p7))))))
      clear p1 p2 p3 p4 p5 p6 p7 hs
      have hcA : wr.cell? ⟨ga, k, none⟩ = some (.int .u32 (l[k]'hA : Int)) := (hB.cell (p := ⟨ga, k, none⟩) hga).trans (hca k hA)
      have hbA : (0 : Int) ≤ (l[k]'hA : Int) ∧ (l[k]'hA : Int) ≤ 4294967295 := by have := HDM.out _ (List.getElem_mem hA); unfold Bse at this; omega
      obtain ⟨hbA1, hbA2⟩ := hbA
      go_wp2_with (at_builtin; refine wpList_append_own _ rfl _ _ 50 rfl w.heap.size 72 i0 (.int .u32 0) 1 4 Try.underlying50 hi hz0 hz1 hz2 rfl (by decide) _ _ _ rfl (hown.alloc _) ⟨wr.heap.size, 0, none⟩ 1 1 [.int .u32 (IntKind.u32.wrap (c + (l[k]'hA : Int)))] rfl rfl (cell_one_new _ _ _) (by intro u hu; simp at hu; subst hu; rfl) (by unfold maxLen; omega) (by omega) (by have := hB.size; simp; omega) ?_)
      intro v' w1 hown' hgrow _
      have hB2 : Below w.heap.size w w1 := (hB.alloc hB.size _).grown hgrow (by have := hB.size; simp; omega) (fun k hk => (hown.lt k hk).1)
      have hown2 : w1.ownsRow w.heap.size 72 1 v' (xs ++ [((c + (l[k]'hA : Int))).toNat % Bse]).length (u32s (xs ++ [((c + (l[k]'hA : Int))).toNat % Bse])) := by
        rw [u32s_append, List.length_append]
        rw [HS.out.2.2.2.2.2.2] at hown'
        exact hown'
      clear hown'
      go_wp2
      go_roundw
      case rel => exact ⟨k + 1, _, xs ++ [((c + (l[k]'hA : Int))).toNat % Bse], by omega, HS.out.2.2.2.1, HS.out.2.2.2.2.1, by go_num, rfl, HS.out.1, HS.out.2.1, HS.out.2.2.1, HS.out.2.2.2.2.2.1, hown2, hB2⟩
      case measure => simp [intOf]; omega
    · obtain ⟨gb, rfl, hgb, hcb⟩ := g3.resolve_left (fun h => by rw [h] at hB1; exact absurd hB1 (Nat.not_lt_zero _))
      have hs : (c + (r[k]'hB1 : Int)) = c + (l.getD k 0 : Int) + (r.getD k 0 : Int) := by rw [getD_out l k (by omega), getD_in r k hB1]; omega
      obtain ⟨p1, p2, p3, p4, p5, p6, p7⟩ := plus_rel HDM.out HDN.out HX.out HXS.out hc0 hc1 HINV.out hs
      have hlen : xs.length + 1 ≤ 1000000002 := by have := HX.out; omega
      have HS := Lib.hid (And.intro p1 (And.intro p2 (And.intro p3 (And.intro p4 (And.intro p5 (And.intro p6 p7))))))
      clear p1 p2 p3 p4 p5 p6 p7 hs
      have hcB : wr.cell? ⟨gb, k, none⟩ = some (.int .u32 (r[k]'hB1 : Int)) := (hB.cell (p := ⟨gb, k, none⟩) hgb).trans (hcb k hB1)
      have hbB : (0 : Int) ≤ (r[k]'hB1 : Int) ∧ (r[k]'hB1 : Int) ≤ 4294967295 := by have := HDN.out _ (List.getElem_mem hB1); unfold Bse at this; omega
      obtain ⟨hbB1, hbB2⟩ := hbB
      go_wp2_with (at_builtin; refine wpList_append_own _ rfl _ _ 50 rfl w.heap.size 72 i0 (.int .u32 0) 1 4 Try.underlying50 hi hz0 hz1 hz2 rfl (by decide) _ _ _ rfl (hown.alloc _) ⟨wr.heap.size, 0, none⟩ 1 1 [.int .u32 (IntKind.u32.wrap (c + (r[k]'hB1 : Int)))] rfl rfl (cell_one_new _ _ _) (by intro u hu; simp at hu; subst hu; rfl) (by unfold maxLen; omega) (by omega) (by have := hB.size; simp; omega) ?_)
      intro v' w1 hown' hgrow _
      have hB2 : Below w.heap.size w w1 := (hB.alloc hB.size _).grown hgrow (by have := hB.size; simp; omega) (fun k hk => (hown.lt k hk).1)
      have hown2 : w1.ownsRow w.heap.size 72 1 v' (xs ++ [((c + (r[k]'hB1 : Int))).toNat % Bse]).length (u32s (xs ++ [((c + (r[k]'hB1 : Int))).toNat % Bse])) := by
        rw [u32s_append, List.length_append]
        rw [HS.out.2.2.2.2.2.2] at hown'
        exact hown'
      clear hown'
      go_wp2
      go_roundw
      case rel => exact ⟨k + 1, _, xs ++ [((c + (r[k]'hB1 : Int))).toNat % Bse], by omega, HS.out.2.2.2.1, HS.out.2.2.2.2.1, by go_num, rfl, HS.out.1, HS.out.2.1, HS.out.2.2.1, HS.out.2.2.2.2.2.1, hown2, hB2⟩
      case measure => simp [intOf]; omega
    · by_cases hcc : c = 0
      · subst hcc
        have hdig := IsDig.of_owns hown
        have hfr := hown.lt
        obtain ⟨az, capz, rfl⟩ := IsDig.len hdig
        go_wp2_with fail
        refine (trimmed_any az xs capz HXS.out wr hdig).mono ?_
        rintro e w1 ⟨kz, rfl, hz, rfl⟩
        go_wp2
        go_ret
        have hv := HINV.out
        rw [List.take_of_length_le (by omega), List.take_of_length_le (by omega), hvm.out, hvn.out] at hv
        refine ⟨_, rfl, ?_, fun j hj => (hfr j ?_).1, hB⟩
        · rw [show m + n = val xs by simpa using hv.symm]; exact hz
        · cases az with
          | none => simp [Value.ownBlock] at hj
          | some _ => simpa [Value.ownBlock] using hj
      obtain rfl : c = 1 := by omega
      have hk2 : k < max l.length r.length + 1 := by
        rcases Nat.lt_or_ge k (max l.length r.length + 1) with h | h
        · exact h
        · exact absurd (HLAST.out h) (by decide)
      have hs : (1 : Int) = 1 + (l.getD k 0 : Int) + (r.getD k 0 : Int) := by rw [getD_out l k (by omega), getD_out r k (by omega)]; rfl
      obtain ⟨p1, p2, p3, p4, p5, p6, p7⟩ := plus_rel HDM.out HDN.out HX.out HXS.out hc0 hc1 HINV.out hs
      rw [show (1 : Int).toNat % Bse = 1 from rfl] at p1 p2 p3 p7
      rw [show ((1 : Int) / 4294967296) = 0 from rfl] at p3
      have hlen : xs.length + 1 ≤ 1000000002 := by have := HX.out; omega
      have HS := Lib.hid (And.intro p1 (And.intro p2 (And.intro p3 p7)))
      clear p1 p2 p3 p4 p5 p6 p7 hs
      go_wp2_with (at_builtin; refine wpList_append_own _ rfl _ _ 50 rfl w.heap.size 72 i0 (.int .u32 0) 1 4 Try.underlying50 hi hz0 hz1 hz2 rfl (by decide) _ _ _ rfl (hown.alloc _) ⟨wr.heap.size, 0, none⟩ 1 1 [.int .u32 (IntKind.u32.wrap 1)] rfl rfl (cell_one_new _ _ _) (by intro u hu; simp at hu; subst hu; rfl) (by unfold maxLen; omega) (by omega) (by have := hB.size; simp; omega) ?_)
      intro v' w1 hown' hgrow _
      have hB2 : Below w.heap.size w w1 := (hB.alloc hB.size _).grown hgrow (by have := hB.size; simp; omega) (fun k hk => (hown.lt k hk).1)
      have hown2 : w1.ownsRow w.heap.size 72 1 v' (xs ++ [1]).length (u32s (xs ++ [1])) := by
        rw [u32s_append, List.length_append]
        exact hown'
      clear hown'
      go_wp2
      go_roundw
      case rel => exact ⟨k + 1, 0, xs ++ [1], by omega, by omega, by omega, by go_num, rfl, HS.out.1, HS.out.2.1, HS.out.2.2.1, fun _ => rfl, hown2, hB2⟩
      case measure => simp [intOf]; omega

end Go.Proofs.Ytpghhfobaionkaa

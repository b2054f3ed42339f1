/- Pairs: two growing slices of ints side by side. -/
import Derived.Test.YtchhadkmemckbaaPa0
import Derived.Laws.AppendOwn
namespace Go.Proofs.Ytchhadkmemckbaa
open Go.RowKit
set_option linter.unusedSimpArgs false
set_option linter.unusedVariables false

/-- The slice that append gives owns the old block, or one that was not there. -/
theorem append_fresh {P : Program} {w : World} (base : Nat) (t ty e : TypeId) (i : TypeInfo) (z : Value) (size bytes : Nat) (ht : P.underlying t = some (.slice e)) (hi : P.info? e = some i) (hz : i.zero = some z)
    (hsize : i.size = size) (hby : i.bytes = bytes) (hzs : z.cells.size = size) (hsz : 0 < size)
    (v : Value) (n : Nat) (xs : List Value) (hown : w.ownsRow base e size v n xs)
    (a : Addr) (m c : Nat) (news : List Value) (hl : news.length = m * size) (hnews : ∀ j u, news[j]? = some u → w.cell? (a.add j) = some u) (h1 : ∀ u ∈ news, u.oneCell' = true)
    (h63 : n + m ≤ maxLen) (hbytes : (n + m) * bytes ≤ 140737488355328) (hm : 0 < m) {v' : Value} {w' : World}
    (hr : (Builtin.append_ #[t, t] ty #[v, .slice (some a) m c]).run P w = .ok v' w') : v'.ownBlock = v.ownBlock ∨ v'.ownBlock = some w.heap.size := by
  subst hsize
  subst hby
  have hsmall : n + m ≤ 9223372036854775807 := by simp only [maxLen] at h63; omega
  rcases hown.2 with ⟨rfl, rfl⟩ | ⟨g, cap, cur, rfl, hbg, hg, hnc, hcm, hcs, htake⟩
  · have h := run_append_nil (P := P) w t ty e i z ht hi hz a m c news hl hnews (by omega) (by omega) (by have hb := hbytes; simp only [Nat.zero_add] at hb; omega)
    rw [hr] at h
    injection h with hv hw
    exact .inr (by rw [hv]; rfl)
  · by_cases hroom : n + m ≤ cap
    · have hfit : n * i.size + news.length ≤ cur.size := by rw [hl, hcs, ← Nat.add_mul]; exact Nat.mul_le_mul_right _ hroom
      have h := run_append_room (P := P) w t ty e i ht hi g n cap cur hg a m c news hl hnews h1 hroom hfit
      rw [hr] at h
      injection h with hv hw
      exact .inl (by rw [hv]; rfl)
    · have holds : ∀ j u, xs[j]? = some u → w.cell? ((⟨g, 0, none⟩ : Addr).add j) = some u := hown.cells (g := g) rfl
      have h := run_append_grow (P := P) w t ty e i z ht hi hz ⟨g, 0, none⟩ n cap xs hown.1 holds a m c news hl hnews (by omega) (by omega) (growslice_fits (by omega) hbytes)
      rw [hr] at h
      injection h with hv hw
      exact .inr (by rw [hv]; rfl)
theorem wpList_append_two {P : Program} {w : World} {ops : Array Oper} {rest : List Oper} {o : Oper} {a : Act} {Q : Exit → Act → World → Prop} (hgd : o.guard = none) (s x : Operand) (t : TypeId)
    (ho : o.op = .call { callee := .builtin .append, args := #[s, x], argTypes := #[t, t] })
    (base : Nat) (e : TypeId) (i : TypeInfo) (z : Value) (size bytes : Nat) (ht : P.underlying t = some (.slice e)) (hi : P.info? e = some i) (hz : i.zero = some z)
    (hsize : i.size = size) (hby : i.bytes = bytes) (hzs : z.cells.size = size) (hsz : 0 < size)
    (v : Value) (n : Nat) (xs : List Value) (hs : a.eval s = v) (hown : w.ownsRow base e size v n xs)
    (ad : Addr) (m c : Nat) (news : List Value) (hx : a.eval x = .slice (some ad) m c) (hl : news.length = m * size) (hnews : ∀ j u, news[j]? = some u → w.cell? (ad.add j) = some u) (h1 : ∀ u ∈ news, u.oneCell' = true)
    (h63 : n + m ≤ maxLen) (hbytes : (n + m) * bytes ≤ 140737488355328) (hbase : base ≤ w.heap.size) (hm : 0 < m)
    (h : ∀ v' w', w'.ownsRow base e size v' (n + m) (xs ++ news) → w.grownBy w' v.ownBlock → (v'.ownBlock = v.ownBlock ∨ v'.ownBlock = some w.heap.size) → wpList P ops Q rest (a.put o.dst v') w') : wpList P ops Q (o :: rest) a w :=
  wpList_plain hgd fun K hK => by
    obtain ⟨v', w', hr, h2, h3, -⟩ := run_append_own (P := P) w base t o.type e i z size bytes ht hi hz hsize hby hzs hsz v n xs hown ad m c news hl hnews h1 h63 hbytes hbase
    have h4 := append_fresh base t o.type e i z size bytes ht hi hz hsize hby hzs hsz v n xs hown ad m c news hl hnews h1 h63 hbytes hm hr
    unfold Oper.wp execOp
    simp only [ho, resolve, invoke, builtin, Sem.run_bind, Sem.run_pure, Result.andThen_ok, List.map_toArray, List.map_cons, List.map_nil, hs, hx, hr]
    exact hK _ _ (h v' w' h2 h3 h4)

/-- Two slices of a call's own, in blocks apart. -/
structure O2 (w0 : World) (v1 v2 : Value) (xs ys : List Int) (wr : World) : Prop where
  a : OV w0 3 v1 (xs.map (Value.int .i64)) wr
  b : OV w0 3 v2 (ys.map (Value.int .i64)) wr
  d : ∀ g, v1.ownBlock = some g → v2.ownBlock ≠ some g
section
variable {w0 wr w2 : World} {v1 v2 v' : Value} {xs ys : List Int} {x : Int}
theorem O2.start (w : World) : O2 w (.slice none 0 0) (.slice none 0 0) [] [] w := ⟨OV.start w _, OV.start w _, fun g h => by simp [Value.ownBlock] at h⟩
theorem O2.step (h : O2 w0 v1 v2 xs ys wr) (hb : Below wr.heap.size wr w2) : O2 w0 v1 v2 xs ys w2 := ⟨h.a.step hb, h.b.step hb, h.d⟩
theorem O2.lt1 (h : O2 w0 v1 v2 xs ys wr) : ∀ g, v1.ownBlock = some g → g < wr.heap.size := fun g hg => (h.a.own.lt g hg).2
theorem O2.lt2 (h : O2 w0 v1 v2 xs ys wr) : ∀ g, v2.ownBlock = some g → g < wr.heap.size := fun g hg => (h.b.own.lt g hg).2
theorem O2.push1 (h : O2 w0 v1 v2 xs ys wr) (hown : w2.ownsRow w0.heap.size 3 1 v' (xs.length + 1) (xs.map (Value.int .i64) ++ [.int .i64 x])) (hg : wr.grownBy w2 v1.ownBlock) (hf : v'.ownBlock = v1.ownBlock ∨ v'.ownBlock = some wr.heap.size) : O2 w0 v' v2 (xs ++ [x]) ys w2 := by
  have ha : OV w0 3 v' ((xs ++ [x]).map (Value.int .i64)) w2 := by
    rw [List.map_append]
    exact h.a.push (by rw [List.length_map]; exact hown) hg
  refine ⟨ha, ⟨ha.b, h.b.own.kept hg ?_⟩, fun g hv hv2 => ?_⟩
  · cases hk : v2.ownBlock with
    | none => exact .inl rfl
    | some k => exact .inr fun e => h.d k e.symm hk
  · rcases hf with hf | hf
    · exact h.d g (by rw [← hf]; exact hv) hv2
    · have := h.lt2 g hv2
      rw [hf] at hv
      injection hv with e
      omega
theorem O2.push2 (h : O2 w0 v1 v2 xs ys wr) (hown : w2.ownsRow w0.heap.size 3 1 v' (ys.length + 1) (ys.map (Value.int .i64) ++ [.int .i64 x])) (hg : wr.grownBy w2 v2.ownBlock) (hf : v'.ownBlock = v2.ownBlock ∨ v'.ownBlock = some wr.heap.size) : O2 w0 v1 v' xs (ys ++ [x]) w2 := by
  have hb : OV w0 3 v' ((ys ++ [x]).map (Value.int .i64)) w2 := by
    rw [List.map_append]
    exact h.b.push (by rw [List.length_map]; exact hown) hg
  refine ⟨⟨hb.b, h.a.own.kept hg ?_⟩, hb, fun g hv hv2 => ?_⟩
  · cases hk : v1.ownBlock with
    | none => exact .inl rfl
    | some k => exact .inr (fun e => h.d k hk e.symm)
  · rcases hf with hf | hf
    · exact h.d g hv (by rw [← hf]; exact hv2)
    · have := h.lt1 g hv
      rw [hf] at hv2
      injection hv2 with e
      omega
end

end Go.Proofs.Ytchhadkmemckbaa

/- Blend: the program's, by its specification. -/
import Derived.Deep.RegionHeld3
import Derived.Deep.DeepCutAuto
import Derived.Test.YtjnfgjaiahnfgaaArg
import Derived.Test.YtjnfgjaiahnfgaaSum
namespace Go.Proofs.Ytjnfgjaiahnfgaa
open Go.RowKit
set_option linter.unusedSimpArgs false

def wB (zs : List Int) (most : Int) : Bool := zs.all fun z => decide (0 ≤ z) && decide (z ≤ most)
theorem wB_iff {zs : List Int} {most : Int} : wB zs most = true ↔ ∀ z ∈ zs, 0 ≤ z ∧ z ≤ most := by
  unfold wB; simp
theorem wB_at {zs : List Int} {most : Int} {k : Nat} (h : wB zs most = true) (hk : k < zs.length) : 0 ≤ zs[k] ∧ zs[k] ≤ most := wB_iff.1 h _ (List.getElem_mem hk)
theorem wB_false {zs : List Int} {most : Int} {k : Nat} (hk : k < zs.length) (h : zs[k] < 0 ∨ most < zs[k]) : wB zs most = false := by
  cases hb : wB zs most
  · rfl
  · have := wB_at hb hk; omega
theorem wB_take {zs : List Int} {most : Int} {k : Nat} (h : wB (zs.take k) most = true) (hk : k < zs.length) (h0 : 0 ≤ zs[k]) (h1 : zs[k] ≤ most) : wB (zs.take (k + 1)) most = true := by
  rw [wB_iff] at h ⊢
  intro z hz
  rw [List.take_succ_eq_append_getElem hk] at hz
  rcases List.mem_append.1 hz with hz | hz
  · exact h z hz
  · rw [List.mem_singleton.1 hz]; exact ⟨h0, h1⟩
theorem sum_take {zs : List Int} {k : Nat} (hk : k < zs.length) : (zs.take (k + 1)).sum = (zs.take k).sum + zs[k] := by
  rw [List.take_succ_eq_append_getElem hk, List.sum_append]; simp
theorem sum_bd {zs : List Int} {most : Int} (h : wB zs most = true) : 0 ≤ zs.sum ∧ zs.sum ≤ zs.length * most := by
  induction zs with
  | nil => simp
  | cons z zs ih =>
    have h0 := wB_iff.1 h z (List.mem_cons_self ..)
    have h1 := ih (wB_iff.2 fun y hy => wB_iff.1 h y (List.mem_cons_of_mem _ hy))
    have e : ((z :: zs).length : Int) * most = zs.length * most + most := by
      rw [List.length_cons]; push_cast; rw [Int.add_mul, Int.one_mul]
    rw [List.sum_cons, e]
    omega

noncomputable def blF : Int → Int → List (Int × Int) → List Int → Int × Int × Int
  | a, b, f :: l, z :: m =>
    if (opS f.1 f.2 z 1 (qof f.1 f.2 * qof z 1)).2.2 = 0 then
      if (opS a b (opS f.1 f.2 z 1 (qof f.1 f.2 * qof z 1)).1 (opS f.1 f.2 z 1 (qof f.1 f.2 * qof z 1)).2.1 (qof a b + qof (opS f.1 f.2 z 1 (qof f.1 f.2 * qof z 1)).1 (opS f.1 f.2 z 1 (qof f.1 f.2 * qof z 1)).2.1)).2.2 = 0 then
        blF (opS a b (opS f.1 f.2 z 1 (qof f.1 f.2 * qof z 1)).1 (opS f.1 f.2 z 1 (qof f.1 f.2 * qof z 1)).2.1 (qof a b + qof (opS f.1 f.2 z 1 (qof f.1 f.2 * qof z 1)).1 (opS f.1 f.2 z 1 (qof f.1 f.2 * qof z 1)).2.1)).1
          (opS a b (opS f.1 f.2 z 1 (qof f.1 f.2 * qof z 1)).1 (opS f.1 f.2 z 1 (qof f.1 f.2 * qof z 1)).2.1 (qof a b + qof (opS f.1 f.2 z 1 (qof f.1 f.2 * qof z 1)).1 (opS f.1 f.2 z 1 (qof f.1 f.2 * qof z 1)).2.1)).2.1 l m
      else (0, 0, (opS a b (opS f.1 f.2 z 1 (qof f.1 f.2 * qof z 1)).1 (opS f.1 f.2 z 1 (qof f.1 f.2 * qof z 1)).2.1 (qof a b + qof (opS f.1 f.2 z 1 (qof f.1 f.2 * qof z 1)).1 (opS f.1 f.2 z 1 (qof f.1 f.2 * qof z 1)).2.1)).2.2)
    else (0, 0, (opS f.1 f.2 z 1 (qof f.1 f.2 * qof z 1)).2.2)
  | a, b, _, _ => (a, b, 0)

section
variable {a b p q r x y z : Int} {fs : List (Int × Int)} {ws : List Int} {k : Nat}
theorem blF_ok (hk : k < fs.length) (hj : k < ws.length) (h1 : opS fs[k].1 fs[k].2 ws[k] 1 (qof fs[k].1 fs[k].2 * qof ws[k] 1) = (p, q, 0)) (h2 : opS a b p q (qof a b + qof p q) = (x, y, 0)) :
    blF a b (fs.drop k) (ws.drop k) = blF x y (fs.drop (k + 1)) (ws.drop (k + 1)) := by
  rw [List.drop_eq_getElem_cons hk, List.drop_eq_getElem_cons hj]
  conv => lhs; unfold blF
  rw [h1, h2]; rfl
theorem blF_mul (hk : k < fs.length) (hj : k < ws.length) (hr : r ≠ 0) (h1 : opS fs[k].1 fs[k].2 ws[k] 1 (qof fs[k].1 fs[k].2 * qof ws[k] 1) = (p, q, r)) : blF a b (fs.drop k) (ws.drop k) = (0, 0, r) := by
  rw [List.drop_eq_getElem_cons hk, List.drop_eq_getElem_cons hj]
  conv => lhs; unfold blF
  rw [h1]; exact if_neg hr
theorem blF_add (hk : k < fs.length) (hj : k < ws.length) (hz : z ≠ 0) (h1 : opS fs[k].1 fs[k].2 ws[k] 1 (qof fs[k].1 fs[k].2 * qof ws[k] 1) = (p, q, 0)) (h2 : opS a b p q (qof a b + qof p q) = (x, y, z)) : blF a b (fs.drop k) (ws.drop k) = (0, 0, z) := by
  rw [List.drop_eq_getElem_cons hk, List.drop_eq_getElem_cons hj]
  conv => lhs; unfold blF
  rw [h1]
  simp only [if_true]
  rw [h2]; exact if_neg hz
theorem blF_end (hk : fs.length ≤ k) : blF a b (fs.drop k) (ws.drop k) = (a, b, 0) := by
  rw [List.drop_eq_nil_of_le hk]; unfold blF; rfl
end

noncomputable def blE (t : Int × Int × Int) (s : Int) : Int × Int × Int := if t.2.2 = 0 then divS t.1 t.2.1 s 1 else (0, 0, t.2.2)
noncomputable def blendS (fs : List (Int × Int)) (ws : List Int) : Int × Int × Int :=
  if 64 < fs.length ∨ 64 < ws.length then (0, 0, 3) else if fs.length ≠ ws.length ∨ allB fs = false ∨ wB ws 1000000 = false then (0, 0, 2) else if ws.sum = 0 then (0, 0, 4) else blE (blF 0 1 fs ws) ws.sum

end Go.Proofs.Ytjnfgjaiahnfgaa

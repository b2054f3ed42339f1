/- The program's FromTerms. -/
import Derived.Deep.DeepCutAuto
import Derived.Test.YtjnfgjaiahnfgaaBlend
import Derived.Test.YtjnfgjaiahnfgaaCfA
namespace Go.Proofs.Ytjnfgjaiahnfgaa
open Go.RowKit
set_option linter.unusedSimpArgs false
set_option linter.unusedVariables false

/-- Terms as FromTerms takes them. -/
def areT : List Int → Bool
  | [] => false
  | _ :: t => !(t.getLast? == some 1) && t.all fun a => decide (1 ≤ a)

theorem areT_iff {z : Int} {t : List Int} : areT (z :: t) = true ↔ t.getLast? ≠ some 1 ∧ ∀ a ∈ t, 1 ≤ a := by
  unfold areT; simp

def allT (t : List Int) : Bool := t.all fun a => decide (1 ≤ a)
theorem allT_iff {t : List Int} : allT t = true ↔ ∀ a ∈ t, 1 ≤ a := by unfold allT; simp
theorem allT_take {t : List Int} {k : Nat} (h : allT (t.take k) = true) (hk : k < t.length) (h1 : 1 ≤ t[k]) : allT (t.take (k + 1)) = true := by
  rw [allT_iff] at h ⊢
  intro a ha
  rw [List.take_succ_eq_append_getElem hk] at ha
  rcases List.mem_append.1 ha with ha | ha
  · exact h a ha
  · simp at ha; omega

theorem areT_last {z : Int} {t : List Int} (h : t.getLast? = some 1) : areT (z :: t) = false := by
  show (!(t.getLast? == some 1) && t.all fun a => decide (1 ≤ a)) = false
  rw [h]; rfl

theorem areT_small {z : Int} {t : List Int} {k : Nat} (hk : k < t.length) (h : t[k] < 1) : areT (z :: t) = false := by
  cases hc : areT (z :: t)
  · rfl
  · have := (areT_iff.1 hc).2 _ (List.getElem_mem hk)
    omega

theorem IntS.two {w : World} {a : Option Addr} {z : Int} {t : List Int} (h : IntS w a (z :: t)) : ∃ b off, a = some ⟨b, off, none⟩ ∧ b < w.heap.size ∧ w.cell? ⟨b, off, none⟩ = some (.int .i64 z) ∧ ∀ k (hk : k < t.length), w.cell? ⟨b, off + 1 + k, none⟩ = some (.int .i64 t[k]) := by
  rcases h with h | ⟨b, off, e, hl, hc⟩
  · cases h
  · refine ⟨b, off, e, hl, hc 0 (by simp), fun k hk => ?_⟩
    have := hc (k + 1) (by simp; omega)
    rw [show off + 1 + k = off + (k + 1) by omega]
    simpa using this

set_option maxRecDepth 100000 in
set_option maxHeartbeats 1600000 in
theorem areTerms_any (a : Option Addr) (cap : Nat) (zs : List Int) (hl : (zs.length : Int) ≤ 64) (hcap : zs.length ≤ cap) (hcm : (cap : Int) ≤ 9223372036854775807) (w : World) (h : IntS w a zs) :
    Calls Try.prog 83 #[.slice a zs.length cap] w fun e w' => e = .returned (.bool (areT zs)) ∧ w = w' := by
  cases zs with
  | nil =>
    go_enter Try.func83, Try.ntmps83
    go_wp2
    go_ret
    exact ⟨rfl, rfl⟩
  | cons z t =>
    obtain ⟨g, off, rfl, hg, hc0, hct⟩ := h.two
    have HCT := Lib.hid hct
    obtain ⟨bb, hbb⟩ : ∃ b, b = areT (z :: t) := ⟨_, rfl⟩
    rw [← hbb]
    have HBB := Lib.hid hbb
    simp only [List.length_cons] at hl hcap ⊢
    obtain ⟨m, hm⟩ : ∃ m, m = t.length := ⟨_, rfl⟩
    rw [← hm] at hl hcap ⊢
    have HML := Lib.hid hm
    have hm64 : (m : Int) ≤ 63 := by omega
    have hm0 : (0 : Int) ≤ (m : Int) := by omega
    clear hct hbb h hl hm
    by_cases hz : m = 0
    · subst hz
      have HT : Hid (bb = true) := Lib.hid (by
        have : t = [] := List.eq_nil_of_length_eq_zero HML.out.symm
        rw [HBB.out, this]; rfl)
      by_cases hc1 : 1 < cap
      · go_enter Try.func83, Try.ntmps83
        go_wp2
        go_loop [25] (fun i => i = .int .i64 0) (fun _ => 0)
        case atStart => rfl
        case round =>
          subst hrel
          go_wp2
          go_ret
          exact ⟨by rw [HT.out]; rfl, rfl⟩
      · have hc1' : cap = 1 := by omega
        subst hc1'
        go_enter Try.func83, Try.ntmps83
        go_wp2
        go_loop [25] (fun i => i = .int .i64 0) (fun _ => 0)
        case atStart => rfl
        case round =>
          subst hrel
          go_wp2
          go_ret
          exact ⟨by rw [HT.out]; rfl, rfl⟩
    · have hm1 : 1 ≤ (m : Int) := by omega
      have hmn : 1 ≤ m := by omega
      have hc1 : 1 < cap := by omega
      obtain ⟨L, hL⟩ : ∃ L, L = t[m - 1]'(by have := HML.out; omega) := ⟨_, rfl⟩
      have hcl := HCT.out (m - 1) (by have := HML.out; omega)
      rw [← hL, show off + 1 + (m - 1) = off + m by omega] at hcl
      have HLL := Lib.hid hL
      clear hL hz
      have HLG : Hid (t.getLast? = some L) := Lib.hid (by
        have hm := HML.out
        rw [List.getLast?_eq_getElem?, HLL.out, List.getElem?_eq_getElem (by omega)]
        simp [hm])
      by_cases h1 : L = 1
      · subst h1
        have HF : Hid (bb = false) := Lib.hid (by rw [HBB.out]; exact areT_last HLG.out)
        go_enter Try.func83, Try.ntmps83
        go_wp2
        go_ret
        exact ⟨by rw [HF.out]; rfl, rfl⟩
      · have h1' : (L == 1) = false := by simpa using h1
        have HNL : Hid (t.getLast? ≠ some 1) := Lib.hid (by rw [HLG.out]; intro h; exact h1 (Option.some.inj h))
        clear h1
        go_enter Try.func83, Try.ntmps83
        go_wp2
        go_loop [25] (fun i => ∃ k : Nat, k ≤ m ∧ i = .int .i64 k ∧ Hid (allT (t.take k) = true)) (fun i => m - (intOf i).toNat)
        case atStart => exact ⟨0, Nat.zero_le _, rfl, Lib.hid rfl⟩
        case round =>
          obtain ⟨k, hk, rfl, HA⟩ := hrel
          by_cases hlt : k < m
          · have hc := HCT.out k (by have := HML.out; omega)
            obtain ⟨x, hx⟩ : ∃ n, n = t[k]'(by have := HML.out; omega) := ⟨_, rfl⟩
            rw [← hx] at hc
            have HX := Lib.hid hx
            clear hx
            have hk0 : (0 : Int) ≤ (k : Int) := by omega
            by_cases h0 : x < 1
            · have HF : Hid (bb = false) := Lib.hid (by rw [HBB.out]; exact areT_small (k := k) (by have := HML.out; omega) (by rw [← HX.out]; exact h0))
              go_wp2
              go_ret
              exact ⟨by rw [HF.out]; rfl, rfl⟩
            · go_wp2
              go_round
              case rel => exact ⟨k + 1, by omega, by go_num, Lib.hid (allT_take HA.out (by have := HML.out; omega) (by rw [← HX.out]; omega))⟩
              case measure => simp [intOf]; omega
          · have hkl : k = m := by omega
            have HT : Hid (bb = true) := Lib.hid (by
              have h := HA.out
              rw [hkl, HML.out, List.take_length] at h
              rw [HBB.out]; exact areT_iff.2 ⟨HNL.out, allT_iff.1 h⟩)
            clear hkl
            go_wp2
            go_ret
            exact ⟨by rw [HT.out]; rfl, rfl⟩

end Go.Proofs.Ytjnfgjaiahnfgaa

/- The reference's natural numbers: natural, trimmed, short, compare. -/
import Derived.Test.YtpghhfobaionkaaDat
namespace Go.Proofs.Ytpghhfobaionkaa
open Go.RowKit

theorem digs_len2 {n : Nat} (h : n < 18446744073709551616) : (digs n).length ≤ 2 := by
  rw [digs_length_le_iff]; exact Nat.lt_of_lt_of_eq h (by decide)

theorem natural_any (N : Int) (hN0 : 0 ≤ N) (hN : N ≤ 18446744073709551615) (w : World) :
    Calls Try.prog 48 #[.int .u64 N] w fun e w' => ∃ v, e = .returned v ∧ IsNat w' v N.toNat ∧ w'.ownsRow w.heap.size 72 1 v (digs N.toNat).length (u32s (digs N.toNat)) ∧ Below w.heap.size w w' := by
  obtain ⟨i0, hi, hz0, hz1, hz2⟩ := info_parts Try.infoU32
  go_enter Try.func48, Try.ntmps48
  go_wp2
  go_loopw [0, 3] (fun x v wr => ∃ (n : Int) (xs : List Nat), 0 ≤ n ∧ n ≤ 18446744073709551615 ∧ x = .int .u64 n ∧ digs N.toNat = xs ++ digs n.toNat ∧ wr.ownsRow w.heap.size 72 1 v xs.length (u32s xs) ∧ Below w.heap.size w wr) (fun x _ _ => (intOf x).toNat)
  case atStart => exact ⟨N, [], hN0, hN, rfl, rfl, World.ownsRow_nil _ _ _ _, Below.refl _ _⟩
  case round =>
    obtain ⟨n, xs, hn0, hn, rfl, hd, hown, hB⟩ := hrel
    have HD := Lib.hid hd
    clear hd
    by_cases h0 : n = 0
    · subst h0
      go_wp2
      go_ret
      have hd := HD.out
      rw [Int.toNat_zero, digs_zero, List.append_nil] at hd
      refine ⟨_, rfl, ?_, ?_, hB⟩
      · unfold IsNat; rw [hd]; exact IsDig.of_owns hown
      · rw [hd]; exact hown
    · have hp : (0 : Int) < n := by omega
      have hl2 : xs.length ≤ 2 := by
        have h1 := digs_len2 (n := N.toNat) (by omega)
        rw [HD.out, List.length_append] at h1; omega
      go_wp2_with (at_builtin; refine wpList_append_own _ rfl _ _ 50 rfl w.heap.size 72 i0 (.int .u32 0) 1 4 Try.underlying50 hi hz0 hz1 hz2 rfl (by decide) _ _ _ rfl (hown.alloc _) ⟨wr.heap.size, 0, none⟩ 1 1 [.int .u32 (IntKind.u32.wrap n)] rfl rfl ?c1 ?c2 ?c3 ?c4 ?c5 ?_)
      case c1 => exact cell_one_new _ _ _
      case c2 => intro u hu; simp at hu; subst hu; rfl
      case c3 => unfold maxLen; omega
      case c4 => omega
      case c5 => have := hB.size; simp; omega
      · intro v' w1 hown' hgrow _
        have hB1 : Below w.heap.size w w1 := (hB.alloc hB.size _).grown hgrow (by have := hB.size; simp; omega) (fun k hk => (hown.lt k hk).1)
        have e1 : IntKind.u32.wrap n = ((n.toNat % Bse : Nat) : Int) := by rw [IntKind.wrap_u32]; unfold Bse; omega
        have e2 : (n / 4294967296).toNat = n.toNat / Bse := by unfold Bse; omega
        have hown2 : w1.ownsRow w.heap.size 72 1 v' (xs ++ [n.toNat % Bse]).length (u32s (xs ++ [n.toNat % Bse])) := by
          rw [u32s_append, List.length_append]
          rw [e1] at hown'
          exact hown'
        have hd2 : digs N.toNat = (xs ++ [n.toNat % Bse]) ++ digs (n / 4294967296).toNat := by
          rw [HD.out, e2, digs_pos (n := n.toNat) (by omega), List.append_assoc]; rfl
        have HD2 := Lib.hid hd2
        clear hown' e1 e2 hd2 HD
        go_wp2
        go_roundw
        case rel => exact ⟨n / 4294967296, xs ++ [n.toNat % Bse], by omega, by omega, rfl, HD2.out, hown2, hB1⟩
        case measure => simp [intOf]; omega

theorem digs_take {l : List Nat} {k : Nat} (hl : ∀ d ∈ l, d < Bse) (hk : k ≤ l.length) (hv : val (l.take k) = val l) (ht : ∀ j (h : j < l.length), k = j + 1 → l[j] ≠ 0) : digs (val l) = l.take k := by
  rw [← hv]
  apply digs_val
  · exact fun d hd => hl d (List.mem_of_mem_take hd)
  · intro hne
    have hk0 : 0 < k := by
      rcases Nat.eq_zero_or_pos k with h | h
      · subst h; simp at hne
      · exact h
    have e : (l.take k).getLast hne = l[k - 1]'(by omega) := by
      rw [List.getLast_eq_getElem, List.getElem_take]
      congr 1
      rw [List.length_take]; omega
    rw [e]
    exact ht (k - 1) (by omega) (by omega)

theorem isNat_take {w : World} {a : Option Addr} {l : List Nat} {cap k : Nat} (h : IsDig w (.slice a l.length cap) l) (hk : k ≤ l.length) (he : digs (val l) = l.take k) : IsNat w (.slice a k cap) (val l) := by
  obtain ⟨a', cap', hv, h1, h2, h3, h4⟩ := h
  simp only [Value.slice.injEq, true_and] at hv
  obtain ⟨rfl, rfl⟩ := hv
  have hlen : (l.take k).length = k := by rw [List.length_take]; omega
  unfold IsNat
  rw [he]
  refine ⟨a, cap, by rw [hlen], by omega, h2, fun h => ?_, fun b hb => ?_⟩
  · obtain ⟨rfl, hc⟩ := h3 h; exact ⟨by simp, hc⟩
  · obtain ⟨k1, k2, k3, k4⟩ := h4 b hb
    refine ⟨k1, k2, k3, fun j hj => ?_⟩
    rw [k4 j (by rw [hlen] at hj; omega), List.getElem_take]

theorem trimmed_any (a : Option Addr) (l : List Nat) (cap : Nat) (hl : ∀ d ∈ l, d < Bse) (w : World) (h : IsDig w (.slice a l.length cap) l) :
    Calls Try.prog 45 #[.slice a l.length cap] w fun e w' => ∃ k, e = .returned (.slice a k cap) ∧ IsNat w' (.slice a k cap) (val l) ∧ w = w' := by
  have h' := h
  obtain ⟨a', cap', hv, h1, h2, h3, h4⟩ := h
  simp only [Value.slice.injEq, true_and] at hv
  obtain ⟨rfl, rfl⟩ := hv
  unfold maxLen at h2
  go_enter Try.func45, Try.ntmps45
  go_wp2
  go_loop [0] (fun v => ∃ k : Nat, k ≤ l.length ∧ v = .slice a k cap ∧ val (l.take k) = val l) (fun v => (match v with | .slice _ n _ => n | _ => 0))
  case atStart => exact ⟨l.length, Nat.le_refl _, rfl, by rw [List.take_length]⟩
  case round =>
    obtain ⟨k, hk, rfl, hv⟩ := hrel
    have HV := Lib.hid hv
    clear hv
    by_cases hk0 : k = 0
    · subst hk0
      go_wp2
      go_ret
      refine ⟨0, rfl, isNat_take h' (Nat.zero_le _) (digs_take hl (Nat.zero_le _) HV.out (fun j _ hj => by omega)), rfl⟩
    · have hka : ∃ b, a = some b := by
        cases a with
        | none => have := (h3 rfl).1; subst this; simp at hk; omega
        | some b => exact ⟨b, rfl⟩
      obtain ⟨⟨g, o, sp⟩, rfl⟩ := hka
      obtain ⟨rfl, rfl, hg, hcell⟩ := h4 _ rfl
      have hc := hcell (k - 1) (by omega)
      simp only at hc
      have hpos : (0 : Int) < (k : Int) := by omega
      have ek : ((k : Int) - 1).toNat = k - 1 := by omega
      by_cases hz : l[k - 1]'(by omega) = 0
      · have hzb : ((l[k - 1]'(by omega) : Int) == 0) = true := by simpa using hz
        have hv2 : val (l.take (k - 1)) = val l := by
          have h := val_take_succ l (k - 1) (by omega)
          rw [hz, Nat.mul_zero, show k - 1 + 1 = k by omega] at h
          exact h.symm.trans HV.out
        have HV2 := Lib.hid hv2
        clear hv2
        go_wp2
        go_round
        case rel => exact ⟨k - 1, by omega, rfl, HV2.out⟩
        case measure => simp; omega
      · have hzb : ((l[k - 1]'(by omega) : Int) == 0) = false := by simpa using hz
        go_wp2
        go_ret
        refine ⟨k, rfl, isNat_take h' hk (digs_take hl hk HV.out (fun j hj hkj => ?_)), rfl⟩
        subst hkj
        simpa using hz


theorem trimmed_n (a : Option Addr) (l : List Nat) (cap n : Nat) (hn : n = l.length) (hl : ∀ d ∈ l, d < Bse) (w : World) (h : IsDig w (.slice a l.length cap) l) :
    Calls Try.prog 45 #[.slice a n cap] w fun e w' => ∃ k, e = .returned (.slice a k cap) ∧ IsNat w' (.slice a k cap) (val l) ∧ w = w' := by
  subst hn; exact trimmed_any a l cap hl w h

theorem IsDig.open_some {w : World} {a : Option Addr} {l : List Nat} {n cap : Nat} (h : IsDig w (.slice a n cap) l) : n = l.length ∧ l.length ≤ cap ∧ cap ≤ maxLen ∧ (l = [] ∨ ∃ g, a = some ⟨g, 0, none⟩ ∧ g < w.heap.size ∧ ∀ j (h : j < l.length), w.cell? ⟨g, j, none⟩ = some (.int .u32 (l[j] : Int))) := by
  obtain ⟨a', cap', hv, h1, h2, h3, h4⟩ := h
  simp only [Value.slice.injEq] at hv
  obtain ⟨rfl, rfl, rfl⟩ := hv
  refine ⟨rfl, h1, h2, ?_⟩
  cases a with
  | none => exact .inl (h3 rfl).1
  | some b =>
    obtain ⟨g, o, sp⟩ := b
    obtain ⟨rfl, rfl, hg, hcell⟩ := h4 _ rfl
    exact .inr ⟨g, rfl, hg, hcell⟩

/-- A digit that is read, as a number of its own. -/
theorem dig_at {w wr : World} {B g k : Nat} {l : List Nat} (hl : ∀ d ∈ l, d < Bse) (hk : k < l.length) (hb : Below B w wr) (hg : g < B) (hc : w.cell? ⟨g, k, none⟩ = some (.int .u32 (l[k] : Int))) :
    ∃ x : Int, 0 ≤ x ∧ x ≤ 4294967295 ∧ wr.cell? ⟨g, k, none⟩ = some (.int .u32 x) ∧ Hid (x = (l.getD k 0 : Int)) := by
  have h := hl _ (List.getElem_mem hk)
  unfold Bse at h
  exact ⟨(l[k] : Int), by omega, by omega, (hb.cell (p := ⟨g, k, none⟩) hg).trans hc, Lib.hid (by rw [getD_in l k hk])⟩

/-- 'short' of at most two digits. -/
theorem short_any (v : Value) (n : Nat) (hn : n < 18446744073709551616) (w : World) (h : IsNat w v n) :
    Calls Try.prog 51 #[v] w fun e w' => e = .returned (.int .u64 (n : Int)) ∧ w = w' := by
  obtain ⟨a, cap, rfl⟩ := IsDig.len h
  have hl2 := digs_len2 hn
  obtain ⟨_, h1, h2, h3⟩ := IsDig.open_some h
  have hb := digs_lt n
  have hval := val_digs n
  revert h h1 h2 h3 hb hval hl2
  generalize digs n = l
  intro h hl2 h1 h2 h3 hb hval
  unfold maxLen at h2
  go_enter Try.func51, Try.ntmps51
  go_wp2
  go_loop [3, 4] (fun x y => ∃ (m i : Int), -1 ≤ i ∧ i < l.length ∧ y = .int .i64 i ∧ x = .int .u64 m ∧ m = val (l.drop (i + 1).toNat)) (fun _ y => (intOf y + 1).toNat)
  case atStart => exact ⟨0, (l.length : Int) - 1, by omega, by omega, rfl, rfl, by rw [show ((l.length : Int) - 1 + 1).toNat = l.length by omega, List.drop_length]; rfl⟩
  case round =>
    obtain ⟨m, i, hi0, hi1, rfl, rfl, hm⟩ := hrel
    have HM := Lib.hid hm
    clear hm
    by_cases hneg : i < 0
    · go_wp2
      go_ret
      have hm := HM.out
      rw [show (i + 1).toNat = 0 by omega, List.drop_zero, hval] at hm
      exact ⟨ret_int hm, rfl⟩
    · obtain ⟨k, rfl⟩ := Int.eq_ofNat_of_zero_le (show 0 ≤ i by omega)
      have hk : k < l.length := by omega
      rcases h3 with rfl | ⟨g, rfl, hg, hcell⟩
      · simp at hk
      · have hc := hcell k hk
        have hm : m = val (l.drop (k + 1)) := HM.out
        have hmB : val (l.drop (k + 1)) < Bse := by
          have h5 : (l.drop (k + 1)).length ≤ 1 := by rw [List.length_drop]; omega
          have h6 := val_lt (l := l.drop (k + 1)) (fun d hd => hb d (List.mem_of_mem_drop hd))
          exact Nat.lt_of_lt_of_le h6 (by have := Nat.pow_le_pow_right Bse_pos h5; rwa [Nat.pow_one] at this)
        have hlk : l[k] < Bse := hb _ (List.getElem_mem hk)
        have hor : bits BinOp.or IntKind.u64 (IntKind.u64.wrap (m * 4294967296)) (IntKind.u64.wrap (l[k] : Int)) = (val (l.drop k) : Int) := by
          have e1 : IntKind.u64.wrap (m * 4294967296) = ((2 ^ 32 * val (l.drop (k + 1)) : Nat) : Int) := by
            rw [IntKind.wrap_u64, hm]; unfold Bse at hmB; omega
          have e2 : IntKind.u64.wrap (l[k] : Int) = ((l[k] : Nat) : Int) := by
            rw [IntKind.wrap_u64]; unfold Bse at hlk; omega
          rw [e1, e2, bits_or_u64_nat _ _ (by unfold Bse at hmB; omega) (by unfold Bse at hlk; omega), ← Nat.two_pow_add_eq_or_of_lt (by exact hlk)]
          rw [List.drop_eq_getElem_cons hk, val]
          unfold Bse; omega
        have HO := Lib.hid hor
        clear hor hm
        go_wp2
        go_round
        case rel => exact ⟨_, (k : Int) - 1, by omega, by omega, rfl, rfl, by rw [show ((k : Int) - 1 + 1).toNat = k by omega]; exact HO.out⟩
        case measure => simp [intOf]

theorem dig_eq_drop {a b : List Nat} {k : Nat} (ha : k < a.length) (hb : k < b.length) (hd : a.drop (k + 1) = b.drop (k + 1)) (he : a[k] = b[k]) : a.drop k = b.drop k := by
  rw [List.drop_eq_getElem_cons ha, List.drop_eq_getElem_cons hb, hd, he]

theorem drew3 (w : World) (a b c : Nat) : ((w.drewN a).drewN b).drewN c = w.drewN (a + b + c) := by rw [World.drewN_drewN, World.drewN_drewN, Nat.add_assoc]

theorem compare_any (v u : Value) (m n : Nat) (w : World) (h : IsNat w v m) (g : IsNat w u n) :
    Calls Try.prog 38 #[v, u] w fun e w' => e = .returned (.int .i64 (cmpN m n)) ∧ ∃ k, w' = w.drewN k := by
  obtain ⟨a, cap, rfl⟩ := IsDig.len h
  obtain ⟨b, cap2, rfl⟩ := IsDig.len g
  obtain ⟨_, h1, h2, h3⟩ := IsDig.open_some h
  obtain ⟨_, g1, g2, g3⟩ := IsDig.open_some g
  have hdm := digs_lt m
  have hdn := digs_lt n
  have hvm := val_digs m
  have hvn := val_digs n
  unfold maxLen at h2 g2
  by_cases hlen : (digs m).length = (digs n).length
  · have hne : (((digs m).length : Int) != ((digs n).length : Int)) = false := by simp; omega
    revert h g h1 g1 h2 g2 h3 g3 hdm hdn hvm hvn hlen hne
    generalize digs m = l
    generalize digs n = r
    intro h g h1 h2 h3 g1 g2 g3 hdm hdn hvm hvn hlen hne
    have HL := Lib.hid hlen
    clear hlen
    go_enter Try.func38, Try.ntmps38
    go_wp2
    go_loopw [5] (fun y wr => ∃ (i : Int), -1 ≤ i ∧ i < l.length ∧ y = .int .i64 i ∧ l.drop (i + 1).toNat = r.drop (i + 1).toNat ∧ ∃ k, wr = w.drewN k) (fun y _ => (intOf y + 1).toNat)
    case atStart => exact ⟨(l.length : Int) - 1, by omega, by omega, rfl, by rw [show ((l.length : Int) - 1 + 1).toNat = l.length by omega, List.drop_length, HL.out, List.drop_length], 0, rfl⟩
    case round =>
      obtain ⟨i, hi0, hi1, rfl, hd, q, rfl⟩ := hrel
      have HD := Lib.hid hd
      clear hd
      by_cases hneg : i < 0
      · go_wp2
        go_ret
        have hd := HD.out
        rw [show (i + 1).toNat = 0 by omega, List.drop_zero, List.drop_zero] at hd
        have e : m = n := by rw [← hvm, ← hvn, hd]
        exact ⟨ret_int (by unfold cmpN; rw [e, if_neg (by omega), if_neg (by omega)]), q, rfl⟩
      · obtain ⟨k, rfl⟩ := Int.eq_ofNat_of_zero_le (show 0 ≤ i by omega)
        have hk : k < l.length := by omega
        have hk2 : k < r.length := by have := HL.out; omega
        have hik : (k : Int) < (l.length : Int) := by omega
        have hik2 : (k : Int) < (r.length : Int) := by omega
        have hik0 : (0 : Int) ≤ (k : Int) := by omega
        rcases h3 with h3 | ⟨g', rfl, hg, hcell⟩
        · rw [h3] at hk; exact absurd hk (Nat.not_lt_zero _)
        rcases g3 with g3 | ⟨g'', rfl, hg2, hcell2⟩
        · rw [g3] at hk2; exact absurd hk2 (Nat.not_lt_zero _)
        have hc := hcell k hk
        have hc2 := hcell2 k hk2
        clear hcell hcell2
        by_cases heq : l[k] = r[k]
        · have hb1 : ((l[k] : Int) != (r[k] : Int)) = false := by simp [heq]
          have HE := Lib.hid heq
          clear heq
          go_wp2
          go_quiet (fail)
          go_wp2
          go_roundw
          case rel => exact ⟨(k : Int) - 1, by omega, by omega, rfl, by rw [show ((k : Int) - 1 + 1).toNat = k by omega]; exact dig_eq_drop hk hk2 HD.out HE.out, _, rfl⟩
          case measure => simp [intOf]
        · have hb1 : ((l[k] : Int) != (r[k] : Int)) = true := by simp; omega
          by_cases hlt : l[k] < r[k]
          · have hb2 : decide ((l[k] : Int) < (r[k] : Int)) = true := by simp; omega
            go_wp2
            go_quiet (fail)
            go_wp2
            go_quiet (fail)
            go_wp2
            go_ret
            have hv := val_cmp_at hdm hk hk2 HD.out hlt
            rw [hvm, hvn] at hv
            exact ⟨ret_int (by unfold cmpN; rw [if_pos hv]), _, drew3 _ _ _ _⟩
          · have hb2 : decide ((l[k] : Int) < (r[k] : Int)) = false := by simp; omega
            go_wp2
            go_quiet (fail)
            go_wp2
            go_quiet (fail)
            go_wp2
            go_ret
            have hv := val_cmp_at hdn hk2 hk HD.out.symm (by omega)
            rw [hvm, hvn] at hv
            exact ⟨ret_int (by unfold cmpN; rw [if_neg (by omega), if_pos hv]), _, drew3 _ _ _ _⟩
  · have hne : (((digs m).length : Int) != ((digs n).length : Int)) = true := by simp; omega
    by_cases hlt : (digs m).length < (digs n).length
    · have hc := lt_of_digs_length hlt
      have hcmp : cmpN m n = -1 := by unfold cmpN; rw [if_pos hc]
      rw [hcmp]
      clear hcmp hvm hvn hdm hdn hc h g h3 g3
      go_enter Try.func38, Try.ntmps38
      go_wp2
      go_ret
      exact ⟨rfl, 0, rfl⟩
    · have hc := lt_of_digs_length (a := n) (b := m) (by omega)
      have hcmp : cmpN m n = 1 := by unfold cmpN; rw [if_neg (by omega), if_pos hc]
      rw [hcmp]
      clear hcmp hvm hvn hdm hdn hc h g h3 g3
      go_enter Try.func38, Try.ntmps38
      go_wp2
      go_ret
      exact ⟨rfl, 0, rfl⟩

end Go.Proofs.Ytpghhfobaionkaa

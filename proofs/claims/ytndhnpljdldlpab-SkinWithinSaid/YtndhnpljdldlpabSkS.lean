/- Skins: Parts. -/
import Derived.Test.YtndhnpljdldlpabSkR
import Derived.Laws.EntriesVeiled
import Derived.WideLaws
namespace Go.Proofs.Ytndhnpljdldlpab
open Go.RowKit

/-- Where Parts keeps what it has, behind leather's world of n blocks. -/
def plOf (n ps : Nat) (a : Option Addr) (cap : Nat) (g : Int) : PL := ⟨n + 1 + 1 + 1 + 1, n, n + 1 + 1 + 1, n + 1, n + 1 + 1, ps, ps + 1, a, cap, g⟩

theorem PM.start (w w1 : World) (a : Option Addr) (cap : Nat) (ss : List ByteArray) (g : Int) (hs : StrS w a ss) (hb : Below w.heap.size w w1) (hl : LeaM w1 w.heap.size (w.heap.size + 1) a ss cap g) (hp : 0 < ss.length) :
    PM w (plOf w1.heap.size w.heap.size a cap g) ss ([], []) (.slice none 0 0)
      ((((w1.alloc (.cells #[.func (.func 67) #[] #[.pointer (some ⟨w.heap.size, 0, none⟩), .pointer (some ⟨w.heap.size + 1, 0, none⟩)]] 58)).alloc (.cells #[.slice none 0 0] 53)).alloc (.map #[] 0)).alloc (.cells #[.map (some (w1.heap.size + 1 + 1))] 90)) := by
  have h1 := hl.1
  have h2 := hl.2.1
  have hz := hb.size
  generalize hA : (Obj.cells #[.func (.func 67) #[] #[.pointer (some ⟨w.heap.size, 0, none⟩), .pointer (some ⟨w.heap.size + 1, 0, none⟩)]] 58) = A
  generalize hB : (Obj.cells #[.slice none 0 0] 53) = B
  generalize hC : (Obj.cells #[.map (some (w1.heap.size + 1 + 1))] 90) = C
  have e1 : ((((w1.alloc A).alloc B).alloc (.map #[] 0)).alloc C).heap[w1.heap.size]? = some A := ((((Below.refl _ _).alloc (by simp) _).alloc (by simp) _).alloc (by simp) _ : Below (w1.alloc A).heap.size (w1.alloc A) _).block _ (by simp) |>.trans (heap_alloc_new w1 A)
  have e2 : ((((w1.alloc A).alloc B).alloc (.map #[] 0)).alloc C).heap[w1.heap.size + 1]? = some B := by
    have h := ((((Below.refl _ _).alloc (by simp) _).alloc (by simp) _ : Below ((w1.alloc A).alloc B).heap.size ((w1.alloc A).alloc B) (((((w1.alloc A).alloc B).alloc (.map #[] 0)).alloc C))).block (w1.alloc A).heap.size (by simp)).trans (heap_alloc_new (w1.alloc A) B)
    rwa [World.size_alloc] at h
  have e3 : ((((w1.alloc A).alloc B).alloc (.map #[] 0)).alloc C).heap[w1.heap.size + 1 + 1 + 1]? = some C := by
    have h := heap_alloc_new (((w1.alloc A).alloc B).alloc (.map #[] 0)) C
    simp only [World.size_alloc] at h
    exact h
  have hb4 : Below w1.heap.size w1 ((((w1.alloc A).alloc B).alloc (.map #[] 0)).alloc C) := ((((Below.refl _ _).alloc (Nat.le_refl _) _).alloc (by simp) _).alloc (by simp; omega) _).alloc (by simp; omega) _
  have hs4 : Seen ((((w1.alloc A).alloc B).alloc (.map #[] 0)).alloc C) (w1.heap.size + 1 + 1) 0 [] := by
    have h := (Seen.made ((w1.alloc A).alloc B)).below ((Below.refl _ _).alloc (Nat.le_refl _) C)
    have e : ((w1.alloc A).alloc B).heap.size = w1.heap.size + 1 + 1 := by simp
    rw [e] at h
    exact h
  refine ⟨hb.trans (hb4.mono hz), ?_, ?_, ?_, ?_, ?_, ?_, ?_, ?_, ?_, hs4, hl.below hb4⟩
  · simp only [plOf]; omega
  · simp only [plOf]; omega
  · simp only [plOf]; omega
  · simp [plOf]
  · intro b off e
    rcases hs with h0 | ⟨b', off', e', hlt, -⟩
    · rw [h0] at hp; simp at hp
    · have := e.symm.trans e'
      simp only [Option.some.injEq, Addr.mk.injEq] at this
      omega
  · exact e1.trans (by rw [← hA]; rfl)
  · exact e3.trans (by rw [← hC]; rfl)
  · exact e2.trans (by rw [← hB])
  · exact ⟨by simp [ptVals], .inl ⟨rfl, rfl⟩⟩

set_option maxRecDepth 100000 in
set_option maxHeartbeats 1600000 in
theorem parts_yes (a : Option Addr) (cap : Nat) (ss : List ByteArray) (hs : skB ss = true) (g : Int) (h1 : 1 ≤ g) (h9 : g ≤ 9) (w : World) (h : StrS w a ss) :
    Calls Try.prog 29 #[.slice a ss.length cap, .int .i64 g] w fun e w' => ∃ v B, e = .returned (.tuple #[v, .int .i64 0]) ∧ w.heap.size ≤ B ∧ w'.ownsRow B 69 7 v (partsTo (usB ss g) (wid ss) ss.length 0).1.length (ptVals (partsTo (usB ss g) (wid ss) ss.length 0).1) ∧ Below w.heap.size w w' := by
  obtain ⟨⟨hl1, hl2⟩, ⟨hw1, hw2⟩, -⟩ := skB_iff.1 hs
  have HL := Lib.hid (leather_yes a cap ss hs g h1 h9 w h)
  have HST := Lib.hid (fun (w1 : World) (hb : Below w.heap.size w w1) (hl : LeaM w1 w.heap.size (w.heap.size + 1) a ss cap g) => PM.start w w1 a cap ss g h hb hl hl1)
  have HW : Hid (∀ w1 w2, PM w (plOf w1 w.heap.size a cap g) ss ([], []) (.slice none 0 0) w2 → Calls Try.prog 63 #[.slice a ss.length cap, .func (.func 64) #[] #[.pointer (some ⟨w1, 0, none⟩), .pointer (some ⟨w1 + 1 + 1 + 1, 0, none⟩), .pointer (some ⟨w1 + 1, 0, none⟩)]] w2 fun e w' => e = .returned (.tuple #[]) ∧ ∃ v, PM w (plOf w1 w.heap.size a cap g) ss (partsTo (usB ss g) (wid ss) ss.length 0) v w') := Lib.hid (fun w1 w2 hp => by
    refine walk_parts a cap ss hs _ _ _ (fun y x w' => ∃ v, PM w (plOf w1 w.heap.size a cap g) ss (partsTo (usB ss g) (wid ss) y x) v w') w2 hp.lea.2.2.2.2 ⟨_, hp⟩ (fun y w' hi => by rw [partsTo_row]; exact hi) (fun x y w' hx hy hi => ?_)
    obtain ⟨v, hi⟩ := hi
    obtain ⟨i1, i2⟩ := partsTo_inv (us := usB ss g) (W := wid ss) (H := ss.length) (fun p q hh => usB_in h1 hh) y x
    have hmul : y * wid ss ≤ 47 * 48 := Nat.mul_le_mul (by omega) hw2
    refine (partsClo_any w (plOf w1 w.heap.size a cap g) ss hs h1 _ v x y w' hi i1 (by omega)).mono ?_
    rintro e w'' ⟨rfl, v', hp'⟩
    refine ⟨rfl, v', ?_⟩
    rw [partsTo_next]
    exact hp')
  obtain ⟨PT, hPT⟩ : ∃ PT, PT = partsTo (usB ss g) (wid ss) ss.length 0 := ⟨_, rfl⟩
  rw [← hPT] at HW ⊢
  clear h hPT hs
  go_enter Try.func29, Try.ntmps29
  go_wp2_with fail
  refine HL.out.mono ?_
  rintro e w1 ⟨rfl, hl, hb⟩
  have HP := Lib.hid (HST.out w1 hb hl)
  have hz := hb.size
  clear hl hb
  have hmk : ∀ w, (Instr.makeMap 90 none).run Try.prog w = .ok (.map (some w.heap.size)) (w.alloc (.map #[] 0)) := fun _ => rfl
  go_wp2_with fail
  refine (HW.out _ _ HP.out).mono ?_
  rintro e w2 ⟨rfl, v, hp⟩
  have HP2 := Lib.hid hp
  have e1 := cell_of_one hp.hl
  unfold plOf at e1
  simp only at e1
  clear hp
  go_wp2
  go_ret2
  exact ⟨_, _, rfl, HP2.out.le.2.2, HP2.out.own, HP2.out.b⟩

end Go.Proofs.Ytndhnpljdldlpab

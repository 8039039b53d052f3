/-
  Proved: for every list of glues and every two whole numbers of 64 bits, laws.FnExactShare returns true and its arguments read behind the call as before it; no condition.
-/
import Derived.Test.YtgfphgbemfmkfaaSuL
import Derived.Test.YtgfphgbemfmkfaaSok
namespace Go.Proofs.Ytgfphgbemfmkfaa
open Go.ChangeShapes Go.WideShapes Go.ChangeAt Go.RowKit
set_option linter.unusedVariables false
set_option linter.unusedSimpArgs false

/-- A row that the program made: in one new block between base and lid, or none. -/
def Mk (base lid : Nat) (w : World) (v : Value) (xs : List Int) : Prop :=
  (v = .slice none 0 0 ∧ xs = []) ∨ ∃ O n : Nat, v = .slice (some ⟨O, 0, none⟩) n n ∧ n = xs.length ∧ O < lid ∧ w.ownsRow base 2 1 (.slice (some ⟨O, 0, none⟩) n n) n (xs.map (Value.int .i64))
theorem own_base {w : World} {base O n : Nat} {xs : List Value} (h : w.ownsRow base 2 1 (.slice (some ⟨O, 0, none⟩) n n) n xs) : base ≤ O := by
  rcases h.2 with ⟨h', _⟩ | ⟨g', cap', cur, h', hg, _⟩
  · simp at h'
  · simp at h'; omega
theorem Mk.row {base lid : Nat} {w : World} {v : Value} {xs : List Int} (h : Mk base lid w v xs) : Row w v xs := by
  rcases h with ⟨rfl, rfl⟩ | ⟨O, n, rfl, rfl, hO, ho⟩
  · exact rowNone w
  · exact Row.own ho rfl (ownsRow_block ho)
theorem Mk.step {base lid : Nat} {w w' : World} {v : Value} {xs : List Int} (h : Mk base lid w v xs) (hb : Below w.heap.size w w') : Mk base lid w' v xs := by
  rcases h with h | ⟨O, n, rfl, rfl, hO, ho⟩
  · exact .inl h
  · exact .inr ⟨O, _, rfl, rfl, hO, owns_keep ho hb⟩
theorem Mk.only {base lid g : Nat} {w w' : World} {v : Value} {xs : List Int} (h : Mk base lid w v xs) (hb : Only g w w') (hg : g < base) : Mk base lid w' v xs := by
  rcases h with h | ⟨O, n, rfl, rfl, hO, ho⟩
  · exact .inl h
  · have := own_base ho
    exact .inr ⟨O, _, rfl, rfl, hO, owns_heap ho (hb.2.1 O (by omega))⟩
theorem Mk.mark {base lid : Nat} {w : World} {v : Value} {xs : List Int} (h : Mk base lid w v xs) (hn : xs.length ≤ 1048576) :
    Calls Try.prog 18 #[v, .int .i64 1] w fun e w' => e = .returned (.int .i64 (1 + (xs.length : Int))) ∧ Mk base lid w' v (ups 1 xs.length) ∧ Below base w w' ∧ (∀ b, b < base ∨ lid ≤ b → w'.heap[b]? = w.heap[b]?) := by
  rcases h with ⟨rfl, rfl⟩ | ⟨O, n, rfl, rfl, hO, ho⟩
  · refine (mark_none w 1).mono ?_
    rintro e w' ⟨rfl, rfl⟩
    exact ⟨rfl, .inl ⟨rfl, rfl⟩, Below.refl _ _, fun b _ => rfl⟩
  · have hbo := own_base ho
    refine (markInts_any ho hn (by omega) (by omega)).mono ?_
    rintro e w' ⟨rfl, ho', hb', hs', hh'⟩
    exact ⟨rfl, .inr ⟨O, _, rfl, by rw [ups_length], hO, ho'⟩, hb'.mono hbo, fun b hb => hh' b (by omega)⟩

/-- What the law's walk carries. -/
def LS (w w3 wi : World) (A B base lid : Nat) (vi : Value) (ys : List Int) (x0 x1 x2 x3 x4 x5 : Int) : Prop :=
  Below w.heap.size w wi ∧ Below w3.heap.size w3 wi ∧ wi.heap[A]? = some (setO x0 x1 x2 x3 x4 x5) ∧ wi.heap[B]? = some (setO x0 x1 x2 x3 x4 x5) ∧ Mk base lid wi vi ys
theorem LS.step {w w3 wi wj : World} {A B base lid : Nat} {vi : Value} {ys : List Int} {x0 x1 x2 x3 x4 x5 : Int} (h : LS w w3 wi A B base lid vi ys x0 x1 x2 x3 x4 x5) (hb : Below wi.heap.size wi wj) : LS w w3 wj A B base lid vi ys x0 x1 x2 x3 x4 x5 :=
  ⟨h.1.trans (hb.mono h.1.size), h.2.1.trans (hb.mono h.2.1.size), block_keep h.2.2.1 hb, block_keep h.2.2.2.1 hb, h.2.2.2.2.step hb⟩
theorem LS.only {w w3 wi wj : World} {A B base lid g : Nat} {vi : Value} {ys : List Int} {x0 x1 x2 x3 x4 x5 : Int} (h : LS w w3 wi A B base lid vi ys x0 x1 x2 x3 x4 x5) (ho : Only g wi wj) (hw : w.heap.size ≤ g) (h3 : w3.heap.size ≤ g) (hA : A ≠ g) (hB : B ≠ g) (hg : g < base) : LS w w3 wj A B base lid vi ys x0 x1 x2 x3 x4 x5 :=
  ⟨h.1.trans (ho.2.2.mono hw), h.2.1.trans (ho.2.2.mono h3), (ho.2.1 A hA).trans h.2.2.1, (ho.2.1 B hB).trans h.2.2.2.1, h.2.2.2.2.only ho hg⟩
theorem LS.marked {w w3 wi wj : World} {A B base lid : Nat} {vi : Value} {ys zs : List Int} {x0 x1 x2 x3 x4 x5 : Int} (h : LS w w3 wi A B base lid vi ys x0 x1 x2 x3 x4 x5) (hm : Mk base lid wj vi zs) (hb : Below base wi wj) (hh : ∀ b, b < base ∨ lid ≤ b → wj.heap[b]? = wi.heap[b]?) (hw : w.heap.size ≤ base) (h3 : w3.heap.size ≤ base) (hA : A < base) (hB : lid ≤ B) : LS w w3 wj A B base lid vi zs x0 x1 x2 x3 x4 x5 :=
  ⟨h.1.trans (hb.mono hw), h.2.1.trans (hb.mono h3), (hh A (.inl hA)).trans h.2.2.1, (hh B (.inr hB)).trans h.2.2.2.1, hm⟩

set_option maxRecDepth 20000 in
set_option maxHeartbeats 4000000 in
theorem lawShare_data {v : Value} {gs : List Gl} {w : World} (width target : Int) (h : GRow w v gs) (hn : gs.length ≤ 9223372036854775807) (xs : List Int) (x0 x1 x2 x3 x4 x5 : Int)
    (hsp : gs.length ≤ 1048576 → ∀ W vv, GRow W vv gs → Calls Try.prog 12 #[vv, .int .i64 width, .int .i64 target] W fun e w' => (∃ v', e = .returned (.tuple #[v', setV x0 x1 x2 x3 x4 x5]) ∧ Row w' v' xs) ∧ Below W.heap.size W w')
    (him : gs.length ≤ 1048576 → ∀ W vv, GRow W vv gs → Calls Try.prog 7 #[vv, .int .i64 width, .int .i64 target] W fun e w' => ∃ vi, e = .returned (.tuple #[vi, setV x0 x1 x2 x3 x4 x5]) ∧ Mk W.heap.size w'.heap.size w' vi xs ∧ Below W.heap.size W w')
    (hxl : gs.length ≤ 1048576 → xs.length ≤ 1048576) :
    Calls Try.prog 4 #[v, .int .i64 width, .int .i64 target] w fun e w' => e = .returned (.bool true) ∧ Below w.heap.size w w' := by
  have HG : Hid (GRow w v gs) := h
  obtain ⟨ao, n, cap, rfl, hl, _⟩ := h
  have HL : Hid (gs.length = n) := hl
  have hn9 : n ≤ 9223372036854775807 := by omega
  have HSP : Hid (gs.length ≤ 1048576 → ∀ W vv, GRow W vv gs → Calls Try.prog 12 #[vv, .int .i64 width, .int .i64 target] W fun e w' => (∃ v', e = .returned (.tuple #[v', setV x0 x1 x2 x3 x4 x5]) ∧ Row w' v' xs) ∧ Below W.heap.size W w') := hsp
  have HIM : Hid (gs.length ≤ 1048576 → ∀ W vv, GRow W vv gs → Calls Try.prog 7 #[vv, .int .i64 width, .int .i64 target] W fun e w' => ∃ vi, e = .returned (.tuple #[vi, setV x0 x1 x2 x3 x4 x5]) ∧ Mk W.heap.size w'.heap.size w' vi xs ∧ Below W.heap.size W w') := him
  have HXL : Hid (gs.length ≤ 1048576 → xs.length ≤ 1048576) := hxl
  clear hn hl hsp him hxl
  go_enter Try.func4, Try.ntmps4
  go_wp2_with fail
  refine (szGlues_any _ hn9).mono ?_
  rintro e w1 ⟨⟨m, rfl, hm⟩, hw1⟩
  have hw1' := hw1.symm
  clear hw1
  subst hw1'
  by_cases hneg : m < 0
  · go_wp2
    go_ret
    exact ⟨rfl, Below.refl _ _⟩
  · have HN : Hid (gs.length ≤ 1048576) := by rw [show gs.length = n from HL]; exact hm (by omega)
    have HX : Hid (xs.length ≤ 1048576) := HXL HN
    clear hm HXL
    go_wp2_with fail
    refine (toGlues_any HG HN).mono ?_
    rintro e w2 ⟨rfl, hp2, hb2⟩
    have X2 : Hid (GRow w2 (.slice (some ⟨w.heap.size, 0, none⟩) gs.length gs.length) gs) := hp2.row rfl
    have B2 : Hid (Below w.heap.size w w2) := hb2
    clear hp2 hb2
    go_wp2_with fail
    refine (HSP HN _ _ X2).mono ?_
    rintro e w3 ⟨⟨v8, rfl, hR3⟩, hb3⟩
    have R3 : Hid (Row w3 v8 xs) := hR3
    have B3 : Hid (Below w.heap.size w w3) := Below.trans B2 (hb3.mono (Below.size B2))
    clear hb3 hR3 X2 B2
    go_wp2_with fail
    refine (toGlues_any (GRow.below HG (Below.alloc B3 (Below.size B3) _)) HN).mono ?_
    rintro e w4 ⟨rfl, hp4, hb4⟩
    obtain ⟨X, hX⟩ : ∃ X, X = (w3.alloc (.cells #[.int .i64 x0, .int .i64 x1, .int .i64 x2, .int .i64 x3, .int .i64 x4, .int .i64 x5] 29)).heap.size := ⟨_, rfl⟩
    have hX' : X = w3.heap.size + 1 := by rw [hX]; simp
    have hX3 : w3.heap.size < X := by omega
    rw [← hX] at hp4
    have X4 : Hid (GPart w4 X gs.length gs.length gs) := hp4
    have B4 : Hid (Below w.heap.size w w4 ∧ Below w3.heap.size w3 w4 ∧ w4.heap[w3.heap.size]? = some (setO x0 x1 x2 x3 x4 x5) ∧ X < w4.heap.size ∧ w.heap.size ≤ w3.heap.size) :=
      ⟨(Below.alloc B3 (Below.size B3) _).trans (hb4.mono (by have := Below.size B3; simp; omega)), ((Below.refl _ _).alloc (Nat.le_refl _) _).trans (hb4.mono (by simp)), block_keep (heap_alloc_new w3 _) hb4, hp4.lt, Below.size B3⟩
    simp only [World.size_alloc, ← hX'] at *
    clear hp4 hb4 hX
    go_wp2_with fail
    refine (HIM HN _ _ (X4.row rfl)).mono ?_
    rintro e w5 ⟨vi, rfl, hmk5, hb5⟩
    obtain ⟨A, hA⟩ : ∃ A, A = w3.heap.size := ⟨_, rfl⟩
    obtain ⟨B, hB⟩ : ∃ B, B = w5.heap.size := ⟨_, rfl⟩
    have HK : Hid (w.heap.size ≤ w4.heap.size ∧ w3.heap.size ≤ w4.heap.size ∧ A < w4.heap.size ∧ w5.heap.size ≤ B ∧ w.heap.size ≤ X ∧ w3.heap.size ≤ X ∧ A ≠ X ∧ B ≠ X ∧ X < w4.heap.size) := by
      have z1 := B4.1.size
      have z2 := B4.2.1.size
      have z3 := B4.2.2.2.1
      have z4 := B4.2.2.2.2
      have z5 := hb5.size
      exact ⟨z1, z2, by omega, by omega, by omega, by omega, by omega, by omega, z3⟩
    have S5 : Hid (LS w w3 (w5.alloc (.cells #[.int .i64 x0, .int .i64 x1, .int .i64 x2, .int .i64 x3, .int .i64 x4, .int .i64 x5] 29)) A B w4.heap.size w5.heap.size vi xs x0 x1 x2 x3 x4 x5) :=
      ⟨(B4.1.trans (hb5.mono B4.1.size)).alloc (by have := B4.1.size; have := hb5.size; omega) _, (B4.2.1.trans (hb5.mono B4.2.1.size)).alloc (by have := B4.2.1.size; have := hb5.size; omega) _, by rw [hA]; exact block_keep (block_keep B4.2.2.1 hb5) ((Below.refl _ _).alloc (Nat.le_refl _) _), by rw [hB]; exact heap_alloc_new w5 _, hmk5.step ((Below.refl _ _).alloc (Nat.le_refl _) _)⟩
    have X5 : Hid (GPart (w5.alloc (.cells #[.int .i64 x0, .int .i64 x1, .int .i64 x2, .int .i64 x3, .int .i64 x4, .int .i64 x5] 29)) X gs.length gs.length gs) := (GPart.below X4 hb5).below ((Below.refl _ _).alloc (Nat.le_refl _) _)
    clear hmk5 hb5 X4 B4
    go_wp2_with fail
    refine (eqInts_any S5.2.2.2.2.row (Row.below R3 S5.2.1) HX).mono ?_
    rintro e w6 ⟨rfl, hb6⟩
    rw [decide_eq_true rfl, ← hA, ← hB]
    clear hA hB hX3
    have S6 : Hid (LS w w3 w6 A B w4.heap.size w5.heap.size vi xs x0 x1 x2 x3 x4 x5) := LS.step S5 hb6
    have X6 : Hid (GPart w6 X gs.length gs.length gs) := GPart.below X5 hb6
    clear hb6 S5 X5
    obtain ⟨a0, a1, a2, a3, a4, a5⟩ := set_cells S6.2.2.1
    obtain ⟨b0, b1, b2, b3, b4, b5⟩ := set_cells S6.2.2.2.1
    go_wp2_with fail
    refine (eqSetting_same x0 x1 x2 x3 x4 x5 _).mono ?_
    rintro e w7 ⟨rfl, hb7⟩
    clear a0 a1 a2 a3 a4 a5 b0 b1 b2 b3 b4 b5
    have S7 : Hid (LS w w3 w7 A B w4.heap.size w5.heap.size vi xs x0 x1 x2 x3 x4 x5) := LS.step S6 hb7
    have X7 : Hid (GPart w7 X gs.length gs.length gs) := GPart.below X6 hb7
    clear hb7 S6 X6
    go_wp2_with fail
    refine (toGlues_any (GRow.below HG S7.1) HN).mono ?_
    rintro e w8 ⟨rfl, hp8, hb8⟩
    have S8 : Hid (LS w w3 w8 A B w4.heap.size w5.heap.size vi xs x0 x1 x2 x3 x4 x5) := LS.step S7 hb8
    have X8 : Hid (GPart w8 X gs.length gs.length gs) := GPart.below X7 hb8
    have Y8 : Hid (GRow w8 (.slice (some ⟨w7.heap.size, 0, none⟩) gs.length gs.length) gs) := hp8.row rfl
    clear hb8 hp8 S7 X7
    go_wp2_with fail
    refine (eqGlues_same (X8.row rfl) Y8 HN).mono ?_
    rintro e w9 ⟨rfl, hb9⟩
    have S9 : Hid (LS w w3 w9 A B w4.heap.size w5.heap.size vi xs x0 x1 x2 x3 x4 x5) := LS.step S8 hb9
    have X9 : Hid (GPart w9 X gs.length gs.length gs) := GPart.below X8 hb9
    clear hb9 S8 X8 Y8
    go_wp2_with fail
    refine (markGlues_any X9 HN).mono ?_
    rintro e w10 ⟨rfl, ho10⟩
    have S10 : Hid (LS w w3 w10 A B w4.heap.size w5.heap.size vi xs x0 x1 x2 x3 x4 x5) := LS.only S9 ho10 HK.2.2.2.2.1 HK.2.2.2.2.2.1 HK.2.2.2.2.2.2.1 HK.2.2.2.2.2.2.2.1 HK.2.2.2.2.2.2.2.2
    clear ho10 S9 X9
    have hpos : ¬ ((1 : Int) + 5 * (gs.length : Int) < 0) := by omega
    go_wp2_with fail
    refine (eqInts_any S10.2.2.2.2.row (Row.below R3 S10.2.1) HX).mono ?_
    rintro e w11 ⟨rfl, hb11⟩
    rw [decide_eq_true rfl]
    have S11 : Hid (LS w w3 w11 A B w4.heap.size w5.heap.size vi xs x0 x1 x2 x3 x4 x5) := LS.step S10 hb11
    clear hb11 S10
    obtain ⟨a0, a1, a2, a3, a4, a5⟩ := set_cells S11.2.2.1
    obtain ⟨b0, b1, b2, b3, b4, b5⟩ := set_cells S11.2.2.2.1
    go_wp2_with fail
    refine (eqSetting_same x0 x1 x2 x3 x4 x5 _).mono ?_
    rintro e w12 ⟨rfl, hb12⟩
    clear a0 a1 a2 a3 a4 a5 b0 b1 b2 b3 b4 b5
    have S12 : Hid (LS w w3 w12 A B w4.heap.size w5.heap.size vi xs x0 x1 x2 x3 x4 x5) := LS.step S11 hb12
    clear hb12 S11
    go_wp2_with fail
    refine (Mk.mark S12.2.2.2.2 HX).mono ?_
    rintro e w13 ⟨rfl, hm13, hb13, hh13⟩
    have S13 : Hid (LS w w3 w13 A B w4.heap.size w5.heap.size vi (ups 1 xs.length) x0 x1 x2 x3 x4 x5) := LS.marked S12 hm13 hb13 hh13 HK.1 HK.2.1 HK.2.2.1 HK.2.2.2.1
    clear hm13 hb13 hh13 S12
    have hln : ¬ ((1 : Int) + (xs.length : Int) < 0) := by omega
    go_wp2_with fail
    refine (heldInts_any S13.2.2.2.2.row HX (by omega) (by omega)).mono ?_
    rintro e w14 ⟨rfl, hw14⟩
    have hw14' := hw14.symm
    clear hw14
    subst hw14'
    go_wp2_with fail
    refine (toGlues_any (GRow.below HG S13.1) HN).mono ?_
    rintro e w15 ⟨rfl, hp15, hb15⟩
    have S15 : Hid (LS w w3 w15 A B w4.heap.size w5.heap.size vi (ups 1 xs.length) x0 x1 x2 x3 x4 x5) := LS.step S13 hb15
    have X15 : Hid (GRow w15 (.slice (some ⟨w13.heap.size, 0, none⟩) gs.length gs.length) gs) := hp15.row rfl
    clear hb15 hp15 S13
    go_wp2_with fail
    refine (HIM HN _ _ X15).mono ?_
    rintro e w16 ⟨vj, rfl, hmk16, hb16⟩
    obtain ⟨C, hC⟩ : ∃ C, C = w16.heap.size := ⟨_, rfl⟩
    have S16 : Hid (LS w w3 (w16.alloc (.cells #[.int .i64 x0, .int .i64 x1, .int .i64 x2, .int .i64 x3, .int .i64 x4, .int .i64 x5] 29)) A B w4.heap.size w5.heap.size vi (ups 1 xs.length) x0 x1 x2 x3 x4 x5) := LS.step (LS.step S15 hb16) ((Below.refl _ _).alloc (Nat.le_refl _) _)
    have T16 : Hid (Row (w16.alloc (.cells #[.int .i64 x0, .int .i64 x1, .int .i64 x2, .int .i64 x3, .int .i64 x4, .int .i64 x5] 29)) vj xs ∧ (w16.alloc (.cells #[.int .i64 x0, .int .i64 x1, .int .i64 x2, .int .i64 x3, .int .i64 x4, .int .i64 x5] 29)).heap[C]? = some (setO x0 x1 x2 x3 x4 x5)) := ⟨hmk16.row.below ((Below.refl _ _).alloc (Nat.le_refl _) _), by rw [hC]; exact heap_alloc_new w16 _⟩
    clear hmk16 hb16 S15 X15
    go_wp2_with fail
    refine (eqInts_any T16.1 (Row.below R3 S16.2.1) HX).mono ?_
    rintro e w17 ⟨rfl, hb17⟩
    rw [decide_eq_true rfl, ← hC]
    clear hC
    have S17 : Hid (LS w w3 w17 A B w4.heap.size w5.heap.size vi (ups 1 xs.length) x0 x1 x2 x3 x4 x5) := LS.step S16 hb17
    have T17 : Hid (w17.heap[C]? = some (setO x0 x1 x2 x3 x4 x5)) := block_keep T16.2 hb17
    clear hb17 S16 T16
    obtain ⟨a0, a1, a2, a3, a4, a5⟩ := set_cells S17.2.2.1
    obtain ⟨b0, b1, b2, b3, b4, b5⟩ := set_cells T17
    go_wp2_with fail
    refine (eqSetting_same x0 x1 x2 x3 x4 x5 _).mono ?_
    rintro e w18 ⟨rfl, hb18⟩
    clear a0 a1 a2 a3 a4 a5 b0 b1 b2 b3 b4 b5
    have S18 : Hid (LS w w3 w18 A B w4.heap.size w5.heap.size vi (ups 1 xs.length) x0 x1 x2 x3 x4 x5) := LS.step S17 hb18
    clear hb18 S17 T17
    go_wp2_with fail
    refine (heldInts_any S18.2.2.2.2.row HX (by omega) (by omega)).mono ?_
    rintro e w19 ⟨rfl, hw19⟩
    have hw19' := hw19.symm
    clear hw19
    subst hw19'
    go_wp2
    go_ret
    exact ⟨rfl, S18.1⟩

theorem lawShare_any {v : Value} {gs : List Gl} {w : World} (width target : Int) (h : GRow w v gs) (hn : gs.length ≤ 9223372036854775807) :
    Calls Try.prog 4 #[v, .int .i64 width, .int .i64 target] w fun e w' => e = .returned (.bool true) ∧ Below w.heap.size w w' := by
  by_cases hok : glsOk gs = true ∧ fitsB width = true ∧ fitsB target = true
  · refine lawShare_data width target h hn (shareL gs (target - width - siz gs)) (shareS gs (target - width - siz gs)).sign (shareS gs (target - width - siz gs)).order (shareS gs (target - width - siz gs)).want (shareS gs (target - width - siz gs)).have_ (shareS gs (target - width - siz gs)).bad (shareS gs (target - width - siz gs)).over ?_ ?_ ?_
    · intro _ W vv hg
      exact specShare_ok width target _ hg hok.1 hok.2.1 hok.2.2 rfl
    · intro _ W vv hg
      refine (implShare_ok width target _ hg hok.1 hok.2.1 hok.2.2 rfl).mono ?_
      rintro e w' ⟨O, rfl, ho, hb⟩
      exact ⟨_, rfl, .inr ⟨O, _, rfl, (shareL_length gs _).symm, ownsRow_block ho, ho⟩, hb⟩
    · intro hh
      rw [shareL_length]
      exact hh
  · refine lawShare_data width target h hn [] 0 0 0 0 0 0 ?_ ?_ (by simp)
    · intro hh W vv hg
      exact specShare_no width target hg hh hok
    · intro hh W vv hg
      refine (implShare_no width target hg hh hok).mono ?_
      rintro e w' ⟨rfl, hb⟩
      exact ⟨_, rfl, .inl ⟨rfl, rfl⟩, hb⟩

set_option maxRecDepth 100000 in
theorem share_lifted (os : Os) (started : os.Started) (H : Type) (enc : TypeId × Value → H) :
    ReturnsInHanded {} Try.checked os 4 .any (Rows.fnExactShareSpec.pre6 enc Try.prog Try.f4 Rows.fnExactShareRow.domain false) (Rows.fnExactShareSpec.post enc Try.prog Try.f4 false true false false) := by
  refine returnsInHanded_of_change (C := Try.checked) ownT started (by kernel_rfl) Try.func4
    (ChangeSpec.witness6 (enc := enc) (C := Try.checked) false ⟨#[], #[.slice none 0 0, .int .i64 0, .int .i64 0], []⟩ 8 (by kernel_rfl) (by kernel_rfl) (by kernel_rfl) (by kernel_rfl)) ?_
  intro W base args ds gs before hval0 hW hcnd _
  have hval : ∀ (j : Nat) t v, Try.f4.params[j]? = some t → args[j]? = some v → Value.okWide Try.prog W .any base t v := hval0
  have hW' := hW
  obtain ⟨p, q, hA0, hV, rfl, hfz, hnd⟩ := hW
  have hA : DataW.TrodAll enc Try.prog W 0 (fun _ => true) true Try.f4.params.toList args.toList ds p := hA0
  rw [Try.params4] at hA hval
  obtain ⟨v0, v1, v2, d0, d1, d2, p0, p1, p2, rfl, rfl, rfl, h0, h1, h2⟩ := trodAll_three hA
  obtain ⟨rfl, rfl⟩ := trodVars_none hV
  have k0 := h0
  have lt0 : ∀ x ∈ p0, x.block < W.heap.size := by obtain ⟨m, hm⟩ := k0; exact DataW.trod_lt m _ _ _ hm
  obtain ⟨gl, hrow, hn⟩ := open_gls (hval 0 38 v0 rfl rfl) h0
  obtain ⟨a1, rfl, rfl, rfl, w1⟩ := open_int Try.underlying2 (hval 1 2 v1 rfl rfl) h1
  obtain ⟨a2, rfl, rfl, rfl, w2⟩ := open_int Try.underlying2 (hval 2 2 v2 rfl rfl) h2
  clear hA0 hval0
  refine (lawShare_any a1 a2 hrow hn).mono fun e W' ⟨he, bel⟩ => ?_
  subst he
  exact ⟨_, rfl, _, _, _, [], _, [], hW', trodAll_mk1 (shut_bool Try.underlying4 _), (trodAll_cons_mk (Below.trod laidOut (by kernel_rfl) (of_decide_eq_true (by kernel_rfl)) k0 bel lt0) (trodAll_cons_mk (shut_int Try.underlying2 w1) (trodAll_cons_mk (shut_int Try.underlying2 w2) trodAll_mk0))), rfl, bel.frame _, fun h => by cases h⟩

theorem share_holds : Rows.FnExactShareSaid :=
  OpenClaim.holds_of_wide 4 Try.f4 rfl rfl rfl rfl rfl rfl rfl ⟨rfl, rfl, rfl, rfl, rfl⟩ rfl rfl rfl rfl rfl (by kernel_rfl) Try.func4 (by kernel_rfl)
    (of_decide_eq_true (by kernel_rfl)) (by unfold Func.isWrapper; first | (rw [if_pos (by decide +kernel)]; kernel_rfl) | (rw [if_neg (by decide +kernel)]; exact ⟨rfl, rfl⟩))
    (fun os started H enc _ => share_lifted os started H enc)
#print axioms share_holds
end Go.Proofs.Ytgfphgbemfmkfaa

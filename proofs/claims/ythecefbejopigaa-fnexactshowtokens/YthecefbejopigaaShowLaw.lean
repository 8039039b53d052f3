/-
  Proved: for every list of tokens, laws.FnExactShowTokens returns true and its argument reads behind the call as before it; no condition.
-/
import Derived.Test.YthecefbejopigaaTokLaw
import Derived.Test.YthecefbejopigaaShowI
import Derived.Deep.Slices
namespace Go.Proofs.Ythecefbejopigaa
open Go.ChangeShapes Go.WideShapes Go.ChangeAt Go.RowKit
set_option linter.unusedVariables false
set_option linter.unusedSimpArgs false

set_option maxHeartbeats 1000000 in
theorem lawShow_any {v : Value} {ts : List Tk} {w : World} (h : TRow w v ts) (hn : ts.length ≤ 9223372036854775807) (hs : ∀ i, i < ts.length → (ts.getD i Tk.none).s.size ≤ 9223372036854775807) :
    Calls Try.prog 8 #[v] w fun e w' => e = .returned (.bool true) ∧ Below w.heap.size w w' := by
  have HR : Hid (TRow w v ts) := h
  obtain ⟨ao, n, cap, rfl, hl, _⟩ := h
  have HL : Hid (ts.length = n) := hl
  have HN : Hid (ts.length ≤ 9223372036854775807 ∧ ∀ i, i < ts.length → (ts.getD i Tk.none).s.size ≤ 9223372036854775807) := ⟨hn, hs⟩
  clear hn hs hl
  go_enter Try.func8, Try.ntmps8
  go_wp2_with fail
  refine (szTokens_any HR HN.1 HN.2).mono ?_
  rintro e w1 ⟨⟨m, rfl, hm⟩, hb1⟩
  have HM : Hid (0 ≤ m → weight ts ≤ 1048576) := hm
  have R1 : Hid (TRow w1 (.slice ao n cap) ts) := TRow.below HR hb1
  have B1 : Hid (Below w.heap.size w w1) := hb1
  clear hm hb1 HR
  by_cases hneg : m < 0
  · go_wp2
    go_ret
    exact ⟨rfl, B1⟩
  · have hwt : weight ts ≤ 1048576 := HM (by omega)
    have hn1 : ts.length ≤ 1048576 := by unfold weight at hwt; omega
    have HW : Hid (weight ts ≤ 1048576 ∧ ts.length ≤ 1048576) := ⟨hwt, hn1⟩
    clear hwt hn1
    go_wp2_with fail
    refine (toTokens_any R1 HW.2).mono ?_
    rintro e w2 ⟨rfl, hp2, hb2⟩
    have X2 : Hid (TRow w2 (.slice (some ⟨w1.heap.size, 0, none⟩) ts.length ts.length) ts) := hp2.row rfl
    have R2 : Hid (TRow w2 (.slice ao n cap) ts) := TRow.below R1 hb2
    have B2 : Hid (Below w.heap.size w w2) := Below.trans B1 (hb2.mono (Below.size B1))
    clear hp2 hb2 R1
    go_wp2_with fail
    refine (specShow_any X2 HW.1).mono ?_
    rintro e w3 ⟨rfl, hb3⟩
    have R3 : Hid (TRow w3 (.slice ao n cap) ts) := TRow.below R2 hb3
    have B3 : Hid (Below w.heap.size w w3) := Below.trans B2 (hb3.mono (Below.size B2))
    clear hb3 R2 X2
    go_wp2_with fail
    refine (toTokens_any R3 HW.2).mono ?_
    rintro e w4 ⟨rfl, hp4, hb4⟩
    have X4 : Hid (TRow w4 (.slice (some ⟨w3.heap.size, 0, none⟩) ts.length ts.length) ts) := hp4.row rfl
    have R4 : Hid (TRow w4 (.slice ao n cap) ts) := TRow.below R3 hb4
    have B4 : Hid (Below w.heap.size w w4) := Below.trans B3 (hb4.mono (Below.size B3))
    clear hp4 hb4 R3
    go_wp2_with fail
    refine (implShow_any X4 HW.1).mono ?_
    rintro e w5 ⟨rfl, hb5⟩
    have X5 : Hid (TRow w5 (.slice (some ⟨w3.heap.size, 0, none⟩) ts.length ts.length) ts) := TRow.below X4 hb5
    have R5 : Hid (TRow w5 (.slice ao n cap) ts) := TRow.below R4 hb5
    have B5 : Hid (Below w.heap.size w w5) := Below.trans B4 (hb5.mono (Below.size B4))
    clear hb5 R4 X4
    go_wp2_with fail
    refine (toTokens_any R5 HW.2).mono ?_
    rintro e w6 ⟨rfl, hp6, hb6⟩
    have Y6 : Hid (TRow w6 (.slice (some ⟨w5.heap.size, 0, none⟩) ts.length ts.length) ts) := hp6.row rfl
    have X6 : Hid (TRow w6 (.slice (some ⟨w3.heap.size, 0, none⟩) ts.length ts.length) ts) := TRow.below X5 hb6
    have B6 : Hid (Below w.heap.size w w6) := Below.trans B5 (hb6.mono (Below.size B5))
    clear hp6 hb6 R5 X5
    go_wp2_with fail
    refine (eqTokens_same X6 Y6 HW.2).mono ?_
    rintro e w7 ⟨rfl, hb7⟩
    have B7 : Hid (Below w.heap.size w w7) := Below.trans B6 (hb7.mono (Below.size B6))
    clear hb7 Y6 X6
    go_wp2
    go_ret
    exact ⟨rfl, B7⟩

/-- A slice of tokens that comes in. -/
theorem open_toks {H : Type} {enc : TypeId × Value → H} {w : World} {base : Nat} {held : Bool} {r : Reach} {b0 : Nat} {v : Value} {d : DataW H} {p : List MemPlace}
    (hv : Value.okWide Try.prog w r b0 47 v) (h : DataW.Trod enc Try.prog w base (fun _ => true) held 47 v d p) :
    ∃ ts : List Tk, TRow w v ts ∧ ts.length ≤ 9223372036854775807 ∧ ∀ i, i < ts.length → (ts.getD i Tk.none).s.size ≤ 9223372036854775807 := by
  obtain ⟨a0, len, cap, rfl⟩ := okWide_slice Try.underlying47 hv
  obtain ⟨fuel, hf⟩ := h
  rcases Go.Deep.open_slice Try.underlying47 hf with ⟨hcs, hx⟩ | ⟨a, len', cap', m, n, D, Pl, hcs, _, hl, hm, hmm, hx, hel⟩
  · simp [Value.cells] at hcs
    obtain ⟨rfl, rfl, rfl⟩ := hcs
    exact ⟨[], ⟨none, 0, 0, rfl, rfl, fun h => by omega⟩, by simp, fun i hi => by simp at hi⟩
  · simp [Value.cells] at hcs
    obtain ⟨rfl, rfl, rfl⟩ := hcs
    by_cases h0 : len = 0
    · subst h0
      exact ⟨[], ⟨_, 0, cap, rfl, rfl, fun h => by omega⟩, by simp, fun i hi => by simp at hi⟩
    · have hplain : ∃ b off, a = ⟨b, off, none⟩ := by
        obtain ⟨cs', hcells, htr⟩ := hel 0 (by simp at hmm; omega)
        rw [cells30] at hcells
        obtain ⟨_, hlen, hat⟩ := World.cells?_some hcells
        have h1 := hat 0 (by omega)
        rw [List.getElem?_eq_getElem (by omega)] at h1
        obtain ⟨b, off, spot⟩ := a
        have hspot : spot = none := by simpa [Addr.add] using World.cell?_spot h1
        subst hspot
        exact ⟨b, off, rfl⟩
      obtain ⟨b, off, rfl⟩ := hplain
      have each : ∀ i, i < len → ∃ t : Tk, w.cell? ⟨b, off + i * 3, none⟩ = some (.int .i64 t.c) ∧ w.cell? ⟨b, off + i * 3 + 1, none⟩ = some (.int .i64 t.h) ∧ w.cell? ⟨b, off + i * 3 + 2, none⟩ = some (.string t.s) ∧ t.s.size ≤ 9223372036854775807 := by
        intro i hi
        obtain ⟨cs', hcells, htr⟩ := hel i (by simp at hmm; omega)
        rw [cells30, add_plain] at hcells
        obtain ⟨_, hlen, hat⟩ := World.cells?_some hcells
        obtain ⟨c0, c1, c2, rfl⟩ := list3 hlen
        obtain ⟨xs, n', _, _, _, hlx, hfs⟩ := DataW.trod_struct Try.underlying30 htr
        obtain ⟨y0, y1, y2, rfl⟩ := list3 (by simpa using hlx)
        have g0 : DataW.trod enc Try.prog w base (fun _ => true) held n' 2 [c0] = some y0 := by simpa [cells2] using hfs 0 _ rfl
        have g1 : DataW.trod enc Try.prog w base (fun _ => true) held n' 2 [c1] = some y1 := by simpa [cells2] using hfs 1 _ rfl
        have g2 : DataW.trod enc Try.prog w base (fun _ => true) held n' 9 [c2] = some y2 := by simpa [cells2, cells9] using hfs 2 _ rfl
        obtain ⟨n0, e0, _, w0⟩ := DataW.trod_int Try.underlying2 g0
        obtain ⟨n1, e1, _, w1⟩ := DataW.trod_int Try.underlying2 g1
        obtain ⟨s, e2, _, hs⟩ := DataW.trod_string Try.underlying9 g2
        simp at e0 e1 e2
        subst e0 e1 e2
        refine ⟨⟨n0, n1, s⟩, ?_, ?_, ?_, hs⟩
        · have := hat 0 (by omega); rw [add_plain] at this; simpa using this
        · have := hat 1 (by omega); rw [add_plain] at this; simpa using this
        · have := hat 2 (by omega); rw [add_plain] at this; simpa using this
      let f : Nat → Tk := fun i => if hi : i < len then Classical.choose (each i hi) else Tk.none
      have hf : ∀ i, (hi : i < len) → w.cell? ⟨b, off + i * 3, none⟩ = some (.int .i64 (f i).c) ∧ w.cell? ⟨b, off + i * 3 + 1, none⟩ = some (.int .i64 (f i).h) ∧ w.cell? ⟨b, off + i * 3 + 2, none⟩ = some (.string (f i).s) ∧ (f i).s.size ≤ 9223372036854775807 := by
        intro i hi
        have := Classical.choose_spec (each i hi)
        simp only [f, dif_pos hi]
        exact this
      have hget : ∀ i, i < len → ((List.range len).map f).getD i Tk.none = f i := by
        intro i hi
        simp [List.getD, List.getElem?_map, List.getElem?_range hi]
      refine ⟨(List.range len).map f, ⟨_, len, cap, rfl, by simp, fun hp => ⟨b, off, rfl, World.block_lt_of_cell? w _ (hf 0 hp).1, fun i hi => ?_⟩⟩, ?_, ?_⟩
      · rw [hget i hi]
        exact ⟨(hf i hi).1, (hf i hi).2.1, (hf i hi).2.2.1⟩
      · simp
        unfold maxLen at hm
        omega
      · intro i hi
        have hi' : i < len := by simpa using hi
        rw [hget i hi']
        exact (hf i hi').2.2.2

set_option maxRecDepth 100000 in
theorem showTokens_lifted (os : Os) (started : os.Started) (H : Type) (enc : TypeId × Value → H) :
    ReturnsInHanded {} Try.checked os 8 .any (Rows.fnExactShowTokensSpec.pre6 enc Try.prog Try.f8 Rows.fnExactShowTokensRow.domain false) (Rows.fnExactShowTokensSpec.post enc Try.prog Try.f8 false true false false) := by
  refine returnsInHanded_of_change (C := Try.checked) ownT started (by kernel_rfl) Try.func8
    (ChangeSpec.witness6 (enc := enc) (C := Try.checked) false ⟨#[], #[.slice none 0 0], []⟩ 8 (by kernel_rfl) (by kernel_rfl) (by kernel_rfl) (by kernel_rfl)) ?_
  intro W base args ds gs before hval0 hW hcnd _
  have hval : ∀ (j : Nat) t v, Try.f8.params[j]? = some t → args[j]? = some v → Value.okWide Try.prog W .any base t v := hval0
  have hW' := hW
  obtain ⟨p, q, hA0, hV, rfl, hfz, hnd⟩ := hW
  have hA : DataW.TrodAll enc Try.prog W 0 (fun _ => true) true Try.f8.params.toList args.toList ds p := hA0
  rw [Try.params8] at hA hval
  obtain ⟨v0, vs0, d0, ds0, p0, q0, hargs, rfl, rfl, h0, r0⟩ := trodAll_cons hA
  obtain ⟨rfl, rfl, rfl⟩ := trodAll_nil r0
  obtain rfl : args = #[v0] := by cases args; simp_all
  obtain ⟨rfl, rfl⟩ := trodVars_none hV
  have k0 := h0
  have lt0 : ∀ x ∈ p0, x.block < W.heap.size := by obtain ⟨m, hm⟩ := k0; exact DataW.trod_lt m _ _ _ hm
  obtain ⟨ts, hrow, hn, hs⟩ := open_toks (hval 0 47 v0 rfl rfl) h0
  clear hA0 hval0
  refine (lawShow_any hrow hn hs).mono fun e W' ⟨he, bel⟩ => ?_
  subst he
  exact ⟨_, rfl, _, _, _, [], _, [], hW', trodAll_mk1 (shut_bool Try.underlying4 _), (trodAll_cons_mk (Below.trod laidOut (by kernel_rfl) (of_decide_eq_true (by kernel_rfl)) k0 bel lt0) trodAll_mk0), rfl, bel.frame _, fun h => by cases h⟩

theorem showTokens_holds : Rows.FnExactShowTokensSaid :=
  OpenClaim.holds_of_wide 8 Try.f8 rfl rfl rfl rfl rfl rfl rfl ⟨rfl, rfl, rfl, rfl, rfl⟩ rfl rfl rfl rfl rfl (by kernel_rfl) Try.func8 (by kernel_rfl)
    (of_decide_eq_true (by kernel_rfl)) (by unfold Func.isWrapper; first | (rw [if_pos (by decide +kernel)]; kernel_rfl) | (rw [if_neg (by decide +kernel)]; exact ⟨rfl, rfl⟩))
    (fun os started H enc _ => showTokens_lifted os started H enc)
#print axioms showTokens_holds
end Go.Proofs.Ythecefbejopigaa

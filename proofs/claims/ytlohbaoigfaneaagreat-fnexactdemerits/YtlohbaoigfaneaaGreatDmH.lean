/-
 Proved: for every list of nodes, style and list of numbers, laws.FnExactDemerits returns true and its arguments read behind the call as before it; no condition.
-/
import Derived.Test.YtlohbaoigfaneaaGreatBrk
import Derived.Test.YtlohbaoigfaneaaGreatDml
import Derived.Conc.Holds
import Derived.Deep.Slices
namespace Go.Proofs.YtlohbaoigfaneaaGreat
open Go.ChangeShapes Go.WideShapes Go.ChangeAt Go.RowKit Go.Joins
set_option linter.unusedVariables false
set_option linter.unusedSimpArgs false
theorem cellsSS : Tryz.prog.cellsOf 26 = 23 := by kernel_rfl
theorem cellsSG : Tryz.prog.cellsOf 24 = 5 := by kernel_rfl
theorem cellsS2 : Tryz.prog.cellsOf 2 = 1 := by kernel_rfl
set_option maxRecDepth 100000 in
theorem arraySy {α : Type} {cs : Array α} (h : cs.size = 23) : ∃ c0 c1 c2 c3 c4 c5 c6 c7 c8 c9 c10 c11 c12 c13 c14 c15 c16 c17 c18 c19 c20 c21 c22, cs = #[c0, c1, c2, c3, c4, c5, c6, c7, c8, c9, c10, c11, c12, c13, c14, c15, c16, c17, c18, c19, c20, c21, c22] := by
 obtain ⟨l⟩ := cs
 match l, h with
 | [c0, c1, c2, c3, c4, c5, c6, c7, c8, c9, c10, c11, c12, c13, c14, c15, c16, c17, c18, c19, c20, c21, c22], _ => exact ⟨c0, c1, c2, c3, c4, c5, c6, c7, c8, c9, c10, c11, c12, c13, c14, c15, c16, c17, c18, c19, c20, c21, c22, rfl⟩
theorem listS5y {α : Type} {cs : List α} (h : cs.length = 5) : ∃ c0 c1 c2 c3 c4, cs = [c0, c1, c2, c3, c4] := by
 match cs, h with
 | [c0, c1, c2, c3, c4], _ => exact ⟨c0, c1, c2, c3, c4, rfl⟩
theorem listS11y {α : Type} {cs : List α} (h : cs.length = 11) : ∃ c0 c1 c2 c3 c4 c5 c6 c7 c8 c9 c10, cs = [c0, c1, c2, c3, c4, c5, c6, c7, c8, c9, c10] := by
 match cs, h with
 | [c0, c1, c2, c3, c4, c5, c6, c7, c8, c9, c10], _ => exact ⟨c0, c1, c2, c3, c4, c5, c6, c7, c8, c9, c10, rfl⟩
theorem openGlueSy {H : Type} {enc : TypeId × Value → H} {w : World} {base : Nat} {spare : Nat → Bool} {held : Bool} {n : Nat} {a b c d e : Value} {y : DataW H × List MemPlace}
 (h : DataW.trod enc Tryz.prog w base spare held n 24 [a, b, c, d, e] = some y) : ∃ a' b' c' d' e' : Int, a = .int .i64 a' ∧ b = .int .i64 b' ∧ c = .int .i64 c' ∧ d = .int .i64 d' ∧ e = .int .i64 e' := by
 obtain ⟨xs, m, _, _, _, hlen, hfs⟩ := DataW.trod_struct Tryz.underlying24 h
 obtain ⟨y0, y1, y2, y3, y4, rfl⟩ := listS5y (by simpa using hlen)
 have g0 : DataW.trod enc Tryz.prog w base spare held m 2 [a] = some y0 := by simpa [Value.cells, cellsS2] using hfs 0 _ rfl
 have g1 : DataW.trod enc Tryz.prog w base spare held m 2 [b] = some y1 := by simpa [Value.cells, cellsS2] using hfs 1 _ rfl
 have g2 : DataW.trod enc Tryz.prog w base spare held m 2 [c] = some y2 := by simpa [Value.cells, cellsS2] using hfs 2 _ rfl
 have g3 : DataW.trod enc Tryz.prog w base spare held m 2 [d] = some y3 := by simpa [Value.cells, cellsS2] using hfs 3 _ rfl
 have g4 : DataW.trod enc Tryz.prog w base spare held m 2 [e] = some y4 := by simpa [Value.cells, cellsS2] using hfs 4 _ rfl
 obtain ⟨n0, e0, _, _⟩ := DataW.trod_int Tryz.underlying2 g0
 obtain ⟨n1, e1, _, _⟩ := DataW.trod_int Tryz.underlying2 g1
 obtain ⟨n2, e2, _, _⟩ := DataW.trod_int Tryz.underlying2 g2
 obtain ⟨n3, e3, _, _⟩ := DataW.trod_int Tryz.underlying2 g3
 obtain ⟨n4, e4, _, _⟩ := DataW.trod_int Tryz.underlying2 g4
 simp at e0 e1 e2 e3 e4
 exact ⟨n0, n1, n2, n3, n4, e0, e1, e2, e3, e4⟩
set_option maxRecDepth 100000 in
theorem openStyle {H : Type} {enc : TypeId × Value → H} {w : World} {base : Nat} {spare : Nat → Bool} {held : Bool} {r : Reach} {b0 : Nat} {v : Value} {d : DataW H} {p : List MemPlace}
 (hv : Value.okWide Tryz.prog w r b0 26 v) (h : DataW.Trod enc Tryz.prog w base spare held 26 v d p) : ∃ x : Sy, v = syV x := by
 obtain ⟨cs, rfl, hsz⟩ := okWide_struct Tryz.underlying26 hv
 obtain ⟨c0, c1, c2, c3, c4, c5, c6, c7, c8, c9, c10, c11, c12, c13, c14, c15, c16, c17, c18, c19, c20, c21, c22, rfl⟩ := arraySy (hsz.trans cellsSS)
 obtain ⟨fuel, hf⟩ := h
 obtain ⟨xs, n, _, _, _, hlen, hfs⟩ := DataW.trod_struct Tryz.underlying26 hf
 obtain ⟨y0, y1, y2, y3, y4, y5, y6, y7, y8, y9, y10, rfl⟩ := listS11y (by simpa using hlen)
 have g0 : DataW.trod enc Tryz.prog w base spare held n 2 [c0] = some y0 := by simpa [Value.cells, cellsS2] using hfs 0 _ rfl
 have g1 : DataW.trod enc Tryz.prog w base spare held n 2 [c1] = some y1 := by simpa [Value.cells, cellsS2] using hfs 1 _ rfl
 have g2 : DataW.trod enc Tryz.prog w base spare held n 2 [c2] = some y2 := by simpa [Value.cells, cellsS2] using hfs 2 _ rfl
 have g3 : DataW.trod enc Tryz.prog w base spare held n 2 [c3] = some y3 := by simpa [Value.cells, cellsS2] using hfs 3 _ rfl
 have g4 : DataW.trod enc Tryz.prog w base spare held n 2 [c4] = some y4 := by simpa [Value.cells, cellsS2] using hfs 4 _ rfl
 have g5 : DataW.trod enc Tryz.prog w base spare held n 2 [c5] = some y5 := by simpa [Value.cells, cellsS2] using hfs 5 _ rfl
 have g6 : DataW.trod enc Tryz.prog w base spare held n 2 [c6] = some y6 := by simpa [Value.cells, cellsS2] using hfs 6 _ rfl
 have g7 : DataW.trod enc Tryz.prog w base spare held n 2 [c7] = some y7 := by simpa [Value.cells, cellsS2] using hfs 7 _ rfl
 have g8 : DataW.trod enc Tryz.prog w base spare held n 24 [c8, c9, c10, c11, c12] = some y8 := by simpa [Value.cells, cellsS2, cellsSG] using hfs 8 _ rfl
 have g9 : DataW.trod enc Tryz.prog w base spare held n 24 [c13, c14, c15, c16, c17] = some y9 := by simpa [Value.cells, cellsS2, cellsSG] using hfs 9 _ rfl
 have g10 : DataW.trod enc Tryz.prog w base spare held n 24 [c18, c19, c20, c21, c22] = some y10 := by simpa [Value.cells, cellsS2, cellsSG] using hfs 10 _ rfl
 obtain ⟨n0, e0, _, _⟩ := DataW.trod_int Tryz.underlying2 g0
 obtain ⟨n1, e1, _, _⟩ := DataW.trod_int Tryz.underlying2 g1
 obtain ⟨n2, e2, _, _⟩ := DataW.trod_int Tryz.underlying2 g2
 obtain ⟨n3, e3, _, _⟩ := DataW.trod_int Tryz.underlying2 g3
 obtain ⟨n4, e4, _, _⟩ := DataW.trod_int Tryz.underlying2 g4
 obtain ⟨n5, e5, _, _⟩ := DataW.trod_int Tryz.underlying2 g5
 obtain ⟨n6, e6, _, _⟩ := DataW.trod_int Tryz.underlying2 g6
 obtain ⟨n7, e7, _, _⟩ := DataW.trod_int Tryz.underlying2 g7
 obtain ⟨n8, n9, n10, n11, n12, e8, e9, e10, e11, e12⟩ := openGlueSy g8
 obtain ⟨n13, n14, n15, n16, n17, e13, e14, e15, e16, e17⟩ := openGlueSy g9
 obtain ⟨n18, n19, n20, n21, n22, e18, e19, e20, e21, e22⟩ := openGlueSy g10
 simp at e0 e1 e2 e3 e4 e5 e6 e7
 subst e0 e1 e2 e3 e4 e5 e6 e7 e8 e9 e10 e11 e12 e13 e14 e15 e16 e17 e18 e19 e20 e21 e22
 exact ⟨⟨n0, n1, n2, n3, n4, n5, n6, n7, n8, n9, n10, n11, n12, n13, n14, n15, n16, n17, n18, n19, n20, n21, n22⟩, rfl⟩
theorem cellsI2 : Tryz.prog.cellsOf 2 = 1 := by kernel_rfl
set_option maxRecDepth 100000 in
theorem openInts {H : Type} {enc : TypeId × Value → H} {w : World} {base : Nat} {held : Bool} {r : Reach} {b0 : Nat} {v : Value} {d : DataW H} {p : List MemPlace}
 (hv : Value.okWide Tryz.prog w r b0 27 v) (h : DataW.Trod enc Tryz.prog w base (fun _ => true) held 27 v d p) : ∃ zs : List Int, Row w v zs ∧ zs.length ≤ 9223372036854775807 := by
 obtain ⟨a0, len, cap, rfl⟩ := okWide_slice Tryz.underlying27 hv
 obtain ⟨fuel, hf⟩ := h
 rcases open_ints Tryz.underlying27 Tryz.underlying2 cellsI2 hf with ⟨hcs, hx⟩ | ⟨a, len', cap', zs, hcs, _, hl, hm, hz, hx, hcell, hwz⟩
 ·simp [Value.cells] at hcs
  obtain ⟨rfl, rfl, rfl⟩ := hcs
  exact ⟨[], ⟨none, 0, 0, rfl, rfl, fun h => by omega⟩, by simp⟩
 ·simp [Value.cells] at hcs
  obtain ⟨rfl, rfl, rfl⟩ := hcs
  simp only [if_true] at hz
  refine ⟨zs.take len, ⟨some a, len, cap, rfl, by simp; omega, fun hp => ?_⟩, by unfold maxLen at hm; simp; omega⟩
  obtain ⟨b, off, rfl, hc⟩ := ints_at hcell (by omega)
  refine ⟨b, off, rfl, World.block_lt_of_cell? w _ (hc 0 (by omega)), fun i hi => ?_⟩
  rw [hc i (by omega)]
  simp [List.getD, List.getElem?_take, hi]
theorem leaving_of_quiet {P : Program} {m : Machine} (h : m.quiet) : m.OnlyLeaving P := by
 refine ⟨fun g hg => ⟨0, ?_⟩, h.2⟩
 have h1 := h.1
 unfold Machine.othersDone at h1
 simp only [List.all_eq_true] at h1
 have h2 := h1 g hg
 cases hs : g.status <;> simp_all [Goroutine.LeavesIn]
theorem handed_leaving {a : Assume} {C : Checked} {os : Os} {f : FuncId} {r : Reach} {Pre : World → Array Value → Prop} {Post : World → Array Value → Value → World → Prop}
 (h : ReturnsInHanded a C os f r Pre Post) : ReturnsInLeavingWide a C os f r Pre Post := fun enter =>
 ReturnsInOpen.mono (fun _ _ _ x => ⟨x.2.1, leaving_of_quiet x.1, x.2.2⟩) (fun _ x => x) (h enter)
set_option maxRecDepth 100000 in
theorem demerits_lifted (os : Os) (started : os.Started) (H : Type) (enc : TypeId × Value → H) :
 ReturnsInHanded {} Tryz.checked os 3 .any (Rows.fnExactDemeritsSpec.pre6 enc Tryz.prog Tryz.f3 Rows.fnExactDemeritsRow.domain false) (Rows.fnExactDemeritsSpec.post enc Tryz.prog Tryz.f3 false true false false) := by
 refine returnsInHanded_of_change (C := Tryz.checked) ownT started (by kernel_rfl) Tryz.func3
  (ChangeSpec.witness6 (enc := enc) (C := Tryz.checked) false ⟨#[], #[.slice none 0 0, .agg #[.int .i64 0, .int .i64 0, .int .i64 0, .int .i64 0, .int .i64 0, .int .i64 0, .int .i64 0, .int .i64 0, .int .i64 0, .int .i64 0, .int .i64 0, .int .i64 0, .int .i64 0, .int .i64 0, .int .i64 0, .int .i64 0, .int .i64 0, .int .i64 0, .int .i64 0, .int .i64 0, .int .i64 0, .int .i64 0, .int .i64 0], .slice none 0 0], []⟩ 8 (by kernel_rfl) (by kernel_rfl) (by kernel_rfl) (by kernel_rfl)) ?_
 intro W base args ds gs before hval0 hW hcnd _
 have hval : ∀ (j : Nat) t v, Tryz.f3.params[j]? = some t → args[j]? = some v → Value.okWide Tryz.prog W .any base t v := hval0
 have hW' := hW
 obtain ⟨p, q, hA0, hV, rfl, hfz, hnd⟩ := hW
 have hA : DataW.TrodAll enc Tryz.prog W 0 (fun _ => true) true Tryz.f3.params.toList args.toList ds p := hA0
 rw [Tryz.params3] at hA hval
 obtain ⟨v0, vs0, d0, ds0, p0, q0, hargs, rfl, rfl, h0, r0⟩ := trodAll_cons hA
 obtain ⟨v1, vs1, d1, ds1, p1, q1, rfl, rfl, rfl, h1, r1⟩ := trodAll_cons r0
 obtain ⟨v2, vs2, d2, ds2, p2, q2, rfl, rfl, rfl, h2, r2⟩ := trodAll_cons r1
 obtain ⟨rfl, rfl, rfl⟩ := trodAll_nil r2
 obtain rfl : args = #[v0, v1, v2] := by cases args; simp_all
 obtain ⟨rfl, rfl⟩ := trodVars_none hV
 have k0 := h0
 have k1 := h1
 have k2 := h2
 have lt0 : ∀ x ∈ p0, x.block < W.heap.size := by obtain ⟨m, hm⟩ := k0; exact DataW.trod_lt m _ _ _ hm
 have lt1 : ∀ x ∈ p1, x.block < W.heap.size := by obtain ⟨m, hm⟩ := k1; exact DataW.trod_lt m _ _ _ hm
 have lt2 : ∀ x ∈ p2, x.block < W.heap.size := by obtain ⟨m, hm⟩ := k2; exact DataW.trod_lt m _ _ _ hm
 obtain ⟨ao, len, cap, rfl⟩ := okWide_slice Tryz.underlying22 (hval 0 22 v0 rfl rfl)
 obtain ⟨fuel, hf⟩ := h0
 have hf' : DataW.trod enc Tryz.prog W 0 (fun _ => true) true fuel 22 [.slice ao len cap] = some (d0, p0) := by simpa [Value.cells] using hf
 obtain ⟨xs, hr, hl, hF⟩ := openSlice (R := NdR) (F := FnN) Nd.none Tryz.underlying22 cells52 (by omega) (fun fuel cs y ht hl => openNode hl ht) hf'
 obtain ⟨S, rfl⟩ := openStyle (hval 1 26 v1 rfl rfl) h1
 obtain ⟨zs, hrow, _⟩ := openInts (hval 2 27 v2 rfl rfl) h2
 clear hA0 hval0
 refine (lawDem_any S hr ⟨hl, hF⟩ hrow).mono fun e W' ⟨he, bel⟩ => ?_
 subst he
 exact ⟨_, rfl, _, _, _, [], _, [], hW', trodAll_mk1 (shut_bool Tryz.underlying4 _), (trodAll_cons_mk (Below.trod laidOut (by kernel_rfl) (of_decide_eq_true (by kernel_rfl)) k0 bel lt0) (trodAll_cons_mk (Below.trod laidOut (by kernel_rfl) (of_decide_eq_true (by kernel_rfl)) k1 bel lt1) (trodAll_cons_mk (Below.trod laidOut (by kernel_rfl) (of_decide_eq_true (by kernel_rfl)) k2 bel lt2) trodAll_mk0))), rfl, bel.frame _, fun h => by cases h⟩
theorem demerits_holds : Rows.FnExactDemeritsSaid :=
 OpenClaim.holds_of_wide_leaving 3 Tryz.f3 rfl rfl rfl rfl rfl rfl rfl ⟨rfl, rfl, rfl, rfl, rfl⟩ rfl rfl rfl rfl rfl (by kernel_rfl) Tryz.func3 (by kernel_rfl)
  (of_decide_eq_true (by kernel_rfl)) (by unfold Func.isWrapper; first | (rw [if_pos (by decide +kernel)]; kernel_rfl) | (rw [if_neg (by decide +kernel)]; exact ⟨rfl, rfl⟩))
  (fun os started H enc _ => handed_leaving (demerits_lifted os started H enc))
#print axioms demerits_holds
end Go.Proofs.YtlohbaoigfaneaaGreat

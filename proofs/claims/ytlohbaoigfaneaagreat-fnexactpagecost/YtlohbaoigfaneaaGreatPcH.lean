/-
 Proved: for every list of nodes, sheet and two numbers, laws.FnExactPageCost returns true and its arguments read behind the call as before it; no condition.
-/
import Derived.Test.YtlohbaoigfaneaaGreatBrk
import Derived.Test.YtlohbaoigfaneaaGreatPcl
import Derived.Conc.Holds
import Derived.Deep.Slices
namespace Go.Proofs.YtlohbaoigfaneaaGreat
open Go.ChangeShapes Go.WideShapes Go.ChangeAt Go.RowKit Go.Joins
set_option linter.unusedVariables false
set_option linter.unusedSimpArgs false
theorem cellsSL : Tryz.prog.cellsOf 42 = 8 := by kernel_rfl
theorem cellsSG : Tryz.prog.cellsOf 24 = 5 := by kernel_rfl
theorem cellsS2 : Tryz.prog.cellsOf 2 = 1 := by kernel_rfl
theorem arrayS {α : Type} {cs : Array α} (h : cs.size = 8) : ∃ c0 c1 c2 c3 c4 c5 c6 c7, cs = #[c0, c1, c2, c3, c4, c5, c6, c7] := by
 obtain ⟨l⟩ := cs
 match l, h with
 | [c0, c1, c2, c3, c4, c5, c6, c7], _ => exact ⟨c0, c1, c2, c3, c4, c5, c6, c7, rfl⟩
theorem listS5 {α : Type} {cs : List α} (h : cs.length = 5) : ∃ c0 c1 c2 c3 c4, cs = [c0, c1, c2, c3, c4] := by
 match cs, h with
 | [c0, c1, c2, c3, c4], _ => exact ⟨c0, c1, c2, c3, c4, rfl⟩
theorem listS4 {α : Type} {cs : List α} (h : cs.length = 4) : ∃ c0 c1 c2 c3, cs = [c0, c1, c2, c3] := by
 match cs, h with
 | [c0, c1, c2, c3], _ => exact ⟨c0, c1, c2, c3, rfl⟩
theorem openGlueS {H : Type} {enc : TypeId × Value → H} {w : World} {base : Nat} {spare : Nat → Bool} {held : Bool} {n : Nat} {a b c d e : Value} {y : DataW H × List MemPlace}
 (h : DataW.trod enc Tryz.prog w base spare held n 24 [a, b, c, d, e] = some y) : ∃ a' b' c' d' e' : Int, a = .int .i64 a' ∧ b = .int .i64 b' ∧ c = .int .i64 c' ∧ d = .int .i64 d' ∧ e = .int .i64 e' := by
 obtain ⟨xs, m, _, _, _, hlen, hfs⟩ := DataW.trod_struct Tryz.underlying24 h
 obtain ⟨y0, y1, y2, y3, y4, rfl⟩ := listS5 (by simpa using hlen)
 have g0 : DataW.trod enc Tryz.prog w base spare held m 2 [a] = some y0 := by simpa [Value.cells, cellsS2] using hfs 0 _ rfl
 have g1 : DataW.trod enc Tryz.prog w base spare held m 2 [b] = some y1 := by simpa [Value.cells, cellsS2] using hfs 1 _ rfl
 have g2 : DataW.trod enc Tryz.prog w base spare held m 2 [c] = some y2 := by simpa [Value.cells, cellsS2] using hfs 2 _ rfl
 have g3 : DataW.trod enc Tryz.prog w base spare held m 2 [d] = some y3 := by simpa [Value.cells, cellsS2] using hfs 3 _ rfl
 have g4 : DataW.trod enc Tryz.prog w base spare held m 2 [e] = some y4 := by simpa [Value.cells, cellsS2] using hfs 4 _ rfl
 obtain ⟨n0, e0, _, _⟩ := DataW.trod_int Tryz.underlying2 g0
 obtain ⟨n1, e1, _, _⟩ := DataW.trod_int Tryz.underlying2 g1
 obtain ⟨n2, e2, _, _⟩ := DataW.trod_int Tryz.underlying2 g2
 obtain ⟨n3, e3, _, _⟩ := DataW.trod_int Tryz.underlying2 g3
 obtain ⟨n4, e4, _, _⟩ := DataW.trod_int Tryz.underlying2 g4
 simp at e0 e1 e2 e3 e4
 exact ⟨n0, n1, n2, n3, n4, e0, e1, e2, e3, e4⟩
set_option maxRecDepth 100000 in
theorem openSheet {H : Type} {enc : TypeId × Value → H} {w : World} {base : Nat} {spare : Nat → Bool} {held : Bool} {r : Reach} {b0 : Nat} {v : Value} {d : DataW H} {p : List MemPlace}
 (hv : Value.okWide Tryz.prog w r b0 42 v) (h : DataW.Trod enc Tryz.prog w base spare held 42 v d p) : ∃ x : Sh, v = shV x := by
 obtain ⟨cs, rfl, hsz⟩ := okWide_struct Tryz.underlying42 hv
 obtain ⟨c0, c1, c2, c3, c4, c5, c6, c7, rfl⟩ := arrayS (hsz.trans cellsSL)
 obtain ⟨fuel, hf⟩ := h
 obtain ⟨xs, n, _, _, _, hlen, hfs⟩ := DataW.trod_struct Tryz.underlying42 hf
 obtain ⟨y0, y1, y2, y3, rfl⟩ := listS4 (by simpa using hlen)
 have g0 : DataW.trod enc Tryz.prog w base spare held n 2 [c0] = some y0 := by simpa [Value.cells, cellsS2, cellsSG] using hfs 0 _ rfl
 have g1 : DataW.trod enc Tryz.prog w base spare held n 2 [c1] = some y1 := by simpa [Value.cells, cellsS2, cellsSG] using hfs 1 _ rfl
 have g2 : DataW.trod enc Tryz.prog w base spare held n 24 [c2, c3, c4, c5, c6] = some y2 := by simpa [Value.cells, cellsS2, cellsSG] using hfs 2 _ rfl
 have g3 : DataW.trod enc Tryz.prog w base spare held n 2 [c7] = some y3 := by simpa [Value.cells, cellsS2, cellsSG] using hfs 3 _ rfl
 obtain ⟨n0, e0, _, _⟩ := DataW.trod_int Tryz.underlying2 g0
 obtain ⟨n1, e1, _, _⟩ := DataW.trod_int Tryz.underlying2 g1
 obtain ⟨n2, n3, n4, n5, n6, e2, e3, e4, e5, e6⟩ := openGlueS g2
 obtain ⟨n7, e7, _, _⟩ := DataW.trod_int Tryz.underlying2 g3
 simp at e0 e1 e7
 subst e0 e1 e2 e3 e4 e5 e6 e7
 exact ⟨⟨n0, n1, n2, n3, n4, n5, n6, n7⟩, rfl⟩
theorem leaving_of_quiet {P : Program} {m : Machine} (h : m.quiet) : m.OnlyLeaving P := by
 refine ⟨fun g hg => ⟨0, ?_⟩, h.2⟩
 have h1 := h.1
 unfold Machine.othersDone at h1
 simp only [List.all_eq_true] at h1
 have h2 := h1 g hg
 cases hs : g.status <;> simp_all [Goroutine.LeavesIn]
theorem handed_leaving {a : Assume} {C : Checked} {os : Os} {f : FuncId} {r : Reach} {Pre : World → Array Value → Prop} {Post : World → Array Value → Value → World → Prop}
 (h : ReturnsInHanded a C os f r Pre Post) : ReturnsInLeavingWide a C os f r Pre Post := fun enter =>
 ReturnsInOpen.mono (fun _ _ _ x => ⟨x.2.1, leaving_of_quiet x.1, x.2.2⟩) (fun _ x => x) (h enter)
set_option maxRecDepth 100000 in
theorem pageCost_lifted (os : Os) (started : os.Started) (H : Type) (enc : TypeId × Value → H) :
 ReturnsInHanded {} Tryz.checked os 4 .any (Rows.fnExactPageCostSpec.pre6 enc Tryz.prog Tryz.f4 Rows.fnExactPageCostRow.domain false) (Rows.fnExactPageCostSpec.post enc Tryz.prog Tryz.f4 false true false false) := by
 refine returnsInHanded_of_change (C := Tryz.checked) ownT started (by kernel_rfl) Tryz.func4
  (ChangeSpec.witness6 (enc := enc) (C := Tryz.checked) false ⟨#[], #[.slice none 0 0, .agg #[.int .i64 0, .int .i64 0, .int .i64 0, .int .i64 0, .int .i64 0, .int .i64 0, .int .i64 0, .int .i64 0], .int .i64 0, .int .i64 0], []⟩ 8 (by kernel_rfl) (by kernel_rfl) (by kernel_rfl) (by kernel_rfl)) ?_
 intro W base args ds gs before hval0 hW hcnd _
 have hval : ∀ (j : Nat) t v, Tryz.f4.params[j]? = some t → args[j]? = some v → Value.okWide Tryz.prog W .any base t v := hval0
 have hW' := hW
 obtain ⟨p, q, hA0, hV, rfl, hfz, hnd⟩ := hW
 have hA : DataW.TrodAll enc Tryz.prog W 0 (fun _ => true) true Tryz.f4.params.toList args.toList ds p := hA0
 rw [Tryz.params4] at hA hval
 obtain ⟨v0, vs0, d0, ds0, p0, q0, hargs, rfl, rfl, h0, r0⟩ := trodAll_cons hA
 obtain ⟨v1, vs1, d1, ds1, p1, q1, rfl, rfl, rfl, h1, r1⟩ := trodAll_cons r0
 obtain ⟨v2, vs2, d2, ds2, p2, q2, rfl, rfl, rfl, h2, r2⟩ := trodAll_cons r1
 obtain ⟨v3, vs3, d3, ds3, p3, q3, rfl, rfl, rfl, h3, r3⟩ := trodAll_cons r2
 obtain ⟨rfl, rfl, rfl⟩ := trodAll_nil r3
 obtain rfl : args = #[v0, v1, v2, v3] := by cases args; simp_all
 obtain ⟨rfl, rfl⟩ := trodVars_none hV
 have k0 := h0
 have k1 := h1
 have k2 := h2
 have k3 := h3
 have lt0 : ∀ x ∈ p0, x.block < W.heap.size := by obtain ⟨m, hm⟩ := k0; exact DataW.trod_lt m _ _ _ hm
 have lt1 : ∀ x ∈ p1, x.block < W.heap.size := by obtain ⟨m, hm⟩ := k1; exact DataW.trod_lt m _ _ _ hm
 have lt2 : ∀ x ∈ p2, x.block < W.heap.size := by obtain ⟨m, hm⟩ := k2; exact DataW.trod_lt m _ _ _ hm
 have lt3 : ∀ x ∈ p3, x.block < W.heap.size := by obtain ⟨m, hm⟩ := k3; exact DataW.trod_lt m _ _ _ hm
 obtain ⟨ao, len, cap, rfl⟩ := okWide_slice Tryz.underlying22 (hval 0 22 v0 rfl rfl)
 obtain ⟨fuel, hf⟩ := h0
 have hf' : DataW.trod enc Tryz.prog W 0 (fun _ => true) true fuel 22 [.slice ao len cap] = some (d0, p0) := by simpa [Value.cells] using hf
 obtain ⟨xs, hr, hl, hF⟩ := openSlice (R := NdR) (F := FnN) Nd.none Tryz.underlying22 cells52 (by omega) (fun fuel cs y ht hl => openNode hl ht) hf'
 obtain ⟨S, rfl⟩ := openSheet (hval 1 42 v1 rfl rfl) h1
 obtain ⟨a2, e2, _⟩ := open_int Tryz.underlying2 (hval 2 2 v2 rfl rfl) h2
 obtain ⟨a3, e3, _⟩ := open_int Tryz.underlying2 (hval 3 2 v3 rfl rfl) h3
 subst e2 e3
 clear hA0 hval0
 refine (lawPC_any S a2 a3 hr ⟨hl, hF⟩).mono fun e W' ⟨he, bel⟩ => ?_
 subst he
 exact ⟨_, rfl, _, _, _, [], _, [], hW', trodAll_mk1 (shut_bool Tryz.underlying4 _), (trodAll_cons_mk (Below.trod laidOut (by kernel_rfl) (of_decide_eq_true (by kernel_rfl)) k0 bel lt0) (trodAll_cons_mk (Below.trod laidOut (by kernel_rfl) (of_decide_eq_true (by kernel_rfl)) k1 bel lt1) (trodAll_cons_mk (Below.trod laidOut (by kernel_rfl) (of_decide_eq_true (by kernel_rfl)) k2 bel lt2) (trodAll_cons_mk (Below.trod laidOut (by kernel_rfl) (of_decide_eq_true (by kernel_rfl)) k3 bel lt3) trodAll_mk0)))), rfl, bel.frame _, fun h => by cases h⟩
theorem pageCost_holds : Rows.FnExactPageCostSaid :=
 OpenClaim.holds_of_wide_leaving 4 Tryz.f4 rfl rfl rfl rfl rfl rfl rfl ⟨rfl, rfl, rfl, rfl, rfl⟩ rfl rfl rfl rfl rfl (by kernel_rfl) Tryz.func4 (by kernel_rfl)
  (of_decide_eq_true (by kernel_rfl)) (by unfold Func.isWrapper; first | (rw [if_pos (by decide +kernel)]; kernel_rfl) | (rw [if_neg (by decide +kernel)]; exact ⟨rfl, rfl⟩))
  (fun os started H enc _ => handed_leaving (pageCost_lifted os started H enc))
#print axioms pageCost_holds
end Go.Proofs.YtlohbaoigfaneaaGreat

import Derived.Test.YtlohbaoigfaneaaGreatLms
import Derived.Test.YtlohbaoigfaneaaGreatOld
import Derived.Test.YtlohbaoigfaneaaGreatLnn
namespace Go.Proofs.YtlohbaoigfaneaaGreat
open Go.RowKit
set_option linter.unusedVariables false
set_option linter.unusedSimpArgs false
theorem load_sz {a : Act} {oi : Oper} {p : Operand} {G : Nat} {cs : Array Value} (hsz : cs.size = 23) (ho : oi.op = Op.load 35 p) (hp : a.eval p = .pointer (some ⟨G, 0, none⟩)) (W : World) (h : W.heap[G]? = some (.cells cs 35 (0, 0))) : (execOp a.eval oi).run Tryz.prog W = .ok (.value (.agg cs)) W := by
 have hr := loadSy hsz h
 unfold execOp
 simp only [ho, hp, Instr.loadAt, Instr.sureAddr, Sem.run_bind, Sem.run_pure, Result.andThen_ok, hr]
theorem load_nd {a : Act} {oi : Oper} {p : Operand} {b o : Nat} {x : Nd} (ho : oi.op = Op.load 61 p) (hp : a.eval p = .pointer (some ⟨b, o, none⟩)) (W : World) (h : W.rangeAt b o x.cells) : (execOp a.eval oi).run Tryz.prog W = .ok (.value (.agg x.cells.toArray)) W := by
 have hr := run_loadAt_mid (P := Tryz.prog) W b o 61 x.cells _ h Tryz.underlying61 rfl (by rw [cells_len]; kernel_rfl)
 unfold execOp
 simp only [ho, hp, Sem.run_bind, Sem.run_pure, Result.andThen_ok, hr]
theorem heads_at {lo : Nat} {w : World} {v : Value} {ys : List It} {N i : Nat} (h : Heads lo w v ys) (hl : ys.length = N) (hi : i < N) : ∃ b off cap b2 off2 n2 cap2, v = .slice (some ⟨b, off, none⟩) N cap ∧ b < w.heap.size ∧ w.cell? ⟨b, off + i, none⟩ = some (.slice (some ⟨b2, off2, none⟩) n2 cap2) ∧ 0 < n2 ∧ b2 < w.heap.size ∧ w.rangeAt b2 off2 (ys.getD i It.none).1.cells := by
 obtain ⟨ao, cap, rfl, hc⟩ := h.is
 rw [hl] at hc ⊢
 obtain ⟨b, off, rfl, _, hbl, hcell⟩ := hc (by omega)
 obtain ⟨u, rest, hu, hrow⟩ := hcell i hi
 obtain ⟨b2, off2, n2, cap2, rfl, hn2, hb2, hcs⟩ := head_cells hrow
 refine ⟨b, off, cap, b2, off2, n2, cap2, rfl, hbl, hu, hn2, hb2, fun j z hz => ?_⟩
 rw [hcs j (by have := (List.getElem?_eq_some_iff.1 hz).1; rw [cells_len] at this; exact this)]
 exact hz
theorem abv_old {lo : Nat} {w X : World} (h : OldW w X) : Abv lo w X := ⟨h.2.2.2.1, fun b _ hb => h.2.2.2.2 b hb⟩
def GrW (row : Option Nat) (w W : World) : Prop := W.os = w.os ∧ W.tape = w.tape ∧ W.output = w.output ∧ w.heap.size ≤ W.heap.size ∧ ∀ k, k < w.heap.size → row ≠ some k → W.heap[k]? = w.heap[k]?
theorem old_grw {W0 w W : World} {row : Option Nat} (h : OldW W0 w) (g : GrW row w W) (hn : ∀ j, row = some j → j < W0.heap.size → False) : OldW W0 W :=
 ⟨h.1.trans g.1.symm, h.2.1.trans g.2.1.symm, h.2.2.1.trans g.2.2.1.symm, Nat.le_trans h.2.2.2.1 g.2.2.2.1, fun k hk => (g.2.2.2.2 k (Nat.lt_of_lt_of_le hk h.2.2.2.1) (fun e => hn k e hk)).trans (h.2.2.2.2 k hk)⟩
theorem own_grw {w W : World} {row : Option Nat} {base e size n g c : Nat} {xs : List Value} (h : w.ownsRow base e size (.slice (some ⟨g, 0, none⟩) n c) n xs) (hg : GrW row w W) (hn : row ≠ some g) : W.ownsRow base e size (.slice (some ⟨g, 0, none⟩) n c) n xs :=
 own_heap h (fun j e => by cases e; exact hg.2.2.2.2 _ (World.ownsRow.lt h _ rfl).2 hn)
theorem own_old {w X : World} {base e size n : Nat} {v : Value} {xs : List Value} (h : w.ownsRow base e size v n xs) (ho : OldW w X) : X.ownsRow base e size v n xs :=
 own_heap h (fun g e => ho.2.2.2.2 g (World.ownsRow.lt h g e).2)
theorem wp_appO {w : World} {o : Oper} {a : Act} {K : Act → World → Prop} {Q : Exit → Act → World → Prop} (s x : Operand)
 (ho : o.op = .call { callee := .builtin .append, args := #[s, x], argTypes := #[27, 27] })
 (base b2 : Nat) (v : Value) (n : Nat) (xs : List Value) (hs : a.eval s = v) (hown : w.ownsRow base 2 1 v n xs)
 (u : Value) (m : Nat) (ys : List Value) (hx : a.eval x = u) (hu : w.ownsRow b2 2 1 u m ys) (h1 : ∀ z ∈ ys, z.oneCell' = true)
 (hn : n + m ≤ 100000000) (hbase : base ≤ w.heap.size)
 (h : ∀ v' w', w'.ownsRow base 2 1 v' (n + m) (xs ++ ys) → GrW v.ownBlock w w' → K (a.put o.dst v') w') : o.wp Tryz.prog a w K Q := by
 obtain ⟨i0, hi0, hz0, hz1, hz2⟩ := info_parts info2q
 rcases hu.2 with ⟨rfl, h0⟩ | ⟨g, cap, cur, rfl, h2, h3, h4, h5, h6, h7⟩
 ·obtain rfl : m = 0 := h0
  obtain rfl : ys = [] := List.eq_nil_of_length_eq_zero (by have := hu.1; omega)
  have hr := run_append_owned_none (P := Tryz.prog) (w := w) base 27 o.type 2 i0 1 Tryz.underlying27 hi0 v n xs hown
  unfold Oper.wp execOp
  simp only [ho, resolve, invoke, builtin, Sem.run_bind, Sem.run_pure, Result.andThen_ok, List.map_toArray, List.map_cons, List.map_nil, hs, hx, hr]
  exact h v w (by rw [List.append_nil]; exact hown) ⟨rfl, rfl, rfl, Nat.le_refl _, fun _ _ _ => rfl⟩
 ·refine wp_append_at s x 27 ho base 2 i0 (.int .i64 0) 1 8 Tryz.underlying27 hi0 hz0 hz1 hz2 rfl (by decide) v n xs hs hown ⟨g, 0, none⟩ m cap ys hx hu.1 (fun j z hj => ?_) h1 (by unfold maxLen; omega) (by omega) hbase (fun v' w' q1 q2 _ _ => h v' w' q1 ⟨q2.os, q2.tape, q2.output, q2.size, fun k hk hn => q2.block k hk (fun e => hn e.symm)⟩)
  have h9 : w.cell? ⟨g, j, none⟩ = some z := by
   have hl := hu.1
   rw [World.ownsRow.cellAt hu j (by rw [← hl]; exact (List.getElem?_eq_some_iff.1 hj).1)]
   exact hj
  unfold Addr.add
  split
  ·rename_i e2
   have e3 : j = 0 := by simpa using e2
   subst e3
   exact h9
  ·simpa using h9
set_option maxRecDepth 20000 in
set_option maxHeartbeats 16000000 in
theorem l9Next_any {w : World} {v bv : Value} {ys : List It} {N lv lo : Nat} (S : Sy) (h : Heads lv w v ys) (hl : ys.length = N) (hN : N ≤ 20003) (f : Int) (t : Nat) (hf : f < (N : Int)) (ht0 : t < N) (L : List Int) (hb : w.ownsRow lo 2 1 bv L.length (L.map (Value.int .i64))) (hL : L.length ≤ 5000) (dm cw bd cl : Int) :
 Calls Tryz.prog 27 #[v, syV S, .agg #[bv, .int .i64 dm, .int .i64 cw], .int .i64 f, .int .i64 (t : Int), .int .i64 bd, .int .i64 cl] w fun e w' => (∃ bv', e = .returned (.agg #[bv', .int .i64 (wrap64 (dm + demI S bd (prT S ys (t : Int)) (hyI ys f && hyI ys (t : Int)) cl cw)), .int .i64 cl]) ∧ w'.ownsRow w.heap.size 2 1 bv' (L.length + 1) ((L ++ [(t : Int)]).map (Value.int .i64))) ∧ Below w.heap.size w w' := by
 obtain ⟨cs, hcs, hsz, hget⟩ := sy_cells S
 have hNt : (t : Int) < (N : Int) := by omega
 have HCX : Hid (∀ X, OldW w X → ∀ g : Int, g < (N : Int) → Calls Tryz.prog 64 #[v, .int .i64 g] X fun e w' => e = .returned (.bool (hyI ys g)) ∧ w' = X) := hideP (fun X hX g hg => l9Hyph_any g (h.abv (abv_old hX)) hl hg hN)
 have PCX : Hid (∀ X, Calls Tryz.prog 22 #[.agg (ys.getD t It.none).1.cells.toArray, .agg cs] X fun e w' => e = .returned (.int .i64 (prcI S.hy (ys.getD t It.none).1)) ∧ Below X.heap.size X w') := hideP (fun X => by rw [← hcs]; exact l9Price_any S _ X)
 have DCX : Hid (∀ pr hh X, Calls Tryz.prog 63 #[.agg cs, .int .i64 bd, .int .i64 pr, .bool hh, .int .i64 cl, .int .i64 cw] X fun e w' => e = .returned (.int .i64 (demI S bd pr hh cl cw)) ∧ Below X.heap.size X w') := hideP (fun pr hh X => by rw [← hcs]; exact l9Dem_any S bd pr cl cw hh X)
 obtain ⟨b, off, vcap, b2, off2, n2, cap2, rfl, hbl, hcell, hn2, hb2, hrng⟩ := heads_at h hl ht0
 obtain ⟨va, hva⟩ : ∃ a : Option Addr, a = some ⟨b, off, none⟩ := ⟨_, rfl⟩
 rw [hcs]
 have hprT : prT S ys (t : Int) = prcI S.hy (ys.getD t It.none).1 := by unfold prT; rw [Int.toNat_natCast]
 rw [hprT]
 obtain ⟨x, hx⟩ : ∃ x, x = (ys.getD t It.none).1 := ⟨_, rfl⟩
 rw [← hx] at hrng PCX ⊢
 obtain ⟨hh, hhh⟩ : ∃ hh, hh = (hyI ys f && hyI ys (t : Int)) := ⟨_, rfl⟩
 rw [← hhh]
 obtain ⟨hf1, hhf⟩ : ∃ h, h = hyI ys f := ⟨_, rfl⟩
 obtain ⟨ht, hht⟩ : ∃ h, h = hyI ys (t : Int) := ⟨_, rfl⟩
 have HHH : Hid (hh = (hf1 && ht)) := hideP (by rw [hhh, hhf, hht])
 obtain ⟨de, hde⟩ : ∃ d, d = demI S bd (prcI S.hy x) hh cl cw := ⟨_, rfl⟩
 obtain ⟨dn, hdn⟩ : ∃ d, d = wrap64 (dm + de) := ⟨_, rfl⟩
 rw [← hde, ← hdn]
 have HDE := hideP hde
 have HDN : Hid (IntKind.i64.wrap (dm + de) = dn) := hideP (by have h9 := hdn.symm; unfold wrap64 at h9; rw [IntKind.wrap_i64]; exact h9)
 obtain ⟨nL, hnL⟩ : ∃ n, n = L.length := ⟨_, rfl⟩
 rw [← hnL] at hb ⊢
 have hnL5 : nL ≤ 5000 := by omega
 obtain ⟨lw, hlw⟩ : ∃ l, l = w.heap.size := ⟨_, rfl⟩
 have HB0 := hideP hb
 have HCELL := hideP hcell
 have HRNG := hideP hrng
 have HLW := hideP hlw
 have HX := hideP hhf
 have HX2 := hideP hht
 have hn2i : (0 : Int) < (n2 : Int) := by omega
 obtain ⟨W0, hW0⟩ : ∃ X, X = ((w.alloc (.cells cs 35)).alloc (.cells #[bv, .int .i64 dm, .int .i64 cw] 57)).alloc (.cells #[.slice none 0 0, .int .i64 0, .int .i64 0] 57) := ⟨_, rfl⟩
 have OW : Hid (OldW w W0) := hideP (by rw [hW0]; exact (((OldW.refl w).alloc _).alloc _).alloc _)
 have HS35 : Hid (W0.heap[w.heap.size]? = some (.cells cs 35 (0, 0))) := hideP (by rw [hW0]; exact (Below.heap_alloc _ _ _ (by simp; omega)).trans ((Below.heap_alloc _ _ _ (by simp)).trans (heap_alloc_new w _)))
 have HS57 : Hid (W0.heap[w.heap.size + 1]? = some (.cells #[bv, .int .i64 dm, .int .i64 cw] 57 (0, 0))) := hideP (by rw [hW0]; refine (Below.heap_alloc _ _ _ (by simp)).trans ?_; have := heap_alloc_new (w.alloc (.cells cs 35)) (.cells #[bv, .int .i64 dm, .int .i64 cw] 57); simpa using this)
 have HSR : Hid (W0.heap[w.heap.size + 2]? = some (.cells #[.slice none 0 0, .int .i64 0, .int .i64 0] 57 (0, 0))) := hideP (by rw [hW0]; have := heap_alloc_new ((w.alloc (.cells cs 35)).alloc (.cells #[bv, .int .i64 dm, .int .i64 cw] 57)) (.cells #[.slice none 0 0, .int .i64 0, .int .i64 0] 57); simpa using this)
 have hz0 : W0.heap.size = w.heap.size + 3 := by rw [hW0]; simp
 clear h hl hcs hget hx hhh hhf hht hde hdn hnL hb hcell hrng hlw hva va hprT hL
 go_enter Tryz.func27, Tryz.ntmps27
 go_upto_region 1 with fail
 rw [← hW0]
 clear hW0
 obtain ⟨G35, hG35⟩ : ∃ g, g = w.heap.size := ⟨_, rfl⟩
 obtain ⟨G57, hG57⟩ : ∃ g, g = w.heap.size + 1 := ⟨_, rfl⟩
 obtain ⟨R, hR⟩ : ∃ g, g = w.heap.size + 1 + 1 := ⟨_, rfl⟩
 have HZ0 := hideP hz0
 rw [← hR, ← hG57, ← hG35]
 rw [← hG35] at HS35
 rw [← hG57] at HS57
 rw [show w.heap.size + 2 = R by omega] at HSR
 have HGG := hideP (And.intro hG35 (And.intro hG57 hR))
 clear hG35 hG57 hR hz0
 have OF : Hid (∀ X, OldW W0 X → X.heap[G35]? = some (.cells cs 35 (0, 0)) ∧ X.cell? ⟨b, off + t, none⟩ = some (.slice (some ⟨b2, off2, none⟩) n2 cap2) ∧ X.rangeAt b2 off2 x.cells ∧ X.cell? ⟨G57, 2, none⟩ = some (.int .i64 cw)) := hideP (fun X hX => by
  have h1 := (hX.2.2.2.2 _ (Array.getElem?_eq_some_iff.1 HS57.out).1).trans HS57.out
  have hw := OW.out.trans hX
  exact ⟨(hX.2.2.2.2 _ (Array.getElem?_eq_some_iff.1 HS35.out).1).trans HS35.out, (World.cell?_of_block (a := ⟨b, off + t, none⟩) (hw.2.2.2.2 b hbl)).trans HCELL.out, fun j z hj => (World.cell?_of_block (a := ⟨b2, off2 + j, none⟩) (hw.2.2.2.2 b2 hb2)).trans (HRNG.out j z hj), by rw [cell_of_row _ _ _ _ _ _ h1]; rfl⟩)
 have PC : Hid (∀ X, Calls Tryz.prog 22 #[.agg x.cells.toArray, .agg cs] X fun e w' => e = .returned (.int .i64 (prcI S.hy x)) ∧ Below X.heap.size X w') := PCX
 have DC : Hid (∀ hh X, Calls Tryz.prog 63 #[.agg cs, .int .i64 bd, .int .i64 (prcI S.hy x), .bool hh, .int .i64 cl, .int .i64 cw] X fun e w' => e = .returned (.int .i64 (demI S bd (prcI S.hy x) hh cl cw)) ∧ Below X.heap.size X w') := hideP (fun hh X => DCX.out _ hh X)
 have HFX : Hid (∀ X, OldW W0 X → Calls Tryz.prog 64 #[.slice (some ⟨b, off, none⟩) N vcap, .int .i64 f] X fun e w' => e = .returned (.bool hf1) ∧ w' = X) := hideP (fun X hX => by rw [HX.out]; exact HCX.out X (OW.out.trans hX) f hf)
 have HT : Hid (∀ X, OldW W0 X → Calls Tryz.prog 64 #[.slice (some ⟨b, off, none⟩) N vcap, .int .i64 (t : Int)] X fun e w' => e = .returned (.bool ht) ∧ w' = X) := hideP (fun X hX => by rw [HX2.out]; exact HCX.out X (OW.out.trans hX) t hNt)
 clear PCX DCX HCX HX HX2
 go_cut [15] (fun s15 wc => s15 = .int .i64 de ∧ Hid (OldW W0 wc))
 case first =>
  cases hf1 with
  | true =>
   have HE : Hid (ht = hh) := hideP (by rw [HHH.out]; rfl)
   have HD2 : Hid (demI S bd (prcI S.hy x) ht cl cw = de) := hideP (by rw [HE.out]; exact HDE.out.symm)
   refine wp_noPanic ?_
   refine wp_region_held_drew (S := fun X => OldW W0 X) (by kernel_rfl) (OldW.drew (OldW.refl W0)) (fun hS => ?_)
   obtain ⟨x0, hx0⟩ : ∃ X, X = W0.drew := ⟨_, rfl⟩
   have o0 : OldW W0 x0 := by rw [hx0]; exact OldW.drew (OldW.refl W0)
   rw [← hx0]
   clear hx0 hS
   refine tkS (i := 0) (v := .agg cs) rfl o0 ?_ (hr := fun wx hx => load_sz hsz rfl rfl wx (OF.out wx hx).1)
   try simp only [Act.put, List.getElem_toArray, List.getElem_cons_zero, List.getElem_cons_succ, List.setIfInBounds_toArray, List.set_cons_zero, List.set_cons_succ]
   refine tkS (i := 1) (v := .int .i64 bd) rfl o0 ?_
   try simp only [Act.put, List.getElem_toArray, List.getElem_cons_zero, List.getElem_cons_succ, List.setIfInBounds_toArray, List.set_cons_zero, List.set_cons_succ]
   refine tkS (i := 2) (v := .slice (some ⟨b, off, none⟩) N vcap) rfl o0 ?_
   try simp only [Act.put, List.getElem_toArray, List.getElem_cons_zero, List.getElem_cons_succ, List.setIfInBounds_toArray, List.set_cons_zero, List.set_cons_succ]
   refine tkS (i := 3) (v := .int .i64 (t : Int)) rfl o0 ?_
   try simp only [Act.put, List.getElem_toArray, List.getElem_cons_zero, List.getElem_cons_succ, List.setIfInBounds_toArray, List.set_cons_zero, List.set_cons_succ]
   refine tkS (i := 4) (v := .pointer (some ⟨b, off + t, none⟩)) rfl o0 ?_
   try simp only [Act.put, List.getElem_toArray, List.getElem_cons_zero, List.getElem_cons_succ, List.setIfInBounds_toArray, List.set_cons_zero, List.set_cons_succ]
   refine tkS (i := 5) (v := .slice (some ⟨b2, off2, none⟩) n2 cap2) rfl o0 ?_ (hr := fun wx hx => by have hq := (OF.out wx hx).2.1; go_simp)
   try simp only [Act.put, List.getElem_toArray, List.getElem_cons_zero, List.getElem_cons_succ, List.setIfInBounds_toArray, List.set_cons_zero, List.set_cons_succ]
   refine tkS (i := 6) (v := .pointer (some ⟨b2, off2, none⟩)) rfl o0 ?_
   try simp only [Act.put, List.getElem_toArray, List.getElem_cons_zero, List.getElem_cons_succ, List.setIfInBounds_toArray, List.set_cons_zero, List.set_cons_succ]
   refine tkS (i := 7) (v := .agg x.cells.toArray) rfl o0 ?_ (hr := fun wx hx => load_nd rfl rfl wx (OF.out wx hx).2.2.1)
   try simp only [Act.put, List.getElem_toArray, List.getElem_cons_zero, List.getElem_cons_succ, List.setIfInBounds_toArray, List.set_cons_zero, List.set_cons_succ]
   refine tkS (i := 8) (v := .agg cs) rfl o0 ?_ (hr := fun wx hx => load_sz hsz rfl rfl wx (OF.out wx hx).1)
   try simp only [Act.put, List.getElem_toArray, List.getElem_cons_zero, List.getElem_cons_succ, List.setIfInBounds_toArray, List.set_cons_zero, List.set_cons_succ]
   refine tkS (i := 10) (v := .slice (some ⟨b, off, none⟩) N vcap) rfl o0 ?_
   try simp only [Act.put, List.getElem_toArray, List.getElem_cons_zero, List.getElem_cons_succ, List.setIfInBounds_toArray, List.set_cons_zero, List.set_cons_succ]
   refine tkS (i := 11) (v := .int .i64 f) rfl o0 ?_
   try simp only [Act.put, List.getElem_toArray, List.getElem_cons_zero, List.getElem_cons_succ, List.setIfInBounds_toArray, List.set_cons_zero, List.set_cons_succ]
   refine tkS (i := 18) (v := .int .i64 cl) rfl o0 ?_
   try simp only [Act.put, List.getElem_toArray, List.getElem_cons_zero, List.getElem_cons_succ, List.setIfInBounds_toArray, List.set_cons_zero, List.set_cons_succ]
   refine tkS (i := 19) (v := .pointer (some ⟨G57, 2, none⟩)) rfl o0 ?_
   try simp only [Act.put, List.getElem_toArray, List.getElem_cons_zero, List.getElem_cons_succ, List.setIfInBounds_toArray, List.set_cons_zero, List.set_cons_succ]
   refine tkS (i := 20) (v := .int .i64 cw) rfl o0 ?_ (hr := fun wx hx => by have hq := (OF.out wx hx).2.2.2; go_simp)
   try simp only [Act.put, List.getElem_toArray, List.getElem_cons_zero, List.getElem_cons_succ, List.setIfInBounds_toArray, List.set_cons_zero, List.set_cons_succ]
   refine rdS (i := 9) rfl (fun K hK => ?_)
   go_simp
   go_at_call 22
   refine (PC.out x0).mono ?_
   rintro e x1 ⟨rfl, hb⟩
   have o1 : OldW W0 x1 := OldW.bel o0 hb
   clear hb
   refine hK.out _ _ o1 (fun _ => ?_)
   try simp only [Act.put, List.getElem_toArray, List.getElem_cons_zero, List.getElem_cons_succ, List.setIfInBounds_toArray, List.set_cons_zero, List.set_cons_succ]
   clear hK K
   refine rdS (i := 12) rfl (fun K hK => ?_)
   go_simp
   go_at_call 64
   refine (HFX.out x1 o1).mono ?_
   rintro e x2 ⟨rfl, hw⟩
   have hw2 := hw.symm
   subst hw2
   refine hK.out _ _ o1 (fun _ => ?_)
   try simp only [Act.put, List.getElem_toArray, List.getElem_cons_zero, List.getElem_cons_succ, List.setIfInBounds_toArray, List.set_cons_zero, List.set_cons_succ]
   clear hK K
   refine tkS (i := 13) (v := .bool true) rfl o1 ?_
   try simp only [Act.put, List.getElem_toArray, List.getElem_cons_zero, List.getElem_cons_succ, List.setIfInBounds_toArray, List.set_cons_zero, List.set_cons_succ]
   refine tkS (i := 14) (v := .slice (some ⟨b, off, none⟩) N vcap) rfl o1 ?_
   try simp only [Act.put, List.getElem_toArray, List.getElem_cons_zero, List.getElem_cons_succ, List.setIfInBounds_toArray, List.set_cons_zero, List.set_cons_succ]
   refine tkS (i := 15) (v := .int .i64 (t : Int)) rfl o1 ?_
   try simp only [Act.put, List.getElem_toArray, List.getElem_cons_zero, List.getElem_cons_succ, List.setIfInBounds_toArray, List.set_cons_zero, List.set_cons_succ]
   refine rdS (i := 16) rfl (fun K hK => ?_)
   go_simp
   go_at_call 64
   refine (HT.out x1 o1).mono ?_
   rintro e x3 ⟨rfl, hw⟩
   have hw2 := hw.symm
   subst hw2
   refine hK.out _ _ o1 (fun _ => ?_)
   try simp only [Act.put, List.getElem_toArray, List.getElem_cons_zero, List.getElem_cons_succ, List.setIfInBounds_toArray, List.set_cons_zero, List.set_cons_succ]
   clear hK K
   refine tkS (i := 17) (v := .bool ht) rfl o1 ?_
   try simp only [Act.put, List.getElem_toArray, List.getElem_cons_zero, List.getElem_cons_succ, List.setIfInBounds_toArray, List.set_cons_zero, List.set_cons_succ]
   refine rdS (i := 21) rfl (fun K hK => ?_)
   go_simp
   go_at_call 63
   refine (DC.out ht x1).mono ?_
   rintro e x4 ⟨rfl, hb⟩
   have o4 : OldW W0 x4 := OldW.bel o1 hb
   clear hb
   refine hK.out _ _ o4 (fun _ => ?_)
   try simp only [Act.put, List.getElem_toArray, List.getElem_cons_zero, List.getElem_cons_succ, List.setIfInBounds_toArray, List.set_cons_zero, List.set_cons_succ]
   clear hK K
   refine tkS (i := 22) (v := .int .i64 (demI S bd (prcI S.hy x) ht cl cw)) rfl o4 ?_
   try simp only [Act.put, List.getElem_toArray, List.getElem_cons_zero, List.getElem_cons_succ, List.setIfInBounds_toArray, List.set_cons_zero, List.set_cons_succ]
   refine wpAnyH_done (by kernel_rfl) ?_ _
   go_wp2_with fail
   go_meet
   case rel => exact ⟨by rw [HD2.out], hideP o4⟩
  | false =>
   have HE : Hid (false = hh) := hideP (by rw [HHH.out]; rfl)
   have HD2 : Hid (demI S bd (prcI S.hy x) false cl cw = de) := hideP (by rw [HE.out]; exact HDE.out.symm)
   refine wp_noPanic ?_
   refine wp_region_held_drew (S := fun X => OldW W0 X) (by kernel_rfl) (OldW.drew (OldW.refl W0)) (fun hS => ?_)
   obtain ⟨x0, hx0⟩ : ∃ X, X = W0.drew := ⟨_, rfl⟩
   have o0 : OldW W0 x0 := by rw [hx0]; exact OldW.drew (OldW.refl W0)
   rw [← hx0]
   clear hx0 hS
   refine tkS (i := 0) (v := .agg cs) rfl o0 ?_ (hr := fun wx hx => load_sz hsz rfl rfl wx (OF.out wx hx).1)
   try simp only [Act.put, List.getElem_toArray, List.getElem_cons_zero, List.getElem_cons_succ, List.setIfInBounds_toArray, List.set_cons_zero, List.set_cons_succ]
   refine tkS (i := 1) (v := .int .i64 bd) rfl o0 ?_
   try simp only [Act.put, List.getElem_toArray, List.getElem_cons_zero, List.getElem_cons_succ, List.setIfInBounds_toArray, List.set_cons_zero, List.set_cons_succ]
   refine tkS (i := 2) (v := .slice (some ⟨b, off, none⟩) N vcap) rfl o0 ?_
   try simp only [Act.put, List.getElem_toArray, List.getElem_cons_zero, List.getElem_cons_succ, List.setIfInBounds_toArray, List.set_cons_zero, List.set_cons_succ]
   refine tkS (i := 3) (v := .int .i64 (t : Int)) rfl o0 ?_
   try simp only [Act.put, List.getElem_toArray, List.getElem_cons_zero, List.getElem_cons_succ, List.setIfInBounds_toArray, List.set_cons_zero, List.set_cons_succ]
   refine tkS (i := 4) (v := .pointer (some ⟨b, off + t, none⟩)) rfl o0 ?_
   try simp only [Act.put, List.getElem_toArray, List.getElem_cons_zero, List.getElem_cons_succ, List.setIfInBounds_toArray, List.set_cons_zero, List.set_cons_succ]
   refine tkS (i := 5) (v := .slice (some ⟨b2, off2, none⟩) n2 cap2) rfl o0 ?_ (hr := fun wx hx => by have hq := (OF.out wx hx).2.1; go_simp)
   try simp only [Act.put, List.getElem_toArray, List.getElem_cons_zero, List.getElem_cons_succ, List.setIfInBounds_toArray, List.set_cons_zero, List.set_cons_succ]
   refine tkS (i := 6) (v := .pointer (some ⟨b2, off2, none⟩)) rfl o0 ?_
   try simp only [Act.put, List.getElem_toArray, List.getElem_cons_zero, List.getElem_cons_succ, List.setIfInBounds_toArray, List.set_cons_zero, List.set_cons_succ]
   refine tkS (i := 7) (v := .agg x.cells.toArray) rfl o0 ?_ (hr := fun wx hx => load_nd rfl rfl wx (OF.out wx hx).2.2.1)
   try simp only [Act.put, List.getElem_toArray, List.getElem_cons_zero, List.getElem_cons_succ, List.setIfInBounds_toArray, List.set_cons_zero, List.set_cons_succ]
   refine tkS (i := 8) (v := .agg cs) rfl o0 ?_ (hr := fun wx hx => load_sz hsz rfl rfl wx (OF.out wx hx).1)
   try simp only [Act.put, List.getElem_toArray, List.getElem_cons_zero, List.getElem_cons_succ, List.setIfInBounds_toArray, List.set_cons_zero, List.set_cons_succ]
   refine tkS (i := 10) (v := .slice (some ⟨b, off, none⟩) N vcap) rfl o0 ?_
   try simp only [Act.put, List.getElem_toArray, List.getElem_cons_zero, List.getElem_cons_succ, List.setIfInBounds_toArray, List.set_cons_zero, List.set_cons_succ]
   refine tkS (i := 11) (v := .int .i64 f) rfl o0 ?_
   try simp only [Act.put, List.getElem_toArray, List.getElem_cons_zero, List.getElem_cons_succ, List.setIfInBounds_toArray, List.set_cons_zero, List.set_cons_succ]
   refine tkS (i := 18) (v := .int .i64 cl) rfl o0 ?_
   try simp only [Act.put, List.getElem_toArray, List.getElem_cons_zero, List.getElem_cons_succ, List.setIfInBounds_toArray, List.set_cons_zero, List.set_cons_succ]
   refine tkS (i := 19) (v := .pointer (some ⟨G57, 2, none⟩)) rfl o0 ?_
   try simp only [Act.put, List.getElem_toArray, List.getElem_cons_zero, List.getElem_cons_succ, List.setIfInBounds_toArray, List.set_cons_zero, List.set_cons_succ]
   refine tkS (i := 20) (v := .int .i64 cw) rfl o0 ?_ (hr := fun wx hx => by have hq := (OF.out wx hx).2.2.2; go_simp)
   try simp only [Act.put, List.getElem_toArray, List.getElem_cons_zero, List.getElem_cons_succ, List.setIfInBounds_toArray, List.set_cons_zero, List.set_cons_succ]
   refine rdS (i := 9) rfl (fun K hK => ?_)
   go_simp
   go_at_call 22
   refine (PC.out x0).mono ?_
   rintro e x5 ⟨rfl, hb⟩
   have o5 : OldW W0 x5 := OldW.bel o0 hb
   clear hb
   refine hK.out _ _ o5 (fun _ => ?_)
   try simp only [Act.put, List.getElem_toArray, List.getElem_cons_zero, List.getElem_cons_succ, List.setIfInBounds_toArray, List.set_cons_zero, List.set_cons_succ]
   clear hK K
   refine rdS (i := 12) rfl (fun K hK => ?_)
   go_simp
   go_at_call 64
   refine (HFX.out x5 o5).mono ?_
   rintro e x6 ⟨rfl, hw⟩
   have hw2 := hw.symm
   subst hw2
   refine hK.out _ _ o5 (fun _ => ?_)
   try simp only [Act.put, List.getElem_toArray, List.getElem_cons_zero, List.getElem_cons_succ, List.setIfInBounds_toArray, List.set_cons_zero, List.set_cons_succ]
   clear hK K
   refine tkS (i := 13) (v := .bool false) rfl o5 ?_
   try simp only [Act.put, List.getElem_toArray, List.getElem_cons_zero, List.getElem_cons_succ, List.setIfInBounds_toArray, List.set_cons_zero, List.set_cons_succ]
   refine tkU (i := 14) rfl o5 ?_
   try simp only [Act.put, List.getElem_toArray, List.getElem_cons_zero, List.getElem_cons_succ, List.setIfInBounds_toArray, List.set_cons_zero, List.set_cons_succ]
   refine tkU (i := 15) rfl o5 ?_
   try simp only [Act.put, List.getElem_toArray, List.getElem_cons_zero, List.getElem_cons_succ, List.setIfInBounds_toArray, List.set_cons_zero, List.set_cons_succ]
   refine tkU (i := 16) rfl o5 ?_
   try simp only [Act.put, List.getElem_toArray, List.getElem_cons_zero, List.getElem_cons_succ, List.setIfInBounds_toArray, List.set_cons_zero, List.set_cons_succ]
   refine tkS (i := 17) (v := .bool false) rfl o5 ?_
   try simp only [Act.put, List.getElem_toArray, List.getElem_cons_zero, List.getElem_cons_succ, List.setIfInBounds_toArray, List.set_cons_zero, List.set_cons_succ]
   refine rdS (i := 21) rfl (fun K hK => ?_)
   go_simp
   go_at_call 63
   refine (DC.out false x5).mono ?_
   rintro e x7 ⟨rfl, hb⟩
   have o7 : OldW W0 x7 := OldW.bel o5 hb
   clear hb
   refine hK.out _ _ o7 (fun _ => ?_)
   try simp only [Act.put, List.getElem_toArray, List.getElem_cons_zero, List.getElem_cons_succ, List.setIfInBounds_toArray, List.set_cons_zero, List.set_cons_succ]
   clear hK K
   refine tkS (i := 22) (v := .int .i64 (demI S bd (prcI S.hy x) false cl cw)) rfl o7 ?_
   try simp only [Act.put, List.getElem_toArray, List.getElem_cons_zero, List.getElem_cons_succ, List.setIfInBounds_toArray, List.set_cons_zero, List.set_cons_succ]
   refine wpAnyH_done (by kernel_rfl) ?_ _
   go_wp2_with fail
   go_meet
   case rel => exact ⟨by rw [HD2.out], hideP o7⟩
 case rest =>
  obtain ⟨rfl, HOC⟩ := hcut
  obtain ⟨W1, rfl⟩ : ∃ X, X = wc := ⟨_, rfl⟩
  have HL0 : Hid (W0.heap.size ≤ W1.heap.size) := hideP HOC.out.2.2.2.1
  have lR : R < W0.heap.size := by have := HZ0.out; have := HGG.out; omega
  have lG : G57 < W0.heap.size := by have := HZ0.out; have := HGG.out; omega
  have hGR : G57 ≠ R := by have := HGG.out; omega
  have hRw : w.heap.size ≤ R := by have := HGG.out; omega
  have hLw : w.heap.size ≤ W0.heap.size := OW.out.2.2.2.1
  have BO : Hid (W0.ownsRow lo 2 1 bv nL (L.map (Value.int .i64))) := hideP (own_old HB0.out OW.out)
  obtain ⟨LO, hLO⟩ : ∃ l, l = W0.heap.size := ⟨_, rfl⟩
  have HLO := hideP hLO
  rw [← hLO] at hLw
  clear hLO
  obtain ⟨SG, hSG⟩ : ∃ SS : World → Prop, SS = (fun X => X.heap[G57]? = some (.cells #[bv, .int .i64 dm, .int .i64 cw] 57 (0, 0))) := ⟨_, rfl⟩
  have SO : Hid (∀ X, OldW W0 X → SG X) := hideP (fun X hX => by rw [hSG]; exact (hX.2.2.2.2 _ (Array.getElem?_eq_some_iff.1 HS57.out).1).trans HS57.out)
  have SG0 : Hid (∀ X, SG X → X.cell? ⟨G57, 0, none⟩ = some bv) := hideP (fun X hX => by rw [hSG] at hX; rw [cell_of_row _ _ _ _ _ _ hX]; rfl)
  have SG1 : Hid (∀ X, SG X → X.cell? ⟨G57, 1, none⟩ = some (.int .i64 dm)) := hideP (fun X hX => by rw [hSG] at hX; rw [cell_of_row _ _ _ _ _ _ hX]; rfl)
  have SGF : Hid (∀ X Y : World, SG X → Y.heap[G57]? = X.heap[G57]? → SG Y) := hideP (fun X Y hX hY => by rw [hSG] at hX ⊢; exact hY.trans hX)
  have HR0 : Hid (W0.heap[R]? = some (.cells #[.slice none 0 0, .int .i64 0, .int .i64 0] 57 (0, 0))) := HSR
  clear hSG PC DC HFX HT OF
  go_upto_region 2 with fail
  have hS0 : SG W1.drew := SO.out W1.drew (OldW.drew HOC.out)
  refine wp_region_held_drew (S := SG) (by kernel_rfl) hS0 (fun hS => ?_)
  obtain ⟨v0, hv0⟩ : ∃ X, X = W1.drew := ⟨_, rfl⟩
  have p0 : OldW W0 v0 := by rw [hv0]; exact OldW.drew HOC.out
  rw [← hv0]
  rw [← hv0] at hS
  clear hv0 hS0
  refine tkS (i := 1) (v := .pointer (some ⟨G57, 0, none⟩)) rfl hS ?_
  try simp only [Act.put, List.getElem_toArray, List.getElem_cons_zero, List.getElem_cons_succ, List.setIfInBounds_toArray, List.set_cons_zero, List.set_cons_succ]
  refine tkS (i := 2) (v := bv) rfl hS ?_ (hr := fun wx hx => by have hq := SG0.out wx hx; go_simp)
  try simp only [Act.put, List.getElem_toArray, List.getElem_cons_zero, List.getElem_cons_succ, List.setIfInBounds_toArray, List.set_cons_zero, List.set_cons_succ]
  refine tkS (i := 4) (v := .int .i64 (t : Int)) rfl hS ?_
  try simp only [Act.put, List.getElem_toArray, List.getElem_cons_zero, List.getElem_cons_succ, List.setIfInBounds_toArray, List.set_cons_zero, List.set_cons_succ]
  refine tkS (i := 7) (v := .pointer (some ⟨G57, 1, none⟩)) rfl hS ?_
  try simp only [Act.put, List.getElem_toArray, List.getElem_cons_zero, List.getElem_cons_succ, List.setIfInBounds_toArray, List.set_cons_zero, List.set_cons_succ]
  refine tkS (i := 8) (v := .int .i64 dm) rfl hS ?_ (hr := fun wx hx => by have hq := SG1.out wx hx; go_simp)
  try simp only [Act.put, List.getElem_toArray, List.getElem_cons_zero, List.getElem_cons_succ, List.setIfInBounds_toArray, List.set_cons_zero, List.set_cons_succ]
  refine tkS (i := 9) (v := .int .i64 de) rfl hS ?_
  try simp only [Act.put, List.getElem_toArray, List.getElem_cons_zero, List.getElem_cons_succ, List.setIfInBounds_toArray, List.set_cons_zero, List.set_cons_succ]
  refine tkS (i := 10) (v := .int .i64 dn) rfl hS ?_ (hr := fun wx hx => by have hq := HDN.out; go_simp)
  try simp only [Act.put, List.getElem_toArray, List.getElem_cons_zero, List.getElem_cons_succ, List.setIfInBounds_toArray, List.set_cons_zero, List.set_cons_succ]
  refine tkS (i := 11) (v := .int .i64 cl) rfl hS ?_
  try simp only [Act.put, List.getElem_toArray, List.getElem_cons_zero, List.getElem_cons_succ, List.setIfInBounds_toArray, List.set_cons_zero, List.set_cons_succ]
  refine wpAnyH_ready (rs := [0, 5]) (by kernel_rfl) (by simp) ?_
  refine AllReadyH.cons rfl (fun K hK => ?_) (AllReadyH.cons rfl (fun K hK => ?_) AllReadyH.nil)
  ·rw [if_pos (by first | rfl | go_simp)]
   go_simp
   obtain ⟨E, hE⟩ : ∃ X, X = v0.heap.size := ⟨_, rfl⟩
   obtain ⟨v1, hv⟩ : ∃ X, X = v0.alloc (.cells #[] 2) := ⟨_, rfl⟩
   rw [← hv, ← hE]
   have c1 : Below v0.heap.size v0 v1 := by rw [hv]; exact below1 _ _
   have p1 : OldW W0 v1 := OldW.bel p0 c1
   have IE1 : v1.ownsRow LO 2 1 (.slice (some ⟨E, 0, none⟩) 0 0) 0 [] := by rw [hv, hE]; exact ⟨rfl, .inr ⟨_, _, _, rfl, by have := p0.2.2.2.1; have := HLO.out; omega, heap_alloc_new _ _, Nat.le_refl _, by unfold maxLen; omega, rfl, rfl⟩⟩
   have lE : E < v1.heap.size := by rw [hv, hE]; simp
   have HE := hideP hE
   clear hv hE
   refine hK.out _ _ (SO.out _ p1) (fun _ => ?_)
   try simp only [Act.put, List.getElem_toArray, List.getElem_cons_zero, List.getElem_cons_succ, List.setIfInBounds_toArray, List.set_cons_zero, List.set_cons_succ]
   clear hK K
   refine wpAnyH_ready (rs := [3, 5]) (by kernel_rfl) (by simp) ?_
   refine AllReadyH.cons rfl (fun K hK => ?_) (AllReadyH.cons rfl (fun K hK => ?_) AllReadyH.nil)
   ·rw [if_pos (by first | rfl | go_simp)]
    have bo := own_old BO.out p1
    refine wp_appO _ _ rfl LO lo (.slice (some ⟨E, 0, none⟩) 0 0) 0 [] rfl IE1 bv nL (L.map (Value.int .i64)) rfl bo (by intro u hu; obtain ⟨z, _, rfl⟩ := List.mem_map.1 hu; rfl) (by omega) (by have := p1.2.2.2.1; have := HLO.out; omega) ?_
    intro u v2 hu hg
    have p2 : OldW W0 v2 := old_grw p1 hg (fun j e hj => by have e2 : E = j := Option.some.inj e; have h8 : LO ≤ E := (World.ownsRow.lt IE1 _ rfl).1; have := HLO.out; omega)
    rw [Nat.zero_add, List.nil_append] at hu
    obtain ⟨ua, uc, rfl⟩ : ∃ a c, u = .slice a nL c := ownG_shape hu
    have IV2 := hu
    clear hu hg
    refine hK.out _ _ (SO.out _ p2) (fun _ => ?_)
    try simp only [Act.put, List.getElem_toArray, List.getElem_cons_zero, List.getElem_cons_succ, List.setIfInBounds_toArray, List.set_cons_zero, List.set_cons_succ]
    clear hK K
    refine rdS (i := 5) rfl (fun K hK => ?_)
    go_simp
    obtain ⟨F, hF⟩ : ∃ X, X = v2.heap.size := ⟨_, rfl⟩
    obtain ⟨v3, hv⟩ : ∃ X, X = v2.alloc (.cells #[.int .i64 (t : Int)] 2) := ⟨_, rfl⟩
    rw [← hv, ← hF]
    have c3 : Below v2.heap.size v2 v3 := by rw [hv]; exact below1 _ _
    have p3 : OldW W0 v3 := OldW.bel p2 c3
    have IF3 : v3.ownsRow LO 2 1 (.slice (some ⟨F, 0, none⟩) 1 1) 1 [.int .i64 (t : Int)] := by rw [hv, hF]; exact ⟨rfl, .inr ⟨_, _, _, rfl, by have := p2.2.2.2.1; have := HLO.out; omega, heap_alloc_new _ _, Nat.le_refl _, by unfold maxLen; omega, rfl, rfl⟩⟩
    have IV3 := own1_below IV2 c3
    have lF : F < v3.heap.size := by rw [hv, hF]; simp
    have HF := hideP hF
    clear hv hF
    refine hK.out _ _ (SO.out _ p3) (fun _ => ?_)
    try simp only [Act.put, List.getElem_toArray, List.getElem_cons_zero, List.getElem_cons_succ, List.setIfInBounds_toArray, List.set_cons_zero, List.set_cons_succ]
    clear hK K
    refine rdS (i := 6) rfl (fun K hK => ?_)
    refine wp_appO _ _ rfl LO LO (.slice ua nL uc) nL (L.map (Value.int .i64)) rfl IV3 (.slice (some ⟨F, 0, none⟩) 1 1) 1 [.int .i64 (t : Int)] rfl IF3 (by intro u hu; rw [List.mem_singleton.1 hu]; rfl) (by omega) (by have := p3.2.2.2.1; have := HLO.out; omega) ?_
    intro u v4 hu hg
    have p4 : OldW W0 v4 := old_grw p3 hg (fun j e hj => by have := (World.ownsRow.lt IV3 j e).1; have := HLO.out; omega)
    obtain ⟨ub, ud, rfl⟩ : ∃ a c, u = .slice a (nL + 1) c := ownG_shape hu
    have IB4 : v4.ownsRow LO 2 1 (.slice ub (nL + 1) ud) (nL + 1) ((L ++ [(t : Int)]).map (Value.int .i64)) := by rw [List.map_append]; exact hu
    clear hu hg
    refine hK.out _ _ (SO.out _ p4) (fun _ => ?_)
    try simp only [Act.put, List.getElem_toArray, List.getElem_cons_zero, List.getElem_cons_succ, List.setIfInBounds_toArray, List.set_cons_zero, List.set_cons_succ]
    clear hK K
    refine tkS (i := 12) (v := .agg #[.slice ub (nL + 1) ud, .int .i64 dn, .int .i64 cl]) rfl (SO.out _ p4) ?_
    try simp only [Act.put, List.getElem_toArray, List.getElem_cons_zero, List.getElem_cons_succ, List.setIfInBounds_toArray, List.set_cons_zero, List.set_cons_succ]
    have z3 : v4.heap[R]? = some (.cells #[.slice none 0 0, .int .i64 0, .int .i64 0] 57 (0, 0)) := (p4.2.2.2.2 R lR).trans HR0.out
    have q0 := cell_of_row v4 R 0 _ 57 _ z3
    have q1 := cell_of_row v4 R 1 _ 57 _ z3
    have q2 := cell_of_row v4 R 2 _ 57 _ z3
    have fz : ∀ j, v4.frozen? ⟨R, j, none⟩ = false := fun j => frozen_of_row _ _ j _ 57 z3
    refine rdS (i := 13) rfl (fun K hK => ?_)
    go_simp
    obtain ⟨X, hX⟩ : ∃ X, X = ((v4.setCell ⟨R, 0, none⟩ (.slice ub (nL + 1) ud)).setCell ⟨R, 1, none⟩ (.int .i64 dn)).setCell ⟨R, 2, none⟩ (.int .i64 cl) := ⟨_, rfl⟩
    rw [← hX]
    have FX : Fr R v4 X := by rw [hX]; exact (((Fr.refl R v4).set 0 _).set 1 _).set 2 _
    have RX : X.heap[R]? = some (.cells #[.slice ub (nL + 1) ud, .int .i64 dn, .int .i64 cl] 57 (0, 0)) := by rw [hX]; exact heap_setCell_same _ _ 2 _ 57 _ (heap_setCell_same _ _ 1 _ 57 _ (heap_setCell_same _ _ 0 _ 57 _ z3))
    have BX : Below w.heap.size w X := ⟨FX.1.trans (OW.out.trans p4).toB.os, FX.2.1.trans (OW.out.trans p4).toB.tape, FX.2.2.1.trans (OW.out.trans p4).toB.output, Nat.le_trans (OW.out.trans p4).toB.size FX.2.2.2.1, fun k hk => (FX.2.2.2.2 k (Nat.lt_of_lt_of_le hk (OW.out.trans p4).toB.size) (by omega)).trans ((OW.out.trans p4).toB.block k hk)⟩
    have IX : X.ownsRow LO 2 1 (.slice ub (nL + 1) ud) (nL + 1) ((L ++ [(t : Int)]).map (Value.int .i64)) := own_heap IB4 (fun g e => FX.2.2.2.2 g (World.ownsRow.lt IB4 g e).2 (by have := (World.ownsRow.lt IB4 g e).1; have := HLO.out; omega))
    clear hX q0 q1 q2 fz
    refine hK.out _ _ (SGF.out v4 X (SO.out _ p4) (FX.2.2.2.2 G57 (Nat.lt_of_lt_of_le lG p4.2.2.2.1) hGR)) (fun _ => ?_)
    try simp only [Act.put, List.getElem_toArray, List.getElem_cons_zero, List.getElem_cons_succ, List.setIfInBounds_toArray, List.set_cons_zero, List.set_cons_succ]
    clear hK K
    refine wpAnyH_done (by kernel_rfl) ?_ _
    go_wp2
    exact bodyPost_ret (v := .agg #[.slice ub (nL + 1) ud, .int .i64 dn, .int .i64 cl]) (results_cell_row rfl _ _ R 57 _ (0, 0) _ rfl RX Tryz.underlying57 rfl (by kernel_rfl)) rfl ⟨⟨_, rfl, ownG_mono IX hLw⟩, BX⟩
   ·rw [if_pos (by first | rfl | go_simp)]
    go_simp
    obtain ⟨F, hF⟩ : ∃ X, X = v1.heap.size := ⟨_, rfl⟩
    obtain ⟨v2, hv⟩ : ∃ X, X = v1.alloc (.cells #[.int .i64 (t : Int)] 2) := ⟨_, rfl⟩
    rw [← hv, ← hF]
    have c2 : Below v1.heap.size v1 v2 := by rw [hv]; exact below1 _ _
    have p2 : OldW W0 v2 := OldW.bel p1 c2
    have IF2 : v2.ownsRow LO 2 1 (.slice (some ⟨F, 0, none⟩) 1 1) 1 [.int .i64 (t : Int)] := by rw [hv, hF]; exact ⟨rfl, .inr ⟨_, _, _, rfl, by have := p1.2.2.2.1; have := HLO.out; omega, heap_alloc_new _ _, Nat.le_refl _, by unfold maxLen; omega, rfl, rfl⟩⟩
    have IE2 := own1_below IE1 c2
    have lF : F < v2.heap.size := by rw [hv, hF]; simp
    have HF := hideP hF
    clear hv hF
    refine hK.out _ _ (SO.out _ p2) (fun _ => ?_)
    try simp only [Act.put, List.getElem_toArray, List.getElem_cons_zero, List.getElem_cons_succ, List.setIfInBounds_toArray, List.set_cons_zero, List.set_cons_succ]
    clear hK K
    refine rdS (i := 3) rfl (fun K hK => ?_)
    have bo := own_old BO.out p2
    refine wp_appO _ _ rfl LO lo (.slice (some ⟨E, 0, none⟩) 0 0) 0 [] rfl IE2 bv nL (L.map (Value.int .i64)) rfl bo (by intro u hu; obtain ⟨z, _, rfl⟩ := List.mem_map.1 hu; rfl) (by omega) (by have := p2.2.2.2.1; have := HLO.out; omega) ?_
    intro u v3 hu hg
    have p3 : OldW W0 v3 := old_grw p2 hg (fun j e hj => by have e2 : E = j := Option.some.inj e; have h8 : LO ≤ E := (World.ownsRow.lt IE2 _ rfl).1; have := HLO.out; omega)
    rw [Nat.zero_add, List.nil_append] at hu
    obtain ⟨ua, uc, rfl⟩ : ∃ a c, u = .slice a nL c := ownG_shape hu
    have IV3 := hu
    have IF3 := own_grw IF2 hg (fun e => by have e2 : E = F := Option.some.inj e; have := HE.out; have := HF.out; omega)
    clear hu hg
    refine hK.out _ _ (SO.out _ p3) (fun _ => ?_)
    try simp only [Act.put, List.getElem_toArray, List.getElem_cons_zero, List.getElem_cons_succ, List.setIfInBounds_toArray, List.set_cons_zero, List.set_cons_succ]
    clear hK K
    refine rdS (i := 6) rfl (fun K hK => ?_)
    refine wp_appO _ _ rfl LO LO (.slice ua nL uc) nL (L.map (Value.int .i64)) rfl IV3 (.slice (some ⟨F, 0, none⟩) 1 1) 1 [.int .i64 (t : Int)] rfl IF3 (by intro u hu; rw [List.mem_singleton.1 hu]; rfl) (by omega) (by have := p3.2.2.2.1; have := HLO.out; omega) ?_
    intro u v4 hu hg
    have p4 : OldW W0 v4 := old_grw p3 hg (fun j e hj => by have := (World.ownsRow.lt IV3 j e).1; have := HLO.out; omega)
    obtain ⟨ub, ud, rfl⟩ : ∃ a c, u = .slice a (nL + 1) c := ownG_shape hu
    have IB4 : v4.ownsRow LO 2 1 (.slice ub (nL + 1) ud) (nL + 1) ((L ++ [(t : Int)]).map (Value.int .i64)) := by rw [List.map_append]; exact hu
    clear hu hg
    refine hK.out _ _ (SO.out _ p4) (fun _ => ?_)
    try simp only [Act.put, List.getElem_toArray, List.getElem_cons_zero, List.getElem_cons_succ, List.setIfInBounds_toArray, List.set_cons_zero, List.set_cons_succ]
    clear hK K
    refine tkS (i := 12) (v := .agg #[.slice ub (nL + 1) ud, .int .i64 dn, .int .i64 cl]) rfl (SO.out _ p4) ?_
    try simp only [Act.put, List.getElem_toArray, List.getElem_cons_zero, List.getElem_cons_succ, List.setIfInBounds_toArray, List.set_cons_zero, List.set_cons_succ]
    have z3 : v4.heap[R]? = some (.cells #[.slice none 0 0, .int .i64 0, .int .i64 0] 57 (0, 0)) := (p4.2.2.2.2 R lR).trans HR0.out
    have q0 := cell_of_row v4 R 0 _ 57 _ z3
    have q1 := cell_of_row v4 R 1 _ 57 _ z3
    have q2 := cell_of_row v4 R 2 _ 57 _ z3
    have fz : ∀ j, v4.frozen? ⟨R, j, none⟩ = false := fun j => frozen_of_row _ _ j _ 57 z3
    refine rdS (i := 13) rfl (fun K hK => ?_)
    go_simp
    obtain ⟨X, hX⟩ : ∃ X, X = ((v4.setCell ⟨R, 0, none⟩ (.slice ub (nL + 1) ud)).setCell ⟨R, 1, none⟩ (.int .i64 dn)).setCell ⟨R, 2, none⟩ (.int .i64 cl) := ⟨_, rfl⟩
    rw [← hX]
    have FX : Fr R v4 X := by rw [hX]; exact (((Fr.refl R v4).set 0 _).set 1 _).set 2 _
    have RX : X.heap[R]? = some (.cells #[.slice ub (nL + 1) ud, .int .i64 dn, .int .i64 cl] 57 (0, 0)) := by rw [hX]; exact heap_setCell_same _ _ 2 _ 57 _ (heap_setCell_same _ _ 1 _ 57 _ (heap_setCell_same _ _ 0 _ 57 _ z3))
    have BX : Below w.heap.size w X := ⟨FX.1.trans (OW.out.trans p4).toB.os, FX.2.1.trans (OW.out.trans p4).toB.tape, FX.2.2.1.trans (OW.out.trans p4).toB.output, Nat.le_trans (OW.out.trans p4).toB.size FX.2.2.2.1, fun k hk => (FX.2.2.2.2 k (Nat.lt_of_lt_of_le hk (OW.out.trans p4).toB.size) (by omega)).trans ((OW.out.trans p4).toB.block k hk)⟩
    have IX : X.ownsRow LO 2 1 (.slice ub (nL + 1) ud) (nL + 1) ((L ++ [(t : Int)]).map (Value.int .i64)) := own_heap IB4 (fun g e => FX.2.2.2.2 g (World.ownsRow.lt IB4 g e).2 (by have := (World.ownsRow.lt IB4 g e).1; have := HLO.out; omega))
    clear hX q0 q1 q2 fz
    refine hK.out _ _ (SGF.out v4 X (SO.out _ p4) (FX.2.2.2.2 G57 (Nat.lt_of_lt_of_le lG p4.2.2.2.1) hGR)) (fun _ => ?_)
    try simp only [Act.put, List.getElem_toArray, List.getElem_cons_zero, List.getElem_cons_succ, List.setIfInBounds_toArray, List.set_cons_zero, List.set_cons_succ]
    clear hK K
    refine wpAnyH_done (by kernel_rfl) ?_ _
    go_wp2
    exact bodyPost_ret (v := .agg #[.slice ub (nL + 1) ud, .int .i64 dn, .int .i64 cl]) (results_cell_row rfl _ _ R 57 _ (0, 0) _ rfl RX Tryz.underlying57 rfl (by kernel_rfl)) rfl ⟨⟨_, rfl, ownG_mono IX hLw⟩, BX⟩
  ·rw [if_pos (by first | rfl | go_simp)]
   go_simp
   obtain ⟨F, hF⟩ : ∃ X, X = v0.heap.size := ⟨_, rfl⟩
   obtain ⟨v1, hv⟩ : ∃ X, X = v0.alloc (.cells #[.int .i64 (t : Int)] 2) := ⟨_, rfl⟩
   rw [← hv, ← hF]
   have c1 : Below v0.heap.size v0 v1 := by rw [hv]; exact below1 _ _
   have p1 : OldW W0 v1 := OldW.bel p0 c1
   have IF1 : v1.ownsRow LO 2 1 (.slice (some ⟨F, 0, none⟩) 1 1) 1 [.int .i64 (t : Int)] := by rw [hv, hF]; exact ⟨rfl, .inr ⟨_, _, _, rfl, by have := p0.2.2.2.1; have := HLO.out; omega, heap_alloc_new _ _, Nat.le_refl _, by unfold maxLen; omega, rfl, rfl⟩⟩
   have lF : F < v1.heap.size := by rw [hv, hF]; simp
   have HF := hideP hF
   clear hv hF
   refine hK.out _ _ (SO.out _ p1) (fun _ => ?_)
   try simp only [Act.put, List.getElem_toArray, List.getElem_cons_zero, List.getElem_cons_succ, List.setIfInBounds_toArray, List.set_cons_zero, List.set_cons_succ]
   clear hK K
   refine rdS (i := 0) rfl (fun K hK => ?_)
   go_simp
   obtain ⟨E, hE⟩ : ∃ X, X = v1.heap.size := ⟨_, rfl⟩
   obtain ⟨v2, hv⟩ : ∃ X, X = v1.alloc (.cells #[] 2) := ⟨_, rfl⟩
   rw [← hv, ← hE]
   have c2 : Below v1.heap.size v1 v2 := by rw [hv]; exact below1 _ _
   have p2 : OldW W0 v2 := OldW.bel p1 c2
   have IE2 : v2.ownsRow LO 2 1 (.slice (some ⟨E, 0, none⟩) 0 0) 0 [] := by rw [hv, hE]; exact ⟨rfl, .inr ⟨_, _, _, rfl, by have := p1.2.2.2.1; have := HLO.out; omega, heap_alloc_new _ _, Nat.le_refl _, by unfold maxLen; omega, rfl, rfl⟩⟩
   have IF2 := own1_below IF1 c2
   have lE : E < v2.heap.size := by rw [hv, hE]; simp
   have HE := hideP hE
   clear hv hE
   refine hK.out _ _ (SO.out _ p2) (fun _ => ?_)
   try simp only [Act.put, List.getElem_toArray, List.getElem_cons_zero, List.getElem_cons_succ, List.setIfInBounds_toArray, List.set_cons_zero, List.set_cons_succ]
   clear hK K
   refine rdS (i := 3) rfl (fun K hK => ?_)
   have bo := own_old BO.out p2
   refine wp_appO _ _ rfl LO lo (.slice (some ⟨E, 0, none⟩) 0 0) 0 [] rfl IE2 bv nL (L.map (Value.int .i64)) rfl bo (by intro u hu; obtain ⟨z, _, rfl⟩ := List.mem_map.1 hu; rfl) (by omega) (by have := p2.2.2.2.1; have := HLO.out; omega) ?_
   intro u v3 hu hg
   have p3 : OldW W0 v3 := old_grw p2 hg (fun j e hj => by have e2 : E = j := Option.some.inj e; have h8 : LO ≤ E := (World.ownsRow.lt IE2 _ rfl).1; have := HLO.out; omega)
   rw [Nat.zero_add, List.nil_append] at hu
   obtain ⟨ua, uc, rfl⟩ : ∃ a c, u = .slice a nL c := ownG_shape hu
   have IV3 := hu
   have IF3 := own_grw IF2 hg (fun e => by have e2 : E = F := Option.some.inj e; have := HE.out; have := HF.out; omega)
   clear hu hg
   refine hK.out _ _ (SO.out _ p3) (fun _ => ?_)
   try simp only [Act.put, List.getElem_toArray, List.getElem_cons_zero, List.getElem_cons_succ, List.setIfInBounds_toArray, List.set_cons_zero, List.set_cons_succ]
   clear hK K
   refine rdS (i := 6) rfl (fun K hK => ?_)
   refine wp_appO _ _ rfl LO LO (.slice ua nL uc) nL (L.map (Value.int .i64)) rfl IV3 (.slice (some ⟨F, 0, none⟩) 1 1) 1 [.int .i64 (t : Int)] rfl IF3 (by intro u hu; rw [List.mem_singleton.1 hu]; rfl) (by omega) (by have := p3.2.2.2.1; have := HLO.out; omega) ?_
   intro u v4 hu hg
   have p4 : OldW W0 v4 := old_grw p3 hg (fun j e hj => by have := (World.ownsRow.lt IV3 j e).1; have := HLO.out; omega)
   obtain ⟨ub, ud, rfl⟩ : ∃ a c, u = .slice a (nL + 1) c := ownG_shape hu
   have IB4 : v4.ownsRow LO 2 1 (.slice ub (nL + 1) ud) (nL + 1) ((L ++ [(t : Int)]).map (Value.int .i64)) := by rw [List.map_append]; exact hu
   clear hu hg
   refine hK.out _ _ (SO.out _ p4) (fun _ => ?_)
   try simp only [Act.put, List.getElem_toArray, List.getElem_cons_zero, List.getElem_cons_succ, List.setIfInBounds_toArray, List.set_cons_zero, List.set_cons_succ]
   clear hK K
   refine tkS (i := 12) (v := .agg #[.slice ub (nL + 1) ud, .int .i64 dn, .int .i64 cl]) rfl (SO.out _ p4) ?_
   try simp only [Act.put, List.getElem_toArray, List.getElem_cons_zero, List.getElem_cons_succ, List.setIfInBounds_toArray, List.set_cons_zero, List.set_cons_succ]
   have z3 : v4.heap[R]? = some (.cells #[.slice none 0 0, .int .i64 0, .int .i64 0] 57 (0, 0)) := (p4.2.2.2.2 R lR).trans HR0.out
   have q0 := cell_of_row v4 R 0 _ 57 _ z3
   have q1 := cell_of_row v4 R 1 _ 57 _ z3
   have q2 := cell_of_row v4 R 2 _ 57 _ z3
   have fz : ∀ j, v4.frozen? ⟨R, j, none⟩ = false := fun j => frozen_of_row _ _ j _ 57 z3
   refine rdS (i := 13) rfl (fun K hK => ?_)
   go_simp
   obtain ⟨X, hX⟩ : ∃ X, X = ((v4.setCell ⟨R, 0, none⟩ (.slice ub (nL + 1) ud)).setCell ⟨R, 1, none⟩ (.int .i64 dn)).setCell ⟨R, 2, none⟩ (.int .i64 cl) := ⟨_, rfl⟩
   rw [← hX]
   have FX : Fr R v4 X := by rw [hX]; exact (((Fr.refl R v4).set 0 _).set 1 _).set 2 _
   have RX : X.heap[R]? = some (.cells #[.slice ub (nL + 1) ud, .int .i64 dn, .int .i64 cl] 57 (0, 0)) := by rw [hX]; exact heap_setCell_same _ _ 2 _ 57 _ (heap_setCell_same _ _ 1 _ 57 _ (heap_setCell_same _ _ 0 _ 57 _ z3))
   have BX : Below w.heap.size w X := ⟨FX.1.trans (OW.out.trans p4).toB.os, FX.2.1.trans (OW.out.trans p4).toB.tape, FX.2.2.1.trans (OW.out.trans p4).toB.output, Nat.le_trans (OW.out.trans p4).toB.size FX.2.2.2.1, fun k hk => (FX.2.2.2.2 k (Nat.lt_of_lt_of_le hk (OW.out.trans p4).toB.size) (by omega)).trans ((OW.out.trans p4).toB.block k hk)⟩
   have IX : X.ownsRow LO 2 1 (.slice ub (nL + 1) ud) (nL + 1) ((L ++ [(t : Int)]).map (Value.int .i64)) := own_heap IB4 (fun g e => FX.2.2.2.2 g (World.ownsRow.lt IB4 g e).2 (by have := (World.ownsRow.lt IB4 g e).1; have := HLO.out; omega))
   clear hX q0 q1 q2 fz
   refine hK.out _ _ (SGF.out v4 X (SO.out _ p4) (FX.2.2.2.2 G57 (Nat.lt_of_lt_of_le lG p4.2.2.2.1) hGR)) (fun _ => ?_)
   try simp only [Act.put, List.getElem_toArray, List.getElem_cons_zero, List.getElem_cons_succ, List.setIfInBounds_toArray, List.set_cons_zero, List.set_cons_succ]
   clear hK K
   refine wpAnyH_done (by kernel_rfl) ?_ _
   go_wp2
   exact bodyPost_ret (v := .agg #[.slice ub (nL + 1) ud, .int .i64 dn, .int .i64 cl]) (results_cell_row rfl _ _ R 57 _ (0, 0) _ rfl RX Tryz.underlying57 rfl (by kernel_rfl)) rfl ⟨⟨_, rfl, ownG_mono IX hLw⟩, BX⟩
theorem gl_ok {g : Shr.Gl} (h : g.ok = true) : fitI g.s ∧ fitI g.p ∧ fitI g.m ∧ (0 ≤ g.po ∧ g.po ≤ 3) ∧ (0 ≤ g.mo ∧ g.mo ≤ 3) := by
 simp [Shr.Gl.ok, Shr.okB, Shr.orderB, Shr.fitsB, fitsB] at h
 unfold fitI
 omega
theorem gsZ_get {s : RS} (hok : ∀ g ∈ s.gs, g.ok = true) (hn : s.gs.length ≤ 20010) (hw : -30000000000000 ≤ s.w ∧ s.w ≤ 30000000000000) : ∀ k, k ≤ s.gs.length → ∀ j, (gsZ s k).getD j 0 = (if j = 0 then s.w else 0) + ((s.gs.take k).map (fun g => glX g j)).sum ∧ -(30000000000000 + 1073741823 * (k : Int)) ≤ (gsZ s k).getD j 0 ∧ (gsZ s k).getD j 0 ≤ 30000000000000 + 1073741823 * (k : Int)
 | 0, _, j => by
  have h : (gsZ s 0).getD j 0 = if j = 0 then s.w else 0 := by
   show ([s.w, 0, 0, 0, 0, 0, 0, 0, 0] : List Int).getD j 0 = _
   match j with
   | 0 | 1 | 2 | 3 | 4 | 5 | 6 | 7 | 8 => rfl
   | j + 9 => rfl
  rw [h, List.take_zero]
  simp only [List.map_nil, List.sum_nil]
  split <;> omega
 | k + 1, hk, j => by
  have ih := gsZ_get hok hn hw k (by omega)
  obtain ⟨g, hg⟩ : ∃ g, g = s.gs.getD k ⟨0, 0, 0, 0, 0⟩ := ⟨_, rfl⟩
  have hgm : g ∈ s.gs := by rw [hg]; exact getD_mem (by omega)
  obtain ⟨h1, h2, h3, h4, h5⟩ := gl_ok (hok g hgm)
  have hB : Big (30000000000000 + 1073741823 * (k : Int)) (gsZ s k) := fun i => ⟨(ih i).2.1, (ih i).2.2⟩
  have key := glA_get (gsZ_len s k) h1 h2 h3 h4 h5 hB (by omega) j
  have hx := gxv_in h1 h2 h3 h4 h5 j
  rw [gsZ_succ s (by omega), ← hg, key, take_snoc s.gs k ⟨0, 0, 0, 0, 0⟩ (by omega), ← hg, List.map_append, List.sum_append, (ih j).1]
  have hi := ih j
  rw [hi.1] at hi
  unfold fitI at hx
  simp only [List.map_cons, List.map_nil, List.sum_cons, List.sum_nil]
  have hgx : glX g j = gxv g.s g.p g.po g.m g.mo j := rfl
  rw [hgx]
  push_cast
  omega
theorem line_gsZ {xs : List Nd} {S : Sy} {ys : List It} {a b : Nat} (h : listB xs = true) (hS : syB S = true) (hy : ys.map Prod.fst = (rowI xs S).map Prod.fst) (hN : ys.length ≤ 5000) (hb : b < ys.length) (hab : a ≤ b) (s : RS) (hs : s = rowTo (lineZ S ys (rowL xs S) a b) (starts (lineZ S ys (rowL xs S) a b) ((lineZ S ys (rowL xs S) a b).length + 1) 0)) (hok : ∀ g ∈ s.gs, g.ok = true) (hn : s.gs.length ≤ 20010) (hw : -30000000000000 ≤ s.w ∧ s.w ≤ 30000000000000) : gsZ s s.gs.length = linH S ys a b := by
 refine List.ext_getElem (by rw [gsZ_len, linH_len]) fun i h1 h2 => ?_
 have hi : i < 9 := by rw [gsZ_len] at h1; exact h1
 have e1 := (gsZ_get hok hn hw s.gs.length (Nat.le_refl _) i).1
 have e2 := line_sums h hS hy hN hb hab i hi
 rw [← hs] at e2
 rw [List.take_length] at e1
 have e3 : meaR s i = (if i = 0 then s.w else 0) + (s.gs.map (fun g => glX g i)).sum := rfl
 have e4 : (gsZ s s.gs.length).getD i 0 = (linH S ys a b).getD i 0 := by rw [e1, ← e3, e2]
 simpa [List.getD, List.getElem?_eq_getElem h1, List.getElem?_eq_getElem h2] using e4
end Go.Proofs.YtlohbaoigfaneaaGreat

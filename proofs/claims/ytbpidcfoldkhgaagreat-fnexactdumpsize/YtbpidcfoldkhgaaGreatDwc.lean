import Derived.Test.YtbpidcfoldkhgaaGreatDwa
import Derived.Defers
namespace Go.Proofs.YtbpidcfoldkhgaaGreat
open Go.RowKit
set_option linter.unusedVariables false
set_option linter.unusedSimpArgs false
theorem Tryz.info26 : (Tryz.prog.info? 26).map (fun i => (i.zero, i.size, i.bytes)) = some (some (.slice none 0 0), 1, 24) := by kernel_rfl
theorem row_type {w : World} {B : Nat} {e : TypeId} {k n : Nat} {v : Value} {xs : List Value} (h : w.ownsRow B e k v n xs) {g : Nat} (hg : v.ownBlock = some g) : B ≤ g ∧ ∃ cur, w.heap[g]? = some (.cells cur e (0, 0)) := by
 rcases h.2 with ⟨rfl, _⟩ | ⟨g', cap, cur, rfl, hg0, hb, _⟩
 ·cases hg
 ·simp [Value.ownBlock] at hg
  subst hg
  exact ⟨hg0, cur, hb⟩
theorem row_kept {w w' : World} {B : Nat} {e : TypeId} {k n : Nat} {v : Value} {xs : List Value} (h : w.ownsRow B e k v n xs) (hk : ∀ g, v.ownBlock = some g → w'.heap[g]? = w.heap[g]?) : w'.ownsRow B e k v n xs := by
 rcases h with ⟨hl, h0 | ⟨g, cap, cur, rfl, hg0, hg, hr⟩⟩
 ·exact ⟨hl, .inl h0⟩
 ·exact ⟨hl, .inr ⟨g, cap, cur, rfl, hg0, (hk g rfl).trans hg, hr⟩⟩
theorem row_ne {w : World} {B D : Nat} {e : TypeId} {k n : Nat} {v : Value} {xs : List Value} {a N s : Int} {pv : Value} (h : w.ownsRow B e k v n xs) (hf : Fiv w D a N s pv) (he : e ≠ 92) : v.ownBlock ≠ some D := fun hg => by
 obtain ⟨_, cur, hc⟩ := row_type h hg
 unfold Fiv at hf
 rw [hf] at hc
 simp only [Option.some.injEq, Obj.cells.injEq] at hc
 exact he hc.2.1.symm
theorem row_alt {w w' : World} {B D : Nat} {e : TypeId} {k n : Nat} {v : Value} {xs : List Value} {a N s : Int} {pv : Value} (h : w.ownsRow B e k v n xs) (hf : Fiv w D a N s pv) (he : e ≠ 92) (ha : Alt D w w') : w'.ownsRow B e k v n xs :=
 row_kept h (fun g hg => ha.block g (fun e1 => row_ne h hf he (by rw [hg, e1])))
structure DW (B D : Nat) (w : World) (a : Int) (qs ps : List (List Int)) (pv : Value) (vs : List Value) : Prop where
 l : B ≤ D
 f : Fiv w D a qs.flatten.length (sumT qs.flatten qs.flatten.length) pv
 o : w.ownsRow B 26 1 pv vs.length vs
 n : vs.length = ps.length
 p : ∀ i, i < ps.length → PB B w (vs.getD i undef) (ps.getD i [])
theorem DW.alt {B D : Nat} {w w' : World} {a a' : Int} {qs qs' ps : List (List Int)} {pv : Value} {vs : List Value} (h : DW B D w a qs ps pv vs) (ha : Alt D w w') (hf : Fiv w' D a' qs'.flatten.length (sumT qs'.flatten qs'.flatten.length) pv) : DW B D w' a' qs' ps pv vs :=
 ⟨h.l, hf, row_alt h.o h.f (by decide) ha, h.n, fun i hi => pb_alt (h.p i hi) h.f ha⟩
theorem DW.size {B D : Nat} {w : World} {a : Int} {qs ps : List (List Int)} {pv : Value} {vs : List Value} (h : DW B D w a qs ps pv vs) : D < w.heap.size := (Array.getElem?_eq_some_iff.1 h.f).1
theorem DW.row_lt {w : World} {B : Nat} {e : TypeId} {k n : Nat} {v : Value} {xs : List Value} (h : w.ownsRow B e k v n xs) {g : Nat} (hg : v.ownBlock = some g) : g < w.heap.size := by
 obtain ⟨_, cur, hc⟩ := row_type h hg
 exact (Array.getElem?_eq_some_iff.1 hc).1
theorem DW.below {B D : Nat} {w w' : World} {a : Int} {qs ps : List (List Int)} {pv : Value} {vs : List Value} (h : DW B D w a qs ps pv vs) (hb : Below w.heap.size w w') : DW B D w' a qs ps pv vs :=
 ⟨h.l, (hb.block D h.size).trans h.f, row_kept h.o (fun g hg => hb.block g (DW.row_lt h.o hg)), h.n, fun i hi => pb_kept (h.p i hi) (fun g hg => hb.block g (pb_lt (h.p i hi) hg))⟩
theorem DW.more {B D : Nat} {w w' : World} {a : Int} {qs ps : List (List Int)} {pv pv' v : Value} {vs : List Value} {zs : List Int} (h : DW B D w a qs ps pv vs) (hv : PB B w v zs) (hg : w.grownBy w' pv.ownBlock) (ho : w'.ownsRow B 26 1 pv' (vs.length + 1) (vs ++ [v])) (hw : pv'.ownBlock ≠ some D) :
 DW B D (w'.setCell ⟨D, 4, none⟩ pv') a qs (ps ++ [zs]) pv' (vs ++ [v]) := by
 have hpD : pv.ownBlock ≠ some D := row_ne h.o h.f (by decide)
 have hf' : Fiv w' D a qs.flatten.length (sumT qs.flatten qs.flatten.length) pv := (hg.block D h.size (fun e => hpD e.symm)).trans h.f
 have st : ∀ u us, PB B w u us → PB B (w'.setCell ⟨D, 4, none⟩ pv') u us := fun u us hu => by
  refine pb_alt (pb_kept hu (fun g hg2 => hg.block g (pb_lt hu hg2) (fun e => ?_))) hf' ((Alt.refl D w').set 4 pv')
  obtain ⟨_, c1, f1, e1⟩ := pb_type hu hg2
  obtain ⟨_, c2, e2⟩ := row_type h.o e.symm
  rw [e1] at e2
  simp at e2
 refine ⟨h.l, hf'.set4 pv', ?_, by simp [h.n], fun i hi => ?_⟩
 ·rw [List.length_append]
  exact row_kept ho (fun g hg2 => ((Alt.refl D w').set 4 pv').block g (fun e => hw (by rw [hg2, e])))
 ·rw [List.length_append, List.length_singleton] at hi
  by_cases hi2 : i < ps.length
  ·rw [List.getD_eq_getElem?_getD, List.getElem?_append_left (by rw [h.n]; exact hi2), ← List.getD_eq_getElem?_getD, List.getD_eq_getElem?_getD (l := ps ++ [zs]), List.getElem?_append_left hi2, ← List.getD_eq_getElem?_getD]
   exact st _ _ (h.p i hi2)
  ·obtain rfl : i = ps.length := by omega
   have e1 : (vs ++ [v]).getD ps.length undef = v := by rw [← h.n]; simp
   have e2 : (ps ++ [zs]).getD ps.length [] = zs := by simp
   rw [e1, e2]
   exact st _ _ hv
section
variable {ops : Array Oper} {rest : List Oper} {o : Oper} {a : Act} {w : World} {Q : Exit → Act → World → Prop} {base : Nat} {pv v : Value} {vs : List Value}
theorem wpList_piece {G : Nat} (hgd : o.guard = none) (s y : Operand) (ho : o.op = .call { callee := .builtin .append, args := #[s, y], argTypes := #[90, 90] }) (hs : a.eval s = pv) (hy : a.eval y = .slice (some ⟨G, 0, none⟩) 1 1) (h : w.ownsRow base 26 1 pv vs.length vs)
 (hx : w.cell? ⟨G, 0, none⟩ = some v) (hv : v.oneCell' = true) (hb : base ≤ w.heap.size) (hl : vs.length ≤ 1000) (hK : ∀ v' w', w'.ownsRow base 26 1 v' (vs.length + 1) (vs ++ [v]) → w.grownBy w' pv.ownBlock → (v'.ownBlock = pv.ownBlock ∨ v'.ownBlock = some w.heap.size) → wpList Tryz.prog ops Q rest (a.put o.dst v') w') : wpList Tryz.prog ops Q (o :: rest) a w := by
 obtain ⟨i0, hi0, hz0, hz1, hz2⟩ := info_parts Tryz.info26
 refine wpList_append_own_at _ hgd s y 90 ho base 26 i0 (.slice none 0 0) 1 24 Tryz.underlying90 hi0 hz0 hz1 hz2 rfl (by decide) pv vs.length vs hs h ⟨G, 0, none⟩ 1 1 [v] hy rfl ?_ ?_ (by unfold maxLen; omega) (by omega) hb ?_
 ·intro j u hj
  match j, hj with
  | 0, hj =>
   simp at hj
   subst hj
   exact hx
 ·intro u hu
  simp at hu
  subst hu
  exact hv
 ·intro v' w' ho' hg _ hw
  exact hK v' w' ho' hg hw
end
set_option maxRecDepth 20000 in
set_option maxHeartbeats 4000000 in
theorem write_any {W : World} {B D : Nat} {ps : List (List Int)} {v pv : Value} {vs : List Value} {zs : List Int} (hd : DW B D W 0 ps ps pv vs) (h : PB B W v zs) (hz : BYs zs) (hb : B ≤ W.heap.size) (hl : ps.flatten.length + zs.length ≤ 70368744177664) (hp : ps.length ≤ 100) :
 Calls Tryz.prog 37 #[.pointer (some ⟨D, 0, none⟩), v] W fun e W' => e = .returned (.tuple #[]) ∧ (∃ pv' vs', DW B D W' 0 (ps ++ [zs]) (ps ++ [zs]) pv' vs') ∧ Below B W W' := by
 have hfl : (ps ++ [zs]).flatten = ps.flatten ++ zs := by simp
 have LK := hideP (lockFree ⟨D, 0, none⟩ W hd.f.cells.1 (hd.f.frozen 0))
 have A1 : Hid (Alt D W (W.setCell ⟨D, 0, none⟩ (.int .i32 1))) := hideP ((Alt.refl D W).set 0 _)
 have D1 : Hid (DW B D (W.setCell ⟨D, 0, none⟩ (.int .i32 1)) 1 ps ps pv vs) := hideP (hd.alt A1.out (hd.f.set0 1))
 have O1 : Hid (PB B (W.setCell ⟨D, 0, none⟩ (.int .i32 1)) v zs) := hideP (pb_alt h hd.f A1.out)
 obtain ⟨W1, hW1⟩ : ∃ X, X = W.setCell ⟨D, 0, none⟩ (.int .i32 1) := ⟨_, rfl⟩
 rw [← hW1] at LK A1 D1 O1
 have TC := hideP (tallyAdd_any O1.out D1.out.f hz hl)
 obtain ⟨ao, n, cap, rfl⟩ := PB.shp h
 obtain ⟨po, pn, pc, hpv⟩ : ∃ a n c, pv = .slice a n c := by
  rcases hd.o.2 with ⟨rfl, _⟩ | ⟨g, c, cur, rfl, _⟩
  ·exact ⟨_, _, _, rfl⟩
  ·exact ⟨_, _, _, rfl⟩
 subst hpv
 have hDl : B ≤ D := hd.l
 have hvl : vs.length ≤ 1000 := by have := hd.n; omega
 clear hd h hz hl hp hW1
 go_enter_defers Tryz.func37, Tryz.ntmps37
 go_wp2_with fail
 refine LK.out.mono ?_
 rintro e w1 ⟨rfl, rfl⟩
 go_wp2_with fail
 refine TC.out.mono ?_
 rintro e w2 ⟨rfl, ha2, hf2⟩
 have A2 := hideP (A1.out.trans ha2)
 have D2 : Hid (DW B D w2 1 (ps ++ [zs]) ps (.slice po pn pc) vs) := hideP (D1.out.alt ha2 (by rw [hfl]; exact hf2))
 have O2 : Hid (PB B w2 (.slice ao n cap) zs) := hideP (pb_alt O1.out D1.out.f ha2)
 obtain ⟨c0, c2, c3, c4⟩ := hf2.cells
 have f4 := hf2.frozen 4
 have hz2 : B ≤ w2.heap.size := by have := D2.out.size; omega
 clear ha2 hf2 LK TC
 go_wp2_with (at_builtin; go_loud (refine wpList_piece rfl _ _ rfl rfl rfl (World.ownsRow.alloc D2.out.o _) (cell_new _ _ _) rfl (by simp; omega) hvl ?_))
 intro pv' w3 ho3 hg3 hw3
 have g3 : w2.grownBy w3 (Value.slice po pn pc).ownBlock := ⟨hg3.os, hg3.tape, hg3.output, Nat.le_trans (by simp) hg3.size, fun k hk hn => (hg3.block k (by simp; omega) hn).trans (heap_alloc_old _ _ hk)⟩
 have hwD : pv'.ownBlock ≠ some D := fun e => by
  rcases hw3 with h | h
  ·exact row_ne D2.out.o D2.out.f (by decide) (h.symm.trans e)
  ·rw [h] at e
   simp only [Option.some.injEq, World.size_alloc] at e
   have := D2.out.size
   omega
 have D3 := hideP (D2.out.more O2.out g3 ho3 hwD)
 have B3 : Hid (Below B W (w3.setCell ⟨D, 4, none⟩ pv')) := hideP (by
  have A3 := (Alt.refl D w3).set 4 pv'
  refine ⟨A3.os.trans (g3.os.trans A2.out.os), A3.tape.trans (g3.tape.trans A2.out.tape), A3.output.trans (g3.output.trans A2.out.output), ?_, fun k hk => ?_⟩
  ·rw [A3.size]; exact Nat.le_trans (Nat.le_of_eq A2.out.size.symm) g3.size
  ·have hkD : k ≠ D := by omega
   rw [A3.block k hkD, g3.block k (by rw [A2.out.size]; omega) (fun e => ?_), A2.out.block k hkD]
   have := (row_type D2.out.o e.symm).1
   omega)
 have hf3 : Fiv w3 D 1 (ps ++ [zs]).flatten.length (sumT (ps ++ [zs]).flatten (ps ++ [zs]).flatten.length) (.slice po pn pc) := (g3.block D D2.out.size (fun e => row_ne D2.out.o D2.out.f (by decide) e.symm)).trans D2.out.f
 have k4 := hf3.cells.2.2.2
 have q4 := hf3.frozen 4
 obtain ⟨ro, rn, rc, hrv⟩ : ∃ a n c, pv' = .slice a n c := by
  rcases ho3.2 with ⟨rfl, _⟩ | ⟨g, c, cur, rfl, _⟩
  ·exact ⟨_, _, _, rfl⟩
  ·exact ⟨_, _, _, rfl⟩
 subst hrv
 clear c0 c2 c3 c4 f4 hg3 ho3 hw3 hf3 hwD g3
 go_wp2
 refine leaves_cons (f := 48) (args := #[.pointer (some ⟨D, 0, none⟩)]) (by simp) (by simp [go_sem]) ?_
 refine (unlockD ⟨D, 0, none⟩ _ _ D3.out.f.cells.1 (D3.out.f.frozen 0)).mono ?_
 rintro e u' w'' ⟨rfl, rfl, rfl⟩
 have D4 := D3.out.alt ((Alt.refl D _).set 0 (.int .i32 0)) (D3.out.f.set0 0)
 have B4 : Below B W ((w3.setCell ⟨D, 4, none⟩ (.slice ro rn rc)).setCell ⟨D, 0, none⟩ (.int .i32 0)) := by
  have A4 := (Alt.refl D (w3.setCell ⟨D, 4, none⟩ (.slice ro rn rc))).set 0 (.int .i32 0)
  exact ⟨A4.os.trans B3.out.os, A4.tape.trans B3.out.tape, A4.output.trans B3.out.output, Nat.le_trans B3.out.size (Nat.le_of_eq A4.size.symm), fun k hk => (A4.block k (by omega)).trans (B3.out.block k hk)⟩
 refine ⟨_, ?_, rfl, ⟨_, _, D4⟩, B4⟩
 first | rfl | (simp [results, go_sem]; done) | (simp [results, Tryz.f37, go_sem]; done)
end Go.Proofs.YtbpidcfoldkhgaaGreat

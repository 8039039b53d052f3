import Derived.Test.YtbpidcfoldkhgaaGreatDlk
import Derived.Defers
namespace Go.Proofs.YtbpidcfoldkhgaaGreat
open Go.RowKit
set_option linter.unusedVariables false
set_option linter.unusedSimpArgs false
structure Alt (D : Nat) (W W' : World) : Prop where
 os : W'.os = W.os
 tape : W'.tape = W.tape
 output : W'.output = W.output
 size : W'.heap.size = W.heap.size
 block : ∀ k, k ≠ D → W'.heap[k]? = W.heap[k]?
theorem Alt.refl (D : Nat) (W : World) : Alt D W W := ⟨rfl, rfl, rfl, rfl, fun _ _ => rfl⟩
theorem Alt.trans {D : Nat} {W X Y : World} (h : Alt D W X) (k : Alt D X Y) : Alt D W Y := ⟨k.os.trans h.os, k.tape.trans h.tape, k.output.trans h.output, k.size.trans h.size, fun q hq => (k.block q hq).trans (h.block q hq)⟩
theorem Alt.set {D : Nat} {W X : World} (h : Alt D W X) (i : Nat) (v : Value) : Alt D W (X.setCell ⟨D, i, none⟩ v) := by
 refine h.trans ⟨rfl, rfl, rfl, by simp [World.setCell], fun k hk => ?_⟩
 simp only [World.setCell, Array.getElem?_modify]
 rw [if_neg (fun e => hk e.symm)]
theorem Alt.drew {D : Nat} {W X : World} (h : Alt D W X) : Alt D W X.drew := ⟨h.os, h.tape, h.output, h.size, h.block⟩
def Fiv (w : World) (D : Nat) (a : Int) (n s : Int) (pv : Value) : Prop := w.heap[D]? = some (.cells #[.int .i32 a, .int .u32 0, .int .i64 n, .int .i64 s, pv] 92)
theorem Fiv.set0 {w : World} {D : Nat} {a n s : Int} {pv : Value} (h : Fiv w D a n s pv) (x : Int) : Fiv (w.setCell ⟨D, 0, none⟩ (.int .i32 x)) D x n s pv := by
 unfold Fiv at *
 simp [World.setCell, Array.getElem?_modify, h]
theorem Fiv.set2 {w : World} {D : Nat} {a n s : Int} {pv : Value} (h : Fiv w D a n s pv) (x : Int) : Fiv (w.setCell ⟨D, 2, none⟩ (.int .i64 x)) D a x s pv := by
 unfold Fiv at *
 simp [World.setCell, Array.getElem?_modify, h]
theorem Fiv.set3 {w : World} {D : Nat} {a n s : Int} {pv : Value} (h : Fiv w D a n s pv) (x : Int) : Fiv (w.setCell ⟨D, 3, none⟩ (.int .i64 x)) D a n x pv := by
 unfold Fiv at *
 simp [World.setCell, Array.getElem?_modify, h]
theorem Fiv.set4 {w : World} {D : Nat} {a n s : Int} {pv : Value} (h : Fiv w D a n s pv) (x : Value) : Fiv (w.setCell ⟨D, 4, none⟩ x) D a n s x := by
 unfold Fiv at *
 simp [World.setCell, Array.getElem?_modify, h]
theorem Fiv.cells {w : World} {D : Nat} {a n s : Int} {pv : Value} (h : Fiv w D a n s pv) : w.cell? ⟨D, 0, none⟩ = some (.int .i32 a) ∧ w.cell? ⟨D, 2, none⟩ = some (.int .i64 n) ∧ w.cell? ⟨D, 3, none⟩ = some (.int .i64 s) ∧ w.cell? ⟨D, 4, none⟩ = some pv := by
 unfold Fiv at h
 refine ⟨?_, ?_, ?_, ?_⟩ <;> (rw [cell_of_row _ _ _ _ 92 _ h]; rfl)
theorem Fiv.frozen {w : World} {D : Nat} {a n s : Int} {pv : Value} (h : Fiv w D a n s pv) (i : Nat) : w.frozen? ⟨D, i, none⟩ = false := by
 unfold Fiv at h
 simp [World.frozen?, h]
def PB (B : Nat) (w : World) (v : Value) (zs : List Int) : Prop := (v = .slice none 0 0 ∧ zs = []) ∨ ∃ g cap cur fz, v = .slice (some ⟨g, 0, none⟩) zs.length cap ∧ B ≤ g ∧ w.heap[g]? = some (.cells cur 5 fz) ∧ ∀ j, j < zs.length → cur[j]? = some (.int .u8 (zs.getD j 0))
theorem PB.of {B : Nat} {w : World} {v : Value} {zs : List Int} (h : BO B w v zs) : PB B w v zs := by
 rcases h.2 with ⟨e, h0⟩ | ⟨g, cap, cur, e, hg0, hb, hn, hm, hs, ht⟩
 ·exact .inl ⟨e, by simpa using h0⟩
 ·refine .inr ⟨g, cap, cur, _, e, hg0, hb, fun j hj => ?_⟩
  have h1 : (cur.toList.take (zs.length * 1))[j]? = (zs.map (Value.int .u8))[j]? := by rw [ht]
  rw [Nat.mul_one, List.getElem?_take_of_lt hj, List.getElem?_map, List.getElem?_eq_getElem hj, Array.getElem?_toList] at h1
  rw [h1, List.getD_eq_getElem?_getD, List.getElem?_eq_getElem hj]
  rfl
theorem pb_type {w : World} {B : Nat} {v : Value} {zs : List Int} (h : PB B w v zs) {g : Nat} (hg : v.ownBlock = some g) : B ≤ g ∧ ∃ cur fz, w.heap[g]? = some (.cells cur 5 fz) := by
 rcases h with ⟨rfl, _⟩ | ⟨g', cap, cur, fz, rfl, hg0, hb, _⟩
 ·cases hg
 ·simp [Value.ownBlock] at hg
  subst hg
  exact ⟨hg0, cur, fz, hb⟩
theorem pb_kept {w w' : World} {B : Nat} {v : Value} {zs : List Int} (h : PB B w v zs) (hk : ∀ g, v.ownBlock = some g → w'.heap[g]? = w.heap[g]?) : PB B w' v zs := by
 rcases h with h0 | ⟨g', cap, cur, fz, rfl, hg0, hb, hr⟩
 ·exact .inl h0
 ·exact .inr ⟨g', cap, cur, fz, rfl, hg0, (hk g' rfl).trans hb, hr⟩
theorem pb_lt {w : World} {B : Nat} {v : Value} {zs : List Int} (h : PB B w v zs) {g : Nat} (hg : v.ownBlock = some g) : g < w.heap.size := by
 obtain ⟨_, cur, fz, hc⟩ := pb_type h hg
 exact (Array.getElem?_eq_some_iff.1 hc).1
theorem pb_ne {w : World} {B D : Nat} {v : Value} {zs : List Int} {a N s : Int} {pv : Value} (h : PB B w v zs) (hf : Fiv w D a N s pv) : v.ownBlock ≠ some D := fun hg => by
 obtain ⟨_, cur, fz, hc⟩ := pb_type h hg
 unfold Fiv at hf
 rw [hf] at hc
 simp at hc
theorem pb_alt {w w' : World} {B D : Nat} {v : Value} {zs : List Int} {a N s : Int} {pv : Value} (h : PB B w v zs) (hf : Fiv w D a N s pv) (ha : Alt D w w') : PB B w' v zs :=
 pb_kept h (fun g hg => ha.block g (fun e1 => pb_ne h hf (by rw [hg, e1])))
theorem PB.shape {B : Nat} {w : World} {v : Value} {zs : List Int} (h : PB B w v zs) : ∃ ao cap, v = .slice ao zs.length cap := by
 rcases h with ⟨rfl, rfl⟩ | ⟨g', cap, cur, fz, rfl, _⟩
 ·exact ⟨none, 0, rfl⟩
 ·exact ⟨_, _, rfl⟩
theorem PB.shp {B : Nat} {w : World} {v : Value} {zs : List Int} (h : PB B w v zs) : ∃ ao n cap, v = .slice ao n cap := by
 obtain ⟨a, c, e⟩ := h.shape
 exact ⟨a, _, c, e⟩
theorem PB.at {B : Nat} {w : World} {v : Value} {zs : List Int} (h : PB B w v zs) {k : Nat} (hk : k < zs.length) : ∃ g cap, v = .slice (some ⟨g, 0, none⟩) zs.length cap ∧ g < w.heap.size ∧ w.cell? ⟨g, k, none⟩ = some (.int .u8 (zs.getD k 0)) := by
 rcases h with ⟨_, rfl⟩ | ⟨g', cap, cur, fz, rfl, _, hb, hr⟩
 ·simp at hk
 ·refine ⟨g', cap, rfl, (Array.getElem?_eq_some_iff.1 hb).1, ?_⟩
  simp only [World.cell?, hb]
  exact hr k hk
theorem sumT_app (zs ys : List Int) : ∀ k, k ≤ zs.length → sumT (zs ++ ys) k = sumT zs k
 | 0, _ => rfl
 | k + 1, h => by
  rw [sumT, sumT, sumT_app zs ys k (by omega)]
  rw [List.getD_eq_getElem?_getD, List.getElem?_append_left (by omega), ← List.getD_eq_getElem?_getD]
theorem sumT_next (zs : List Int) (k : Nat) : sumT zs (k + 1) = (sumT zs k + zs.getD k 0 * ((k : Int) + 1)) % 65521 := by
 rw [sumT, Int.add_emod, Int.mul_emod, Int.emod_emod, ← Int.mul_emod, ← Int.add_emod, Int.mul_comm]
set_option maxRecDepth 20000 in
set_option maxHeartbeats 4000000 in
theorem tallyAdd_any {W : World} {base D : Nat} {v pv : Value} {pre zs : List Int} {a : Int} (h : PB base W v zs) (hf : Fiv W D a pre.length (sumT pre pre.length) pv) (hz : BYs zs) (hl : pre.length + zs.length ≤ 70368744177664) :
 Calls Tryz.prog 69 #[.pointer (some ⟨D, 2, none⟩), v] W fun e W' => e = .returned (.tuple #[]) ∧ Alt D W W' ∧ Fiv W' D a (pre ++ zs).length (sumT (pre ++ zs) (pre ++ zs).length) pv := by
 have HO := hideP h
 have HZ := hideP hz
 have HL := hideP hl
 obtain ⟨ao, cap, rfl⟩ := PB.shape h
 obtain ⟨n, hn⟩ : ∃ n, n = zs.length := ⟨_, rfl⟩
 obtain ⟨m, hm⟩ : ∃ m, m = pre.length := ⟨_, rfl⟩
 have HN := hideP hn
 have HM := hideP hm
 have hn2 : (n : Int) ≤ 70368744177664 := by omega
 have hm2 : (m : Int) + n ≤ 70368744177664 := by omega
 have HF : Hid (Fiv W D a m (sumT (pre ++ zs) m) pv) := hideP (by rw [hm, sumT_app _ _ _ (Nat.le_refl _)]; exact hf)
 have CX : Hid (∀ k, k < n → ∃ g, ao = some ⟨g, 0, none⟩ ∧ (∀ X, Alt D W X → X.cell? ⟨g, k, none⟩ = some (.int .u8 (zs.getD k 0))) ∧ 0 ≤ zs.getD k 0 ∧ zs.getD k 0 < 256) := hideP (fun k hk => by
  obtain ⟨g, c, e, h1, h2⟩ := PB.at HO.out (k := k) (by omega)
  simp only [Value.slice.injEq] at e
  refine ⟨g, e.1, fun X hX => ?_, HZ.out _ (getD_in 0 (by omega))⟩
  have hgD : g ≠ D := fun e0 => pb_ne HO.out hf (by rw [e.1, e0]; rfl)
  exact (World.cell?_of_block (w := W) (a := ⟨g, k, none⟩) (hX.block g hgD)).trans h2)
 have hlen : (pre ++ zs).length = m + n := by rw [List.length_append, hm, hn]
 have HLEN := hideP hlen
 rw [← hn]
 clear h hz hl hn hm hf hlen
 go_enter Tryz.func69, Tryz.ntmps69
 go_wp2
 go_loopw [5, 8] (fun s5 s4 wr => ∃ k : Nat, s4 = .int .i64 (k : Int) ∧ k ≤ n ∧ Alt D W wr ∧ Fiv wr D a ((m + k : Nat) : Int) (sumT (pre ++ zs) (m + k)) pv) (fun _ s _ => n - (intOf s).toNat)
 case atStart => exact ⟨0, rfl, by omega, Alt.refl _ _, HF.out⟩
 case round =>
  obtain ⟨k, rfl, hkn, ha, hf⟩ := hrel
  by_cases hk : k < n
  ·have hki : (k : Int) < (n : Int) := by omega
   obtain ⟨g, rfl, hcx, z0, z1⟩ := CX.out k hk
   have hc := hcx _ ha
   have hst := sumT_next (pre ++ zs) (m + k)
   have hgd : (pre ++ zs).getD (m + k) 0 = zs.getD k 0 := by
    rw [List.getD_eq_getElem?_getD, List.getElem?_append_right (by rw [← HM.out]; omega), ← HM.out, show m + k - m = k by omega, ← List.getD_eq_getElem?_getD]
   rw [hgd] at hst
   obtain ⟨s0, s1⟩ := sumT_in (pre ++ zs) (m + k)
   obtain ⟨S, hS⟩ : ∃ S, S = sumT (pre ++ zs) (m + k) := ⟨_, rfl⟩
   obtain ⟨z, hz⟩ : ∃ z, z = zs.getD k 0 := ⟨_, rfl⟩
   rw [← hS] at hst s0 s1 hf
   rw [← hz] at hst hc z0 z1
   obtain ⟨q, hq⟩ : ∃ q : Int, q = ((m + k : Nat) : Int) := ⟨_, rfl⟩
   rw [← hq] at hst hf
   have q0 : 0 ≤ q := by omega
   have q1 : q + 1 ≤ 70368744177664 := by omega
   obtain ⟨p, hp⟩ : ∃ p, z * (q + 1) = p := ⟨_, rfl⟩
   have p0 : 0 ≤ p := by rw [← hp]; exact Int.mul_nonneg z0 (by omega)
   have p1 : p ≤ 256 * 70368744177664 := by rw [← hp]; exact Int.mul_le_mul (by omega) q1 (by omega) (by decide)
   rw [hp] at hst
   have HST := hideP hst
   have hq2 : Hid (q + 1 = ((m + (k + 1) : Nat) : Int)) := hideP (by omega)
   obtain ⟨c0, c2, c3, c4⟩ := hf.cells
   have f2 := hf.frozen 2
   have f3 := hf.frozen 3
   have HF2 := hideP hf
   have HA := hideP ha
   clear hst hS hz hf ha hcx hgd hq
   go_wp2
   go_region
   go_wp2
   go_roundw
   case rel =>
    have hf3 := (HF2.out.set2 (q + 1)).set3 ((S + p) % 65521)
    refine ⟨k + 1, by simp, by omega, ((HA.out.set _ _).drew.set _ _), ?_⟩
    rw [show sumT (pre ++ zs) (m + (k + 1)) = _ from HST.out, ← hq2.out]
    exact hf3
   case measure => simp [intOf]; omega
  ·obtain rfl : k = n := by omega
   have hki : ¬ (k : Int) < (k : Int) := by omega
   have HF2 := hideP hf
   have HA := hideP ha
   clear hf ha
   go_wp2
   go_end0
   refine ⟨rfl, HA.out, ?_⟩
   have e := HLEN.out
   rw [HM.out] at e
   have h := HF2.out
   rw [HM.out, ← e, List.length_append] at h
   simpa using h
theorem Tryz.info26 : (Tryz.prog.info? 26).map (fun i => (i.zero, i.size, i.bytes)) = some (some (.slice none 0 0), 1, 24) := by kernel_rfl
theorem row_type {w : World} {B : Nat} {e : TypeId} {k n : Nat} {v : Value} {xs : List Value} (h : w.ownsRow B e k v n xs) {g : Nat} (hg : v.ownBlock = some g) : B ≤ g ∧ ∃ cur, w.heap[g]? = some (.cells cur e (0, 0)) := by
 rcases h.2 with ⟨rfl, _⟩ | ⟨g', cap, cur, rfl, hg0, hb, _⟩
 ·cases hg
 ·simp [Value.ownBlock] at hg
  subst hg
  exact ⟨hg0, cur, hb⟩
theorem row_kept {w w' : World} {B : Nat} {e : TypeId} {k n : Nat} {v : Value} {xs : List Value} (h : w.ownsRow B e k v n xs) (hk : ∀ g, v.ownBlock = some g → w'.heap[g]? = w.heap[g]?) : w'.ownsRow B e k v n xs := by
 rcases h with ⟨hl, h0 | ⟨g, cap, cur, rfl, hg0, hg, hr⟩⟩
 ·exact ⟨hl, .inl h0⟩
 ·exact ⟨hl, .inr ⟨g, cap, cur, rfl, hg0, (hk g rfl).trans hg, hr⟩⟩
theorem row_ne {w : World} {B D : Nat} {e : TypeId} {k n : Nat} {v : Value} {xs : List Value} {a N s : Int} {pv : Value} (h : w.ownsRow B e k v n xs) (hf : Fiv w D a N s pv) (he : e ≠ 92) : v.ownBlock ≠ some D := fun hg => by
 obtain ⟨_, cur, hc⟩ := row_type h hg
 unfold Fiv at hf
 rw [hf] at hc
 simp only [Option.some.injEq, Obj.cells.injEq] at hc
 exact he hc.2.1.symm
theorem row_alt {w w' : World} {B D : Nat} {e : TypeId} {k n : Nat} {v : Value} {xs : List Value} {a N s : Int} {pv : Value} (h : w.ownsRow B e k v n xs) (hf : Fiv w D a N s pv) (he : e ≠ 92) (ha : Alt D w w') : w'.ownsRow B e k v n xs :=
 row_kept h (fun g hg => ha.block g (fun e1 => row_ne h hf he (by rw [hg, e1])))
structure DW (B D : Nat) (w : World) (a : Int) (qs ps : List (List Int)) (pv : Value) (vs : List Value) : Prop where
 l : B ≤ D
 f : Fiv w D a qs.flatten.length (sumT qs.flatten qs.flatten.length) pv
 o : w.ownsRow B 26 1 pv vs.length vs
 n : vs.length = ps.length
 p : ∀ i, i < ps.length → PB B w (vs.getD i undef) (ps.getD i [])
theorem DW.alt {B D : Nat} {w w' : World} {a a' : Int} {qs qs' ps : List (List Int)} {pv : Value} {vs : List Value} (h : DW B D w a qs ps pv vs) (ha : Alt D w w') (hf : Fiv w' D a' qs'.flatten.length (sumT qs'.flatten qs'.flatten.length) pv) : DW B D w' a' qs' ps pv vs :=
 ⟨h.l, hf, row_alt h.o h.f (by decide) ha, h.n, fun i hi => pb_alt (h.p i hi) h.f ha⟩
theorem DW.size {B D : Nat} {w : World} {a : Int} {qs ps : List (List Int)} {pv : Value} {vs : List Value} (h : DW B D w a qs ps pv vs) : D < w.heap.size := (Array.getElem?_eq_some_iff.1 h.f).1
theorem DW.row_lt {w : World} {B : Nat} {e : TypeId} {k n : Nat} {v : Value} {xs : List Value} (h : w.ownsRow B e k v n xs) {g : Nat} (hg : v.ownBlock = some g) : g < w.heap.size := by
 obtain ⟨_, cur, hc⟩ := row_type h hg
 exact (Array.getElem?_eq_some_iff.1 hc).1
theorem DW.below {B D : Nat} {w w' : World} {a : Int} {qs ps : List (List Int)} {pv : Value} {vs : List Value} (h : DW B D w a qs ps pv vs) (hb : Below w.heap.size w w') : DW B D w' a qs ps pv vs :=
 ⟨h.l, (hb.block D h.size).trans h.f, row_kept h.o (fun g hg => hb.block g (DW.row_lt h.o hg)), h.n, fun i hi => pb_kept (h.p i hi) (fun g hg => hb.block g (pb_lt (h.p i hi) hg))⟩
theorem DW.more {B D : Nat} {w w' : World} {a : Int} {qs ps : List (List Int)} {pv pv' v : Value} {vs : List Value} {zs : List Int} (h : DW B D w a qs ps pv vs) (hv : PB B w v zs) (hg : w.grownBy w' pv.ownBlock) (ho : w'.ownsRow B 26 1 pv' (vs.length + 1) (vs ++ [v])) (hw : pv'.ownBlock ≠ some D) :
 DW B D (w'.setCell ⟨D, 4, none⟩ pv') a qs (ps ++ [zs]) pv' (vs ++ [v]) := by
 have hpD : pv.ownBlock ≠ some D := row_ne h.o h.f (by decide)
 have hf' : Fiv w' D a qs.flatten.length (sumT qs.flatten qs.flatten.length) pv := (hg.block D h.size (fun e => hpD e.symm)).trans h.f
 have st : ∀ u us, PB B w u us → PB B (w'.setCell ⟨D, 4, none⟩ pv') u us := fun u us hu => by
  refine pb_alt (pb_kept hu (fun g hg2 => hg.block g (pb_lt hu hg2) (fun e => ?_))) hf' ((Alt.refl D w').set 4 pv')
  obtain ⟨_, c1, f1, e1⟩ := pb_type hu hg2
  obtain ⟨_, c2, e2⟩ := row_type h.o e.symm
  rw [e1] at e2
  simp at e2
 refine ⟨h.l, hf'.set4 pv', ?_, by simp [h.n], fun i hi => ?_⟩
 ·rw [List.length_append]
  exact row_kept ho (fun g hg2 => ((Alt.refl D w').set 4 pv').block g (fun e => hw (by rw [hg2, e])))
 ·rw [List.length_append, List.length_singleton] at hi
  by_cases hi2 : i < ps.length
  ·rw [List.getD_eq_getElem?_getD, List.getElem?_append_left (by rw [h.n]; exact hi2), ← List.getD_eq_getElem?_getD, List.getD_eq_getElem?_getD (l := ps ++ [zs]), List.getElem?_append_left hi2, ← List.getD_eq_getElem?_getD]
   exact st _ _ (h.p i hi2)
  ·obtain rfl : i = ps.length := by omega
   have e1 : (vs ++ [v]).getD ps.length undef = v := by rw [← h.n]; simp
   have e2 : (ps ++ [zs]).getD ps.length [] = zs := by simp
   rw [e1, e2]
   exact st _ _ hv
end Go.Proofs.YtbpidcfoldkhgaaGreat

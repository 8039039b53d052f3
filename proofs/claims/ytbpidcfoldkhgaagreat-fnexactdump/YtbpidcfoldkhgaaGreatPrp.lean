import Derived.Test.YtbpidcfoldkhgaaGreatMra
import Derived.Test.YtbpidcfoldkhgaaGreatOpenE
namespace Go.Proofs.YtbpidcfoldkhgaaGreat
open Go.RowKit
set_option linter.unusedVariables false
set_option linter.unusedSimpArgs false
def SRowP {α : Type} (sz : Nat) (R : Nat → World → List Value → α → Prop) (d : α) (ty lo : Nat) (w : World) (v : Value) (xs : List α) : Prop :=
 ∃ o, v = .slice (some ⟨o, 0, none⟩) xs.length xs.length ∧ lo ≤ o ∧ SPart sz R d ty w o xs.length xs.length xs
theorem SPart.abv {α : Type} {sz : Nat} {R : Nat → World → List Value → α → Prop} {d : α} {ty : Nat} (st : Stable R) {lo : Nat} {w w' : World} {g n k : Nat} {xs : List α} (h : SPart sz R d ty w g n k xs) (ha : Abv lo w w') (hg : lo ≤ g) : SPart sz R d ty w' g n k xs := by
 obtain ⟨cur, hgb, hs, hc⟩ := h
 refine ⟨cur, (ha.block g hg (Array.getElem?_eq_some_iff.1 hgb).1).trans hgb, hs, fun i hi => ?_⟩
 obtain ⟨cs, hl, hr, hj⟩ := hc i hi
 exact ⟨cs, hl, st.abv hr (ha.mono (by omega)), hj⟩
theorem SRowP.abv {α : Type} {sz : Nat} {R : Nat → World → List Value → α → Prop} {d : α} {ty : Nat} (st : Stable R) {lo : Nat} {w w' : World} {v : Value} {xs : List α} (h : SRowP sz R d ty lo w v xs) (ha : Abv lo w w') : SRowP sz R d ty lo w' v xs := by
 obtain ⟨o, rfl, ho, hp⟩ := h
 exact ⟨o, rfl, ho, hp.abv st ha ho⟩
theorem SRowP.mono {α : Type} {sz : Nat} {R : Nat → World → List Value → α → Prop} {d : α} {ty : Nat} (st : Stable R) {lo lo' : Nat} {w : World} {v : Value} {xs : List α} (h : SRowP sz R d ty lo w v xs) (hl : lo' ≤ lo) : SRowP sz R d ty lo' w v xs := by
 obtain ⟨o, rfl, ho, hp⟩ := h
 exact ⟨o, rfl, Nat.le_trans hl ho, hp⟩
theorem SRowP.below {α : Type} {sz : Nat} {R : Nat → World → List Value → α → Prop} {d : α} {ty : Nat} (st : Stable R) {lo : Nat} {w w' : World} {v : Value} {xs : List α} (h : SRowP sz R d ty lo w v xs) (hb : Below w.heap.size w w') : SRowP sz R d ty lo w' v xs := h.abv st (Abv.below hb)
theorem SRowP.shape {α : Type} {sz : Nat} {R : Nat → World → List Value → α → Prop} {d : α} {ty : Nat} {lo : Nat} {w : World} {v : Value} {xs : List α} (h : SRowP sz R d ty lo w v xs) : ∃ ao cap, v = .slice ao xs.length cap := by
 obtain ⟨o, rfl, _⟩ := h
 exact ⟨_, _, rfl⟩
theorem SRowP.row {α : Type} {sz : Nat} {R R' : Nat → World → List Value → α → Prop} {d : α} {ty : Nat} (st : Stable R) (f : ∀ lo w cs x, R lo w cs x → R' lo w cs x) {lo : Nat} {w : World} {v : Value} {xs : List α} (h : SRowP sz R d ty lo w v xs) : SRow sz R' d lo w v xs := by
 obtain ⟨o, rfl, ho, hp⟩ := h
 exact SRow.imp f (SRow.mono st (SPart.row st hp rfl) ho)
def IntP (lo : Nat) (w : World) (cs : List Value) (z : Int) : Prop := cs = [.int .i64 z]
theorem intStable : Stable IntP where
 abv := fun h _ => h
 mono := fun h _ => h
def GlP (lo : Nat) (w : World) (cs : List Value) (g : Gl) : Prop := cs = [.int .i64 g.s, .int .i64 g.p, .int .i64 g.po, .int .i64 g.m, .int .i64 g.mo]
theorem glStable : Stable GlP where
 abv := fun h _ => h
 mono := fun h _ => h
def RP (lo : Nat) (w : World) (v : Value) (zs : List Int) : Prop := SRowP 1 IntP 0 2 lo w v zs
def GP (lo : Nat) (w : World) (v : Value) (gs : List Gl) : Prop := SRowP 5 GlP Gl.none 61 lo w v gs
theorem RP.abv {lo : Nat} {w w' : World} {v : Value} {zs : List Int} (h : RP lo w v zs) (ha : Abv lo w w') : RP lo w' v zs := SRowP.abv intStable h ha
theorem RP.mono {lo lo' : Nat} {w : World} {v : Value} {zs : List Int} (h : RP lo w v zs) (hl : lo' ≤ lo) : RP lo' w v zs := SRowP.mono intStable h hl
theorem RP.shape {lo : Nat} {w : World} {v : Value} {zs : List Int} (h : RP lo w v zs) : ∃ ao cap, v = .slice ao zs.length cap := SRowP.shape h
theorem GP.abv {lo : Nat} {w w' : World} {v : Value} {gs : List Gl} (h : GP lo w v gs) (ha : Abv lo w w') : GP lo w' v gs := SRowP.abv glStable h ha
theorem GP.mono {lo lo' : Nat} {w : World} {v : Value} {gs : List Gl} (h : GP lo w v gs) (hl : lo' ≤ lo) : GP lo' w v gs := SRowP.mono glStable h hl
theorem GP.shape {lo : Nat} {w : World} {v : Value} {gs : List Gl} (h : GP lo w v gs) : ∃ ao cap, v = .slice ao gs.length cap := SRowP.shape h
theorem RP.inn {lo : Nat} {w : World} {v : Value} {zs : List Int} (h : RP lo w v zs) : RIn lo w v zs := by
 obtain ⟨o, rfl, ho, cur, hg, hs, hc⟩ := h
 refine ⟨⟨_, _, _, rfl, rfl, fun _ => ⟨o, 0, rfl, (Array.getElem?_eq_some_iff.1 hg).1, fun i hi => ?_⟩⟩, fun b off n cap e => by simp at e; omega⟩
 obtain ⟨cs, hl, hr, hj⟩ := hc i hi
 have h0 := hj 0 (by omega)
 rw [show cs = _ from hr] at h0
 rw [Nat.zero_add, cell_of_row w o _ cur 2 _ hg]
 simpa using h0
theorem GP.inn {lo : Nat} {w : World} {v : Value} {gs : List Gl} (h : GP lo w v gs) : GIn lo w v gs := by
 obtain ⟨o, rfl, ho, cur, hg, hs, hc⟩ := h
 refine ⟨⟨_, _, _, rfl, rfl, fun _ => ⟨o, 0, rfl, (Array.getElem?_eq_some_iff.1 hg).1, fun i hi => ?_⟩⟩, fun b off n cap e => by simp at e; omega⟩
 obtain ⟨cs, hl, hr, hj⟩ := hc i hi
 rw [show cs = _ from hr] at hj
 rw [Nat.zero_add, cell_of_row w o _ cur 61 _ hg, cell_of_row w o _ cur 61 _ hg, cell_of_row w o _ cur 61 _ hg, cell_of_row w o _ cur 61 _ hg, cell_of_row w o _ cur 61 _ hg]
 exact ⟨hj 0 (by omega), hj 1 (by omega), hj 2 (by omega), hj 3 (by omega), hj 4 (by omega)⟩
theorem toInts_p {v : Value} {zs : List Int} {w : World} (h : Row w v zs) (hsz : zs.length ≤ 1048576) :
 Calls Tryz.prog 64 #[v] w fun e w' => ∃ v', e = .returned v' ∧ RP w.heap.size w' v' zs ∧ Below w.heap.size w w' := by
 refine (toInts_any h hsz).mono ?_
 rintro e w' ⟨rfl, hown, _, hb, _⟩
 refine ⟨_, rfl, ⟨w.heap.size, rfl, Nat.le_refl _, ?_⟩, hb⟩
 obtain ⟨hl, ⟨e, _⟩ | ⟨g, cap, cur, e, hg, hbk, hn, hm, hs, hx⟩⟩ := hown
 ·simp at e
 ·simp at e
  obtain ⟨rfl, rfl⟩ := e
  refine ⟨cur, hbk, hs, fun i hi => ⟨[.int .i64 (zs.getD i 0)], rfl, rfl, fun j hj => ?_⟩⟩
  obtain rfl : j = 0 := by omega
  rw [Nat.mul_one, Nat.add_zero, ← Array.getElem?_toList]
  have h1 : (cur.toList.take (zs.length * 1))[i]? = (zs.map (Value.int .i64))[i]? := by rw [hx]
  rw [List.getElem?_take, if_pos (by omega)] at h1
  rw [h1]
  simp [List.getD, List.getElem?_eq_getElem hi]
theorem toGlues_p {v : Value} {gs : List Gl} {w : World} (h : GRow w v gs) (hsz : gs.length ≤ 1048576) :
 Calls Tryz.prog 66 #[v] w fun e w' => ∃ v', e = .returned v' ∧ GP w.heap.size w' v' gs ∧ Below w.heap.size w w' := by
 refine (toGlues_any h hsz).mono ?_
 rintro e w' ⟨rfl, ⟨cur, hg, hs, hc⟩, hb⟩
 refine ⟨_, rfl, ⟨w.heap.size, rfl, Nat.le_refl _, cur, hg, hs, fun i hi => ⟨_, rfl, rfl, fun j hj => ?_⟩⟩, hb⟩
 obtain ⟨h0, h1, h2, h3, h4⟩ := hc i hi
 match j, hj with
 | 0, _ => exact h0
 | 1, _ => exact h1
 | 2, _ => exact h2
 | 3, _ => exact h3
 | 4, _ => exact h4
theorem toTss_q {v : Value} {xs : List (List Tk)} {w : World} (h : SRow 1 TsR [] 0 w v xs) (hs : xs.length ≤ 1048576 ∧ ∀ i, i < xs.length → Sml (xs.getD i [])) :
 Calls Tryz.prog 67 #[v] w fun e w' => ∃ v', e = .returned v' ∧ SRowP 1 TsP [] 52 w.heap.size w' v' xs ∧ Below w.heap.size w w' := (toTss_p h hs).mono (fun _ _ h => h)
def BdP (lo : Nat) (w : World) (cs : List Value) (x : Bd) : Prop := ∃ vp vb, cs = [.string x.nm, .int .i64 x.m.k, .int .i64 x.m.n, .int .i64 x.m.t.c, .int .i64 x.m.t.h, .string x.m.t.s, vp, .int .i64 x.m.sl, vb] ∧ TP lo w vp x.m.p ∧ TP lo w vb x.m.b
theorem bpStable : Stable BdP where
 abv := by rintro lo w w' cs x ⟨vp, vb, rfl, h, h2⟩ ha; exact ⟨vp, vb, rfl, h.abv ha, h2.abv ha⟩
 mono := by rintro lo lo' w cs x ⟨vp, vb, rfl, h, h2⟩ hl; exact ⟨vp, vb, rfl, h.mono hl, h2.mono hl⟩
theorem bdP_R (lo : Nat) (w : World) (cs : List Value) (x : Bd) (h : BdP lo w cs x) : BdR lo w cs x := by
 obtain ⟨vp, vb, rfl, h, h2⟩ := h
 exact ⟨vp, vb, rfl, h.on.inn, h2.on.inn⟩
abbrev BRowP (lo : Nat) (w : World) (v : Value) (bs : List Bd) : Prop := SRowP 9 BdP Bd.none 58 lo w v bs
abbrev TsRowP (lo : Nat) (w : World) (v : Value) (xs : List (List Tk)) : Prop := SRowP 1 TsP [] 52 lo w v xs
def LvP (lo : Nat) (w : World) (cs : List Value) (x : Lv) : Prop := ∃ v0 v1 v2 v3 v4 v5, cs = [v0, v1, v2, v3, v4, v5] ∧ RP lo w v0 x.cats ∧ BRowP lo w v1 x.binds ∧ RP lo w v2 x.counts ∧ RP lo w v3 x.lens ∧ GP lo w v4 x.glues ∧ TsRowP lo w v5 x.toks
theorem lpStable : Stable LvP where
 abv := by rintro lo w w' cs x ⟨v0, v1, v2, v3, v4, v5, rfl, h0, h1, h2, h3, h4, h5⟩ ha; exact ⟨v0, v1, v2, v3, v4, v5, rfl, h0.abv ha, h1.abv bpStable ha, h2.abv ha, h3.abv ha, h4.abv ha, h5.abv tpStable ha⟩
 mono := by rintro lo lo' w cs x ⟨v0, v1, v2, v3, v4, v5, rfl, h0, h1, h2, h3, h4, h5⟩ hl; exact ⟨v0, v1, v2, v3, v4, v5, rfl, h0.mono hl, h1.mono bpStable hl, h2.mono hl, h3.mono hl, h4.mono hl, h5.mono tpStable hl⟩
theorem lvP_R (lo : Nat) (w : World) (cs : List Value) (x : Lv) (h : LvP lo w cs x) : LvR lo w cs x := by
 obtain ⟨v0, v1, v2, v3, v4, v5, rfl, h0, h1, h2, h3, h4, h5⟩ := h
 exact ⟨v0, v1, v2, v3, v4, v5, rfl, h0.inn, h1.row bpStable bdP_R, h2.inn, h3.inn, h4.inn, h5.row tpStable tsP_R⟩
abbrev LRowP (lo : Nat) (w : World) (v : Value) (ls : List Lv) : Prop := SRowP 6 LvP Lv.none 45 lo w v ls
structure SixP (lo : Nat) (w : World) (v0 v1 v2 v3 v4 v5 : Value) (x : Lv) : Prop where
 h0 : RP lo w v0 x.cats
 h1 : BRowP lo w v1 x.binds
 h2 : RP lo w v2 x.counts
 h3 : RP lo w v3 x.lens
 h4 : GP lo w v4 x.glues
 h5 : TsRowP lo w v5 x.toks
theorem SixP.abv {lo : Nat} {w w' : World} {v0 v1 v2 v3 v4 v5 : Value} {x : Lv} (h : SixP lo w v0 v1 v2 v3 v4 v5 x) (ha : Abv lo w w') : SixP lo w' v0 v1 v2 v3 v4 v5 x :=
 ⟨h.h0.abv ha, h.h1.abv bpStable ha, h.h2.abv ha, h.h3.abv ha, h.h4.abv ha, h.h5.abv tpStable ha⟩
theorem SixP.below {lo : Nat} {w w' : World} {v0 v1 v2 v3 v4 v5 : Value} {x : Lv} (h : SixP lo w v0 v1 v2 v3 v4 v5 x) (hb : Below w.heap.size w w') : SixP lo w' v0 v1 v2 v3 v4 v5 x := h.abv (Abv.below hb)
theorem SixP.mono {lo lo' : Nat} {w : World} {v0 v1 v2 v3 v4 v5 : Value} {x : Lv} (h : SixP lo w v0 v1 v2 v3 v4 v5 x) (hl : lo' ≤ lo) : SixP lo' w v0 v1 v2 v3 v4 v5 x :=
 ⟨h.h0.mono hl, h.h1.mono bpStable hl, h.h2.mono hl, h.h3.mono hl, h.h4.mono hl, h.h5.mono tpStable hl⟩
theorem SixP.shape {lo : Nat} {w : World} {v0 v1 v2 v3 v4 v5 : Value} {x : Lv} (h : SixP lo w v0 v1 v2 v3 v4 v5 x) : ∃ a0 c0 a1 c1 a2 c2 a3 c3 a4 c4 a5 c5, v0 = .slice a0 x.cats.length c0 ∧ v1 = .slice a1 x.binds.length c1 ∧ v2 = .slice a2 x.counts.length c2 ∧ v3 = .slice a3 x.lens.length c3 ∧ v4 = .slice a4 x.glues.length c4 ∧ v5 = .slice a5 x.toks.length c5 := by
 obtain ⟨a0, c0, e0⟩ := h.h0.shape
 obtain ⟨a1, c1, e1⟩ := h.h1.shape
 obtain ⟨a2, c2, e2⟩ := h.h2.shape
 obtain ⟨a3, c3, e3⟩ := h.h3.shape
 obtain ⟨a4, c4, e4⟩ := h.h4.shape
 obtain ⟨a5, c5, e5⟩ := h.h5.shape
 exact ⟨a0, c0, a1, c1, a2, c2, a3, c3, a4, c4, a5, c5, e0, e1, e2, e3, e4, e5⟩
set_option maxHeartbeats 2000000 in
theorem toMean_p {k n : Int} {t : Tk} {vp vb : Value} {p b : List Tk} {sl : Int} {w : World} (hp : TRow w vp p) (hb : TRow w vb b) (lp : p.length ≤ 1048576) (lb : b.length ≤ 1048576) :
 Calls Tryz.prog 117 #[meanV k n t vp sl vb] w fun e w' => ∃ vp' vb', e = .returned (meanV k n t vp' sl vb') ∧ TP w.heap.size w' vp' p ∧ TP w.heap.size w' vb' b ∧ Below w.heap.size w w' := by
 have HP : Hid (TRow w vp p) := hp
 have HB : Hid (TRow w vb b) := hb
 obtain ⟨ao, n0, cap, rfl, hx, hy⟩ := hp
 obtain ⟨ao2, n2, cap2, rfl, hx2, hy2⟩ := hb
 clear hx hy hx2 hy2
 go_enter Tryz.func117, Tryz.ntmps117
 go_wp2_with fail
 refine (toToken_any _ _ _ _).mono ?_
 rintro e w1 ⟨rfl, hb1⟩
 have hz1 : w.heap.size + 1 + 1 < w1.heap.size := by have := hb1.size; simp at this; omega
 have hy1 : w.heap.size + 1 < w1.heap.size := by omega
 have hx1 : w.heap.size < w1.heap.size := by omega
 obtain ⟨hc1, hf1⟩ := bcell hb1
 have B1 : Hid (Below w.heap.size w w1) := below_more (below3 _ _ _ _) hb1 (by simp; omega)
 simp only [World.size_alloc, World.size_setCell] at hc1 hf1
 clear hb1
 go_wp2_with fail
 have BW : Below w.heap.size w (((w1.setCell ⟨w.heap.size + 1 + 1, 2, none⟩ (.int .i64 t.c)).setCell ⟨w.heap.size + 1 + 1, 3, none⟩ (.int .i64 t.h)).setCell ⟨w.heap.size + 1 + 1, 4, none⟩ (.string t.s)) := (((Below.setCell B1 (by simp; omega) _).setCell (by simp; omega) _).setCell (by simp; omega) _)
 refine (toMacro_p (TRow.below HP BW) (TRow.below HB BW) lp lb).mono ?_
 rintro e w2 ⟨v1, v2, rfl, hp1, hp2, hb2⟩
 obtain ⟨a1, n1, c1, rfl⟩ := hp1.shape
 obtain ⟨a2, m2, c2, rfl⟩ := hp2.shape
 have hz2 : w.heap.size + 1 + 1 < w2.heap.size := by have := hb2.size; simp at this; omega
 have hy2 : w.heap.size + 1 < w2.heap.size := by omega
 have hx2 : w.heap.size < w2.heap.size := by omega
 obtain ⟨hc2, hf2⟩ := bcell hb2
 have B2 : Hid (Below w.heap.size w w2) := below_more BW hb2 (Below.size BW)
 have P2 : Hid (TP (w.heap.size + 1 + 1 + 1) w2 (.slice a1 n1 c1) p) := hp1.mono (by simp; omega)
 have P3 : Hid (TP (w.heap.size + 1 + 1 + 1) w2 (.slice a2 m2 c2) b) := hp2.mono (by simp; omega)
 simp only [World.size_setCell] at hc2 hf2
 clear hb2 hp1 hp2 BW
 go_wp2
 refine bodyPost_ret (v := meanV k n t (.slice a1 n1 c1) sl (.slice a2 m2 c2)) (by simp [results, Tryz.results117, go_sem, hc1, hc2, hx1, hx2, hy1, hy2, hz1, hz2]) rfl ⟨_, _, rfl, ?_, ?_, ?_⟩
 ·exact (TP.abv (TP.abv (TP.abv (TP.abv (TP.abv (TP.abv (TP.abv (TP.abv (TP.abv (TP.abv (TP.abv P2 (Abv.set (by omega) _)) (Abv.set (by omega) _)) (Abv.set (by omega) _)) (Abv.set (by omega) _)) (Abv.set (by omega) _)) (Abv.set (by omega) _)) (Abv.set (by omega) _)) (Abv.set (by omega) _)) (Abv.set (by omega) _)) (Abv.set (by omega) _)) (Abv.set (by omega) _)).mono (by omega)
 ·exact (TP.abv (TP.abv (TP.abv (TP.abv (TP.abv (TP.abv (TP.abv (TP.abv (TP.abv (TP.abv (TP.abv P3 (Abv.set (by omega) _)) (Abv.set (by omega) _)) (Abv.set (by omega) _)) (Abv.set (by omega) _)) (Abv.set (by omega) _)) (Abv.set (by omega) _)) (Abv.set (by omega) _)) (Abv.set (by omega) _)) (Abv.set (by omega) _)) (Abv.set (by omega) _)) (Abv.set (by omega) _)).mono (by omega)
 ·exact (((((((((((Below.setCell B2 (by first | (simp; done) | (simp; omega)) _).setCell (by first | (simp; done) | (simp; omega)) _).setCell (by first | (simp; done) | (simp; omega)) _).setCell (by first | (simp; done) | (simp; omega)) _).setCell (by first | (simp; done) | (simp; omega)) _).setCell (by first | (simp; done) | (simp; omega)) _).setCell (by first | (simp; done) | (simp; omega)) _).setCell (by first | (simp; done) | (simp; omega)) _).setCell (by first | (simp; done) | (simp; omega)) _).setCell (by first | (simp; done) | (simp; omega)) _).setCell (by first | (simp; done) | (simp; omega)) _)
set_option maxHeartbeats 2000000 in
theorem toBind_p {nm : ByteArray} {k n : Int} {t : Tk} {vp vb : Value} {p b : List Tk} {sl : Int} {w : World} (hp : TRow w vp p) (hb : TRow w vb b) (hs : SmB ⟨nm, ⟨k, n, t, p, sl, b⟩⟩) :
 Calls Tryz.prog 91 #[bindV nm k n t vp sl vb] w fun e w' => ∃ vp' vb', e = .returned (bindV nm k n t vp' sl vb') ∧ TP w.heap.size w' vp' p ∧ TP w.heap.size w' vb' b ∧ Below w.heap.size w w' := by
 have HP : Hid (TRow w vp p) := hp
 have HB : Hid (TRow w vb b) := hb
 obtain ⟨ao, n0, cap, rfl, hx, hy⟩ := hp
 obtain ⟨ao2, n2, cap2, rfl, hx2, hy2⟩ := hb
 clear hx hy hx2 hy2
 have HS : Hid (p.length ≤ 1048576 ∧ b.length ≤ 1048576) := hs
 clear hs
 go_enter Tryz.func91, Tryz.ntmps91
 go_wp2_with fail
 refine (toMean_p (TRow.below HP (below3 _ _ _ _)) (TRow.below HB (below3 _ _ _ _)) HS.1 HS.2).mono ?_
 rintro e w1 ⟨v1, v2, rfl, hp1, hq1, hb1⟩
 obtain ⟨a1, n1, c1, rfl⟩ := hp1.shape
 obtain ⟨a2, m2, c2, rfl⟩ := hq1.shape
 have hz1 : w.heap.size + 1 + 1 < w1.heap.size := by have := hb1.size; simp at this; omega
 have hy1 : w.heap.size + 1 < w1.heap.size := by omega
 have hx1 : w.heap.size < w1.heap.size := by omega
 obtain ⟨hc1, hf1⟩ := bcell hb1
 have B1 : Hid (Below w.heap.size w w1) := below_more (below3 _ _ _ _) hb1 (by simp; omega)
 simp only [World.size_alloc, World.size_setCell] at hc1 hf1
 have P2 : Hid (TP (w.heap.size + 1 + 1 + 1) w1 (.slice a1 n1 c1) p) := hp1.mono (by simp)
 have P3 : Hid (TP (w.heap.size + 1 + 1 + 1) w1 (.slice a2 m2 c2) b) := hq1.mono (by simp)
 clear hb1 hp1 hq1
 go_wp2
 refine bodyPost_ret (v := bindV nm k n t (.slice a1 n1 c1) sl (.slice a2 m2 c2)) (by simp [results, Tryz.results91, go_sem, hc1, hx1, hy1, hz1]) rfl ⟨_, _, rfl, ?_, ?_, ?_⟩
 ·exact TP.mono (TP.abv (TP.abv (TP.abv (TP.abv (TP.abv (TP.abv (TP.abv (TP.abv (TP.abv (TP.abv (TP.abv (TP.abv (TP.abv (TP.abv (TP.abv (TP.abv (TP.abv (P2) (Abv.set (by omega) _)) (Abv.set (by omega) _)) (Abv.set (by omega) _)) (Abv.set (by omega) _)) (Abv.set (by omega) _)) (Abv.set (by omega) _)) (Abv.set (by omega) _)) (Abv.set (by omega) _)) (Abv.set (by omega) _)) (Abv.set (by omega) _)) (Abv.set (by omega) _)) (Abv.set (by omega) _)) (Abv.set (by omega) _)) (Abv.set (by omega) _)) (Abv.set (by omega) _)) (Abv.set (by omega) _)) (Abv.set (by omega) _)) (by omega)
 ·exact TP.mono (TP.abv (TP.abv (TP.abv (TP.abv (TP.abv (TP.abv (TP.abv (TP.abv (TP.abv (TP.abv (TP.abv (TP.abv (TP.abv (TP.abv (TP.abv (TP.abv (TP.abv (P3) (Abv.set (by omega) _)) (Abv.set (by omega) _)) (Abv.set (by omega) _)) (Abv.set (by omega) _)) (Abv.set (by omega) _)) (Abv.set (by omega) _)) (Abv.set (by omega) _)) (Abv.set (by omega) _)) (Abv.set (by omega) _)) (Abv.set (by omega) _)) (Abv.set (by omega) _)) (Abv.set (by omega) _)) (Abv.set (by omega) _)) (Abv.set (by omega) _)) (Abv.set (by omega) _)) (Abv.set (by omega) _)) (Abv.set (by omega) _)) (by omega)
 ·exact Below.setCell (Below.setCell (Below.setCell (Below.setCell (Below.setCell (Below.setCell (Below.setCell (Below.setCell (Below.setCell (Below.setCell (Below.setCell (Below.setCell (Below.setCell (Below.setCell (Below.setCell (Below.setCell (Below.setCell (B1) (by first | (simp; done) | (simp; omega)) _) (by first | (simp; done) | (simp; omega)) _) (by first | (simp; done) | (simp; omega)) _) (by first | (simp; done) | (simp; omega)) _) (by first | (simp; done) | (simp; omega)) _) (by first | (simp; done) | (simp; omega)) _) (by first | (simp; done) | (simp; omega)) _) (by first | (simp; done) | (simp; omega)) _) (by first | (simp; done) | (simp; omega)) _) (by first | (simp; done) | (simp; omega)) _) (by first | (simp; done) | (simp; omega)) _) (by first | (simp; done) | (simp; omega)) _) (by first | (simp; done) | (simp; omega)) _) (by first | (simp; done) | (simp; omega)) _) (by first | (simp; done) | (simp; omega)) _) (by first | (simp; done) | (simp; omega)) _) (by first | (simp; done) | (simp; omega)) _
set_option maxHeartbeats 4000000 in
theorem toBinds_p {v : Value} {xs : List Bd} {w : World} (h : SRow 9 BdR Bd.none 0 w v xs) (hs : xs.length ≤ 1048576 ∧ ∀ i, i < xs.length → SmB (xs.getD i Bd.none)) :
 Calls Tryz.prog 65 #[v] w fun e w' => ∃ v', e = .returned v' ∧ BRowP w.heap.size w' v' xs ∧ Below w.heap.size w w' := by
 obtain ⟨ao, n, cap, rfl, hn, hr⟩ := h
 have hsz : n ≤ 1048576 := by rw [← hn]; exact hs.1
 have HS : Hid (∀ i, i < xs.length → SmB (xs.getD i Bd.none)) := hs.2
 have HL : Hid (xs.length = n) := hn
 obtain ⟨i0, hi, hz0, hz1, hz2⟩ := info_parts Tryz.info58
 have HI : Hid (i0.bytes = 120) := hz2
 have HR : Hid (0 < n → ∃ b off, ao = some ⟨b, off, none⟩ ∧ 0 ≤ b ∧ b < w.heap.size ∧ ∀ i, i < n → ∃ cs : List Value, cs.length = 9 ∧ BdR 0 w cs (xs.getD i Bd.none) ∧ ∀ j, j < 9 → w.cell? ⟨b, off + i * 9 + j, none⟩ = cs[j]?) := hr
 clear hr hs hn
 go_enter Tryz.func65, Tryz.ntmps65
 go_wp2_with (first
  | (refine wpList_make_full _ rfl _ _ 41 rfl w.heap.size 58 i0 (.agg #[.string ByteArray.empty, .int .i64 0, .int .i64 0, .int .i64 0, .int .i64 0, .string ByteArray.empty, .slice none 0 0, .int .i64 0, .slice none 0 0]) 9 Tryz.underlying41 hi hz0 hz1 _ _ _ _ n rfl rfl rfl rfl (by rw [show i0.bytes = 120 from HI]; omega) (by unfold maxLen; omega) (Nat.le_refl _) ?_; intro w1 hown hgrow))
 have hbel : Below w.heap.size w w1 := Below.grown (Below.refl _ _) hgrow (Nat.le_refl _) (by simp)
 have HO : Hid (SPart 9 BdP Bd.none 58 w1 w.heap.size n 0 xs ∧ Below w.heap.size w w1) := by
  refine ⟨?_, hbel⟩
  rcases hown.2 with ⟨h', _⟩ | ⟨g', cap', cur, h', _, hg, _, _, hcs, _⟩
  ·simp at h'
  ·simp only [Value.slice.injEq, Option.some.injEq, Addr.mk.injEq, and_true, true_and] at h'
   obtain ⟨rfl, rfl⟩ := h'
   exact SPart.new hg hcs
 clear hown hgrow hbel
 go_wp2
 go_loopw [4] (fun i wr => ∃ k : Nat, k ≤ n ∧ i = .int .i64 k ∧ SPart 9 BdP Bd.none 58 wr w.heap.size n k xs ∧ Below w.heap.size w wr) (fun i _ => n - (intOf i).toNat)
 case atStart => exact ⟨0, by omega, rfl, HO.1, HO.2⟩
 case round =>
  obtain ⟨k, hk, rfl, hp, hbel⟩ := hrel
  by_cases hkn : k < n
  ·have hki : (k : Int) < (n : Int) := by omega
   obtain ⟨b, off, rfl, hlo, hb, hc⟩ := HR (by omega)
   have hfk : SmB (xs.getD k Bd.none) := HS k (by rw [show xs.length = n from HL]; exact hkn)
   obtain ⟨cs, hcl, hRel, hcj⟩ := hc k hkn
   obtain ⟨t, ht⟩ : ∃ t, t = xs.getD k Bd.none := ⟨_, rfl⟩
   rw [← ht] at hRel hfk
   have HT : Hid (t = xs.getD k Bd.none) := ht
   obtain ⟨nm, ⟨mk, mn, mt, mp, ms, mb⟩⟩ := t
   obtain ⟨u, z, rfl, hin, hjn⟩ := hRel
   obtain ⟨a, n0, c, rfl⟩ := hin.shape
   obtain ⟨a9, n9, c9, rfl⟩ := hjn.shape
   dsimp only at hin hjn hcj
   have g0 : wr.cell? ⟨b, off + k * 9, none⟩ = some (.string nm) := (hbel.cell (p := ⟨b, off + k * 9, none⟩) hb).trans (hcj 0 (by omega))
   have g1 : wr.cell? ⟨b, off + k * 9 + 1, none⟩ = some (.int .i64 mk) := (hbel.cell (p := ⟨b, off + k * 9 + 1, none⟩) hb).trans (hcj 1 (by omega))
   have g2 : wr.cell? ⟨b, off + k * 9 + 2, none⟩ = some (.int .i64 mn) := (hbel.cell (p := ⟨b, off + k * 9 + 2, none⟩) hb).trans (hcj 2 (by omega))
   have g3 : wr.cell? ⟨b, off + k * 9 + 3, none⟩ = some (.int .i64 mt.c) := (hbel.cell (p := ⟨b, off + k * 9 + 3, none⟩) hb).trans (hcj 3 (by omega))
   have g4 : wr.cell? ⟨b, off + k * 9 + 4, none⟩ = some (.int .i64 mt.h) := (hbel.cell (p := ⟨b, off + k * 9 + 4, none⟩) hb).trans (hcj 4 (by omega))
   have g5 : wr.cell? ⟨b, off + k * 9 + 5, none⟩ = some (.string mt.s) := (hbel.cell (p := ⟨b, off + k * 9 + 5, none⟩) hb).trans (hcj 5 (by omega))
   have g6 : wr.cell? ⟨b, off + k * 9 + 6, none⟩ = some (.slice a n0 c) := (hbel.cell (p := ⟨b, off + k * 9 + 6, none⟩) hb).trans (hcj 6 (by omega))
   have g7 : wr.cell? ⟨b, off + k * 9 + 7, none⟩ = some (.int .i64 ms) := (hbel.cell (p := ⟨b, off + k * 9 + 7, none⟩) hb).trans (hcj 7 (by omega))
   have g8 : wr.cell? ⟨b, off + k * 9 + 8, none⟩ = some (.slice a9 n9 c9) := (hbel.cell (p := ⟨b, off + k * 9 + 8, none⟩) hb).trans (hcj 8 (by omega))
   have HB : Hid (Below w.heap.size w wr) := hbel
   have HP : Hid (SPart 9 BdP Bd.none 58 wr w.heap.size n k xs) := hp
   have HX : Hid (SmB ⟨nm, ⟨mk, mn, mt, mp, ms, mb⟩⟩ ∧ TRow wr (.slice a n0 c) mp ∧ TRow wr (.slice a9 n9 c9) mb) := ⟨hfk, TIn.row_below hin hbel, TIn.row_below hjn hbel⟩
   clear hc hcj hcl hbel ht hfk hp hin hjn
   go_wp2_with (go_at_call 91; refine (toBind_p HX.2.1 HX.2.2 HX.1).mono ?_; rintro e w2 ⟨u2, z2, rfl, hin2, hjn2, hb1⟩; obtain ⟨a2, n2, c2, rfl⟩ := hin2.shape; obtain ⟨a8, n8, c8, rfl⟩ := hjn2.shape; have hp2 := SPart.below bpStable HP hb1; have hfz := hp2.free; obtain ⟨x0, hx0⟩ := hp2.cells (k * 9) (by omega); obtain ⟨x1, hx1⟩ := hp2.cells (k * 9 + 1) (by omega); obtain ⟨x2, hx2⟩ := hp2.cells (k * 9 + 2) (by omega); obtain ⟨x3, hx3⟩ := hp2.cells (k * 9 + 3) (by omega); obtain ⟨x4, hx4⟩ := hp2.cells (k * 9 + 4) (by omega); obtain ⟨x5, hx5⟩ := hp2.cells (k * 9 + 5) (by omega); obtain ⟨x6, hx6⟩ := hp2.cells (k * 9 + 6) (by omega); obtain ⟨x7, hx7⟩ := hp2.cells (k * 9 + 7) (by omega); obtain ⟨x8, hx8⟩ := hp2.cells (k * 9 + 8) (by omega); have HP2 : Hid (SPart 9 BdP Bd.none 58 w2 w.heap.size n k xs ∧ Below w.heap.size w w2 ∧ BdP (w.heap.size + 1) w2 [.string nm, .int .i64 mk, .int .i64 mn, .int .i64 mt.c, .int .i64 mt.h, .string mt.s, .slice a2 n2 c2, .int .i64 ms, .slice a8 n8 c8] ⟨nm, ⟨mk, mn, mt, mp, ms, mb⟩⟩) := ⟨hp2, Below.trans HB (hb1.mono (Below.size HB)), bpStable.mono ⟨_, _, rfl, hin2, hjn2⟩ (SPart.lt HP)⟩; clear hp2 hb1 hin2 hjn2)
   go_roundw
   case rel => exact ⟨k + 1, by omega, by go_num, SPart.put bpStable HP2.1 hkn (cs := [.string nm, .int .i64 mk, .int .i64 mn, .int .i64 mt.c, .int .i64 mt.h, .string mt.s, .slice a2 n2 c2, .int .i64 ms, .slice a8 n8 c8]) rfl (by rw [← show (⟨nm, ⟨mk, mn, mt, mp, ms, mb⟩⟩ : Bd) = xs.getD k Bd.none from HT]; exact HP2.2.2), putC_below (Nat.le_refl _) [.string nm, .int .i64 mk, .int .i64 mn, .int .i64 mt.c, .int .i64 mt.h, .string mt.s, .slice a2 n2 c2, .int .i64 ms, .slice a8 n8 c8] (k * 9) _ HP2.2.1⟩
   case measure => simp [intOf]; omega
  ·have hki : ¬ (k : Int) < (n : Int) := by omega
   obtain rfl : k = n := by omega
   have HP : Hid (SPart 9 BdP Bd.none 58 wr w.heap.size k k xs ∧ Below w.heap.size w wr) := ⟨hp, hbel⟩
   clear hp hbel
   go_wp2
   go_ret
   exact ⟨.slice (some ⟨w.heap.size, 0, none⟩) k k, rfl, ⟨w.heap.size, by rw [show xs.length = k from HL], Nat.le_refl _, by rw [show xs.length = k from HL]; exact HP.1⟩, HP.2⟩
set_option maxHeartbeats 4000000 in
theorem toLevel_p {v0 v1 v2 v3 v4 v5 : Value} {x : Lv} {w : World} (h : Six 0 w v0 v1 v2 v3 v4 v5 x) (hs : SmL x) :
 Calls Tryz.prog 35 #[levV v0 v1 v2 v3 v4 v5] w fun e w' => ∃ r0 r1 r2 r3 r4 r5, e = .returned (levV r0 r1 r2 r3 r4 r5) ∧ SixP w.heap.size w' r0 r1 r2 r3 r4 r5 x ∧ Below w.heap.size w w' := by
 have HX : Hid (Six 0 w v0 v1 v2 v3 v4 v5 x) := h
 obtain ⟨a0, c0, a1, c1, a2, c2, a3, c3, a4, c4, a5, c5, rfl, rfl, rfl, rfl, rfl, rfl⟩ := h.shape
 have HS : Hid (SmL x) := hs
 clear h hs
 obtain ⟨k0, hk0⟩ : ∃ k, k = x.cats.length := ⟨_, rfl⟩
 obtain ⟨k1, hk1⟩ : ∃ k, k = x.binds.length := ⟨_, rfl⟩
 obtain ⟨k2, hk2⟩ : ∃ k, k = x.counts.length := ⟨_, rfl⟩
 obtain ⟨k3, hk3⟩ : ∃ k, k = x.lens.length := ⟨_, rfl⟩
 obtain ⟨k4, hk4⟩ : ∃ k, k = x.glues.length := ⟨_, rfl⟩
 obtain ⟨k5, hk5⟩ : ∃ k, k = x.toks.length := ⟨_, rfl⟩
 rw [← hk0, ← hk1, ← hk2, ← hk3, ← hk4, ← hk5] at HX
 rw [← hk0, ← hk1, ← hk2, ← hk3, ← hk4, ← hk5]
 clear hk0 hk1 hk2 hk3 hk4 hk5
 go_enter Tryz.func35, Tryz.ntmps35
 go_wp2_with fail
 refine (toInts_p ((show Six 0 w _ _ _ _ _ _ x from HX).h0.below (below3 _ _ _ _) |>.1) HS.1).mono ?_
 rintro e w1 ⟨u0, rfl, hp0, hb1⟩
 obtain ⟨r0, d0, rfl⟩ := hp0.shape
 obtain ⟨s0, hs0⟩ : ∃ s, s = x.cats.length := ⟨_, rfl⟩
 rw [← hs0] at hp0
 rw [← hs0]
 clear hs0
 have hz1 : w.heap.size + 1 + 1 < w1.heap.size := by have := hb1.size; simp at this; omega
 have hy1 : w.heap.size + 1 < w1.heap.size := by omega
 have hx1 : w.heap.size < w1.heap.size := by omega
 obtain ⟨hc1, hf1⟩ := bcell hb1
 have B1 : Hid (Below w.heap.size w w1) := below_more (below3 _ _ _ _) hb1 (by simp; omega)
 have P0_1 : Hid (RP (w.heap.size + 1 + 1 + 1) w1 (.slice r0 s0 d0) x.cats) := hp0.mono (by simp; try omega)
 simp only [World.size_alloc, World.size_setCell] at hc1 hf1
 clear hb1 hp0
 go_wp2_with fail
 have BW1 : Below w.heap.size w (w1.setCell ⟨w.heap.size + 1 + 1, 0, none⟩ (.slice r0 s0 d0)) := Below.setCell B1 (by simp; omega) _
 refine (toBinds_p ((show Six 0 w _ _ _ _ _ _ x from HX).h1.below bdStable BW1) HS.2.1).mono ?_
 rintro e w2 ⟨u1, rfl, hp1, hb2⟩
 obtain ⟨r1, d1, rfl⟩ := hp1.shape
 obtain ⟨s1, hs1⟩ : ∃ s, s = x.binds.length := ⟨_, rfl⟩
 rw [← hs1] at hp1
 rw [← hs1]
 clear hs1
 have hz2 : w.heap.size + 1 + 1 < w2.heap.size := by have := hb2.size; simp at this; omega
 have hy2 : w.heap.size + 1 < w2.heap.size := by omega
 have hx2 : w.heap.size < w2.heap.size := by omega
 obtain ⟨hc2, hf2⟩ := bcell hb2
 have B2 : Hid (Below w.heap.size w w2) := below_more BW1 hb2 (Below.size BW1)
 have P0_2 : Hid (RP (w.heap.size + 1 + 1 + 1) w2 (.slice r0 s0 d0) x.cats) := (RP.abv (show RP _ w1 _ _ from P0_1) (Abv.set (by omega) _)).abv (Abv.below hb2)
 have P1_2 : Hid (BRowP (w.heap.size + 1 + 1 + 1) w2 (.slice r1 s1 d1) x.binds) := hp1.mono bpStable (by simp; try omega)
 simp only [World.size_alloc, World.size_setCell] at hc2 hf2
 clear hb2 hp1 BW1 P0_1
 go_wp2_with fail
 have BW2 : Below w.heap.size w (w2.setCell ⟨w.heap.size + 1 + 1, 1, none⟩ (.slice r1 s1 d1)) := Below.setCell B2 (by simp; omega) _
 refine (toInts_p ((show Six 0 w _ _ _ _ _ _ x from HX).h2.below BW2 |>.1) HS.2.2.1).mono ?_
 rintro e w3 ⟨u2, rfl, hp2, hb3⟩
 obtain ⟨r2, d2, rfl⟩ := hp2.shape
 obtain ⟨s2, hs2⟩ : ∃ s, s = x.counts.length := ⟨_, rfl⟩
 rw [← hs2] at hp2
 rw [← hs2]
 clear hs2
 have hz3 : w.heap.size + 1 + 1 < w3.heap.size := by have := hb3.size; simp at this; omega
 have hy3 : w.heap.size + 1 < w3.heap.size := by omega
 have hx3 : w.heap.size < w3.heap.size := by omega
 obtain ⟨hc3, hf3⟩ := bcell hb3
 have B3 : Hid (Below w.heap.size w w3) := below_more BW2 hb3 (Below.size BW2)
 have P0_3 : Hid (RP (w.heap.size + 1 + 1 + 1) w3 (.slice r0 s0 d0) x.cats) := (RP.abv (show RP _ w2 _ _ from P0_2) (Abv.set (by omega) _)).abv (Abv.below hb3)
 have P1_3 : Hid (BRowP (w.heap.size + 1 + 1 + 1) w3 (.slice r1 s1 d1) x.binds) := SRowP.abv bpStable (SRowP.abv bpStable (show BRowP _ w2 _ _ from P1_2) (Abv.set (by omega) _)) (Abv.below hb3)
 have P2_3 : Hid (RP (w.heap.size + 1 + 1 + 1) w3 (.slice r2 s2 d2) x.counts) := hp2.mono (by simp; try omega)
 simp only [World.size_alloc, World.size_setCell] at hc3 hf3
 clear hb3 hp2 BW2 P0_2 P1_2
 go_wp2_with fail
 have BW3 : Below w.heap.size w (w3.setCell ⟨w.heap.size + 1 + 1, 2, none⟩ (.slice r2 s2 d2)) := Below.setCell B3 (by simp; omega) _
 refine (toInts_p ((show Six 0 w _ _ _ _ _ _ x from HX).h3.below BW3 |>.1) HS.2.2.2.1).mono ?_
 rintro e w4 ⟨u3, rfl, hp3, hb4⟩
 obtain ⟨r3, d3, rfl⟩ := hp3.shape
 obtain ⟨s3, hs3⟩ : ∃ s, s = x.lens.length := ⟨_, rfl⟩
 rw [← hs3] at hp3
 rw [← hs3]
 clear hs3
 have hz4 : w.heap.size + 1 + 1 < w4.heap.size := by have := hb4.size; simp at this; omega
 have hy4 : w.heap.size + 1 < w4.heap.size := by omega
 have hx4 : w.heap.size < w4.heap.size := by omega
 obtain ⟨hc4, hf4⟩ := bcell hb4
 have B4 : Hid (Below w.heap.size w w4) := below_more BW3 hb4 (Below.size BW3)
 have P0_4 : Hid (RP (w.heap.size + 1 + 1 + 1) w4 (.slice r0 s0 d0) x.cats) := (RP.abv (show RP _ w3 _ _ from P0_3) (Abv.set (by omega) _)).abv (Abv.below hb4)
 have P1_4 : Hid (BRowP (w.heap.size + 1 + 1 + 1) w4 (.slice r1 s1 d1) x.binds) := SRowP.abv bpStable (SRowP.abv bpStable (show BRowP _ w3 _ _ from P1_3) (Abv.set (by omega) _)) (Abv.below hb4)
 have P2_4 : Hid (RP (w.heap.size + 1 + 1 + 1) w4 (.slice r2 s2 d2) x.counts) := (RP.abv (show RP _ w3 _ _ from P2_3) (Abv.set (by omega) _)).abv (Abv.below hb4)
 have P3_4 : Hid (RP (w.heap.size + 1 + 1 + 1) w4 (.slice r3 s3 d3) x.lens) := hp3.mono (by simp; try omega)
 simp only [World.size_alloc, World.size_setCell] at hc4 hf4
 clear hb4 hp3 BW3 P0_3 P1_3 P2_3
 go_wp2_with fail
 have BW4 : Below w.heap.size w (w4.setCell ⟨w.heap.size + 1 + 1, 3, none⟩ (.slice r3 s3 d3)) := Below.setCell B4 (by simp; omega) _
 refine (toGlues_p ((show Six 0 w _ _ _ _ _ _ x from HX).h4.below BW4 |>.1) HS.2.2.2.2.1).mono ?_
 rintro e w5 ⟨u4, rfl, hp4, hb5⟩
 obtain ⟨r4, d4, rfl⟩ := hp4.shape
 obtain ⟨s4, hs4⟩ : ∃ s, s = x.glues.length := ⟨_, rfl⟩
 rw [← hs4] at hp4
 rw [← hs4]
 clear hs4
 have hz5 : w.heap.size + 1 + 1 < w5.heap.size := by have := hb5.size; simp at this; omega
 have hy5 : w.heap.size + 1 < w5.heap.size := by omega
 have hx5 : w.heap.size < w5.heap.size := by omega
 obtain ⟨hc5, hf5⟩ := bcell hb5
 have B5 : Hid (Below w.heap.size w w5) := below_more BW4 hb5 (Below.size BW4)
 have P0_5 : Hid (RP (w.heap.size + 1 + 1 + 1) w5 (.slice r0 s0 d0) x.cats) := (RP.abv (show RP _ w4 _ _ from P0_4) (Abv.set (by omega) _)).abv (Abv.below hb5)
 have P1_5 : Hid (BRowP (w.heap.size + 1 + 1 + 1) w5 (.slice r1 s1 d1) x.binds) := SRowP.abv bpStable (SRowP.abv bpStable (show BRowP _ w4 _ _ from P1_4) (Abv.set (by omega) _)) (Abv.below hb5)
 have P2_5 : Hid (RP (w.heap.size + 1 + 1 + 1) w5 (.slice r2 s2 d2) x.counts) := (RP.abv (show RP _ w4 _ _ from P2_4) (Abv.set (by omega) _)).abv (Abv.below hb5)
 have P3_5 : Hid (RP (w.heap.size + 1 + 1 + 1) w5 (.slice r3 s3 d3) x.lens) := (RP.abv (show RP _ w4 _ _ from P3_4) (Abv.set (by omega) _)).abv (Abv.below hb5)
 have P4_5 : Hid (GP (w.heap.size + 1 + 1 + 1) w5 (.slice r4 s4 d4) x.glues) := hp4.mono (by simp; try omega)
 simp only [World.size_alloc, World.size_setCell] at hc5 hf5
 clear hb5 hp4 BW4 P0_4 P1_4 P2_4 P3_4
 go_wp2_with fail
 have BW5 : Below w.heap.size w (w5.setCell ⟨w.heap.size + 1 + 1, 4, none⟩ (.slice r4 s4 d4)) := Below.setCell B5 (by simp; omega) _
 refine (toTss_q ((show Six 0 w _ _ _ _ _ _ x from HX).h5.below tsStable BW5) HS.2.2.2.2.2).mono ?_
 rintro e w6 ⟨u5, rfl, hp5, hb6⟩
 obtain ⟨r5, d5, rfl⟩ := hp5.shape
 obtain ⟨s5, hs5⟩ : ∃ s, s = x.toks.length := ⟨_, rfl⟩
 rw [← hs5] at hp5
 rw [← hs5]
 clear hs5
 have hz6 : w.heap.size + 1 + 1 < w6.heap.size := by have := hb6.size; simp at this; omega
 have hy6 : w.heap.size + 1 < w6.heap.size := by omega
 have hx6 : w.heap.size < w6.heap.size := by omega
 obtain ⟨hc6, hf6⟩ := bcell hb6
 have B6 : Hid (Below w.heap.size w w6) := below_more BW5 hb6 (Below.size BW5)
 have P0_6 : Hid (RP (w.heap.size + 1 + 1 + 1) w6 (.slice r0 s0 d0) x.cats) := (RP.abv (show RP _ w5 _ _ from P0_5) (Abv.set (by omega) _)).abv (Abv.below hb6)
 have P1_6 : Hid (BRowP (w.heap.size + 1 + 1 + 1) w6 (.slice r1 s1 d1) x.binds) := SRowP.abv bpStable (SRowP.abv bpStable (show BRowP _ w5 _ _ from P1_5) (Abv.set (by omega) _)) (Abv.below hb6)
 have P2_6 : Hid (RP (w.heap.size + 1 + 1 + 1) w6 (.slice r2 s2 d2) x.counts) := (RP.abv (show RP _ w5 _ _ from P2_5) (Abv.set (by omega) _)).abv (Abv.below hb6)
 have P3_6 : Hid (RP (w.heap.size + 1 + 1 + 1) w6 (.slice r3 s3 d3) x.lens) := (RP.abv (show RP _ w5 _ _ from P3_5) (Abv.set (by omega) _)).abv (Abv.below hb6)
 have P4_6 : Hid (GP (w.heap.size + 1 + 1 + 1) w6 (.slice r4 s4 d4) x.glues) := (GP.abv (show GP _ w5 _ _ from P4_5) (Abv.set (by omega) _)).abv (Abv.below hb6)
 have P5_6 : Hid (TsRowP (w.heap.size + 1 + 1 + 1) w6 (.slice r5 s5 d5) x.toks) := hp5.mono tpStable (by simp; try omega)
 simp only [World.size_alloc, World.size_setCell] at hc6 hf6
 clear hb6 hp5 BW5 P0_5 P1_5 P2_5 P3_5 P4_5
 go_wp2
 refine bodyPost_ret (v := levV (.slice r0 s0 d0) (.slice r1 s1 d1) (.slice r2 s2 d2) (.slice r3 s3 d3) (.slice r4 s4 d4) (.slice r5 s5 d5)) (by simp [results, Tryz.results35, go_sem, hc6, hx6, hy6, hz6, hc1, hx1, hy1, hz1, hc2, hx2, hy2, hz2, hc3, hx3, hy3, hz3, hc4, hx4, hy4, hz4, hc5, hx5, hy5, hz5, hc6, hx6, hy6, hz6]) rfl ⟨_, _, _, _, _, _, rfl, ?_, ?_⟩
 ·exact SixP.mono (SixP.abv (SixP.abv (SixP.abv (SixP.abv (SixP.abv (SixP.abv (SixP.abv ((show SixP (w.heap.size + 1 + 1 + 1) w6 _ _ _ _ _ _ x from ⟨(show RP _ w6 _ _ from P0_6), (show BRowP _ w6 _ _ from P1_6), (show RP _ w6 _ _ from P2_6), (show RP _ w6 _ _ from P3_6), (show GP _ w6 _ _ from P4_6), (show TsRowP _ w6 _ _ from P5_6)⟩)) (Abv.set (by omega) _)) (Abv.set (by omega) _)) (Abv.set (by omega) _)) (Abv.set (by omega) _)) (Abv.set (by omega) _)) (Abv.set (by omega) _)) (Abv.set (by omega) _)) (by omega)
 ·exact Below.setCell (Below.setCell (Below.setCell (Below.setCell (Below.setCell (Below.setCell (Below.setCell (B6) (by first | (simp; done) | (simp; omega)) _) (by first | (simp; done) | (simp; omega)) _) (by first | (simp; done) | (simp; omega)) _) (by first | (simp; done) | (simp; omega)) _) (by first | (simp; done) | (simp; omega)) _) (by first | (simp; done) | (simp; omega)) _) (by first | (simp; done) | (simp; omega)) _
set_option maxHeartbeats 4000000 in
theorem toLevels_p {v : Value} {xs : List Lv} {w : World} (h : SRow 6 LvR Lv.none 0 w v xs) (hs : xs.length ≤ 1048576 ∧ ∀ i, i < xs.length → SmL (xs.getD i Lv.none)) :
 Calls Tryz.prog 24 #[v] w fun e w' => ∃ v', e = .returned v' ∧ LRowP w.heap.size w' v' xs ∧ Below w.heap.size w w' := by
 obtain ⟨ao, n, cap, rfl, hn, hr⟩ := h
 have hsz : n ≤ 1048576 := by rw [← hn]; exact hs.1
 have HS : Hid (∀ i, i < xs.length → SmL (xs.getD i Lv.none)) := hs.2
 have HL : Hid (xs.length = n) := hn
 obtain ⟨i0, hi, hz0, hz1, hz2⟩ := info_parts Tryz.info45
 have HI : Hid (i0.bytes = 144) := hz2
 have HR : Hid (0 < n → ∃ b off, ao = some ⟨b, off, none⟩ ∧ 0 ≤ b ∧ b < w.heap.size ∧ ∀ i, i < n → ∃ cs : List Value, cs.length = 6 ∧ LvR 0 w cs (xs.getD i Lv.none) ∧ ∀ j, j < 6 → w.cell? ⟨b, off + i * 6 + j, none⟩ = cs[j]?) := hr
 clear hr hs hn
 go_enter Tryz.func24, Tryz.ntmps24
 go_wp2_with (first
  | (refine wpList_make_full _ rfl _ _ 28 rfl w.heap.size 45 i0 (.agg #[.slice none 0 0, .slice none 0 0, .slice none 0 0, .slice none 0 0, .slice none 0 0, .slice none 0 0]) 6 Tryz.underlying28 hi hz0 hz1 _ _ _ _ n rfl rfl rfl rfl (by rw [show i0.bytes = 144 from HI]; omega) (by unfold maxLen; omega) (Nat.le_refl _) ?_; intro w1 hown hgrow))
 have hbel : Below w.heap.size w w1 := Below.grown (Below.refl _ _) hgrow (Nat.le_refl _) (by simp)
 have HO : Hid (SPart 6 LvP Lv.none 45 w1 w.heap.size n 0 xs ∧ Below w.heap.size w w1) := by
  refine ⟨?_, hbel⟩
  rcases hown.2 with ⟨h', _⟩ | ⟨g', cap', cur, h', _, hg, _, _, hcs, _⟩
  ·simp at h'
  ·simp only [Value.slice.injEq, Option.some.injEq, Addr.mk.injEq, and_true, true_and] at h'
   obtain ⟨rfl, rfl⟩ := h'
   exact SPart.new hg hcs
 clear hown hgrow hbel
 go_wp2
 go_loopw [4] (fun i wr => ∃ k : Nat, k ≤ n ∧ i = .int .i64 k ∧ SPart 6 LvP Lv.none 45 wr w.heap.size n k xs ∧ Below w.heap.size w wr) (fun i _ => n - (intOf i).toNat)
 case atStart => exact ⟨0, by omega, rfl, HO.1, HO.2⟩
 case round =>
  obtain ⟨k, hk, rfl, hp, hbel⟩ := hrel
  by_cases hkn : k < n
  ·have hki : (k : Int) < (n : Int) := by omega
   obtain ⟨b, off, rfl, hlo, hb, hc⟩ := HR (by omega)
   have hfk : SmL (xs.getD k Lv.none) := HS k (by rw [show xs.length = n from HL]; exact hkn)
   obtain ⟨cs, hcl, hRel, hcj⟩ := hc k hkn
   obtain ⟨t, ht⟩ : ∃ t, t = xs.getD k Lv.none := ⟨_, rfl⟩
   rw [← ht] at hRel hfk
   have HT : Hid (t = xs.getD k Lv.none) := ht
   obtain ⟨e0, e1, e2, e3, e4, e5, rfl, i0, i1, i2, i3, i4, i5⟩ := hRel
   have hin : Six 0 w e0 e1 e2 e3 e4 e5 t := ⟨i0, i1, i2, i3, i4, i5⟩
   clear i0 i1 i2 i3 i4 i5
   obtain ⟨a0, c0, a1, c1, a2, c2, a3, c3, a4, c4, a5, c5, rfl, rfl, rfl, rfl, rfl, rfl⟩ := hin.shape
   have g0 : wr.cell? ⟨b, off + k * 6, none⟩ = some (.slice a0 t.cats.length c0) := (hbel.cell (p := ⟨b, off + k * 6, none⟩) hb).trans (hcj 0 (by omega))
   have g1 : wr.cell? ⟨b, off + k * 6 + 1, none⟩ = some (.slice a1 t.binds.length c1) := (hbel.cell (p := ⟨b, off + k * 6 + 1, none⟩) hb).trans (hcj 1 (by omega))
   have g2 : wr.cell? ⟨b, off + k * 6 + 2, none⟩ = some (.slice a2 t.counts.length c2) := (hbel.cell (p := ⟨b, off + k * 6 + 2, none⟩) hb).trans (hcj 2 (by omega))
   have g3 : wr.cell? ⟨b, off + k * 6 + 3, none⟩ = some (.slice a3 t.lens.length c3) := (hbel.cell (p := ⟨b, off + k * 6 + 3, none⟩) hb).trans (hcj 3 (by omega))
   have g4 : wr.cell? ⟨b, off + k * 6 + 4, none⟩ = some (.slice a4 t.glues.length c4) := (hbel.cell (p := ⟨b, off + k * 6 + 4, none⟩) hb).trans (hcj 4 (by omega))
   have g5 : wr.cell? ⟨b, off + k * 6 + 5, none⟩ = some (.slice a5 t.toks.length c5) := (hbel.cell (p := ⟨b, off + k * 6 + 5, none⟩) hb).trans (hcj 5 (by omega))
   have HB : Hid (Below w.heap.size w wr) := hbel
   have HP : Hid (SPart 6 LvP Lv.none 45 wr w.heap.size n k xs) := hp
   have HX : Hid (SmL t ∧ Six 0 wr (.slice a0 t.cats.length c0) (.slice a1 t.binds.length c1) (.slice a2 t.counts.length c2) (.slice a3 t.lens.length c3) (.slice a4 t.glues.length c4) (.slice a5 t.toks.length c5) t) := ⟨hfk, hin.below hbel⟩
   clear hc hcj hcl hbel ht hfk hp hin
   go_wp2_with (go_at_call 35; refine (toLevel_p HX.2 HX.1).mono ?_; rintro e w2 ⟨u0, u1, u2, u3, u4, u5, rfl, hin2, hb1⟩; obtain ⟨r0, d0, r1, d1, r2, d2, r3, d3, r4, d4, r5, d5, rfl, rfl, rfl, rfl, rfl, rfl⟩ := hin2.shape; have hp2 := SPart.below lpStable HP hb1; have hfz := hp2.free; obtain ⟨x0, hx0⟩ := hp2.cells (k * 6) (by omega); obtain ⟨x1, hx1⟩ := hp2.cells (k * 6 + 1) (by omega); obtain ⟨x2, hx2⟩ := hp2.cells (k * 6 + 2) (by omega); obtain ⟨x3, hx3⟩ := hp2.cells (k * 6 + 3) (by omega); obtain ⟨x4, hx4⟩ := hp2.cells (k * 6 + 4) (by omega); obtain ⟨x5, hx5⟩ := hp2.cells (k * 6 + 5) (by omega); have HP2 : Hid (SPart 6 LvP Lv.none 45 w2 w.heap.size n k xs ∧ Below w.heap.size w w2 ∧ LvP (w.heap.size + 1) w2 [.slice r0 t.cats.length d0, .slice r1 t.binds.length d1, .slice r2 t.counts.length d2, .slice r3 t.lens.length d3, .slice r4 t.glues.length d4, .slice r5 t.toks.length d5] t) := ⟨hp2, Below.trans HB (hb1.mono (Below.size HB)), lpStable.mono ⟨_, _, _, _, _, _, rfl, hin2.h0, hin2.h1, hin2.h2, hin2.h3, hin2.h4, hin2.h5⟩ (SPart.lt HP)⟩; clear hp2 hb1 hin2)
   go_roundw
   case rel => exact ⟨k + 1, by omega, by go_num, SPart.put lpStable HP2.1 hkn (cs := [.slice r0 t.cats.length d0, .slice r1 t.binds.length d1, .slice r2 t.counts.length d2, .slice r3 t.lens.length d3, .slice r4 t.glues.length d4, .slice r5 t.toks.length d5]) rfl (by rw [← show t = xs.getD k Lv.none from HT]; exact HP2.2.2), putC_below (Nat.le_refl _) [.slice r0 t.cats.length d0, .slice r1 t.binds.length d1, .slice r2 t.counts.length d2, .slice r3 t.lens.length d3, .slice r4 t.glues.length d4, .slice r5 t.toks.length d5] (k * 6) _ HP2.2.1⟩
   case measure => simp [intOf]; omega
  ·have hki : ¬ (k : Int) < (n : Int) := by omega
   obtain rfl : k = n := by omega
   have HP : Hid (SPart 6 LvP Lv.none 45 wr w.heap.size k k xs ∧ Below w.heap.size w wr) := ⟨hp, hbel⟩
   clear hp hbel
   go_wp2
   go_ret
   exact ⟨.slice (some ⟨w.heap.size, 0, none⟩) k k, rfl, ⟨w.heap.size, by rw [show xs.length = k from HL], Nat.le_refl _, by rw [show xs.length = k from HL]; exact HP.1⟩, HP.2⟩
set_option maxHeartbeats 2000000 in
theorem toEnv_p {v : Value} {xs : List Lv} {w : World} (h : LRow 0 w v xs) (hs : SmE xs) :
 Calls Tryz.prog 7 #[.agg #[v]] w fun e w' => ∃ v', e = .returned (.agg #[v']) ∧ LRowP w.heap.size w' v' xs ∧ Below w.heap.size w w' := by
 have HX : Hid (LRow 0 w v xs) := h
 obtain ⟨ao, cap, rfl⟩ := h.shape
 have HS : Hid (SmE xs) := hs
 clear h hs
 go_enter Tryz.func7, Tryz.ntmps7
 go_wp2_with fail
 refine (toLevels_p (SRow.below lvStable HX (below3 _ _ _ _)) HS).mono ?_
 rintro e w1 ⟨u, rfl, hp1, hb1⟩
 obtain ⟨a1, c1, rfl⟩ := hp1.shape
 have hz1 : w.heap.size + 1 + 1 < w1.heap.size := by have := hb1.size; simp at this; omega
 have hy1 : w.heap.size + 1 < w1.heap.size := by omega
 have hx1 : w.heap.size < w1.heap.size := by omega
 obtain ⟨hc1, hf1⟩ := bcell hb1
 have B1 : Hid (Below w.heap.size w w1) := below_more (below3 _ _ _ _) hb1 (by simp; omega)
 simp only [World.size_alloc, World.size_setCell] at hc1 hf1
 have P2 : Hid (LRowP (w.heap.size + 1 + 1 + 1) w1 (.slice a1 xs.length c1) xs) := hp1.mono lpStable (by simp)
 clear hb1 hp1
 go_wp2
 refine bodyPost_ret (v := .agg #[.slice a1 xs.length c1]) (by simp [results, Tryz.results7, go_sem, hc1, hx1, hy1, hz1]) rfl ⟨_, rfl, ?_, ?_⟩
 ·exact SRowP.mono lpStable (SRowP.abv lpStable (SRowP.abv lpStable P2 (Abv.set (by omega) _)) (Abv.set (by omega) _)) (by omega)
 ·exact Below.setCell (Below.setCell B1 (by first | (simp; done) | (simp; omega)) _) (by first | (simp; done) | (simp; omega)) _
end Go.Proofs.YtbpidcfoldkhgaaGreat

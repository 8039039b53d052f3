import Derived.Test.YtbpidcfoldkhgaaGreatDnm
import Derived.Test.YtbpidcfoldkhgaaGreatTks
import Derived.Test.YtbpidcfoldkhgaaGreatEsp
import Derived.Deep.RegionWith
namespace Go.Proofs.YtbpidcfoldkhgaaGreat
open Go.RowKit
set_option linter.unusedVariables false
set_option linter.unusedSimpArgs false
def dmpB (xs : List Lv) : List Int := if envB xs = true ∧ xs.length = 1 then lvlB (xs.getD 0 Lv.none) ++ endB (lvlB (xs.getD 0 Lv.none)) else []
structure LvX (w : World) (a0 a1 a2 a3 a4 a5 : Option Addr) (c0 c1 c2 c3 c4 c5 : Nat) (x : Lv) : Prop where
 h0 : Row w (.slice a0 x.cats.length c0) x.cats
 h1 : BRow 0 w (.slice a1 x.binds.length c1) x.binds
 h2 : Row w (.slice a2 x.counts.length c2) x.counts
 h3 : Row w (.slice a3 x.lens.length c3) x.lens
 h4 : GRow w (.slice a4 x.glues.length c4) x.glues
 h5 : TsRow 0 w (.slice a5 x.toks.length c5) x.toks
theorem LvX.below {w w' : World} {a0 a1 a2 a3 a4 a5 : Option Addr} {c0 c1 c2 c3 c4 c5 : Nat} {x : Lv} (h : LvX w a0 a1 a2 a3 a4 a5 c0 c1 c2 c3 c4 c5 x) (hb : Below w.heap.size w w') : LvX w' a0 a1 a2 a3 a4 a5 c0 c1 c2 c3 c4 c5 x :=
 ⟨h.h0.below hb, SRow.below bdStable h.h1 hb, h.h2.below hb, h.h3.below hb, h.h4.below hb, SRow.below tsStable h.h5 hb⟩
theorem lv_read {w : World} {cs : List Value} {x : Lv} (h : LvR 0 w cs x) : ∃ a0 a1 a2 a3 a4 a5 c0 c1 c2 c3 c4 c5, cs = [.slice a0 x.cats.length c0, .slice a1 x.binds.length c1, .slice a2 x.counts.length c2, .slice a3 x.lens.length c3, .slice a4 x.glues.length c4, .slice a5 x.toks.length c5] ∧ LvX w a0 a1 a2 a3 a4 a5 c0 c1 c2 c3 c4 c5 x := by
 obtain ⟨v0, v1, v2, v3, v4, v5, rfl, h0, h1, h2, h3, h4, h5⟩ := h
 obtain ⟨a0, c0, rfl⟩ := h0.shape
 obtain ⟨a1, c1, rfl⟩ := h1.shape
 obtain ⟨a2, c2, rfl⟩ := h2.shape
 obtain ⟨a3, c3, rfl⟩ := h3.shape
 obtain ⟨a4, c4, rfl⟩ := h4.shape
 obtain ⟨a5, c5, rfl⟩ := h5.shape
 exact ⟨a0, a1, a2, a3, a4, a5, c0, c1, c2, c3, c4, c5, rfl, h0.1, h1, h2.1, h3.1, h4.1, h5⟩
theorem BO.mono {b c : Nat} {w : World} {v : Value} {zs : List Int} (h : BO c w v zs) (hb : b ≤ c) : BO b w v zs := by
 rcases h with ⟨hl, h0 | ⟨g, cap, cur, rfl, hg0, hg, hr⟩⟩
 ·exact ⟨hl, .inl h0⟩
 ·exact ⟨hl, .inr ⟨g, cap, cur, rfl, Nat.le_trans hb hg0, hg, hr⟩⟩
theorem BO.new (w : World) (zs : List Int) (n : Nat) (hn : zs.length = n) (hl : n ≤ 1000) : BO w.heap.size (w.alloc (.cells ((zs.map (Value.int .u8)).toArray) 5)) (.slice (some ⟨w.heap.size, 0, none⟩) n n) zs := by
 subst hn
 exact ⟨by simp, .inr ⟨_, _, _, rfl, Nat.le_refl _, heap_alloc_new _ _, Nat.le_refl _, by unfold maxLen; omega, by simp, by rw [Nat.mul_one, List.toList_toArray, ← List.length_map (f := Value.int .u8), List.take_length]⟩⟩
structure LvB (w0 : World) (L : Nat) (a0 a1 a2 a3 a4 a5 : Option Addr) (c0 c1 c2 c3 c4 c5 : Nat) (x : Lv) : Prop where
 k : LvX w0 a0 a1 a2 a3 a4 a5 c0 c1 c2 c3 c4 c5 x
 l : L < w0.heap.size
 d0 : w0.cell? ⟨L, 0, none⟩ = some (.slice a0 x.cats.length c0)
 d1 : w0.cell? ⟨L, 1, none⟩ = some (.slice a1 x.binds.length c1)
 d2 : w0.cell? ⟨L, 2, none⟩ = some (.slice a2 x.counts.length c2)
 d3 : w0.cell? ⟨L, 3, none⟩ = some (.slice a3 x.lens.length c3)
 d4 : w0.cell? ⟨L, 4, none⟩ = some (.slice a4 x.glues.length c4)
 d5 : w0.cell? ⟨L, 5, none⟩ = some (.slice a5 x.toks.length c5)
theorem num_bytes : ∀ (f n : Nat), n < 128 ^ (f + 1) → BYs (numF f n)
 | 0, n, h => fun z hz => by
  have : z = (n : Int) := by simpa [numF] using hz
  simp at h
  omega
 | f + 1, n, h => fun z hz => by
  rw [numF] at hz
  split at hz
  ·have : z = (n : Int) := by simpa using hz
   omega
  ·rcases List.mem_cons.1 hz with rfl | hz
   ·omega
   ·refine num_bytes f (n / 128) ?_ z hz
    rw [Nat.pow_succ] at h
    exact Nat.div_lt_of_lt_mul (by rw [Nat.mul_comm]; exact h)
theorem numB_bytes {n : Nat} (h : n ≤ 4611686018427387903) : BYs (numB n) := num_bytes 9 n (n62 h)
theorem str_bytes (s : ByteArray) : BYs (strB s) := fun z hz => by
 unfold strB at hz
 obtain ⟨b, _, rfl⟩ := List.mem_map.1 hz
 have := b.toNat_lt
 omega
theorem BYs.app {a b : List Int} (h : BYs a) (k : BYs b) : BYs (a ++ b) := fun z hz => by
 rcases List.mem_append.1 hz with h1 | h1
 ·exact h z h1
 ·exact k z h1
theorem BYs.flat {α : Type} {f : α → List Int} {xs : List α} (h : ∀ x ∈ xs, BYs (f x)) : BYs (xs.flatMap f) := fun z hz => by
 obtain ⟨x, hx, hz2⟩ := List.mem_flatMap.1 hz
 exact h x hx z hz2
theorem BYs.cons {z : Int} {b : List Int} (h : 0 ≤ z ∧ z < 256) (k : BYs b) : BYs (z :: b) := fun y hy => by
 rcases List.mem_cons.1 hy with rfl | h1
 ·exact h
 ·exact k y h1
theorem BYs.nil : BYs [] := fun z hz => by cases hz
theorem sgn_bytes {x : Int} (h : -4294967296 ≤ x ∧ x ≤ 4294967296) : BYs (sgnB x) := numB_bytes (by unfold sgnN; split <;> omega)
theorem nam_bytes (s : ByteArray) (h : s.size ≤ 4611686018427387903) : BYs (namB s) := (numB_bytes h).app (str_bytes s)
theorem flat_mem_le {α : Type} {f : α → List Int} {xs : List α} {x : α} (h : x ∈ xs) : (f x).length ≤ (xs.flatMap f).length := by
 obtain ⟨a, b, rfl⟩ := List.append_of_mem h
 rw [List.flatMap_append, List.flatMap_cons, List.length_append, List.length_append]
 omega
theorem tk_bytes {t : Tk} (h : TkD t) (hl : (tkB t).length ≤ 70368744177664) : BYs (tkB t) := by
 unfold tkB at hl ⊢
 refine BYs.cons h.1 ?_
 by_cases h0 : t.c = 0
 ·rw [if_pos h0] at hl ⊢
  refine nam_bytes _ ?_
  unfold namB at hl
  rw [List.length_cons, List.length_append, strB_len] at hl
  omega
 ·rw [if_neg h0]
  exact BYs.cons (h.2 h0) BYs.nil
theorem rw_bytes {ts : List Tk} (h : ∀ t ∈ ts, TkD t) (hl : (rwB ts).length ≤ 70368744177664) : BYs (rwB ts) := by
 unfold rwB at hl ⊢
 rw [List.length_append] at hl
 have h1 : ts.length ≤ (ts.flatMap tkB).length := by
  clear hl h
  induction ts with
  | nil => simp
  | cons t ts ih =>
   have h2 : 1 ≤ (tkB t).length := by unfold tkB; simp
   rw [List.flatMap_cons, List.length_append, List.length_cons]
   omega
 exact (numB_bytes (by omega)).app (BYs.flat fun t ht => tk_bytes (h t ht) (by have := flat_mem_le (f := tkB) ht; omega))
theorem mn_bytes {m : Mn} (h : MnD m) (hl : (mnB m).length ≤ 70368744177664) : BYs (mnB m) := by
 unfold mnB at hl ⊢
 rw [List.length_cons] at hl
 rcases h with ⟨h1, h2, h3⟩ | ⟨h1, h2⟩ | ⟨h1, h2, h3, h4, h5⟩
 ·rw [if_pos h1]
  exact BYs.cons (by omega) (numB_bytes (by omega))
 ·have e : ¬ m.k = 1 := by omega
  rw [if_neg e, if_pos h1] at hl ⊢
  exact BYs.cons (by omega) (tk_bytes h2 (by omega))
 ·have e : ¬ m.k = 1 := by omega
  have e2 : ¬ m.k = 2 := by omega
  rw [if_neg e, if_neg e2] at hl ⊢
  unfold mcB at hl ⊢
  simp only [List.length_append] at hl
  exact BYs.cons (by omega) (((numB_bytes (by omega)).app (rw_bytes h4 (by omega))).app (rw_bytes h5 (by omega)))
theorem lvlB_bytes {x : Lv} (h : LvD x) : BYs (lvlB x) := by
 have hl := h.all
 unfold lvlB at hl ⊢
 simp only [List.length_append] at hl
 refine ((((((BYs.cons (by omega) (BYs.cons (by omega) (BYs.cons (by omega) (BYs.cons (by omega) BYs.nil)))).app h.c1).app ((numB_bytes (by have := h.b0; omega)).app (BYs.flat fun y hy => ?_))).app (BYs.flat fun z hz => sgn_bytes (h.n1 z hz))).app (BYs.flat fun z hz => sgn_bytes (h.l1 z hz))).app (BYs.flat fun g hg => ?_)).app (BYs.flat fun ts hts => ?_)
 ·have hm := flat_mem_le (f := bnB) hy
  unfold bnB at hm ⊢
  rw [List.length_append] at hm
  refine BYs.app (nam_bytes _ ?_) (mn_bytes (h.b1 y hy) (by unfold bnB at hl; omega))
  have h3 : (namB y.nm).length ≤ 70368744170000 := by unfold bnB at hl; omega
  unfold namB at h3
  rw [List.length_append, strB_len] at h3
  omega
 ·obtain ⟨⟨g1, g2, g3⟩, g4, g5⟩ := h.g1 g hg
  unfold guB
  exact (((sgn_bytes g1).app (sgn_bytes g2)).app (sgn_bytes g3)).app (BYs.cons (by omega) BYs.nil)
 ·have hm := flat_mem_le (f := rwB) hts
  exact rw_bytes (h.t1 ts hts).2 (by omega)
theorem GO.ne {v v' : Value} {W W' : World} {G : Nat} (h : GO v W v' W') (hn : v.ownBlock ≠ some G) (hl : G < W.heap.size) : v'.ownBlock ≠ some G := fun e => by
 rcases h.o G e with h1 | h1
 ·exact hn h1
 ·omega
structure StG (B G : Nat) (W3 w : World) (v : Value) (zs : List Int) (ob : Obj) : Prop where
 o : BO B w v zs
 n : v.ownBlock ≠ some G
 g : w.heap[G]? = some ob
 b : Below B W3 w
 l : G < w.heap.size
theorem StG.call {B G : Nat} {W3 w w' : World} {v v' : Value} {zs zs' : List Int} {ob : Obj} (h : StG B G W3 w v zs ob) (hg : GO v w v' w') (ho : BO B w' v' zs') (hB : B ≤ W3.heap.size) : StG B G W3 w' v' zs' ob :=
 ⟨ho, hg.ne h.n h.l, (hg.block h.l h.n).trans h.g, h.b.trans (hg.below h.o (Nat.le_trans hB h.b.size)), Nat.lt_of_lt_of_le h.l hg.size⟩
theorem StG.alloc {B G : Nat} {W3 w : World} {v : Value} {zs : List Int} {ob : Obj} (h : StG B G W3 w v zs ob) (hB : B ≤ W3.heap.size) (x : Obj) : StG B G W3 (w.alloc x) v zs ob :=
 h.call (GO.of_below (below1 _ _)) (h.o.alloc x) hB
structure RowR (R : Nat) (w : World) (v : Value) (x : Int) : Prop where
 c : w.cell? ⟨R, 0, none⟩ = some (.int .u8 x)
 n : v.ownBlock ≠ some R
 l : R < w.heap.size
theorem RowR.new {B : Nat} {w : World} {v : Value} {zs : List Int} (h : BO B w v zs) (x : Int) : RowR w.heap.size (w.alloc (.cells #[.int .u8 x] 5)) v x :=
 ⟨cell_new _ _ _, fun e => by have := (h.row _ e).2; omega, by simp⟩
theorem RowR.call {R : Nat} {w w' : World} {v v' : Value} {x : Int} (h : RowR R w v x) (hg : GO v w v' w') : RowR R w' v' x :=
 ⟨(World.cell?_of_block (w := w) (a := ⟨R, 0, none⟩) (hg.block h.l h.n)).trans h.c, hg.ne h.n h.l, Nat.lt_of_lt_of_le h.l hg.size⟩
theorem wp_byte {o : Oper} {a : Act} {w : World} {K : Act → World → Prop} {Q : Exit → Act → World → Prop} {base : Nat} {v : Value} {zs : List Int} {B : Nat} {x : Int} (s y : Operand) (ho : o.op = .call { callee := .builtin .append, args := #[s, y], argTypes := #[26, 26] }) (hs : a.eval s = v) (hy : a.eval y = .slice (some ⟨B, 0, none⟩) 1 1) (h : BO base w v zs)
 (hx : w.cell? ⟨B, 0, none⟩ = some (.int .u8 x)) (hb : base ≤ w.heap.size) (hl : zs.length + 1 ≤ 70368744177664) (hK : ∀ v' w', BO base w' v' (zs ++ [x]) → GO v w v' w' → K (a.put o.dst v') w') : Oper.wp Tryz.prog o a w K Q := by
 obtain ⟨i0, hi0, hz0, hz1, hz2⟩ := info_parts Tryz.info5
 obtain ⟨v', w', hr, ho', hg, _, hw⟩ := run_append_own_at (P := Tryz.prog) w base 26 o.type 5 i0 (.int .u8 0) 1 1 Tryz.underlying26 hi0 hz0 hz1 hz2 rfl (by decide) v zs.length (zs.map (Value.int .u8)) h ⟨B, 0, none⟩ 1 1 [.int .u8 x] rfl (fun j u hj => by
  match j, hj with
  | 0, hj =>
   simp at hj
   subst hj
   exact hx) (by intro u hu; simp at hu; subst hu; rfl) (by unfold maxLen; omega) (by omega) hb
 unfold Oper.wp execOp
 simp only [ho, resolve, invoke, builtin, Sem.run_bind, Sem.run_pure, Result.andThen_ok, List.map_toArray, List.map_cons, List.map_nil, hs, hy, hr]
 refine hK _ _ ?_ ⟨hg, fun q hq => ?_⟩
 ·unfold BO
  rw [List.length_append, List.length_singleton, List.map_append]
  exact ho'
 ·rcases hw with e | e
  ·exact .inl (e.symm.trans hq)
  ·rw [e] at hq
   have : w.heap.size = q := by simpa using hq
   exact .inr (by omega)
theorem take_snoc {α : Type} {xs : List α} {k : Nat} (d : α) (hk : k < xs.length) : xs.take (k + 1) = xs.take k ++ [xs.getD k d] := by
 rw [List.take_add_one, List.getElem?_eq_getElem hk]
 simp [List.getD_eq_getElem?_getD, List.getElem?_eq_getElem hk]
theorem hB2z {n : Nat} {A C : World} (h : Below n A C) (hn : n ≤ A.heap.size := by exact Nat.le_refl _) : n ≤ C.heap.size := Nat.le_trans hn h.size
theorem row_cell {w : World} {a : Option Addr} {n c k : Nat} {zs : List Int} (h : Row w (.slice a n c) zs) (hk : k < n) : ∃ b off, a = some ⟨b, off, none⟩ ∧ w.cell? ⟨b, off + k, none⟩ = some (.int .i64 (zs.getD k 0)) := by
 obtain ⟨b, off, e, _, _, hc⟩ := h.at (by omega)
 exact ⟨b, off, e, hc k hk⟩
theorem pre_len {α : Type} {f : α → List Int} {xs : List α} {P : List Int} {M k : Nat} (d : α) (h : (P ++ xs.flatMap f).length ≤ M) (hk : k < xs.length) : (P ++ (xs.take k).flatMap f).length + (f (xs.getD k d)).length ≤ M := by
 have := flat_le (f := f) d hk
 rw [List.length_append] at h ⊢
 omega
theorem LvB.below {w w' : World} {L : Nat} {a0 a1 a2 a3 a4 a5 : Option Addr} {c0 c1 c2 c3 c4 c5 : Nat} {x : Lv} (h : LvB w L a0 a1 a2 a3 a4 a5 c0 c1 c2 c3 c4 c5 x) (hb : Below w.heap.size w w') : LvB w' L a0 a1 a2 a3 a4 a5 c0 c1 c2 c3 c4 c5 x :=
 ⟨h.k.below hb, Nat.lt_of_lt_of_le h.l hb.size, (hb.cell (p := ⟨L, 0, none⟩) h.l).trans h.d0, (hb.cell (p := ⟨L, 1, none⟩) h.l).trans h.d1, (hb.cell (p := ⟨L, 2, none⟩) h.l).trans h.d2, (hb.cell (p := ⟨L, 3, none⟩) h.l).trans h.d3, (hb.cell (p := ⟨L, 4, none⟩) h.l).trans h.d4, (hb.cell (p := ⟨L, 5, none⟩) h.l).trans h.d5⟩
set_option maxRecDepth 20000 in
set_option maxHeartbeats 8000000 in
theorem specDump_any {v : Value} {xs : List Lv} {w : World} (h : LRow 0 w v xs) (hs : SmE xs) :
 Calls Tryz.prog 6 #[.agg #[v]] w fun e W' => (∃ u, e = .returned u ∧ BO w.heap.size W' u (dmpB xs)) ∧ Below w.heap.size w W' := by
 have EC : Hid (∀ W, Below w.heap.size w W → Calls Tryz.prog 17 #[.agg #[v]] W fun e w' => e = .returned (.bool (envB xs)) ∧ Below W.heap.size W w') := hideP (fun W hW => specEnvOk_any (SRow.below lvStable h hW) hs)
 obtain ⟨ao, n, cap, rfl, hn, hr⟩ := h
 have HR := hideP hr
 have HN := hideP hn
 obtain ⟨D, hD⟩ : ∃ D, D = dmpB xs := ⟨_, rfl⟩
 rw [← hD]
 have HD := hideP hD
 obtain ⟨eb, heb⟩ : ∃ b, b = envB xs := ⟨_, rfl⟩
 rw [← heb] at EC
 have HEB := hideP heb
 clear hr hn hD heb hs
 go_enter Tryz.func6, Tryz.ntmps6
 go_wp2_with fail
 refine (EC.out _ (below1 _ _)).mono ?_
 rintro e w1 ⟨rfl, hb1⟩
 obtain ⟨W1, hW1⟩ : ∃ X, X = w.alloc (.cells #[.slice ao n cap] 30) := ⟨_, rfl⟩
 rw [← hW1] at hb1
 have hz1 : w.heap.size < W1.heap.size := by rw [hW1]; simp
 have e0 : W1.heap[w.heap.size]? = some (.cells #[.slice ao n cap] 30 (0, 0)) := by rw [hW1]; exact heap_alloc_new _ _
 have q0 := (hb1.block _ hz1).trans e0
 have c0 : w1.cell? ⟨w.heap.size, 0, none⟩ = some (.slice ao n cap) := by rw [cell_of_row _ _ _ _ 30 _ q0]; rfl
 have bW1 : Below w.heap.size w W1 := by rw [hW1]; exact below1 _ _
 have B1 := hideP (below_more bW1 hb1 bW1.size)
 have hz : w.heap.size ≤ w1.heap.size := B1.out.size
 clear hb1 hW1 hz1 e0 q0 bW1 EC
 cases eb with
 | false =>
  have HE : Hid (D = []) := hideP (by rw [HD.out]; unfold dmpB; rw [if_neg (fun h => by rw [← HEB.out] at h; exact absurd h.1 (by decide))])
  go_wp2
  go_ret
  rw [HE.out]
  exact ⟨⟨_, rfl, (BO.new w1 [] 0 rfl (by omega)).mono hz⟩, B1.out.alloc hz _⟩
 | true =>
  by_cases hn1 : n = 1
  ·subst hn1
   obtain ⟨b, off, rfl, _, hbl, hcx⟩ := HR.out (by omega)
   obtain ⟨cs, hcl, hlv, hcj⟩ := hcx 0 (by omega)
   obtain ⟨x, hx⟩ : ∃ x, x = xs.getD 0 Lv.none := ⟨_, rfl⟩
   rw [← hx] at hlv
   have hok : levB x = true := by
    have h1 := HEB.out.symm
    unfold envB at h1
    simp only [Bool.and_eq_true] at h1
    rw [hx]
    exact all_in h1.2 _ (getD_in _ (by rw [HN.out]; omega))
   have HDE : Hid (D = lvlB x ++ endB (lvlB x)) := hideP (by rw [HD.out]; unfold dmpB; rw [if_pos ⟨HEB.out.symm, HN.out⟩, ← hx])
   have LD := hideP (levB_d hok)
   obtain ⟨a0, a1, a2, a3, a4, a5, p0, p1, p2, p3, p4, p5, rfl, hlx⟩ := lv_read hlv
   have hlx1 := hlx.below B1.out
   have cj : ∀ j, j < 6 → w1.cell? ⟨b, off + j, none⟩ = [Value.slice a0 x.cats.length p0, .slice a1 x.binds.length p1, .slice a2 x.counts.length p2, .slice a3 x.lens.length p3, .slice a4 x.glues.length p4, .slice a5 x.toks.length p5][j]? := fun j hj => by
    have h1 := hcj j hj
    rw [show off + 0 * 6 + j = off + j by omega] at h1
    exact (B1.out.cell (p := ⟨b, off + j, none⟩) hbl).trans h1
   have j0 : w1.cell? ⟨b, off, none⟩ = some (.slice a0 x.cats.length p0) := cj 0 (by omega)
   have j1 : w1.cell? ⟨b, off + 1, none⟩ = some (.slice a1 x.binds.length p1) := cj 1 (by omega)
   have j2 : w1.cell? ⟨b, off + 2, none⟩ = some (.slice a2 x.counts.length p2) := cj 2 (by omega)
   have j3 : w1.cell? ⟨b, off + 3, none⟩ = some (.slice a3 x.lens.length p3) := cj 3 (by omega)
   have j4 : w1.cell? ⟨b, off + 4, none⟩ = some (.slice a4 x.glues.length p4) := cj 4 (by omega)
   have j5 : w1.cell? ⟨b, off + 5, none⟩ = some (.slice a5 x.toks.length p5) := cj 5 (by omega)
   have HLX := hideP hlx1
   obtain ⟨N1, hN1⟩ : ∃ n, n = x.binds.length := ⟨_, rfl⟩
   have e0 : x.cats.length = 256 := LD.out.c0
   have e2 : x.counts.length = 32 := LD.out.n0
   have e3 : x.lens.length = 32 := LD.out.l0
   have e4 : x.glues.length = 32 := LD.out.g0
   have e5 : x.toks.length = 32 := LD.out.t0
   have HE6 := hideP (And.intro e0 (And.intro hN1 (And.intro e2 (And.intro e3 (And.intro e4 e5)))))
   rw [e0] at j0; rw [← hN1] at j1; rw [e2] at j2; rw [e3] at j3; rw [e4] at j4; rw [e5] at j5
   clear cj hcj hlx hlx1 hcx hok hx hlv e0 e2 e3 e4 e5 HR HEB hN1 hcl
   obtain ⟨P1, hP1⟩ : ∃ P, P = [81, 70, 77, 49] ++ x.cats := ⟨_, rfl⟩
   obtain ⟨P2, hP2⟩ : ∃ P, P = P1 ++ numB x.binds.length := ⟨_, rfl⟩
   obtain ⟨P3, hP3⟩ : ∃ P, P = P2 ++ x.binds.flatMap bnB := ⟨_, rfl⟩
   obtain ⟨P4, hP4⟩ : ∃ P, P = P3 ++ x.counts.flatMap sgnB := ⟨_, rfl⟩
   obtain ⟨P5, hP5⟩ : ∃ P, P = P4 ++ x.lens.flatMap sgnB := ⟨_, rfl⟩
   obtain ⟨P6, hP6⟩ : ∃ P, P = P5 ++ x.glues.flatMap guB := ⟨_, rfl⟩
   have hP7 : lvlB x = P6 ++ x.toks.flatMap rwB := by
    rw [hP6, hP5, hP4, hP3, hP2, hP1]
    unfold lvlB
    simp only [List.append_assoc]
   have LM : Hid (P1.length ≤ 70368744170000 ∧ P2.length ≤ 70368744170000 ∧ P3.length ≤ 70368744170000 ∧ P4.length ≤ 70368744170000 ∧ P5.length ≤ 70368744170000 ∧ P6.length ≤ 70368744170000 ∧ (P6 ++ x.toks.flatMap rwB).length ≤ 70368744170000) := hideP (by
    have h := LD.out.all
    rw [hP7] at h
    have g7 := h
    rw [hP6] at h
    simp only [List.length_append] at h
    have g6 : P6.length = P5.length + (x.glues.flatMap guB).length := by rw [hP6, List.length_append]
    have g5 : P5.length = P4.length + (x.lens.flatMap sgnB).length := by rw [hP5, List.length_append]
    have g4 : P4.length = P3.length + (x.counts.flatMap sgnB).length := by rw [hP4, List.length_append]
    have g3 : P3.length = P2.length + (x.binds.flatMap bnB).length := by rw [hP3, List.length_append]
    have g2 : P2.length = P1.length + (numB x.binds.length).length := by rw [hP2, List.length_append]
    refine ⟨?_, ?_, ?_, ?_, ?_, ?_, g7⟩ <;> omega)
   have HP1 := hideP hP1
   have HP2 := hideP hP2
   have HP3 := hideP hP3
   have HP4 := hideP hP4
   have HP5 := hideP hP5
   have HP6 := hideP hP6
   have HP7 := hideP hP7
   clear hP1 hP2 hP3 hP4 hP5 hP6 hP7
   go_upto_region 4 with fail
   obtain ⟨W3, hW3⟩ : ∃ X, X = w1.alloc (.cells #[.slice a0 256 p0, .slice a1 N1 p1, .slice a2 32 p2, .slice a3 32 p3, .slice a4 32 p4, .slice a5 32 p5] 45) := ⟨_, rfl⟩
   rw [← hW3]
   have b3 : Below w1.heap.size w1 W3 := by rw [hW3]; exact below1 _ _
   have z3 : W3.heap.size = w1.heap.size + 1 := by rw [hW3]; simp
   have q3 : W3.heap[w1.heap.size]? = some (.cells #[.slice a0 256 p0, .slice a1 N1 p1, .slice a2 32 p2, .slice a3 32 p3, .slice a4 32 p4, .slice a5 32 p5] 45 (0, 0)) := by rw [hW3]; exact heap_alloc_new _ _
   obtain ⟨L, hL⟩ : ∃ L, L = w1.heap.size := ⟨_, rfl⟩
   rw [← hL] at q3 z3 b3
   rw [← hL]
   have HV : Hid (LvB W3 L a0 a1 a2 a3 a4 a5 p0 p1 p2 p3 p4 p5 x) := hideP (by
    obtain ⟨e0, e1, e2, e3, e4, e5⟩ := HE6.out
    refine ⟨HLX.out.below (by rw [← hL]; exact b3), by omega, ?_, ?_, ?_, ?_, ?_, ?_⟩
    ·rw [cell_of_row _ _ _ _ 45 _ q3, e0]; rfl
    ·rw [cell_of_row _ _ _ _ 45 _ q3, ← e1]; rfl
    ·rw [cell_of_row _ _ _ _ 45 _ q3, e2]; rfl
    ·rw [cell_of_row _ _ _ _ 45 _ q3, e3]; rfl
    ·rw [cell_of_row _ _ _ _ 45 _ q3, e4]; rfl
    ·rw [cell_of_row _ _ _ _ 45 _ q3, e5]; rfl)
   have B3 : Hid (Below w.heap.size w W3) := hideP (B1.out.trans (b3.mono (by omega)))
   have hz3 : w.heap.size ≤ W3.heap.size := B3.out.size
   clear hW3 b3 q3 j0 j1 j2 j3 j4 j5 c0 hL HLX HN z3
   have hcv := conv_mark (W3.alloc (.cells #[.int .u8 81, .int .u8 70, .int .u8 77, .int .u8 49] 5)) (heap_alloc_new W3 (.cells #[.int .u8 81, .int .u8 70, .int .u8 77, .int .u8 49] 5)) 4 4
   go_upto_region 5 with fail
   obtain ⟨W4, hW4⟩ : ∃ X, X = (W3.alloc (.cells #[.int .u8 81, .int .u8 70, .int .u8 77, .int .u8 49] 5)).freeze ⟨W3.heap.size, 4, none⟩ 1 := ⟨_, rfl⟩
   rw [← hW4]
   have b4 : Below W3.heap.size W3 W4 := by rw [hW4]; exact (below1 _ _).trans (below_freeze _ ⟨W3.heap.size, 4, none⟩)
   have hz4 : W3.heap.size + 1 = W4.heap.size := by rw [hW4, freeze_size]; simp
   have H4 : Hid (∀ j, j < 4 → W4.cell? ⟨W3.heap.size, j, none⟩ = some (.int .u8 (([81, 70, 77, 49] : List Int).getD j 0))) := hideP (fun j hj => by
    rw [hW4, freeze_cell, cell_of_row _ _ _ _ 5 _ (heap_alloc_new _ _)]
    match j, hj with
    | 0, _ | 1, _ | 2, _ | 3, _ => rfl)
   have HLV : Hid (∀ X, Below W3.heap.size W3 X → LvB X L a0 a1 a2 a3 a4 a5 p0 p1 p2 p3 p4 p5 x) := hideP (fun X hX => HV.out.below hX)
   have B4 := hideP b4
   clear hW4 hcv b4
   go_wp2
   go_loopw [4, 5] (fun s4 sc wr => ∃ k : Nat, sc = .int .i64 (k : Int) ∧ k ≤ 256 ∧ ((k = 0 ∧ s4 = .slice (some ⟨W3.heap.size, 0, none⟩) 4 4 ∧ wr = W4) ∨ (0 < k ∧ BO W3.heap.size wr s4 ([81, 70, 77, 49] ++ x.cats.take k))) ∧ Below W3.heap.size W3 wr) (fun _ s _ => 256 - (intOf s).toNat)
   case atStart => exact ⟨0, rfl, by omega, .inl ⟨rfl, rfl, rfl⟩, B4.out⟩
   case round =>
    obtain ⟨k, rfl, hk, hcase, hB⟩ := hrel
    by_cases hkn : k < 256
    ·have hki : (k : Int) < (256 : Int) := by omega
     have lv := HLV.out wr hB
     have hd := lv.d0
     rw [HE6.out.1] at hd
     have hrw := lv.k.h0
     rw [HE6.out.1] at hrw
     obtain ⟨bx, ox, rfl, hc⟩ := row_cell hrw hkn
     have hzr := LD.out.c1 _ (getD_in (0 : Int) (show k < x.cats.length by rw [HE6.out.1]; exact hkn))
     have HTK := hideP (take_snoc (xs := x.cats) (k := k) (0 : Int) (by rw [HE6.out.1]; exact hkn))
     obtain ⟨z, hz⟩ : ∃ z, z = x.cats.getD k 0 := ⟨_, rfl⟩
     rw [← hz] at hc hzr HTK
     obtain ⟨z0, z1⟩ := hzr
     have HB := hideP hB
     clear lv hrw hz hB
     rcases hcase with ⟨hk0, rfl, rfl⟩ | ⟨hk0, ho⟩
     ·have HK0 := hideP hk0
      clear hk0
      go_wp2_with (at_builtin; refine wpList_first (base := W3.heap.size) (zs := [81, 70, 77, 49]) rfl _ _ rfl rfl rfl rfl (fun j hj => ?fc) (cell_new _ _ _) (by simp; omega) (by omega) ?_)
      case fc =>
       have h1 := H4.out j hj
       exact ((below1 wr _).cell (p := ⟨W3.heap.size, j, none⟩) (by show W3.heap.size < _; omega)).trans h1
      intro v2 w2 ho2 hb2
      have O2 := hideP ho2
      have B2 : Hid (Below W3.heap.size W3 w2) := hideP (by
       refine HB.out.trans (Below.trans ?_ (Below.mono hb2 ?_))
       ·exact (below1 _ _).mono (by omega)
       ·first | omega | (simp; omega))
      obtain ⟨a9, n9, p9, rfl⟩ := BO.shp ho2
      clear ho2 hb2
      go_wp2
      go_roundw
      case rel =>
       refine ⟨k + 1, by simp, by omega, .inr ⟨by omega, ?_⟩, B2.out⟩
       rw [HTK.out, show x.cats.take k = [] by rw [HK0.out]; rfl]
       exact O2.out
      case measure => simp only [intOf]; omega
     ·have HO := hideP ho
      have hlen : ([81, 70, 77, 49] ++ x.cats.take k : List Int).length + 1 ≤ 70368744177664 := by
       rw [List.length_append, List.length_take]
       simp only [List.length_cons, List.length_nil]
       omega
      have HLN := hideP hlen
      obtain ⟨a9, n9, p9, rfl⟩ := BO.shp ho
      have hbs := hB2z HB.out
      clear ho hlen
      go_wp2_with (at_builtin; refine wpList_byte rfl _ _ rfl rfl rfl (BO.alloc HO.out _) (cell_new _ _ _) (by simp; omega) HLN.out ?_)
      intro v2 w2 ho2 hb2
      have O2 := hideP ho2
      have B2 : Hid (Below W3.heap.size W3 w2) := hideP (HB.out.trans (((GO.of_below (below1 wr _)).trans hb2).below HO.out hbs))
      obtain ⟨a9, n9, p9, rfl⟩ := BO.shp ho2
      clear ho2 hb2
      go_wp2
      go_roundw
      case rel =>
       refine ⟨k + 1, by simp, by omega, .inr ⟨by omega, ?_⟩, B2.out⟩
       rw [HTK.out, ← List.append_assoc]
       exact O2.out
      case measure => simp only [intOf]; omega
    ·obtain rfl : k = 256 := by omega
     have hki : ¬ ((256 : Nat) : Int) < (256 : Int) := by omega
     rcases hcase with ⟨h0, _⟩ | ⟨_, ho⟩
     ·omega
     have hl1 : x.cats.take 256 = x.cats := List.take_of_length_le (by rw [HE6.out.1]; exact Nat.le_refl _)
     rw [hl1, ← HP1.out] at ho
     have lv := HLV.out wr hB
     have hd := lv.d1
     rw [← HE6.out.2.1] at hd
     have HB := hideP hB
     have CT : Hid (∀ s, BO W3.heap.size wr s P1 → Calls Tryz.prog 18 #[s, .int .u64 (N1 : Int)] wr fun e W' => PutQ W3.heap.size s wr P2 e W') := hideP (fun s ho => by
      have h2 := LM.out.2.1
      have hb0 := LD.out.b0
      have he := HE6.out.2.1
      rw [HP2.out, ← he] at h2 ⊢
      exact l15Num_any ho HB.out.size (by omega) (by rw [List.length_append] at h2; omega))
     have hN5 : N1 ≤ 500 := by have := LD.out.b0; have := HE6.out.2.1; omega
     have HO := hideP ho
     obtain ⟨a7, n7, p7, rfl⟩ := BO.shp ho
     clear ho hB lv hl1
     go_wp2_with fail
     refine (CT.out _ HO.out).mono ?_
     rintro e w5 ⟨v5, rfl, ho5, hb5⟩
     have OI := hideP ho5
     have BI : Hid (Below W3.heap.size W3 w5) := hideP (HB.out.trans (hb5.below HO.out HB.out.size))
     obtain ⟨a8, n8, p8, rfl⟩ := BO.shp ho5
     clear ho5 hb5 CT HO HB hd
     go_wp2
     go_loopw [4, 6] (fun s4 sc wr => ∃ k : Nat, sc = .int .i64 (k : Int) ∧ k ≤ N1 ∧ BO W3.heap.size wr s4 (P2 ++ (x.binds.take k).flatMap bnB) ∧ Below W3.heap.size W3 wr) (fun _ s _ => N1 - (intOf s).toNat)
     case atStart => exact ⟨0, rfl, by omega, by rw [List.take_zero, List.flatMap_nil, List.append_nil]; exact OI.out, BI.out⟩
     clear OI BI
     case round =>
      obtain ⟨k, rfl, hk, ho, hB⟩ := hrel
      have lv := HLV.out wr hB
      have hd := lv.d1
      rw [← HE6.out.2.1] at hd
      by_cases hkn : k < N1
      ·have hki : (k : Int) < (N1 : Int) := by omega
       have hkl : k < x.binds.length := by rw [← HE6.out.2.1]; exact hkn
       obtain ⟨bx, ox, rfl, hbl, _, hcx⟩ := BRow.at lv.k.h1 (by omega)
       obtain ⟨vp, vb, tp, tb, _⟩ := hcx k hkl
       obtain ⟨y, hy⟩ : ∃ y, y = x.binds.getD k Bd.none := ⟨_, rfl⟩
       have hle := pre_len (f := bnB) (xs := x.binds) (P := P2) Bd.none (by rw [← HP3.out]; exact LM.out.2.2.1) hkl
       have htf := take_flat (f := bnB) (ts := x.binds) (k := k) Bd.none hkl
       have hmd := LD.out.b1 _ (getD_in Bd.none hkl)
       rw [← hy] at hle htf hmd
       obtain ⟨BS, hBS⟩ : ∃ z, z = P2 ++ (x.binds.take k).flatMap bnB := ⟨_, rfl⟩
       have hnx : P2 ++ (x.binds.take (k + 1)).flatMap bnB = BS ++ namB y.nm ++ mnB y.m := by
        rw [htf, hBS]
        show _ = _ ++ namB y.nm ++ mnB y.m
        unfold bnB
        simp only [List.append_assoc]
       have HNX := hideP hnx
       rw [← hBS] at ho hle
       have hle2 : BS.length + ((namB y.nm).length + (mnB y.m).length) ≤ 70368744170000 := by
        unfold bnB at hle
        rw [List.length_append] at hle
        exact hle
       have RX0 : Hid (∀ X, Below W3.heap.size W3 X → ∃ vp vb, TRow X vp y.m.p ∧ TRow X vb y.m.b ∧ X.cell? ⟨L, 1, none⟩ = some (.slice (some ⟨bx, ox, none⟩) N1 p1) ∧
        X.cell? ⟨bx, ox + k * 9, none⟩ = some (.string y.nm) ∧ X.cell? ⟨bx, ox + k * 9 + 1, none⟩ = some (.int .i64 y.m.k) ∧ X.cell? ⟨bx, ox + k * 9 + 2, none⟩ = some (.int .i64 y.m.n) ∧ X.cell? ⟨bx, ox + k * 9 + 3, none⟩ = some (.int .i64 y.m.t.c) ∧ X.cell? ⟨bx, ox + k * 9 + 4, none⟩ = some (.int .i64 y.m.t.h) ∧ X.cell? ⟨bx, ox + k * 9 + 5, none⟩ = some (.string y.m.t.s) ∧ X.cell? ⟨bx, ox + k * 9 + 6, none⟩ = some vp ∧ X.cell? ⟨bx, ox + k * 9 + 7, none⟩ = some (.int .i64 y.m.sl) ∧ X.cell? ⟨bx, ox + k * 9 + 8, none⟩ = some vb) := hideP (fun X hX => by
        have lvX := HLV.out X hX
        have hdX := lvX.d1
        rw [← HE6.out.2.1] at hdX
        obtain ⟨b2, o2, e2, _, _, hc2⟩ := BRow.at lvX.k.h1 (by omega)
        simp only [Option.some.injEq, Addr.mk.injEq, and_true] at e2
        obtain ⟨rfl, rfl⟩ := e2
        obtain ⟨vp, vb, t1, t2, hcc⟩ := hc2 k hkl
        rw [← hy] at t1 t2 hcc
        exact ⟨vp, vb, t1, t2, hdX, hcc⟩)
       obtain ⟨vp, vb, tp, tb, hcc⟩ := RX0.out W3 (Below.refl _ _)
       have TP := hideP tp
       have TB := hideP tb
       have RX : Hid (∀ X, Below W3.heap.size W3 X → X.cell? ⟨L, 1, none⟩ = some (.slice (some ⟨bx, ox, none⟩) N1 p1) ∧
        X.cell? ⟨bx, ox + k * 9, none⟩ = some (.string y.nm) ∧ X.cell? ⟨bx, ox + k * 9 + 1, none⟩ = some (.int .i64 y.m.k) ∧ X.cell? ⟨bx, ox + k * 9 + 2, none⟩ = some (.int .i64 y.m.n) ∧ X.cell? ⟨bx, ox + k * 9 + 3, none⟩ = some (.int .i64 y.m.t.c) ∧ X.cell? ⟨bx, ox + k * 9 + 4, none⟩ = some (.int .i64 y.m.t.h) ∧ X.cell? ⟨bx, ox + k * 9 + 5, none⟩ = some (.string y.m.t.s) ∧ X.cell? ⟨bx, ox + k * 9 + 6, none⟩ = some vp ∧ X.cell? ⟨bx, ox + k * 9 + 7, none⟩ = some (.int .i64 y.m.sl) ∧ X.cell? ⟨bx, ox + k * 9 + 8, none⟩ = some vb) := hideP (fun X hX => by
        have bl3 : bx < W3.heap.size := World.block_lt_of_cell? W3 _ hcc.2.1
        have blL : L < W3.heap.size := World.block_lt_of_cell? W3 _ hcc.1
        obtain ⟨h0, h1, h2, h3, h4, h5, h6, h7, h8, h9⟩ := hcc
        exact ⟨(hX.cell (p := ⟨L, 1, none⟩) blL).trans h0, (hX.cell (p := ⟨bx, ox + k * 9, none⟩) bl3).trans h1, (hX.cell (p := ⟨bx, ox + k * 9 + 1, none⟩) bl3).trans h2, (hX.cell (p := ⟨bx, ox + k * 9 + 2, none⟩) bl3).trans h3, (hX.cell (p := ⟨bx, ox + k * 9 + 3, none⟩) bl3).trans h4, (hX.cell (p := ⟨bx, ox + k * 9 + 4, none⟩) bl3).trans h5, (hX.cell (p := ⟨bx, ox + k * 9 + 5, none⟩) bl3).trans h6, (hX.cell (p := ⟨bx, ox + k * 9 + 6, none⟩) bl3).trans h7, (hX.cell (p := ⟨bx, ox + k * 9 + 7, none⟩) bl3).trans h8, (hX.cell (p := ⟨bx, ox + k * 9 + 8, none⟩) bl3).trans h9⟩)
       have C20 : Hid (∀ v' w', BO W3.heap.size w' v' BS → W3.heap.size ≤ w'.heap.size → Calls Tryz.prog 20 #[v', .string y.nm] w' fun e W' => PutQ W3.heap.size v' w' (BS ++ namB y.nm) e W') := hideP (fun v' w' h1 h2 => l16Name_any h1 h2 (by omega))
       have C19 : Hid (∀ v' w', BO W3.heap.size w' v' (BS ++ namB y.nm) → Below W3.heap.size W3 w' → Calls Tryz.prog 19 #[v', .agg #[.int .i64 y.m.k, .int .i64 y.m.n, .int .i64 y.m.t.c, .int .i64 y.m.t.h, .string y.m.t.s, vp, .int .i64 y.m.sl, vb]] w' fun e W' => PutQ W3.heap.size v' w' (BS ++ namB y.nm ++ mnB y.m) e W') := hideP (fun v' w' h1 h2 => l16Mean_any (w0 := W3) h1 h2.size TP.out TB.out h2 (Nat.le_refl _) hmd (by rw [List.length_append]; omega))
       have HB := hideP hB
       have HO := hideP ho
       obtain ⟨a9, n9, p9, rfl⟩ := BO.shp ho
       obtain ⟨yn, ym⟩ := y
       obtain ⟨mk, mn, mt, mp, ms, mb⟩ := ym
       obtain ⟨tc, th, ts⟩ := mt
       simp only at RX C20 C19
       clear ho hB lv hcx hy hle htf hmd hBS hnx hle2 RX0 hcc tp tb TP TB
       go_upto_region 13 with fail
       refine wp_region_noPanic ?_
       refine wp_region_held_drew (S := fun Y => Below W3.heap.size W3 Y) (by kernel_rfl) (Below.drew HB.out) (fun hS => ?_)
       refine tkS (i := 0) (v := .slice a9 n9 p9) rfl hS ?_ (hr := fun wx hx => by go_simp)
       try simp only [Act.put, List.getElem_toArray, List.getElem_cons_zero, List.getElem_cons_succ, List.setIfInBounds_toArray, List.set_cons_zero, List.set_cons_succ]
       refine tkS (i := 1) (v := .pointer (some ⟨L, 1, none⟩)) rfl hS ?_ (hr := fun wx hx => by go_simp)
       try simp only [Act.put, List.getElem_toArray, List.getElem_cons_zero, List.getElem_cons_succ, List.setIfInBounds_toArray, List.set_cons_zero, List.set_cons_succ]
       refine tkS (i := 2) (v := .slice (some ⟨bx, ox, none⟩) N1 p1) rfl hS ?_ (hr := fun wx hx => by obtain ⟨h0, h1, h2, h3, h4, h5, h6, h7, h8, h9⟩ := RX.out wx hx; go_simp)
       try simp only [Act.put, List.getElem_toArray, List.getElem_cons_zero, List.getElem_cons_succ, List.setIfInBounds_toArray, List.set_cons_zero, List.set_cons_succ]
       refine tkS (i := 3) (v := .int .i64 (k : Int)) rfl hS ?_ (hr := fun wx hx => by go_simp)
       try simp only [Act.put, List.getElem_toArray, List.getElem_cons_zero, List.getElem_cons_succ, List.setIfInBounds_toArray, List.set_cons_zero, List.set_cons_succ]
       refine tkS (i := 4) (v := .pointer (some ⟨bx, ox + k * 9, none⟩)) rfl hS ?_ (hr := fun wx hx => by go_simp)
       try simp only [Act.put, List.getElem_toArray, List.getElem_cons_zero, List.getElem_cons_succ, List.setIfInBounds_toArray, List.set_cons_zero, List.set_cons_succ]
       refine tkS (i := 5) (v := .pointer (some ⟨bx, ox + k * 9, none⟩)) rfl hS ?_ (hr := fun wx hx => by go_simp)
       try simp only [Act.put, List.getElem_toArray, List.getElem_cons_zero, List.getElem_cons_succ, List.setIfInBounds_toArray, List.set_cons_zero, List.set_cons_succ]
       refine tkS (i := 6) (v := .string yn) rfl hS ?_ (hr := fun wx hx => by obtain ⟨h0, h1, h2, h3, h4, h5, h6, h7, h8, h9⟩ := RX.out wx hx; go_simp)
       try simp only [Act.put, List.getElem_toArray, List.getElem_cons_zero, List.getElem_cons_succ, List.setIfInBounds_toArray, List.set_cons_zero, List.set_cons_succ]
       refine tkS (i := 8) (v := .pointer (some ⟨L, 1, none⟩)) rfl hS ?_ (hr := fun wx hx => by go_simp)
       try simp only [Act.put, List.getElem_toArray, List.getElem_cons_zero, List.getElem_cons_succ, List.setIfInBounds_toArray, List.set_cons_zero, List.set_cons_succ]
       refine tkS (i := 9) (v := .slice (some ⟨bx, ox, none⟩) N1 p1) rfl hS ?_ (hr := fun wx hx => by obtain ⟨h0, h1, h2, h3, h4, h5, h6, h7, h8, h9⟩ := RX.out wx hx; go_simp)
       try simp only [Act.put, List.getElem_toArray, List.getElem_cons_zero, List.getElem_cons_succ, List.setIfInBounds_toArray, List.set_cons_zero, List.set_cons_succ]
       refine tkS (i := 10) (v := .int .i64 (k : Int)) rfl hS ?_ (hr := fun wx hx => by go_simp)
       try simp only [Act.put, List.getElem_toArray, List.getElem_cons_zero, List.getElem_cons_succ, List.setIfInBounds_toArray, List.set_cons_zero, List.set_cons_succ]
       refine tkS (i := 11) (v := .pointer (some ⟨bx, ox + k * 9, none⟩)) rfl hS ?_ (hr := fun wx hx => by go_simp)
       try simp only [Act.put, List.getElem_toArray, List.getElem_cons_zero, List.getElem_cons_succ, List.setIfInBounds_toArray, List.set_cons_zero, List.set_cons_succ]
       refine tkS (i := 12) (v := .pointer (some ⟨bx, ox + k * 9 + 1, none⟩)) rfl hS ?_ (hr := fun wx hx => by go_simp)
       try simp only [Act.put, List.getElem_toArray, List.getElem_cons_zero, List.getElem_cons_succ, List.setIfInBounds_toArray, List.set_cons_zero, List.set_cons_succ]
       refine tkS (i := 13) (v := .agg #[.int .i64 mk, .int .i64 mn, .int .i64 tc, .int .i64 th, .string ts, vp, .int .i64 ms, vb]) rfl hS ?_ (hr := fun wx hx => by obtain ⟨h0, h1, h2, h3, h4, h5, h6, h7, h8, h9⟩ := RX.out wx hx; go_simp)
       try simp only [Act.put, List.getElem_toArray, List.getElem_cons_zero, List.getElem_cons_succ, List.setIfInBounds_toArray, List.set_cons_zero, List.set_cons_succ]
       refine rdS (i := 7) rfl (fun K hK => ?_)
       go_simp
       go_at_call 20
       refine (C20.out _ wr.drew HO.out hS.size).mono ?_
       rintro e w6 ⟨v6, rfl, ho6, hb6⟩
       have O6 := hideP ho6
       have b6 : Below W3.heap.size W3 w6 := hS.trans (hb6.below (show BO W3.heap.size wr.drew _ BS from HO.out) hS.size)
       obtain ⟨a6, n6, p6, rfl⟩ := BO.shp ho6
       clear ho6 hb6
       refine hK.out _ _ b6 (fun _ => ?_)
       try simp only [Act.put, List.getElem_toArray, List.getElem_cons_zero, List.getElem_cons_succ, List.setIfInBounds_toArray, List.set_cons_zero, List.set_cons_succ]
       clear hK K
       refine rdS (i := 14) rfl (fun K hK => ?_)
       go_simp
       go_at_call 19
       refine (C19.out _ w6 O6.out b6).mono ?_
       rintro e w7 ⟨v7, rfl, ho7, hb7⟩
       have O7 := hideP ho7
       have b7 : Below W3.heap.size W3 w7 := b6.trans (hb7.below O6.out b6.size)
       obtain ⟨a7, n7, p7, rfl⟩ := BO.shp ho7
       clear ho7 hb7
       refine hK.out _ _ b7 (fun _ => ?_)
       try simp only [Act.put, List.getElem_toArray, List.getElem_cons_zero, List.getElem_cons_succ, List.setIfInBounds_toArray, List.set_cons_zero, List.set_cons_succ]
       clear hK K
       refine tkS (i := 15) (v := .slice a7 n7 p7) rfl b7 ?_
       try simp only [Act.put, List.getElem_toArray, List.getElem_cons_zero, List.getElem_cons_succ, List.setIfInBounds_toArray, List.set_cons_zero, List.set_cons_succ]
       refine wpAnyH_done (by kernel_rfl) ?_ _
       refine NoPanic.normal ?_
       have B7 := hideP b7
       clear hS b6 b7
       go_wp2
       go_roundw
       case rel => exact ⟨k + 1, by simp, by omega, by rw [HNX.out]; exact O7.out, B7.out⟩
       case measure => simp only [intOf]; omega
      ·obtain rfl : k = N1 := by omega
       have hki : ¬ (k : Int) < (k : Int) := by omega
       rw [List.take_of_length_le (by rw [← HE6.out.2.1]; exact Nat.le_refl _), ← HP3.out] at ho
       have OI := hideP ho
       have BI := hideP hB
       obtain ⟨a8, n8, p8, rfl⟩ := BO.shp ho
       clear ho hB lv
       go_wp2
       go_loopw [4, 7] (fun s4 sc wr => ∃ k : Nat, sc = .int .i64 (k : Int) ∧ k ≤ 32 ∧ BO W3.heap.size wr s4 (P3 ++ (x.counts.take k).flatMap sgnB) ∧ Below W3.heap.size W3 wr) (fun _ s _ => 32 - (intOf s).toNat)
       case atStart => exact ⟨0, rfl, by omega, by rw [List.take_zero, List.flatMap_nil, List.append_nil]; exact OI.out, BI.out⟩
       clear OI BI
       case round =>
        obtain ⟨k, rfl, hk, ho, hB⟩ := hrel
        by_cases hkn : k < 32
        ·have hki : (k : Int) < (32 : Int) := by omega
         have lv := HLV.out wr hB
         have hd := lv.d2
         rw [HE6.out.2.2.1] at hd
         have hrw := lv.k.h2
         rw [HE6.out.2.2.1] at hrw
         obtain ⟨bx, ox, rfl, hc⟩ := row_cell hrw hkn
         have hzr := LD.out.n1 _ (getD_in (0 : Int) (show k < x.counts.length by rw [HE6.out.2.2.1]; exact hkn))
         have hle := pre_len (f := sgnB) (xs := x.counts) (P := P3) (0 : Int) (by rw [← HP4.out]; exact LM.out.2.2.2.1) (show k < x.counts.length by rw [HE6.out.2.2.1]; exact hkn)
         have htf := take_flat (f := sgnB) (ts := x.counts) (k := k) (0 : Int) (by rw [HE6.out.2.2.1]; exact hkn)
         obtain ⟨z, hz⟩ : ∃ z, z = x.counts.getD k 0 := ⟨_, rfl⟩
         rw [← hz] at hc hzr hle htf
         clear hrw hz
         have CT := hideP (fun (s4 : Value) (ho : BO W3.heap.size wr s4 (P3 ++ (x.counts.take k).flatMap sgnB)) => show Calls Tryz.prog 21 #[s4, .int .i64 z] wr (fun e W' => ∃ v', e = .returned v' ∧ BO W3.heap.size W' v' (P3 ++ (x.counts.take (k + 1)).flatMap sgnB) ∧ Below W3.heap.size wr W') from by
          rw [htf, ← List.append_assoc]
          exact (l15Signed_any ho hB.size (by omega) (by omega)).mono (fun e W' ⟨v', h1, h2, h3⟩ => ⟨v', h1, h2, h3.below ho hB.size⟩))
         have HB := hideP hB
         have HO := hideP ho
         obtain ⟨a9, n9, p9, rfl⟩ := BO.shp ho
         clear ho hB lv
         go_wp2_with fail
         refine (CT.out _ HO.out).mono ?_
         rintro e w2 ⟨v2, rfl, ho2, hb2⟩
         have O2 := hideP ho2
         have B2 := hideP (HB.out.trans hb2)
         clear ho2 hb2
         go_wp2
         go_roundw
         case rel => exact ⟨k + 1, by simp, by omega, O2.out, B2.out⟩
         case measure => simp only [intOf]; omega
        ·obtain rfl : k = 32 := by omega
         have hki : ¬ ((32 : Nat) : Int) < (32 : Int) := by omega
         rw [List.take_of_length_le (by rw [HE6.out.2.2.1]; exact Nat.le_refl _), ← HP4.out] at ho
         have OI := hideP ho
         have BI := hideP hB
         obtain ⟨a8, n8, p8, rfl⟩ := BO.shp ho
         clear ho hB
         go_wp2
         go_loopw [4, 8] (fun s4 sc wr => ∃ k : Nat, sc = .int .i64 (k : Int) ∧ k ≤ 32 ∧ BO W3.heap.size wr s4 (P4 ++ (x.lens.take k).flatMap sgnB) ∧ Below W3.heap.size W3 wr) (fun _ s _ => 32 - (intOf s).toNat)
         case atStart => exact ⟨0, rfl, by omega, by rw [List.take_zero, List.flatMap_nil, List.append_nil]; exact OI.out, BI.out⟩
         clear OI BI
         case round =>
          obtain ⟨k, rfl, hk, ho, hB⟩ := hrel
          by_cases hkn : k < 32
          ·have hki : (k : Int) < (32 : Int) := by omega
           have lv := HLV.out wr hB
           have hd := lv.d3
           rw [HE6.out.2.2.2.1] at hd
           have hrw := lv.k.h3
           rw [HE6.out.2.2.2.1] at hrw
           obtain ⟨bx, ox, rfl, hc⟩ := row_cell hrw hkn
           have hzr := LD.out.l1 _ (getD_in (0 : Int) (show k < x.lens.length by rw [HE6.out.2.2.2.1]; exact hkn))
           have hle := pre_len (f := sgnB) (xs := x.lens) (P := P4) (0 : Int) (by rw [← HP5.out]; exact LM.out.2.2.2.2.1) (show k < x.lens.length by rw [HE6.out.2.2.2.1]; exact hkn)
           have htf := take_flat (f := sgnB) (ts := x.lens) (k := k) (0 : Int) (by rw [HE6.out.2.2.2.1]; exact hkn)
           obtain ⟨z, hz⟩ : ∃ z, z = x.lens.getD k 0 := ⟨_, rfl⟩
           rw [← hz] at hc hzr hle htf
           clear hrw hz
           have CT := hideP (fun (s4 : Value) (ho : BO W3.heap.size wr s4 (P4 ++ (x.lens.take k).flatMap sgnB)) => show Calls Tryz.prog 21 #[s4, .int .i64 z] wr (fun e W' => ∃ v', e = .returned v' ∧ BO W3.heap.size W' v' (P4 ++ (x.lens.take (k + 1)).flatMap sgnB) ∧ Below W3.heap.size wr W') from by
            rw [htf, ← List.append_assoc]
            exact (l15Signed_any ho hB.size (by omega) (by omega)).mono (fun e W' ⟨v', h1, h2, h3⟩ => ⟨v', h1, h2, h3.below ho hB.size⟩))
           have HB := hideP hB
           have HO := hideP ho
           obtain ⟨a9, n9, p9, rfl⟩ := BO.shp ho
           clear ho hB lv
           go_wp2_with fail
           refine (CT.out _ HO.out).mono ?_
           rintro e w2 ⟨v2, rfl, ho2, hb2⟩
           have O2 := hideP ho2
           have B2 := hideP (HB.out.trans hb2)
           clear ho2 hb2
           go_wp2
           go_roundw
           case rel => exact ⟨k + 1, by simp, by omega, O2.out, B2.out⟩
           case measure => simp only [intOf]; omega
          ·obtain rfl : k = 32 := by omega
           have hki : ¬ ((32 : Nat) : Int) < (32 : Int) := by omega
           rw [List.take_of_length_le (by rw [HE6.out.2.2.2.1]; exact Nat.le_refl _), ← HP5.out] at ho
           have OI := hideP ho
           have BI := hideP hB
           obtain ⟨a8, n8, p8, rfl⟩ := BO.shp ho
           clear ho hB
           go_wp2
           go_loopw [4, 9] (fun s4 sc wr => ∃ k : Nat, sc = .int .i64 (k : Int) ∧ k ≤ 32 ∧ BO W3.heap.size wr s4 (P5 ++ (x.glues.take k).flatMap guB) ∧ Below W3.heap.size W3 wr) (fun _ s _ => 32 - (intOf s).toNat)
           case atStart => exact ⟨0, rfl, by omega, by rw [List.take_zero, List.flatMap_nil, List.append_nil]; exact OI.out, BI.out⟩
           clear OI BI
           case round =>
            obtain ⟨k, rfl, hk, ho, hB⟩ := hrel
            by_cases hkn : k < 32
            ·have hki : (k : Int) < (32 : Int) := by omega
             have lv := HLV.out wr hB
             have hd := lv.d4
             rw [HE6.out.2.2.2.2.1] at hd
             have hkl : k < x.glues.length := by rw [HE6.out.2.2.2.2.1]; exact hkn
             have hrw := lv.k.h4
             rw [HE6.out.2.2.2.2.1] at hrw
             obtain ⟨bx, ox, rfl, hbl, _, hcx⟩ := GRow.at hrw (by omega)
             have hcc := hcx k hkn
             unfold GlAt at hcc
             have hzr := LD.out.g1 _ (getD_in Gl.none hkl)
             have hle := pre_len (f := guB) (xs := x.glues) (P := P5) Gl.none (by rw [← HP6.out]; exact LM.out.2.2.2.2.2.1) hkl
             have htf := take_flat (f := guB) (ts := x.glues) (k := k) Gl.none hkl
             obtain ⟨g, hg⟩ : ∃ g, g = x.glues.getD k Gl.none := ⟨_, rfl⟩
             rw [← hg] at hcc hzr hle htf
             obtain ⟨gs, gp, gpo, gm, gmo⟩ := g
             simp only at hcc hzr
             obtain ⟨e0, e1, e2, e3, e4⟩ := hcc
             obtain ⟨⟨⟨z0, z1⟩, ⟨z2, z3⟩, ⟨z4, z5⟩⟩, ⟨z6, z7⟩, ⟨z8, z9⟩⟩ := hzr
             obtain ⟨BS, hBS⟩ : ∃ z, z = P5 ++ (x.glues.take k).flatMap guB := ⟨_, rfl⟩
             have hnx : P5 ++ (x.glues.take (k + 1)).flatMap guB = BS ++ sgnB gs ++ sgnB gp ++ sgnB gm ++ [gpo + 16 * gmo] := by
              rw [htf, hBS]
              show _ = _ ++ sgnB gs ++ sgnB gp ++ sgnB gm ++ [gpo + 16 * gmo]
              unfold guB
              simp only [List.append_assoc]
             have HNX := hideP hnx
             rw [← hBS] at ho hle
             have HLE : Hid (BS.length + ((sgnB gs).length + (sgnB gp).length + (sgnB gm).length + 1) ≤ 70368744170000) := hideP (by
              unfold guB at hle
              simp only [List.length_append, List.length_cons, List.length_nil] at hle
              omega)
             have hown : ∀ q, q = wr.heap.size → (fun v : Value => BO W3.heap.size wr v BS → v.ownBlock ≠ some q) = fun v : Value => BO W3.heap.size wr v BS → v.ownBlock ≠ some q := fun _ _ => rfl
             have HO := hideP ho
             have HB := hideP hB
             have HNE : Hid (∀ v, BO W3.heap.size wr v BS → v.ownBlock ≠ some wr.heap.size) := hideP (fun v h e => by have := (h.row _ e).2; omega)
             obtain ⟨a9, n9, p9, rfl⟩ := BO.shp ho
             clear ho hB lv hrw hcx hg hle htf hBS hnx hown
             go_upto_region 26 with fail
             obtain ⟨G, hG⟩ : ∃ G, G = wr.heap.size := ⟨_, rfl⟩
             have hgb := heap_alloc_new wr (.cells #[.int .i64 gs, .int .i64 gp, .int .i64 gpo, .int .i64 gm, .int .i64 gmo] 61)
             obtain ⟨W5, hW5⟩ : ∃ X, X = wr.alloc (.cells #[.int .i64 gs, .int .i64 gp, .int .i64 gpo, .int .i64 gm, .int .i64 gmo] 61) := ⟨_, rfl⟩
             have s0 : StG W3.heap.size G W3 W5.drew (.slice a9 n9 p9) BS (.cells #[.int .i64 gs, .int .i64 gp, .int .i64 gpo, .int .i64 gm, .int .i64 gmo] 61) := by
              have h1 : BO W3.heap.size W5 (.slice a9 n9 p9) BS := by rw [hW5]; exact HO.out.alloc _
              refine ⟨h1, by rw [hG]; exact HNE.out _ HO.out, by rw [hG, hW5]; exact hgb, ?_, by rw [hG, hW5]; show _ < (wr.alloc _).heap.size; simp⟩
              rw [hW5]
              exact Below.drew (HB.out.alloc HB.out.size _)
             rw [← hW5, ← hG]
             have S0 := hideP s0
             clear s0 hgb hW5 HO HNE HB e0 e1 e2 e3 e4 hd
             refine wp_region_noPanic ?_
             refine wp_region_held_drew (S := fun Y => Y.heap[G]? = some (.cells #[.int .i64 gs, .int .i64 gp, .int .i64 gpo, .int .i64 gm, .int .i64 gmo] 61)) (by kernel_rfl) S0.out.g (fun hS => ?_)
             obtain ⟨y0, hy0⟩ : ∃ Y, Y = W5.drew := ⟨_, rfl⟩
             rw [← hy0] at S0 hS ⊢
             have HG := hideP hG
             clear hy0 hG
             have hw1 : IntKind.i64.wrap (16 * gmo) = 16 * gmo := by rw [IntKind.wrap_i64]; first | omega | (unfold wrap64; omega)
             have hw2 : IntKind.i64.wrap (gpo + 16 * gmo) = gpo + 16 * gmo := by rw [IntKind.wrap_i64]; first | omega | (unfold wrap64; omega)
             have hw3 : IntKind.u8.wrap (gpo + 16 * gmo) = gpo + 16 * gmo := by rw [IntKind.wrap_u8]; omega
             refine tkS (i := 0) (v := .slice a9 n9 p9) rfl hS ?_ (hr := fun wx hx => by go_simp)
             try simp only [Act.put, List.getElem_toArray, List.getElem_cons_zero, List.getElem_cons_succ, List.setIfInBounds_toArray, List.set_cons_zero, List.set_cons_succ]
             refine tkS (i := 1) (v := .pointer (some ⟨G, 0, none⟩)) rfl hS ?_ (hr := fun wx hx => by go_simp)
             try simp only [Act.put, List.getElem_toArray, List.getElem_cons_zero, List.getElem_cons_succ, List.setIfInBounds_toArray, List.set_cons_zero, List.set_cons_succ]
             refine tkS (i := 2) (v := .int .i64 gs) rfl hS ?_ (hr := fun wx hx => by have h0 : wx.cell? ⟨G, 0, none⟩ = some _ := (cell_of_row _ _ _ _ 61 _ hx).trans rfl; go_simp)
             try simp only [Act.put, List.getElem_toArray, List.getElem_cons_zero, List.getElem_cons_succ, List.setIfInBounds_toArray, List.set_cons_zero, List.set_cons_succ]
             refine tkS (i := 4) (v := .pointer (some ⟨G, 1, none⟩)) rfl hS ?_ (hr := fun wx hx => by go_simp)
             try simp only [Act.put, List.getElem_toArray, List.getElem_cons_zero, List.getElem_cons_succ, List.setIfInBounds_toArray, List.set_cons_zero, List.set_cons_succ]
             refine tkS (i := 5) (v := .int .i64 gp) rfl hS ?_ (hr := fun wx hx => by have h0 : wx.cell? ⟨G, 1, none⟩ = some _ := (cell_of_row _ _ _ _ 61 _ hx).trans rfl; go_simp)
             try simp only [Act.put, List.getElem_toArray, List.getElem_cons_zero, List.getElem_cons_succ, List.setIfInBounds_toArray, List.set_cons_zero, List.set_cons_succ]
             refine tkS (i := 7) (v := .pointer (some ⟨G, 3, none⟩)) rfl hS ?_ (hr := fun wx hx => by go_simp)
             try simp only [Act.put, List.getElem_toArray, List.getElem_cons_zero, List.getElem_cons_succ, List.setIfInBounds_toArray, List.set_cons_zero, List.set_cons_succ]
             refine tkS (i := 8) (v := .int .i64 gm) rfl hS ?_ (hr := fun wx hx => by have h0 : wx.cell? ⟨G, 3, none⟩ = some _ := (cell_of_row _ _ _ _ 61 _ hx).trans rfl; go_simp)
             try simp only [Act.put, List.getElem_toArray, List.getElem_cons_zero, List.getElem_cons_succ, List.setIfInBounds_toArray, List.set_cons_zero, List.set_cons_succ]
             refine tkS (i := 10) (v := .pointer (some ⟨G, 2, none⟩)) rfl hS ?_ (hr := fun wx hx => by go_simp)
             try simp only [Act.put, List.getElem_toArray, List.getElem_cons_zero, List.getElem_cons_succ, List.setIfInBounds_toArray, List.set_cons_zero, List.set_cons_succ]
             refine tkS (i := 11) (v := .int .i64 gpo) rfl hS ?_ (hr := fun wx hx => by have h0 : wx.cell? ⟨G, 2, none⟩ = some _ := (cell_of_row _ _ _ _ 61 _ hx).trans rfl; go_simp)
             try simp only [Act.put, List.getElem_toArray, List.getElem_cons_zero, List.getElem_cons_succ, List.setIfInBounds_toArray, List.set_cons_zero, List.set_cons_succ]
             refine tkS (i := 12) (v := .pointer (some ⟨G, 4, none⟩)) rfl hS ?_ (hr := fun wx hx => by go_simp)
             try simp only [Act.put, List.getElem_toArray, List.getElem_cons_zero, List.getElem_cons_succ, List.setIfInBounds_toArray, List.set_cons_zero, List.set_cons_succ]
             refine tkS (i := 13) (v := .int .i64 gmo) rfl hS ?_ (hr := fun wx hx => by have h0 : wx.cell? ⟨G, 4, none⟩ = some _ := (cell_of_row _ _ _ _ 61 _ hx).trans rfl; go_simp)
             try simp only [Act.put, List.getElem_toArray, List.getElem_cons_zero, List.getElem_cons_succ, List.setIfInBounds_toArray, List.set_cons_zero, List.set_cons_succ]
             refine tkS (i := 14) (v := .int .i64 (16 * gmo)) rfl hS ?_ (hr := fun wx hx => by go_simp)
             try simp only [Act.put, List.getElem_toArray, List.getElem_cons_zero, List.getElem_cons_succ, List.setIfInBounds_toArray, List.set_cons_zero, List.set_cons_succ]
             refine tkS (i := 15) (v := .int .i64 (gpo + 16 * gmo)) rfl hS ?_ (hr := fun wx hx => by go_simp)
             try simp only [Act.put, List.getElem_toArray, List.getElem_cons_zero, List.getElem_cons_succ, List.setIfInBounds_toArray, List.set_cons_zero, List.set_cons_succ]
             refine tkS (i := 16) (v := .int .u8 (gpo + 16 * gmo)) rfl hS ?_ (hr := fun wx hx => by go_simp)
             try simp only [Act.put, List.getElem_toArray, List.getElem_cons_zero, List.getElem_cons_succ, List.setIfInBounds_toArray, List.set_cons_zero, List.set_cons_succ]
             refine wpAnyH_ready (rs := [3, 17]) (by kernel_rfl) (by simp) ?_
             refine AllReadyH.cons rfl (fun K hK => ?_) (AllReadyH.cons rfl (fun K hK => ?_) AllReadyH.nil)
             ·rw [if_pos (by first | rfl | go_simp)]
              go_simp
              go_at_call 21
              refine (l15Signed_any (zs := BS) (x := gs) S0.out.o (by have := S0.out.b.size; exact this) (by omega) (by have := HLE.out; first | omega | (simp only [List.length_append]; omega))).mono ?_
              rintro e y1 ⟨v1, rfl, ho1, hb1⟩
              have S1 := hideP (S0.out.call hb1 ho1 (Nat.le_refl _))
              obtain ⟨a_1, n_1, p_1, rfl⟩ := BO.shp ho1
              clear ho1 hb1
              refine hK.out _ _ S1.out.g (fun _ => ?_)
              try simp only [Act.put, List.getElem_toArray, List.getElem_cons_zero, List.getElem_cons_succ, List.setIfInBounds_toArray, List.set_cons_zero, List.set_cons_succ]
              clear hK K
              refine wpAnyH_ready (rs := [6, 17]) (by kernel_rfl) (by simp) ?_
              refine AllReadyH.cons rfl (fun K hK => ?_) (AllReadyH.cons rfl (fun K hK => ?_) AllReadyH.nil)
              ·rw [if_pos (by first | rfl | go_simp)]
               go_simp
               go_at_call 21
               refine (l15Signed_any (zs := (BS ++ sgnB gs)) (x := gp) S1.out.o (by have := S1.out.b.size; exact this) (by omega) (by have := HLE.out; first | omega | (simp only [List.length_append]; omega))).mono ?_
               rintro e y2 ⟨v2, rfl, ho2, hb2⟩
               have S2 := hideP (S1.out.call hb2 ho2 (Nat.le_refl _))
               obtain ⟨a_2, n_2, p_2, rfl⟩ := BO.shp ho2
               clear ho2 hb2
               refine hK.out _ _ S2.out.g (fun _ => ?_)
               try simp only [Act.put, List.getElem_toArray, List.getElem_cons_zero, List.getElem_cons_succ, List.setIfInBounds_toArray, List.set_cons_zero, List.set_cons_succ]
               clear hK K
               refine wpAnyH_ready (rs := [9, 17]) (by kernel_rfl) (by simp) ?_
               refine AllReadyH.cons rfl (fun K hK => ?_) (AllReadyH.cons rfl (fun K hK => ?_) AllReadyH.nil)
               ·rw [if_pos (by first | rfl | go_simp)]
                go_simp
                go_at_call 21
                refine (l15Signed_any (zs := (BS ++ sgnB gs ++ sgnB gp)) (x := gm) S2.out.o (by have := S2.out.b.size; exact this) (by omega) (by have := HLE.out; first | omega | (simp only [List.length_append]; omega))).mono ?_
                rintro e y3 ⟨v3, rfl, ho3, hb3⟩
                have S3 := hideP (S2.out.call hb3 ho3 (Nat.le_refl _))
                obtain ⟨a_3, n_3, p_3, rfl⟩ := BO.shp ho3
                clear ho3 hb3
                refine hK.out _ _ S3.out.g (fun _ => ?_)
                try simp only [Act.put, List.getElem_toArray, List.getElem_cons_zero, List.getElem_cons_succ, List.setIfInBounds_toArray, List.set_cons_zero, List.set_cons_succ]
                clear hK K
                refine rdS (i := 17) rfl (fun K hK => ?_)
                go_simp
                have S4 := hideP (S3.out.alloc (Nat.le_refl _) (.cells #[.int .u8 (gpo + 16 * gmo)] 5))
                have R4 := hideP (RowR.new S3.out.o (gpo + 16 * gmo))
                refine hK.out _ _ S4.out.g (fun _ => ?_)
                try simp only [Act.put, List.getElem_toArray, List.getElem_cons_zero, List.getElem_cons_succ, List.setIfInBounds_toArray, List.set_cons_zero, List.set_cons_succ]
                clear hK K
                refine rdS (i := 18) rfl (fun K hK => ?_)
                refine wp_byte _ _ rfl rfl rfl S4.out.o R4.out.c (by have := S4.out.b.size; exact this) (by have := HLE.out; first | omega | (simp only [List.length_append]; omega)) ?_
                intro v5 y5 ho5 hb5
                have S5 := hideP (S4.out.call hb5 ho5 (Nat.le_refl _))
                obtain ⟨a_5, n_5, p_5, rfl⟩ := BO.shp ho5
                clear ho5 hb5
                refine hK.out _ _ S5.out.g (fun _ => ?_)
                try simp only [Act.put, List.getElem_toArray, List.getElem_cons_zero, List.getElem_cons_succ, List.setIfInBounds_toArray, List.set_cons_zero, List.set_cons_succ]
                clear hK K
                refine tkS (i := 19) (v := .slice a_5 n_5 p_5) rfl S5.out.g ?_
                try simp only [Act.put, List.getElem_toArray, List.getElem_cons_zero, List.getElem_cons_succ, List.setIfInBounds_toArray, List.set_cons_zero, List.set_cons_succ]
                refine wpAnyH_done (by kernel_rfl) ?_ _
                refine NoPanic.normal ?_
                clear hS
                go_wp2
                go_roundw
                case rel => exact ⟨k + 1, by simp, by omega, by rw [HNX.out]; exact S5.out.o, S5.out.b⟩
                case measure => simp only [intOf]; omega
               ·rw [if_pos (by first | rfl | go_simp)]
                go_simp
                have S6 := hideP (S2.out.alloc (Nat.le_refl _) (.cells #[.int .u8 (gpo + 16 * gmo)] 5))
                have R6 := hideP (RowR.new S2.out.o (gpo + 16 * gmo))
                refine hK.out _ _ S6.out.g (fun _ => ?_)
                try simp only [Act.put, List.getElem_toArray, List.getElem_cons_zero, List.getElem_cons_succ, List.setIfInBounds_toArray, List.set_cons_zero, List.set_cons_succ]
                clear hK K
                refine rdS (i := 9) rfl (fun K hK => ?_)
                go_simp
                go_at_call 21
                refine (l15Signed_any (zs := (BS ++ sgnB gs ++ sgnB gp)) (x := gm) S6.out.o (by have := S6.out.b.size; exact this) (by omega) (by have := HLE.out; first | omega | (simp only [List.length_append]; omega))).mono ?_
                rintro e y7 ⟨v7, rfl, ho7, hb7⟩
                have S7 := hideP (S6.out.call hb7 ho7 (Nat.le_refl _))
                have R7 := hideP (R6.out.call hb7)
                obtain ⟨a_7, n_7, p_7, rfl⟩ := BO.shp ho7
                clear ho7 hb7
                refine hK.out _ _ S7.out.g (fun _ => ?_)
                try simp only [Act.put, List.getElem_toArray, List.getElem_cons_zero, List.getElem_cons_succ, List.setIfInBounds_toArray, List.set_cons_zero, List.set_cons_succ]
                clear hK K
                refine rdS (i := 18) rfl (fun K hK => ?_)
                refine wp_byte _ _ rfl rfl rfl S7.out.o R7.out.c (by have := S7.out.b.size; exact this) (by have := HLE.out; first | omega | (simp only [List.length_append]; omega)) ?_
                intro v8 y8 ho8 hb8
                have S8 := hideP (S7.out.call hb8 ho8 (Nat.le_refl _))
                obtain ⟨a_8, n_8, p_8, rfl⟩ := BO.shp ho8
                clear ho8 hb8
                refine hK.out _ _ S8.out.g (fun _ => ?_)
                try simp only [Act.put, List.getElem_toArray, List.getElem_cons_zero, List.getElem_cons_succ, List.setIfInBounds_toArray, List.set_cons_zero, List.set_cons_succ]
                clear hK K
                refine tkS (i := 19) (v := .slice a_8 n_8 p_8) rfl S8.out.g ?_
                try simp only [Act.put, List.getElem_toArray, List.getElem_cons_zero, List.getElem_cons_succ, List.setIfInBounds_toArray, List.set_cons_zero, List.set_cons_succ]
                refine wpAnyH_done (by kernel_rfl) ?_ _
                refine NoPanic.normal ?_
                clear hS
                go_wp2
                go_roundw
                case rel => exact ⟨k + 1, by simp, by omega, by rw [HNX.out]; exact S8.out.o, S8.out.b⟩
                case measure => simp only [intOf]; omega
              ·rw [if_pos (by first | rfl | go_simp)]
               go_simp
               have S9 := hideP (S1.out.alloc (Nat.le_refl _) (.cells #[.int .u8 (gpo + 16 * gmo)] 5))
               have R9 := hideP (RowR.new S1.out.o (gpo + 16 * gmo))
               refine hK.out _ _ S9.out.g (fun _ => ?_)
               try simp only [Act.put, List.getElem_toArray, List.getElem_cons_zero, List.getElem_cons_succ, List.setIfInBounds_toArray, List.set_cons_zero, List.set_cons_succ]
               clear hK K
               refine rdS (i := 6) rfl (fun K hK => ?_)
               go_simp
               go_at_call 21
               refine (l15Signed_any (zs := (BS ++ sgnB gs)) (x := gp) S9.out.o (by have := S9.out.b.size; exact this) (by omega) (by have := HLE.out; first | omega | (simp only [List.length_append]; omega))).mono ?_
               rintro e y10 ⟨v10, rfl, ho10, hb10⟩
               have S10 := hideP (S9.out.call hb10 ho10 (Nat.le_refl _))
               have R10 := hideP (R9.out.call hb10)
               obtain ⟨a_10, n_10, p_10, rfl⟩ := BO.shp ho10
               clear ho10 hb10
               refine hK.out _ _ S10.out.g (fun _ => ?_)
               try simp only [Act.put, List.getElem_toArray, List.getElem_cons_zero, List.getElem_cons_succ, List.setIfInBounds_toArray, List.set_cons_zero, List.set_cons_succ]
               clear hK K
               refine rdS (i := 9) rfl (fun K hK => ?_)
               go_simp
               go_at_call 21
               refine (l15Signed_any (zs := (BS ++ sgnB gs ++ sgnB gp)) (x := gm) S10.out.o (by have := S10.out.b.size; exact this) (by omega) (by have := HLE.out; first | omega | (simp only [List.length_append]; omega))).mono ?_
               rintro e y11 ⟨v11, rfl, ho11, hb11⟩
               have S11 := hideP (S10.out.call hb11 ho11 (Nat.le_refl _))
               have R11 := hideP (R10.out.call hb11)
               obtain ⟨a_11, n_11, p_11, rfl⟩ := BO.shp ho11
               clear ho11 hb11
               refine hK.out _ _ S11.out.g (fun _ => ?_)
               try simp only [Act.put, List.getElem_toArray, List.getElem_cons_zero, List.getElem_cons_succ, List.setIfInBounds_toArray, List.set_cons_zero, List.set_cons_succ]
               clear hK K
               refine rdS (i := 18) rfl (fun K hK => ?_)
               refine wp_byte _ _ rfl rfl rfl S11.out.o R11.out.c (by have := S11.out.b.size; exact this) (by have := HLE.out; first | omega | (simp only [List.length_append]; omega)) ?_
               intro v12 y12 ho12 hb12
               have S12 := hideP (S11.out.call hb12 ho12 (Nat.le_refl _))
               obtain ⟨a_12, n_12, p_12, rfl⟩ := BO.shp ho12
               clear ho12 hb12
               refine hK.out _ _ S12.out.g (fun _ => ?_)
               try simp only [Act.put, List.getElem_toArray, List.getElem_cons_zero, List.getElem_cons_succ, List.setIfInBounds_toArray, List.set_cons_zero, List.set_cons_succ]
               clear hK K
               refine tkS (i := 19) (v := .slice a_12 n_12 p_12) rfl S12.out.g ?_
               try simp only [Act.put, List.getElem_toArray, List.getElem_cons_zero, List.getElem_cons_succ, List.setIfInBounds_toArray, List.set_cons_zero, List.set_cons_succ]
               refine wpAnyH_done (by kernel_rfl) ?_ _
               refine NoPanic.normal ?_
               clear hS
               go_wp2
               go_roundw
               case rel => exact ⟨k + 1, by simp, by omega, by rw [HNX.out]; exact S12.out.o, S12.out.b⟩
               case measure => simp only [intOf]; omega
             ·rw [if_pos (by first | rfl | go_simp)]
              go_simp
              have S13 := hideP (S0.out.alloc (Nat.le_refl _) (.cells #[.int .u8 (gpo + 16 * gmo)] 5))
              have R13 := hideP (RowR.new S0.out.o (gpo + 16 * gmo))
              refine hK.out _ _ S13.out.g (fun _ => ?_)
              try simp only [Act.put, List.getElem_toArray, List.getElem_cons_zero, List.getElem_cons_succ, List.setIfInBounds_toArray, List.set_cons_zero, List.set_cons_succ]
              clear hK K
              refine rdS (i := 3) rfl (fun K hK => ?_)
              go_simp
              go_at_call 21
              refine (l15Signed_any (zs := BS) (x := gs) S13.out.o (by have := S13.out.b.size; exact this) (by omega) (by have := HLE.out; first | omega | (simp only [List.length_append]; omega))).mono ?_
              rintro e y14 ⟨v14, rfl, ho14, hb14⟩
              have S14 := hideP (S13.out.call hb14 ho14 (Nat.le_refl _))
              have R14 := hideP (R13.out.call hb14)
              obtain ⟨a_14, n_14, p_14, rfl⟩ := BO.shp ho14
              clear ho14 hb14
              refine hK.out _ _ S14.out.g (fun _ => ?_)
              try simp only [Act.put, List.getElem_toArray, List.getElem_cons_zero, List.getElem_cons_succ, List.setIfInBounds_toArray, List.set_cons_zero, List.set_cons_succ]
              clear hK K
              refine rdS (i := 6) rfl (fun K hK => ?_)
              go_simp
              go_at_call 21
              refine (l15Signed_any (zs := (BS ++ sgnB gs)) (x := gp) S14.out.o (by have := S14.out.b.size; exact this) (by omega) (by have := HLE.out; first | omega | (simp only [List.length_append]; omega))).mono ?_
              rintro e y15 ⟨v15, rfl, ho15, hb15⟩
              have S15 := hideP (S14.out.call hb15 ho15 (Nat.le_refl _))
              have R15 := hideP (R14.out.call hb15)
              obtain ⟨a_15, n_15, p_15, rfl⟩ := BO.shp ho15
              clear ho15 hb15
              refine hK.out _ _ S15.out.g (fun _ => ?_)
              try simp only [Act.put, List.getElem_toArray, List.getElem_cons_zero, List.getElem_cons_succ, List.setIfInBounds_toArray, List.set_cons_zero, List.set_cons_succ]
              clear hK K
              refine rdS (i := 9) rfl (fun K hK => ?_)
              go_simp
              go_at_call 21
              refine (l15Signed_any (zs := (BS ++ sgnB gs ++ sgnB gp)) (x := gm) S15.out.o (by have := S15.out.b.size; exact this) (by omega) (by have := HLE.out; first | omega | (simp only [List.length_append]; omega))).mono ?_
              rintro e y16 ⟨v16, rfl, ho16, hb16⟩
              have S16 := hideP (S15.out.call hb16 ho16 (Nat.le_refl _))
              have R16 := hideP (R15.out.call hb16)
              obtain ⟨a_16, n_16, p_16, rfl⟩ := BO.shp ho16
              clear ho16 hb16
              refine hK.out _ _ S16.out.g (fun _ => ?_)
              try simp only [Act.put, List.getElem_toArray, List.getElem_cons_zero, List.getElem_cons_succ, List.setIfInBounds_toArray, List.set_cons_zero, List.set_cons_succ]
              clear hK K
              refine rdS (i := 18) rfl (fun K hK => ?_)
              refine wp_byte _ _ rfl rfl rfl S16.out.o R16.out.c (by have := S16.out.b.size; exact this) (by have := HLE.out; first | omega | (simp only [List.length_append]; omega)) ?_
              intro v17 y17 ho17 hb17
              have S17 := hideP (S16.out.call hb17 ho17 (Nat.le_refl _))
              obtain ⟨a_17, n_17, p_17, rfl⟩ := BO.shp ho17
              clear ho17 hb17
              refine hK.out _ _ S17.out.g (fun _ => ?_)
              try simp only [Act.put, List.getElem_toArray, List.getElem_cons_zero, List.getElem_cons_succ, List.setIfInBounds_toArray, List.set_cons_zero, List.set_cons_succ]
              clear hK K
              refine tkS (i := 19) (v := .slice a_17 n_17 p_17) rfl S17.out.g ?_
              try simp only [Act.put, List.getElem_toArray, List.getElem_cons_zero, List.getElem_cons_succ, List.setIfInBounds_toArray, List.set_cons_zero, List.set_cons_succ]
              refine wpAnyH_done (by kernel_rfl) ?_ _
              refine NoPanic.normal ?_
              clear hS
              go_wp2
              go_roundw
              case rel => exact ⟨k + 1, by simp, by omega, by rw [HNX.out]; exact S17.out.o, S17.out.b⟩
              case measure => simp only [intOf]; omega
            ·obtain rfl : k = 32 := by omega
             have hki : ¬ ((32 : Nat) : Int) < (32 : Int) := by omega
             rw [List.take_of_length_le (by rw [HE6.out.2.2.2.2.1]; exact Nat.le_refl _), ← HP6.out] at ho
             have OI := hideP ho
             have BI := hideP hB
             obtain ⟨a8, n8, p8, rfl⟩ := BO.shp ho
             clear ho hB
             go_wp2
             go_loopw [4, 11] (fun s4 sc wr => ∃ k : Nat, sc = .int .i64 (k : Int) ∧ k ≤ 32 ∧ BO W3.heap.size wr s4 (P6 ++ (x.toks.take k).flatMap rwB) ∧ Below W3.heap.size W3 wr) (fun _ s _ => 32 - (intOf s).toNat)
             case atStart => exact ⟨0, rfl, by omega, by rw [List.take_zero, List.flatMap_nil, List.append_nil]; exact OI.out, BI.out⟩
             clear OI BI
             case round =>
              obtain ⟨k, rfl, hk, ho, hB⟩ := hrel
              by_cases hkn : k < 32
              ·have hki : (k : Int) < (32 : Int) := by omega
               have lv := HLV.out wr hB
               have hd := lv.d5
               rw [HE6.out.2.2.2.2.2] at hd
               have hkl : k < x.toks.length := by rw [HE6.out.2.2.2.2.2]; exact hkn
               have hrw := lv.k.h5
               rw [HE6.out.2.2.2.2.2] at hrw
               obtain ⟨bx, ox, rfl, hbl, _, hcx⟩ := TsRow.at hrw (by omega)
               obtain ⟨ta, tn, tcp, hc, tr⟩ := hcx k hkn
               have hzr := LD.out.t1 _ (getD_in ([] : List Tk) hkl)
               have hle := pre_len (f := rwB) (xs := x.toks) (P := P6) ([] : List Tk) LM.out.2.2.2.2.2.2 hkl
               have htf := take_flat (f := rwB) (ts := x.toks) (k := k) ([] : List Tk) hkl
               have CT := hideP (fun (s4 : Value) (ho : BO W3.heap.size wr s4 (P6 ++ (x.toks.take k).flatMap rwB)) => show Calls Tryz.prog 22 #[s4, .slice ta tn tcp] wr (fun e W' => ∃ v', e = .returned v' ∧ BO W3.heap.size W' v' (P6 ++ (x.toks.take (k + 1)).flatMap rwB) ∧ Below W3.heap.size wr W') from by
                rw [htf, ← List.append_assoc]
                obtain ⟨ta', tn', tcp', hc', tr'⟩ : ∃ a n c, W3.cell? ⟨bx, ox + k, none⟩ = some (.slice a n c) ∧ TRow W3 (.slice a n c) (x.toks.getD k []) := by
                 have lv3 := HLV.out W3 (Below.refl _ _)
                 have hrw3 := lv3.k.h5
                 rw [HE6.out.2.2.2.2.2] at hrw3
                 obtain ⟨b2, o2, e2, _, _, hcx2⟩ := TsRow.at hrw3 (by omega)
                 simp only [Option.some.injEq, Addr.mk.injEq, and_true] at e2
                 obtain ⟨rfl, rfl⟩ := e2
                 exact hcx2 k hkn
                have hbx3 : bx < W3.heap.size := World.block_lt_of_cell? W3 _ hc'
                have hc3 := (hB.cell (p := ⟨bx, ox + k, none⟩) hbx3).trans hc'
                rw [hc] at hc3
                simp only [Option.some.injEq, Value.slice.injEq] at hc3
                obtain ⟨rfl, rfl, rfl⟩ := hc3
                exact (l16Row_any (w0 := W3) ho hB.size tr' hB (Nat.le_refl _) (by omega) hzr.2 (by omega)).mono (fun e W' ⟨v', h1, h2, h3⟩ => ⟨v', h1, h2, h3.below ho hB.size⟩))
               have HB := hideP hB
               have HO := hideP ho
               obtain ⟨a9, n9, p9, rfl⟩ := BO.shp ho
               clear ho hB lv hrw hcx tr hle htf hzr
               go_wp2_with fail
               refine (CT.out _ HO.out).mono ?_
               rintro e w2 ⟨v2, rfl, ho2, hb2⟩
               have O2 := hideP ho2
               have B2 := hideP (HB.out.trans hb2)
               clear ho2 hb2
               go_wp2
               go_roundw
               case rel => exact ⟨k + 1, by simp, by omega, O2.out, B2.out⟩
               case measure => simp only [intOf]; omega
              ·obtain rfl : k = 32 := by omega
               have hki : ¬ ((32 : Nat) : Int) < (32 : Int) := by omega
               rw [List.take_of_length_le (by rw [HE6.out.2.2.2.2.2]; exact Nat.le_refl _), ← HP7.out] at ho
               have EC := hideP (fun (s4 : Value) (ho : BO W3.heap.size wr s4 (lvlB x)) => l15End_any ho hB.size (lvlB_bytes LD.out) (by have := LD.out.all; omega))
               have HO := hideP ho
               have HB := hideP hB
               obtain ⟨a8, n8, p8, rfl⟩ := BO.shp ho
               clear ho hB
               go_wp2_with fail
               refine (EC.out _ HO.out).mono ?_
               rintro e w2 ⟨v2, rfl, ho2, hb2⟩
               have O2 := hideP ho2
               have B2 : Hid (Below w.heap.size w w2) := hideP (B3.out.trans ((HB.out.trans (hb2.below HO.out HB.out.size)).mono hz3))
               clear ho2 hb2
               go_wp2
               go_ret
               rw [HDE.out]
               exact ⟨⟨_, rfl, O2.out.mono hz3⟩, B2.out⟩
  ·have hnb : ((n : Int) == 1) = false := by simp; omega
   have hnc : ((n : Int) != 1) = true := by simp; omega
   have HE : Hid (D = []) := hideP (by rw [HD.out]; unfold dmpB; rw [if_neg (fun h => hn1 (by rw [← HN.out]; exact h.2))])
   have HNN := hideP hn1
   clear hn1
   go_wp2
   go_ret
   rw [HE.out]
   exact ⟨⟨_, rfl, (BO.new w1 [] 0 rfl (by omega)).mono hz⟩, B1.out.alloc hz _⟩
end Go.Proofs.YtbpidcfoldkhgaaGreat

import Derived.Test.YtbpidcfoldkhgaaGreatDat
import Derived.Test.YtbpidcfoldkhgaaGreatLok
namespace Go.Proofs.YtbpidcfoldkhgaaGreat
open Go.RowKit
set_option linter.unusedVariables false
set_option linter.unusedSimpArgs false
theorem tokB_d {t : Tk} (h : tokB t.c t.h t.s = true) : TkD t ∧ (tkB t).length ≤ 51 := by
 unfold tokB at h
 unfold TkD tkB
 by_cases h0 : t.c = 0
 ·rw [if_pos h0] at h
  simp only [decide_eq_true_eq] at h
  refine ⟨⟨by omega, fun e => absurd h0 e⟩, ?_⟩
  rw [if_pos h0]
  unfold namB
  rw [List.length_cons, List.length_append, strB_len]
  have : (numB t.s.size).length ≤ 10 := numF_len 9 _
  omega
 ·rw [if_neg h0] at h
  rw [if_neg h0]
  by_cases hs : t.s.toList ≠ []
  ·rw [if_pos hs] at h; cases h
  ·rw [if_neg hs] at h
   by_cases h16 : t.c = 16
   ·rw [if_pos h16] at h
    simp only [decide_eq_true_eq] at h
    exact ⟨⟨by omega, fun _ => by omega⟩, by simp⟩
   ·rw [if_neg h16] at h
    split at h
    ·cases h
    ·simp only [decide_eq_true_eq] at h
     exact ⟨⟨by omega, fun _ => by omega⟩, by simp⟩
theorem mem_getD {α : Type} {ts : List α} {t d : α} (h : t ∈ ts) : ∃ k, k < ts.length ∧ ts.getD k d = t := by
 obtain ⟨k, hk, e⟩ := List.mem_iff_getElem.1 h
 exact ⟨k, hk, by rw [List.getD_eq_getElem?_getD, List.getElem?_eq_getElem hk]; exact e⟩
theorem tkStep_none (most : Int) (t : Tk) : tkStep most none t = none := rfl
theorem patT_none (t : Tk) : patTStep none t = none := rfl
theorem toksB_all {ts : List Tk} {limit most : Int} (h : toksB ts limit most = true) : (ts.length : Int) ≤ limit ∧ ∀ t ∈ ts, tokB t.c t.h t.s = true := by
 unfold toksB at h
 simp only [Bool.and_eq_true, decide_eq_true_eq] at h
 refine ⟨h.1, fun t ht => ?_⟩
 obtain ⟨k, hk, rfl⟩ := mem_getD (d := Tk.none) ht
 cases hb : tokB (ts.getD k Tk.none).c (ts.getD k Tk.none).h (ts.getD k Tk.none).s with
 | true => rfl
 | false =>
  have h2 := h.2
  have hd : ts.foldl (tkStep most) (some 0) = none := by
   refine fold_dead _ (tkStep_none most) _ hk rfl ?_
   cases (ts.take k).foldl (tkStep most) (some 0) with
   | none => rfl
   | some o =>
    unfold tkStep okT
    rw [hb]
    simp
  rw [hd] at h2
  cases h2
theorem patB_all {ts : List Tk} {sl : Int} (h : patB ts sl = true) : (ts.length : Int) ≤ 100 ∧ ∀ t ∈ ts, tokB t.c t.h t.s = true := by
 unfold patB at h
 simp only [Bool.and_eq_true, decide_eq_true_eq] at h
 refine ⟨h.1, fun t ht => ?_⟩
 obtain ⟨k, hk, rfl⟩ := mem_getD (d := Tk.none) ht
 cases hb : tokB (ts.getD k Tk.none).c (ts.getD k Tk.none).h (ts.getD k Tk.none).s with
 | true => rfl
 | false =>
  have h2 := h.2
  have hd : ts.foldl patTStep (some 0) = none := by
   refine fold_dead _ patT_none _ hk rfl ?_
   cases (ts.take k).foldl patTStep (some 0) with
   | none => rfl
   | some o =>
    unfold patTStep
    simp only [hb, if_true]
  rw [hd] at h2
  cases h2
theorem flat_most {α : Type} (f : α → List Int) (B : Nat) : ∀ ts : List α, (∀ t ∈ ts, (f t).length ≤ B) → (ts.flatMap f).length ≤ ts.length * B
 | [], _ => by simp
 | t :: ts, h => by
  have h1 := h t (List.mem_cons_self ..)
  have h2 := flat_most f B ts (fun u hu => h u (List.mem_cons_of_mem _ hu))
  rw [List.flatMap_cons, List.length_append, List.length_cons, Nat.add_mul]
  omega
theorem rwB_most {ts : List Tk} {B : Nat} (h : ∀ t ∈ ts, tokB t.c t.h t.s = true) (hl : ts.length ≤ B) : (rwB ts).length ≤ 10 + B * 51 := by
 unfold rwB
 have h1 := flat_most tkB 51 ts (fun t ht => (tokB_d (h t ht)).2)
 have h2 : (numB ts.length).length ≤ 10 := numF_len 9 _
 have h3 : ts.length * 51 ≤ B * 51 := Nat.mul_le_mul_right _ hl
 rw [List.length_append]
 omega
theorem meanB_d {m : Mn} (h0 : m.k ≠ 0) (h : meanB m.k m.n m.t m.p m.sl m.b = true) : MnD m ∧ (mnB m).length ≤ 110000 := by
 unfold meanB at h
 rw [if_neg h0] at h
 by_cases h1 : m.k = 1
 ·rw [if_pos h1] at h
  simp only [Bool.and_eq_true, decide_eq_true_eq] at h
  refine ⟨.inl ⟨h1, by omega, by omega⟩, ?_⟩
  unfold mnB
  rw [if_pos h1, List.length_cons]
  have : (numB m.n.toNat).length ≤ 10 := numF_len 9 _
  omega
 ·rw [if_neg h1] at h
  by_cases h2 : m.k = 2
  ·rw [if_pos h2] at h
   simp only [Bool.and_eq_true] at h
   have ht := h.2.1
   unfold isCh at ht
   simp only [Bool.and_eq_true] at ht
   obtain ⟨d1, d2⟩ := tokB_d ht.1
   refine ⟨.inr (.inl ⟨h2, d1⟩), ?_⟩
   unfold mnB
   rw [if_neg h1, if_pos h2, List.length_cons]
   omega
  ·rw [if_neg h2] at h
   by_cases h3 : m.k = 3
   ·rw [if_pos h3] at h
    simp only [Bool.and_eq_true] at h
    have hm := h.2.2
    unfold macB at hm
    simp only [Bool.and_eq_true, decide_eq_true_eq] at hm
    obtain ⟨p1, p2⟩ := patB_all hm.2.1
    obtain ⟨b1, b2⟩ := toksB_all hm.2.2
    refine ⟨.inr (.inr ⟨h3, by omega, ⟨by omega, by omega⟩, fun t ht => (tokB_d (p2 t ht)).1, fun t ht => (tokB_d (b2 t ht)).1⟩), ?_⟩
    have q1 := rwB_most p2 (B := 100) (by omega)
    have q2 := rwB_most b2 (B := 2000) (by omega)
    unfold mnB mcB
    rw [if_neg h1, if_neg h2, List.length_cons, List.length_append, List.length_append]
    have : (numB m.sl.toNat).length ≤ 10 := numF_len 9 _
    omega
   ·rw [if_neg h3] at h; cases h
structure LvD (x : Lv) : Prop where
 c0 : x.cats.length = 256
 c1 : ∀ z ∈ x.cats, 0 ≤ z ∧ z < 256
 b0 : x.binds.length ≤ 500
 b1 : ∀ y ∈ x.binds, MnD y.m
 n0 : x.counts.length = 32
 n1 : ∀ z ∈ x.counts, -4294967296 ≤ z ∧ z ≤ 4294967296
 l0 : x.lens.length = 32
 l1 : ∀ z ∈ x.lens, -4294967296 ≤ z ∧ z ≤ 4294967296
 g0 : x.glues.length = 32
 g1 : ∀ g ∈ x.glues, ((-4294967296 ≤ g.s ∧ g.s ≤ 4294967296) ∧ (-4294967296 ≤ g.p ∧ g.p ≤ 4294967296) ∧ (-4294967296 ≤ g.m ∧ g.m ≤ 4294967296)) ∧ (0 ≤ g.po ∧ g.po ≤ 3) ∧ (0 ≤ g.mo ∧ g.mo ≤ 3)
 t0 : x.toks.length = 32
 t1 : ∀ ts ∈ x.toks, ts.length ≤ 2000 ∧ ∀ t ∈ ts, TkD t
 all : (lvlB x).length ≤ 70368744170000
theorem all_in {α : Type} {xs : List α} {f : α → Bool} (h : xs.all f = true) : ∀ x ∈ xs, f x = true := fun x hx => (List.all_eq_true.1 h) x hx
theorem levB_d {x : Lv} (h : levB x = true) : LvD x := by
 unfold levB catsB bindsB regB at h
 simp only [Bool.and_eq_true, decide_eq_true_eq] at h
 obtain ⟨⟨c0, c1⟩, ⟨b0, b1⟩, ⟨n0, n1⟩, ⟨l0, l1⟩, ⟨g0, g1⟩, ⟨t0, t1⟩⟩ := h
 have hc : ∀ z ∈ x.cats, 0 ≤ z ∧ z < 256 := fun z hz => by
  have := all_in c1 z hz
  simp only [decide_eq_true_eq] at this
  omega
 have hb : ∀ y ∈ x.binds, (MnD y.m ∧ (bnB y).length ≤ 110060) := fun y hy => by
  obtain ⟨k, hk, rfl⟩ := mem_getD (d := Bd.none) hy
  have h1 := all_in b1 k (List.mem_range.2 hk)
  unfold bdAt bdB at h1
  simp only [Bool.and_eq_true, decide_eq_true_eq] at h1
  obtain ⟨_, h2, h3, h4⟩ := h1
  obtain ⟨d1, d2⟩ := meanB_d h3 h4
  refine ⟨d1, ?_⟩
  unfold bnB namB
  rw [List.length_append, List.length_append, strB_len]
  have : (numB (x.binds.getD k Bd.none).nm.size).length ≤ 10 := numF_len 9 _
  omega
 have hn : ∀ z ∈ x.counts, -4294967296 ≤ z ∧ z ≤ 4294967296 := fun z hz => by
  have := all_in n1 z hz
  unfold cntB at this
  simp only [decide_eq_true_eq] at this
  omega
 have hl : ∀ z ∈ x.lens, -4294967296 ≤ z ∧ z ≤ 4294967296 := fun z hz => by
  have := all_in l1 z hz
  unfold fitsB at this
  simp only [decide_eq_true_eq] at this
  omega
 have hg : ∀ g ∈ x.glues, ((-4294967296 ≤ g.s ∧ g.s ≤ 4294967296) ∧ (-4294967296 ≤ g.p ∧ g.p ≤ 4294967296) ∧ (-4294967296 ≤ g.m ∧ g.m ≤ 4294967296)) ∧ (0 ≤ g.po ∧ g.po ≤ 3) ∧ (0 ≤ g.mo ∧ g.mo ≤ 3) := fun g hgm => by
  have := all_in g1 g hgm
  unfold glB okB fitsB orderB at this
  simp only [Bool.and_eq_true, decide_eq_true_eq] at this
  omega
 have ht : ∀ ts ∈ x.toks, (ts.length ≤ 2000 ∧ ∀ t ∈ ts, TkD t) ∧ (rwB ts).length ≤ 102010 := fun ts hts => by
  have := all_in t1 ts hts
  unfold tsB at this
  obtain ⟨q1, q2⟩ := toksB_all this
  exact ⟨⟨by omega, fun t ht => (tokB_d (q2 t ht)).1⟩, rwB_most q2 (B := 2000) (by omega)⟩
 refine ⟨c0, hc, b0, fun y hy => (hb y hy).1, n0, hn, l0, hl, g0, hg, t0, fun ts hts => (ht ts hts).1, ?_⟩
 have f1 := flat_most bnB 110060 x.binds (fun y hy => (hb y hy).2)
 have sg : ∀ z, (sgnB z).length ≤ 10 := fun z => numF_len 9 _
 have f2 := flat_most sgnB 10 x.counts (fun z _ => sg z)
 have f3 := flat_most sgnB 10 x.lens (fun z _ => sg z)
 have f4 := flat_most guB 31 x.glues (fun g _ => by
  unfold guB
  have a1 := sg g.s
  have a2 := sg g.p
  have a3 := sg g.m
  simp only [List.length_append, List.length_cons, List.length_nil]
  omega)
 have f5 := flat_most rwB 102010 x.toks (fun ts hts => (ht ts hts).2)
 have f6 : (numB x.binds.length).length ≤ 10 := numF_len 9 _
 have f7 : x.binds.length * 110060 ≤ 500 * 110060 := Nat.mul_le_mul_right _ b0
 unfold lvlB
 simp only [List.length_append, List.length_cons, List.length_nil]
 omega
theorem BRow.at {w : World} {a : Option Addr} {n c : Nat} {bs : List Bd} (h : BRow 0 w (.slice a n c) bs) (hp : 0 < n) : ∃ b off, a = some ⟨b, off, none⟩ ∧ b < w.heap.size ∧ bs.length = n ∧ ∀ i, i < n → ∃ vp vb, TRow w vp (bs.getD i Bd.none).m.p ∧ TRow w vb (bs.getD i Bd.none).m.b ∧
 w.cell? ⟨b, off + i * 9, none⟩ = some (.string (bs.getD i Bd.none).nm) ∧ w.cell? ⟨b, off + i * 9 + 1, none⟩ = some (.int .i64 (bs.getD i Bd.none).m.k) ∧ w.cell? ⟨b, off + i * 9 + 2, none⟩ = some (.int .i64 (bs.getD i Bd.none).m.n) ∧ w.cell? ⟨b, off + i * 9 + 3, none⟩ = some (.int .i64 (bs.getD i Bd.none).m.t.c) ∧ w.cell? ⟨b, off + i * 9 + 4, none⟩ = some (.int .i64 (bs.getD i Bd.none).m.t.h) ∧ w.cell? ⟨b, off + i * 9 + 5, none⟩ = some (.string (bs.getD i Bd.none).m.t.s) ∧ w.cell? ⟨b, off + i * 9 + 6, none⟩ = some vp ∧ w.cell? ⟨b, off + i * 9 + 7, none⟩ = some (.int .i64 (bs.getD i Bd.none).m.sl) ∧ w.cell? ⟨b, off + i * 9 + 8, none⟩ = some vb := by
 obtain ⟨ao, n', cap, e, hn, hc⟩ := h
 simp only [Value.slice.injEq] at e
 obtain ⟨rfl, rfl, rfl⟩ := e
 obtain ⟨b, off, rfl, _, hlt, hcell⟩ := hc hp
 refine ⟨b, off, rfl, hlt, hn, fun i hi => ?_⟩
 obtain ⟨cs, hl, ⟨vp, vb, rfl, h1, h2⟩, hj⟩ := hcell i hi
 exact ⟨vp, vb, h1.1, h2.1, hj 0 (by omega), hj 1 (by omega), hj 2 (by omega), hj 3 (by omega), hj 4 (by omega), hj 5 (by omega), hj 6 (by omega), hj 7 (by omega), hj 8 (by omega)⟩
theorem conv_mark (W : World) {B : Nat} {cs : Array Value} (h : W.heap[B]? = some (.cells cs 5 (0, 0))) (m c : Nat) : (convert 26 26 (.slice (some ⟨B, 0, none⟩) m c)).run Tryz.prog W = .ok (.slice (some ⟨B, 0, none⟩) m c) (W.freeze ⟨B, cs.size, none⟩ 1) := by
 have hsh : W.shape? B = some (5, cs.size) := by simp [World.shape?, h]
 simp [convert, run_underlying Tryz.underlying26, run_underlying Tryz.underlying5, markStringish, hsh, Result.andThen]
theorem freeze_size (W : World) (a : Addr) : (W.freeze a 1).heap.size = W.heap.size := by
 unfold World.freeze
 rw [if_neg (by decide)]
 simp
theorem freeze_other (W : World) (a : Addr) {k : Nat} (h : k ≠ a.block) : (W.freeze a 1).heap[k]? = W.heap[k]? := by
 unfold World.freeze
 rw [if_neg (by decide)]
 simp [Array.getElem?_modify, Ne.symm h]
theorem freeze_cell (W : World) (a p : Addr) : (W.freeze a 1).cell? p = W.cell? p := by
 by_cases h : p.block = a.block
 ·unfold World.cell? World.freeze
  rw [if_neg (by decide)]
  simp only [Array.getElem?_modify]
  rw [if_pos h.symm]
  cases e : W.heap[p.block]? with
  | none => simp
  | some o =>
   cases o <;> simp
 ·exact World.cell?_of_block (freeze_other W a h)
theorem below_freeze (W : World) (a : Addr) : Below a.block W (W.freeze a 1) := ⟨by unfold World.freeze; rw [if_neg (by decide)], by unfold World.freeze; rw [if_neg (by decide)], by unfold World.freeze; rw [if_neg (by decide)], by rw [freeze_size]; exact Nat.le_refl _, fun k hk => freeze_other W a (by omega)⟩
theorem wpList_first {ops : Array Oper} {rest : List Oper} {o : Oper} {a : Act} {w : World} {Q : Exit → Act → World → Prop} {base g n B : Nat} {zs : List Int} {x : Int} (hgd : o.guard = none) (s y : Operand) (ho : o.op = .call { callee := .builtin .append, args := #[s, y], argTypes := #[26, 26] }) (hs : a.eval s = .slice (some ⟨g, 0, none⟩) n n) (hy : a.eval y = .slice (some ⟨B, 0, none⟩) 1 1)
 (hn : zs.length = n) (hc : ∀ j, j < n → w.cell? ⟨g, j, none⟩ = some (.int .u8 (zs.getD j 0))) (hx : w.cell? ⟨B, 0, none⟩ = some (.int .u8 x)) (hb : base ≤ w.heap.size) (hl : n + 1 ≤ 70368744177664) (hK : ∀ v' w', BO base w' v' (zs ++ [x]) → Below w.heap.size w w' → wpList Tryz.prog ops Q rest (a.put o.dst v') w') : wpList Tryz.prog ops Q (o :: rest) a w := by
 obtain ⟨i0, hi0, hz0, hz1, hz2⟩ := info_parts Tryz.info5
 have hr := run_append_grow (P := Tryz.prog) w 26 o.type 5 i0 (.int .u8 0) Tryz.underlying26 hi0 hz0 ⟨g, 0, none⟩ n n (zs.map (Value.int .u8)) (by rw [hz1]; simp [hn]) (fun j u hj => by
  rw [List.getElem?_map] at hj
  cases e : zs[j]? with
  | none => rw [e] at hj; cases hj
  | some z =>
   rw [e] at hj
   have hz : u = .int .u8 z := by simpa using hj.symm
   have hjl : j < zs.length := (List.getElem?_eq_some_iff.1 e).1
   rw [add_new, hc j (by omega), List.getD_eq_getElem?_getD, e, hz]
   rfl) ⟨B, 0, none⟩ 1 1 [.int .u8 x] (by rw [hz1]; rfl) (fun j u hj => by
  match j, hj with
  | 0, hj =>
   simp at hj
   subst hj
   exact hx) (by omega) (by omega) (growslice_fits (by omega) (by rw [hz2]; omega))
 have hsz : (zs.map (Value.int .u8) ++ [Value.int .u8 x]).length = n + 1 := by simp [hn]
 refine wpList_plain hgd fun K hK2 => ?_
 unfold Oper.wp execOp
 simp only [ho, resolve, invoke, builtin, Sem.run_bind, Sem.run_pure, Result.andThen_ok, List.map_toArray, List.map_cons, List.map_nil, hs, hy, hr]
 refine hK2 _ _ (hK _ _ ?_ ?_)
 ·have hge := grownCap_ge w (n + 1) n 5
  have hcm : grownCap w (n + 1) n 5 ≤ maxLen := grownCap_le_maxLen w (n + 1) n 5 (by unfold maxLen; omega)
  unfold BO
  rw [show (zs ++ [x]).length = n + 1 by simp [hn]]
  refine ⟨by simp [hn], .inr ⟨w.heap.size, _, _, rfl, hb, heap_alloc_new w.drew _, hge, hcm, ?_, ?_⟩⟩
  ·simp only [Array.size_append, List.size_toArray, size_zeroCells, hsz]
   have h1 : (zs.map (Value.int .u8)).length = n := by simp [hn]
   have h2 : (Value.cells (.int .u8 0)).size = 1 := rfl
   rw [h1, h2]
   simp only [List.length_singleton, Nat.mul_one]
   omega
  ·simp only [Array.toList_append, List.map_append, List.map_cons, List.map_nil, Nat.mul_one]
   rw [← hsz]
   exact List.take_left
 ·exact ⟨rfl, rfl, rfl, by simp, fun k hk => heap_alloc_old w.drew _ hk⟩
end Go.Proofs.YtbpidcfoldkhgaaGreat

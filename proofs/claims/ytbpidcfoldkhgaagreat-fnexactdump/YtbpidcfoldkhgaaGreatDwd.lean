import Derived.Test.YtbpidcfoldkhgaaGreatDwb
namespace Go.Proofs.YtbpidcfoldkhgaaGreat
open Go.RowKit
set_option linter.unusedVariables false
set_option linter.unusedSimpArgs false
section
variable {ops : Array Oper} {rest : List Oper} {o : Oper} {a : Act} {w : World} {Q : Exit → Act → World → Prop} {base : Nat} {pv v : Value} {vs : List Value}
theorem wpList_piece {G : Nat} (hgd : o.guard = none) (s y : Operand) (ho : o.op = .call { callee := .builtin .append, args := #[s, y], argTypes := #[90, 90] }) (hs : a.eval s = pv) (hy : a.eval y = .slice (some ⟨G, 0, none⟩) 1 1) (h : w.ownsRow base 26 1 pv vs.length vs)
 (hx : w.cell? ⟨G, 0, none⟩ = some v) (hv : v.oneCell' = true) (hb : base ≤ w.heap.size) (hl : vs.length ≤ 1000) (hK : ∀ v' w', w'.ownsRow base 26 1 v' (vs.length + 1) (vs ++ [v]) → w.grownBy w' pv.ownBlock → (v'.ownBlock = pv.ownBlock ∨ v'.ownBlock = some w.heap.size) → wpList Tryz.prog ops Q rest (a.put o.dst v') w') : wpList Tryz.prog ops Q (o :: rest) a w := by
 obtain ⟨i0, hi0, hz0, hz1, hz2⟩ := info_parts Tryz.info26
 refine wpList_append_own_at _ hgd s y 90 ho base 26 i0 (.slice none 0 0) 1 24 Tryz.underlying90 hi0 hz0 hz1 hz2 rfl (by decide) pv vs.length vs hs h ⟨G, 0, none⟩ 1 1 [v] hy rfl ?_ ?_ (by unfold maxLen; omega) (by omega) hb ?_
 ·intro j u hj
  match j, hj with
  | 0, hj =>
   simp at hj
   subst hj
   exact hx
 ·intro u hu
  simp at hu
  subst hu
  exact hv
 ·intro v' w' ho' hg _ hw
  exact hK v' w' ho' hg hw
end
set_option maxRecDepth 20000 in
set_option maxHeartbeats 4000000 in
theorem write_any {W : World} {B D : Nat} {ps : List (List Int)} {v pv : Value} {vs : List Value} {zs : List Int} (hd : DW B D W 0 ps ps pv vs) (h : PB B W v zs) (hz : BYs zs) (hb : B ≤ W.heap.size) (hl : ps.flatten.length + zs.length ≤ 70368744177664) (hp : ps.length ≤ 100) :
 Calls Tryz.prog 37 #[.pointer (some ⟨D, 0, none⟩), v] W fun e W' => e = .returned (.tuple #[]) ∧ (∃ pv' vs', DW B D W' 0 (ps ++ [zs]) (ps ++ [zs]) pv' vs') ∧ Below B W W' := by
 have hfl : (ps ++ [zs]).flatten = ps.flatten ++ zs := by simp
 have LK := hideP (lockFree ⟨D, 0, none⟩ W hd.f.cells.1 (hd.f.frozen 0))
 have A1 : Hid (Alt D W (W.setCell ⟨D, 0, none⟩ (.int .i32 1))) := hideP ((Alt.refl D W).set 0 _)
 have D1 : Hid (DW B D (W.setCell ⟨D, 0, none⟩ (.int .i32 1)) 1 ps ps pv vs) := hideP (hd.alt A1.out (hd.f.set0 1))
 have O1 : Hid (PB B (W.setCell ⟨D, 0, none⟩ (.int .i32 1)) v zs) := hideP (pb_alt h hd.f A1.out)
 obtain ⟨W1, hW1⟩ : ∃ X, X = W.setCell ⟨D, 0, none⟩ (.int .i32 1) := ⟨_, rfl⟩
 rw [← hW1] at LK A1 D1 O1
 have TC := hideP (tallyAdd_any O1.out D1.out.f hz hl)
 obtain ⟨ao, n, cap, rfl⟩ := PB.shp h
 obtain ⟨po, pn, pc, hpv⟩ : ∃ a n c, pv = .slice a n c := by
  rcases hd.o.2 with ⟨rfl, _⟩ | ⟨g, c, cur, rfl, _⟩
  ·exact ⟨_, _, _, rfl⟩
  ·exact ⟨_, _, _, rfl⟩
 subst hpv
 have hDl : B ≤ D := hd.l
 have hvl : vs.length ≤ 1000 := by have := hd.n; omega
 clear hd h hz hl hp hW1
 go_enter_defers Tryz.func37, Tryz.ntmps37
 go_wp2_with fail
 refine LK.out.mono ?_
 rintro e w1 ⟨rfl, rfl⟩
 go_wp2_with fail
 refine TC.out.mono ?_
 rintro e w2 ⟨rfl, ha2, hf2⟩
 have A2 := hideP (A1.out.trans ha2)
 have D2 : Hid (DW B D w2 1 (ps ++ [zs]) ps (.slice po pn pc) vs) := hideP (D1.out.alt ha2 (by rw [hfl]; exact hf2))
 have O2 : Hid (PB B w2 (.slice ao n cap) zs) := hideP (pb_alt O1.out D1.out.f ha2)
 obtain ⟨c0, c2, c3, c4⟩ := hf2.cells
 have f4 := hf2.frozen 4
 have hz2 : B ≤ w2.heap.size := by have := D2.out.size; omega
 clear ha2 hf2 LK TC
 go_wp2_with (at_builtin; go_loud (refine wpList_piece rfl _ _ rfl rfl rfl (World.ownsRow.alloc D2.out.o _) (cell_new _ _ _) rfl (by simp; omega) hvl ?_))
 intro pv' w3 ho3 hg3 hw3
 have g3 : w2.grownBy w3 (Value.slice po pn pc).ownBlock := ⟨hg3.os, hg3.tape, hg3.output, Nat.le_trans (by simp) hg3.size, fun k hk hn => (hg3.block k (by simp; omega) hn).trans (heap_alloc_old _ _ hk)⟩
 have hwD : pv'.ownBlock ≠ some D := fun e => by
  rcases hw3 with h | h
  ·exact row_ne D2.out.o D2.out.f (by decide) (h.symm.trans e)
  ·rw [h] at e
   simp only [Option.some.injEq, World.size_alloc] at e
   have := D2.out.size
   omega
 have D3 := hideP (D2.out.more O2.out g3 ho3 hwD)
 have B3 : Hid (Below B W (w3.setCell ⟨D, 4, none⟩ pv')) := hideP (by
  have A3 := (Alt.refl D w3).set 4 pv'
  refine ⟨A3.os.trans (g3.os.trans A2.out.os), A3.tape.trans (g3.tape.trans A2.out.tape), A3.output.trans (g3.output.trans A2.out.output), ?_, fun k hk => ?_⟩
  ·rw [A3.size]; exact Nat.le_trans (Nat.le_of_eq A2.out.size.symm) g3.size
  ·have hkD : k ≠ D := by omega
   rw [A3.block k hkD, g3.block k (by rw [A2.out.size]; omega) (fun e => ?_), A2.out.block k hkD]
   have := (row_type D2.out.o e.symm).1
   omega)
 have hf3 : Fiv w3 D 1 (ps ++ [zs]).flatten.length (sumT (ps ++ [zs]).flatten (ps ++ [zs]).flatten.length) (.slice po pn pc) := (g3.block D D2.out.size (fun e => row_ne D2.out.o D2.out.f (by decide) e.symm)).trans D2.out.f
 have k4 := hf3.cells.2.2.2
 have q4 := hf3.frozen 4
 obtain ⟨ro, rn, rc, hrv⟩ : ∃ a n c, pv' = .slice a n c := by
  rcases ho3.2 with ⟨rfl, _⟩ | ⟨g, c, cur, rfl, _⟩
  ·exact ⟨_, _, _, rfl⟩
  ·exact ⟨_, _, _, rfl⟩
 subst hrv
 clear c0 c2 c3 c4 f4 hg3 ho3 hw3 hf3 hwD g3
 go_wp2
 refine leaves_cons (f := 48) (args := #[.pointer (some ⟨D, 0, none⟩)]) (by simp) (by simp [go_sem]) ?_
 refine (unlockD ⟨D, 0, none⟩ _ _ D3.out.f.cells.1 (D3.out.f.frozen 0)).mono ?_
 rintro e u' w'' ⟨rfl, rfl, rfl⟩
 have D4 := D3.out.alt ((Alt.refl D _).set 0 (.int .i32 0)) (D3.out.f.set0 0)
 have B4 : Below B W ((w3.setCell ⟨D, 4, none⟩ (.slice ro rn rc)).setCell ⟨D, 0, none⟩ (.int .i32 0)) := by
  have A4 := (Alt.refl D (w3.setCell ⟨D, 4, none⟩ (.slice ro rn rc))).set 0 (.int .i32 0)
  exact ⟨A4.os.trans B3.out.os, A4.tape.trans B3.out.tape, A4.output.trans B3.out.output, Nat.le_trans B3.out.size (Nat.le_of_eq A4.size.symm), fun k hk => (A4.block k (by omega)).trans (B3.out.block k hk)⟩
 refine ⟨_, ?_, rfl, ⟨_, _, D4⟩, B4⟩
 first | rfl | (simp [results, go_sem]; done) | (simp [results, Tryz.f37, go_sem]; done)
theorem go_nil {w w' : World} {v : Value} (h : GO (.slice none 0 0) w v w') : Below w.heap.size w w' := ⟨h.g.os, h.g.tape, h.g.output, h.size, fun k hk => h.block hk (by simp [Value.ownBlock])⟩
theorem freeze_row (w : World) {B o : Nat} {cs : Array Value} {fz : Nat × Nat} (h : w.heap[B]? = some (.cells cs 5 fz)) : ∃ fz', (w.freeze ⟨B, o, none⟩ 1).heap[B]? = some (.cells cs 5 fz') := by
 unfold World.freeze
 rw [if_neg (by decide)]
 simp only [Array.getElem?_modify, h]
 exact ⟨_, rfl⟩
theorem DW.put {D : Nat} {X Y : World} {ps : List (List Int)} {pv v u : Value} {vs : List Value} {zs : List Int} (h : DW D D X 0 ps ps pv vs) (ho : BO D Y v zs) (hg : GO (.slice none 0 0) X v Y) : DW D D Y 0 ps ps pv vs ∧ PB D Y v zs := ⟨h.below (go_nil hg), PB.of ho⟩
set_option maxRecDepth 20000 in
set_option maxHeartbeats 8000000 in
theorem dumped_any {W : World} {a0 a1 a2 a3 a4 a5 : Option Addr} {c0 c1 c2 c3 c4 c5 : Nat} {x : Lv} (h : LvX W a0 a1 a2 a3 a4 a5 c0 c1 c2 c3 c4 c5 x) (hd : LvD x) :
 Calls Tryz.prog 26 #[.agg #[.slice a0 x.cats.length c0, .slice a1 x.binds.length c1, .slice a2 x.counts.length c2, .slice a3 x.lens.length c3, .slice a4 x.glues.length c4, .slice a5 x.toks.length c5]] W fun e W' => e = .returned (.pointer (some ⟨W.heap.size + 1, 0, none⟩)) ∧ (∃ ps pv vs, (ps.flatten = lvlB x ∧ ps.length = 7) ∧ DW (W.heap.size + 1) (W.heap.size + 1) W' 0 ps ps pv vs) ∧ Below W.heap.size W W' := by
 obtain ⟨Q0, hQ0⟩ : ∃ z, z = x.cats.flatMap byB := ⟨_, rfl⟩
 obtain ⟨Q1, hQ1⟩ : ∃ z, z = numB x.binds.length ++ x.binds.flatMap bnB := ⟨_, rfl⟩
 obtain ⟨Q2, hQ2⟩ : ∃ z, z = x.counts.flatMap sgnB := ⟨_, rfl⟩
 obtain ⟨Q3, hQ3⟩ : ∃ z, z = x.lens.flatMap sgnB := ⟨_, rfl⟩
 obtain ⟨Q4, hQ4⟩ : ∃ z, z = x.glues.flatMap guB := ⟨_, rfl⟩
 obtain ⟨Q5, hQ5⟩ : ∃ z, z = x.toks.flatMap rwB := ⟨_, rfl⟩
 have hlv : lvlB x = [81, 70, 77, 49] ++ Q0 ++ Q1 ++ Q2 ++ Q3 ++ Q4 ++ Q5 := by rw [hQ0, hQ1, hQ2, hQ3, hQ4, hQ5, flat_byB]; rfl
 have hall := hd.all
 rw [hlv] at hall
 simp only [List.length_append, List.length_cons, List.length_nil] at hall
 have hby := lvlB_bytes hd
 rw [hlv] at hby ⊢
 have BQ : Hid (BYs [81, 70, 77, 49]) := hideP (fun z hz => hby z (by simp only [List.mem_append]; exact .inl (.inl (.inl (.inl (.inl (.inl hz)))))))
 have BQ0 : Hid (BYs Q0) := hideP (fun z hz => hby z (by simp only [List.mem_append]; exact .inl (.inl (.inl (.inl (.inl (.inr hz)))))))
 have BQ1 : Hid (BYs Q1) := hideP (fun z hz => hby z (by simp only [List.mem_append]; exact .inl (.inl (.inl (.inl (.inr hz))))))
 have BQ2 : Hid (BYs Q2) := hideP (fun z hz => hby z (by simp only [List.mem_append]; exact .inl (.inl (.inl (.inr hz)))))
 have BQ3 : Hid (BYs Q3) := hideP (fun z hz => hby z (by simp only [List.mem_append]; exact .inl (.inl (.inr hz))))
 have BQ4 : Hid (BYs Q4) := hideP (fun z hz => hby z (by simp only [List.mem_append]; exact .inl (.inr hz)))
 have BQ5 : Hid (BYs Q5) := hideP (fun z hz => hby z (by simp only [List.mem_append]; exact .inr hz))
 obtain ⟨D, hD⟩ : ∃ d, d = W.heap.size + 1 := ⟨_, rfl⟩
 rw [← hD]
 have E0 : Hid (∀ X, Below W.heap.size W X → D ≤ X.heap.size → Calls Tryz.prog 38 #[.slice none 0 0, .slice a0 x.cats.length c0, .func (.func 39) #[] #[]] X fun e W' => PutQ D (.slice none 0 0) X Q0 e W') := hideP (fun X hX hDX => by
  have hq := eachByte_any (w0 := W) (zs := []) (BO.nil D X) hDX h.h0 rfl hX (by omega) (by have := hd.c0; omega) hd.c1 (by simp only [List.length_nil]; rw [← hQ0]; omega)
  rw [← hQ0, List.nil_append] at hq
  exact hq)
 have E1 : Hid (∀ X, Below W.heap.size W X → D ≤ X.heap.size → Calls Tryz.prog 40 #[.slice none 0 0, .slice a1 x.binds.length c1, .func (.func 41) #[] #[]] X fun e W' => PutQ D (.slice none 0 0) X Q1 e W') := hideP (fun X hX hDX => by
  have hq := allBind_any (w0 := W) (zs := []) (BO.nil D X) hDX h.h1 rfl hX (by omega) (by have := hd.b0; omega) hd.b1 (by simp only [List.length_nil]; rw [← hQ1]; omega)
  rw [← hQ1, List.nil_append] at hq
  exact hq)
 have E2 : Hid (∀ X, Below W.heap.size W X → D ≤ X.heap.size → Calls Tryz.prog 38 #[.slice none 0 0, .slice a2 x.counts.length c2, .func (.func 42) #[] #[]] X fun e W' => PutQ D (.slice none 0 0) X Q2 e W') := hideP (fun X hX hDX => by
  have hq := eachSigned_any (w0 := W) (zs := []) (BO.nil D X) hDX h.h2 rfl hX (by omega) (by have := hd.n0; omega) hd.n1 (by simp only [List.length_nil]; rw [← hQ2]; omega)
  rw [← hQ2, List.nil_append] at hq
  exact hq)
 have E3 : Hid (∀ X, Below W.heap.size W X → D ≤ X.heap.size → Calls Tryz.prog 38 #[.slice none 0 0, .slice a3 x.lens.length c3, .func (.func 42) #[] #[]] X fun e W' => PutQ D (.slice none 0 0) X Q3 e W') := hideP (fun X hX hDX => by
  have hq := eachSigned_any (w0 := W) (zs := []) (BO.nil D X) hDX h.h3 rfl hX (by omega) (by have := hd.l0; omega) hd.l1 (by simp only [List.length_nil]; rw [← hQ3]; omega)
  rw [← hQ3, List.nil_append] at hq
  exact hq)
 have E4 : Hid (∀ X, Below W.heap.size W X → D ≤ X.heap.size → Calls Tryz.prog 43 #[.slice none 0 0, .slice a4 x.glues.length c4, .func (.func 44) #[] #[]] X fun e W' => PutQ D (.slice none 0 0) X Q4 e W') := hideP (fun X hX hDX => by
  have hq := eachGlue_any (w0 := W) (zs := []) (BO.nil D X) hDX h.h4 rfl hX (by omega) (by have := hd.g0; omega) hd.g1 (by simp only [List.length_nil]; rw [← hQ4]; omega)
  rw [← hQ4, List.nil_append] at hq
  exact hq)
 have E5 : Hid (∀ X, Below W.heap.size W X → D ≤ X.heap.size → Calls Tryz.prog 45 #[.slice none 0 0, .slice a5 x.toks.length c5, .func (.func 46) #[] #[]] X fun e W' => PutQ D (.slice none 0 0) X Q5 e W') := hideP (fun X hX hDX => by
  have hq := eachRow_any (w0 := W) (zs := []) (BO.nil D X) hDX h.h5 rfl hX (by omega) (by have := hd.t0; omega) hd.t1 (by simp only [List.length_nil]; rw [← hQ5]; omega)
  rw [← hQ5, List.nil_append] at hq
  exact hq)
 have HALL := hideP hall
 have HDD := hideP hD
 obtain ⟨n0, hn0⟩ : ∃ z, z = x.cats.length := ⟨_, rfl⟩
 rw [← hn0] at E0 ⊢
 obtain ⟨n1, hn1⟩ : ∃ z, z = x.binds.length := ⟨_, rfl⟩
 rw [← hn1] at E1 ⊢
 obtain ⟨n2, hn2⟩ : ∃ z, z = x.counts.length := ⟨_, rfl⟩
 rw [← hn2] at E2 ⊢
 obtain ⟨n3, hn3⟩ : ∃ z, z = x.lens.length := ⟨_, rfl⟩
 rw [← hn3] at E3 ⊢
 obtain ⟨n4, hn4⟩ : ∃ z, z = x.glues.length := ⟨_, rfl⟩
 rw [← hn4] at E4 ⊢
 obtain ⟨n5, hn5⟩ : ∃ z, z = x.toks.length := ⟨_, rfl⟩
 rw [← hn5] at E5 ⊢
 clear hall hby hlv h hd hQ0 hQ1 hQ2 hQ3 hQ4 hQ5 hn0 hn1 hn2 hn3 hn4 hn5 hD
 have hcv := conv_mark (((W.alloc (.cells #[.slice a0 n0 c0, .slice a1 n1 c1, .slice a2 n2 c2, .slice a3 n3 c3, .slice a4 n4 c4, .slice a5 n5 c5] 45)).alloc (.cells #[.int .i32 0, .int .u32 0, .int .i64 0, .int .i64 0, .slice none 0 0] 92)).alloc (.cells #[.int .u8 81, .int .u8 70, .int .u8 77, .int .u8 49] 5)) (heap_alloc_new _ (.cells #[.int .u8 81, .int .u8 70, .int .u8 77, .int .u8 49] 5)) 4 4
 have hsz : ((W.alloc (.cells #[.slice a0 n0 c0, .slice a1 n1 c1, .slice a2 n2 c2, .slice a3 n3 c3, .slice a4 n4 c4, .slice a5 n5 c5] 45)).alloc (.cells #[.int .i32 0, .int .u32 0, .int .i64 0, .int .i64 0, .slice none 0 0] 92)).heap.size = W.heap.size + 1 + 1 := by simp
 rw [hsz] at hcv
 go_enter Tryz.func26, Tryz.ntmps26
 go_wp2_with fail
 obtain ⟨W3, hW3⟩ : ∃ X, X = (((W.alloc (.cells #[.slice a0 n0 c0, .slice a1 n1 c1, .slice a2 n2 c2, .slice a3 n3 c3, .slice a4 n4 c4, .slice a5 n5 c5] 45)).alloc (.cells #[.int .i32 0, .int .u32 0, .int .i64 0, .int .i64 0, .slice none 0 0] 92)).alloc (.cells #[.int .u8 81, .int .u8 70, .int .u8 77, .int .u8 49] 5)).freeze ⟨W.heap.size + 1 + 1, 4, none⟩ 1 := ⟨_, rfl⟩
 rw [← hW3]
 have g0 : (((W.alloc (.cells #[.slice a0 n0 c0, .slice a1 n1 c1, .slice a2 n2 c2, .slice a3 n3 c3, .slice a4 n4 c4, .slice a5 n5 c5] 45)).alloc (.cells #[.int .i32 0, .int .u32 0, .int .i64 0, .int .i64 0, .slice none 0 0] 92)).alloc (.cells #[.int .u8 81, .int .u8 70, .int .u8 77, .int .u8 49] 5)).heap[W.heap.size]? = some (.cells #[.slice a0 n0 c0, .slice a1 n1 c1, .slice a2 n2 c2, .slice a3 n3 c3, .slice a4 n4 c4, .slice a5 n5 c5] 45) := by
  rw [heap_alloc_old _ _ (by simp; omega), heap_alloc_old _ _ (by simp)]
  exact heap_alloc_new _ _
 have g1 : (((W.alloc (.cells #[.slice a0 n0 c0, .slice a1 n1 c1, .slice a2 n2 c2, .slice a3 n3 c3, .slice a4 n4 c4, .slice a5 n5 c5] 45)).alloc (.cells #[.int .i32 0, .int .u32 0, .int .i64 0, .int .i64 0, .slice none 0 0] 92)).alloc (.cells #[.int .u8 81, .int .u8 70, .int .u8 77, .int .u8 49] 5)).heap[W.heap.size + 1]? = some (.cells #[.int .i32 0, .int .u32 0, .int .i64 0, .int .i64 0, .slice none 0 0] 92) := by
  rw [heap_alloc_old _ _ (by simp)]
  have := heap_alloc_new (W.alloc (.cells #[.slice a0 n0 c0, .slice a1 n1 c1, .slice a2 n2 c2, .slice a3 n3 c3, .slice a4 n4 c4, .slice a5 n5 c5] 45)) (.cells #[.int .i32 0, .int .u32 0, .int .i64 0, .int .i64 0, .slice none 0 0] 92)
  rw [World.size_alloc] at this
  exact this
 have g2 : (((W.alloc (.cells #[.slice a0 n0 c0, .slice a1 n1 c1, .slice a2 n2 c2, .slice a3 n3 c3, .slice a4 n4 c4, .slice a5 n5 c5] 45)).alloc (.cells #[.int .i32 0, .int .u32 0, .int .i64 0, .int .i64 0, .slice none 0 0] 92)).alloc (.cells #[.int .u8 81, .int .u8 70, .int .u8 77, .int .u8 49] 5)).heap[W.heap.size + 1 + 1]? = some (.cells #[.int .u8 81, .int .u8 70, .int .u8 77, .int .u8 49] 5) := by
  have := heap_alloc_new ((W.alloc (.cells #[.slice a0 n0 c0, .slice a1 n1 c1, .slice a2 n2 c2, .slice a3 n3 c3, .slice a4 n4 c4, .slice a5 n5 c5] 45)).alloc (.cells #[.int .i32 0, .int .u32 0, .int .i64 0, .int .i64 0, .slice none 0 0] 92)) (.cells #[.int .u8 81, .int .u8 70, .int .u8 77, .int .u8 49] 5)
  rw [World.size_alloc, World.size_alloc] at this
  exact this
 have b3 : Below W.heap.size W W3 := by
  rw [hW3]
  exact (((below1 _ _).trans ((below1 _ _).mono (by simp))).trans ((below1 _ _).mono (by simp; omega))).trans ((below_freeze _ ⟨W.heap.size + 1 + 1, 4, none⟩).mono (by show W.heap.size ≤ W.heap.size + 1 + 1; omega))
 have z3 : D ≤ W3.heap.size := by rw [hW3, freeze_size, HDD.out]; simp
 have r0 : W3.heap[W.heap.size]? = some (.cells #[.slice a0 n0 c0, .slice a1 n1 c1, .slice a2 n2 c2, .slice a3 n3 c3, .slice a4 n4 c4, .slice a5 n5 c5] 45) := by rw [hW3, freeze_other _ _ (by show W.heap.size ≠ W.heap.size + 1 + 1; omega)]; exact g0
 have dw : DW D D W3 0 [] [] (.slice none 0 0) [] := by
  refine ⟨Nat.le_refl _, ?_, World.ownsRow_nil _ _ _ _, rfl, fun i hi => absurd hi (by simp)⟩
  unfold Fiv
  rw [hW3, HDD.out, freeze_other _ _ (by show W.heap.size + 1 ≠ W.heap.size + 1 + 1; omega)]
  exact g1
 have pb : PB D W3 (.slice (some ⟨W.heap.size + 1 + 1, 0, none⟩) 4 4) [81, 70, 77, 49] := by
  obtain ⟨fz, hfz⟩ := freeze_row _ (o := 4) g2
  rw [← hW3] at hfz
  refine .inr ⟨_, _, _, fz, rfl, by rw [HDD.out]; omega, hfz, fun j hj => ?_⟩
  match j, hj with
  | 0, _ => rfl
  | 1, _ => rfl
  | 2, _ => rfl
  | 3, _ => rfl
 have LC : Hid (∀ X, Below D W3 X → X.cell? ⟨W.heap.size, 0, none⟩ = some (.slice a0 n0 c0) ∧ X.cell? ⟨W.heap.size, 1, none⟩ = some (.slice a1 n1 c1) ∧ X.cell? ⟨W.heap.size, 2, none⟩ = some (.slice a2 n2 c2) ∧ X.cell? ⟨W.heap.size, 3, none⟩ = some (.slice a3 n3 c3) ∧ X.cell? ⟨W.heap.size, 4, none⟩ = some (.slice a4 n4 c4) ∧ X.cell? ⟨W.heap.size, 5, none⟩ = some (.slice a5 n5 c5)) := hideP (fun X hX => by
  have q := (hX.block W.heap.size (by rw [HDD.out]; omega)).trans r0
  refine ⟨?_, ?_, ?_, ?_, ?_, ?_⟩ <;> (rw [cell_of_row _ _ _ _ 45 _ q]; rfl))
 have WB : Hid (∀ X, Below D W3 X → Below W.heap.size W X ∧ D ≤ X.heap.size) := hideP (fun X hX => ⟨b3.trans (hX.mono (by rw [HDD.out]; omega)), Nat.le_trans z3 hX.size⟩)
 have DW3 := hideP dw
 have PB3 := hideP pb
 have WR := hideP (write_any dw pb BQ.out z3 (by simp) (by simp))
 clear g0 g1 g2 b3 r0 dw pb hW3 hcv hsz z3 DW3 PB3
 rw [← HDD.out] at WR ⊢
 refine WR.out.mono ?_
 rintro e w0 ⟨rfl, ⟨pv, vs, dw⟩, hb⟩
 have DV := hideP dw
 have BV := hideP hb
 clear dw hb WR
 obtain ⟨l0, l1, l2, l3, l4, l5⟩ := LC.out _ BV.out
 go_wp2_with fail
 refine (E0.out _ (WB.out _ BV.out).1 (WB.out _ BV.out).2).mono ?_
 rintro e y0 ⟨u0, rfl, ho, hg⟩
 have BY0 : Hid (Below D W3 y0) := hideP (BV.out.trans ((go_nil hg).mono (WB.out _ BV.out).2))
 have WR := hideP (write_any (DV.out.put (u := .nilFunc) ho hg).1 (DV.out.put (u := .nilFunc) ho hg).2 BQ0.out (WB.out _ BY0.out).2 (by have := HALL.out; simp only [List.nil_append, List.append_nil, List.flatten_append, List.flatten_cons, List.flatten_nil, List.length_append, List.length_cons, List.length_nil]; omega) (by simp))
 obtain ⟨ua0, un0, uc0, rfl⟩ := BO.shp ho
 clear ho hg l0 l1 l2 l3 l4 l5 DV BV
 go_wp2_with fail
 refine WR.out.mono ?_
 rintro e w1 ⟨rfl, ⟨pv0, vs0, dw⟩, hb⟩
 have DV := hideP dw
 have BV : Hid (Below D W3 w1) := hideP (BY0.out.trans hb)
 clear dw hb WR BY0
 obtain ⟨l0, l1, l2, l3, l4, l5⟩ := LC.out _ BV.out
 go_wp2_with fail
 refine (E1.out _ (WB.out _ BV.out).1 (WB.out _ BV.out).2).mono ?_
 rintro e y1 ⟨u1, rfl, ho, hg⟩
 have BY1 : Hid (Below D W3 y1) := hideP (BV.out.trans ((go_nil hg).mono (WB.out _ BV.out).2))
 have WR := hideP (write_any (DV.out.put (u := .nilFunc) ho hg).1 (DV.out.put (u := .nilFunc) ho hg).2 BQ1.out (WB.out _ BY1.out).2 (by have := HALL.out; simp only [List.nil_append, List.append_nil, List.flatten_append, List.flatten_cons, List.flatten_nil, List.length_append, List.length_cons, List.length_nil]; omega) (by simp))
 obtain ⟨ua1, un1, uc1, rfl⟩ := BO.shp ho
 clear ho hg l0 l1 l2 l3 l4 l5 DV BV
 go_wp2_with fail
 refine WR.out.mono ?_
 rintro e w2 ⟨rfl, ⟨pv1, vs1, dw⟩, hb⟩
 have DV := hideP dw
 have BV : Hid (Below D W3 w2) := hideP (BY1.out.trans hb)
 clear dw hb WR BY1
 obtain ⟨l0, l1, l2, l3, l4, l5⟩ := LC.out _ BV.out
 go_wp2_with fail
 refine (E2.out _ (WB.out _ BV.out).1 (WB.out _ BV.out).2).mono ?_
 rintro e y2 ⟨u2, rfl, ho, hg⟩
 have BY2 : Hid (Below D W3 y2) := hideP (BV.out.trans ((go_nil hg).mono (WB.out _ BV.out).2))
 have WR := hideP (write_any (DV.out.put (u := .nilFunc) ho hg).1 (DV.out.put (u := .nilFunc) ho hg).2 BQ2.out (WB.out _ BY2.out).2 (by have := HALL.out; simp only [List.nil_append, List.append_nil, List.flatten_append, List.flatten_cons, List.flatten_nil, List.length_append, List.length_cons, List.length_nil]; omega) (by simp))
 obtain ⟨ua2, un2, uc2, rfl⟩ := BO.shp ho
 clear ho hg l0 l1 l2 l3 l4 l5 DV BV
 go_wp2_with fail
 refine WR.out.mono ?_
 rintro e w3 ⟨rfl, ⟨pv2, vs2, dw⟩, hb⟩
 have DV := hideP dw
 have BV : Hid (Below D W3 w3) := hideP (BY2.out.trans hb)
 clear dw hb WR BY2
 obtain ⟨l0, l1, l2, l3, l4, l5⟩ := LC.out _ BV.out
 go_wp2_with fail
 refine (E3.out _ (WB.out _ BV.out).1 (WB.out _ BV.out).2).mono ?_
 rintro e y3 ⟨u3, rfl, ho, hg⟩
 have BY3 : Hid (Below D W3 y3) := hideP (BV.out.trans ((go_nil hg).mono (WB.out _ BV.out).2))
 have WR := hideP (write_any (DV.out.put (u := .nilFunc) ho hg).1 (DV.out.put (u := .nilFunc) ho hg).2 BQ3.out (WB.out _ BY3.out).2 (by have := HALL.out; simp only [List.nil_append, List.append_nil, List.flatten_append, List.flatten_cons, List.flatten_nil, List.length_append, List.length_cons, List.length_nil]; omega) (by simp))
 obtain ⟨ua3, un3, uc3, rfl⟩ := BO.shp ho
 clear ho hg l0 l1 l2 l3 l4 l5 DV BV
 go_wp2_with fail
 refine WR.out.mono ?_
 rintro e w4 ⟨rfl, ⟨pv3, vs3, dw⟩, hb⟩
 have DV := hideP dw
 have BV : Hid (Below D W3 w4) := hideP (BY3.out.trans hb)
 clear dw hb WR BY3
 obtain ⟨l0, l1, l2, l3, l4, l5⟩ := LC.out _ BV.out
 go_wp2_with fail
 refine (E4.out _ (WB.out _ BV.out).1 (WB.out _ BV.out).2).mono ?_
 rintro e y4 ⟨u4, rfl, ho, hg⟩
 have BY4 : Hid (Below D W3 y4) := hideP (BV.out.trans ((go_nil hg).mono (WB.out _ BV.out).2))
 have WR := hideP (write_any (DV.out.put (u := .nilFunc) ho hg).1 (DV.out.put (u := .nilFunc) ho hg).2 BQ4.out (WB.out _ BY4.out).2 (by have := HALL.out; simp only [List.nil_append, List.append_nil, List.flatten_append, List.flatten_cons, List.flatten_nil, List.length_append, List.length_cons, List.length_nil]; omega) (by simp))
 obtain ⟨ua4, un4, uc4, rfl⟩ := BO.shp ho
 clear ho hg l0 l1 l2 l3 l4 l5 DV BV
 go_wp2_with fail
 refine WR.out.mono ?_
 rintro e w5 ⟨rfl, ⟨pv4, vs4, dw⟩, hb⟩
 have DV := hideP dw
 have BV : Hid (Below D W3 w5) := hideP (BY4.out.trans hb)
 clear dw hb WR BY4
 obtain ⟨l0, l1, l2, l3, l4, l5⟩ := LC.out _ BV.out
 go_wp2_with fail
 refine (E5.out _ (WB.out _ BV.out).1 (WB.out _ BV.out).2).mono ?_
 rintro e y5 ⟨u5, rfl, ho, hg⟩
 have BY5 : Hid (Below D W3 y5) := hideP (BV.out.trans ((go_nil hg).mono (WB.out _ BV.out).2))
 have WR := hideP (write_any (DV.out.put (u := .nilFunc) ho hg).1 (DV.out.put (u := .nilFunc) ho hg).2 BQ5.out (WB.out _ BY5.out).2 (by have := HALL.out; simp only [List.nil_append, List.append_nil, List.flatten_append, List.flatten_cons, List.flatten_nil, List.length_append, List.length_cons, List.length_nil]; omega) (by simp))
 obtain ⟨ua5, un5, uc5, rfl⟩ := BO.shp ho
 clear ho hg l0 l1 l2 l3 l4 l5 DV BV
 go_wp2_with fail
 refine WR.out.mono ?_
 rintro e w6 ⟨rfl, ⟨pv5, vs5, dw⟩, hb⟩
 have DV := hideP dw
 have BV : Hid (Below D W3 w6) := hideP (BY5.out.trans hb)
 clear dw hb WR BY5
 go_wp2
 go_ret
 have dv := DV.out
 have hw := (WB.out _ BV.out).1
 clear WB BV DV LC HALL HDD BQ BQ0 BQ1 BQ2 BQ3 BQ4 BQ5 E0 E1 E2 E3 E4 E5
 refine ⟨rfl, ⟨_, _, _, ?_, dv⟩, hw⟩
 refine ⟨?_, rfl⟩
 simp only [List.nil_append, List.append_nil, List.flatten_append, List.flatten_cons, List.flatten_nil, List.append_assoc, List.cons_append]
end Go.Proofs.YtbpidcfoldkhgaaGreat

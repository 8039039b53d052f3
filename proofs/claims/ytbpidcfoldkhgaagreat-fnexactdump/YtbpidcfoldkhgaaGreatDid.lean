import Derived.Test.YtbpidcfoldkhgaaGreatDic
namespace Go.Proofs.YtbpidcfoldkhgaaGreat
open Go.RowKit
set_option linter.unusedVariables false
set_option linter.unusedSimpArgs false
def byB (z : Int) : List Int := [z]
theorem flat_byB : ∀ xs : List Int, xs.flatMap byB = xs
 | [] => rfl
 | x :: xs => by rw [List.flatMap_cons, flat_byB xs]; rfl
set_option maxRecDepth 20000 in
set_option maxHeartbeats 4000000 in
theorem eachByte_any {W w0 : World} {base : Nat} {xs : List Int} {ta : Option Addr} {m tc : Nat} {v : Value} {zs : List Int} (h : BO base W v zs) (hb : base ≤ W.heap.size) (hX : Row w0 (.slice ta m tc) xs) (hm : xs.length = m) (h0 : Below w0.heap.size w0 W) (hs : w0.heap.size ≤ base) (hn : xs.length ≤ 1048576) (hk : ∀ z ∈ xs, 0 ≤ z ∧ z < 256) (hl : zs.length + (xs.flatMap byB).length ≤ 70368744177664) :
 Calls Tryz.prog 38 #[v, .slice ta m tc, .func (.func 39) #[] #[]] W fun e W' => PutQ base v W (zs ++ xs.flatMap byB) e W' := by
 have TC : Hid (∀ k, k < m → ∀ v' w', BO base w' v' (zs ++ (xs.take k).flatMap byB) → base ≤ w'.heap.size → Calls Tryz.prog 39 #[v', .int .i64 (xs.getD k 0)] w' fun e W' => PutQ base v' w' (zs ++ (xs.take (k + 1)).flatMap byB) e W') := hideP (fun k hkm v' w' h1 h2 => by
  have hkl : k < xs.length := by omega
  have hd := hk _ (getD_in 0 hkl)
  have hle := flat_le (f := byB) 0 hkl
  rw [take_flat 0 hkl, ← List.append_assoc]
  exact putByte_any h1 h2 (by omega) (by rw [List.length_append]; have e : (byB (xs.getD k 0)).length = 1 := rfl; rw [e] at hle; omega))
 have HR : Hid (0 < m → ∃ b off, ta = some ⟨b, off, none⟩ ∧ b < w0.heap.size ∧ ∀ k, k < m → w0.cell? ⟨b, off + k, none⟩ = some (.int .i64 (xs.getD k 0))) := hideP (fun hp => by obtain ⟨b, off, e, h1, _, h2⟩ := Row.at hX hp; exact ⟨b, off, e, h1, h2⟩)
 have HO := hideP h
 have H0 := hideP h0
 have HM := hideP hm
 have HS := hideP hs
 have hm2 : m ≤ 1048576 := by omega
 obtain ⟨ao, n, cap, rfl⟩ := BO.shp h
 clear h hl h0 hk hn hm hs hX
 go_enter Tryz.func38, Tryz.ntmps38
 go_wp2
 go_loopw [0, 11] (fun s0 s5 wr => ∃ k : Nat, s5 = .int .i64 (k : Int) ∧ k ≤ m ∧ BO base wr s0 (zs ++ (xs.take k).flatMap byB) ∧ GO (.slice ao n cap) W s0 wr) (fun _ s _ => m - (intOf s).toNat)
 case atStart => exact ⟨0, rfl, by omega, by rw [List.take_zero, List.flatMap_nil, List.append_nil]; exact HO.out, GO.refl _ _⟩
 case round =>
  obtain ⟨k, rfl, hkm, ho, hg⟩ := hrel
  by_cases hkn : k < m
  ·have hki : (k : Int) < (m : Int) := by omega
   obtain ⟨b, off, rfl, hbl, hc⟩ := HR.out (by omega)
   have c0 := hc k hkn
   have bw : Below w0.heap.size w0 wr := H0.out.trans ((hg.below HO.out hb).mono HS.out)
   have g0 := (bw.cell (p := ⟨b, off + k, none⟩) hbl).trans c0
   have TK := hideP (TC.out k hkn _ wr ho (by have := hg.size; omega))
   obtain ⟨t, ht⟩ : ∃ t, t = xs.getD k 0 := ⟨_, rfl⟩
   rw [← ht] at g0 TK
   have HG := hideP hg
   obtain ⟨a1, n1, p1, rfl⟩ := BO.shp ho
   clear ho hg bw hc c0 ht
   go_wp2_with fail
   refine TK.out.mono ?_
   rintro e w2 ⟨v2, rfl, ho2, hb2⟩
   have O2 := hideP ho2
   have B2 := hideP (HG.out.trans hb2)
   clear ho2 hb2
   go_wp2
   go_roundw
   case rel => exact ⟨k + 1, by simp, by omega, O2.out, B2.out⟩
   case measure => simp [intOf]; omega
  ·obtain rfl : k = m := by omega
   have hki : ¬ (k : Int) < (k : Int) := by omega
   have O2 := hideP ho
   have B2 := hideP hg
   clear ho hg
   go_wp2
   go_ret
   refine ⟨_, rfl, ?_, B2.out⟩
   have h := O2.out
   rw [List.take_of_length_le (by rw [HM.out]; exact Nat.le_refl _)] at h
   exact h
set_option maxRecDepth 20000 in
set_option maxHeartbeats 4000000 in
theorem eachSigned_any {W w0 : World} {base : Nat} {xs : List Int} {ta : Option Addr} {m tc : Nat} {v : Value} {zs : List Int} (h : BO base W v zs) (hb : base ≤ W.heap.size) (hX : Row w0 (.slice ta m tc) xs) (hm : xs.length = m) (h0 : Below w0.heap.size w0 W) (hs : w0.heap.size ≤ base) (hn : xs.length ≤ 1048576) (hk : ∀ z ∈ xs, -4294967296 ≤ z ∧ z ≤ 4294967296) (hl : zs.length + (xs.flatMap sgnB).length ≤ 70368744177664) :
 Calls Tryz.prog 38 #[v, .slice ta m tc, .func (.func 42) #[] #[]] W fun e W' => PutQ base v W (zs ++ xs.flatMap sgnB) e W' := by
 have TC : Hid (∀ k, k < m → ∀ v' w', BO base w' v' (zs ++ (xs.take k).flatMap sgnB) → base ≤ w'.heap.size → Calls Tryz.prog 42 #[v', .int .i64 (xs.getD k 0)] w' fun e W' => PutQ base v' w' (zs ++ (xs.take (k + 1)).flatMap sgnB) e W') := hideP (fun k hkm v' w' h1 h2 => by
  have hkl : k < xs.length := by omega
  have hd := hk _ (getD_in 0 hkl)
  have hle := flat_le (f := sgnB) 0 hkl
  rw [take_flat 0 hkl, ← List.append_assoc]
  exact putSigned_any h1 h2 (by omega) (by rw [List.length_append]; skip; omega))
 have HR : Hid (0 < m → ∃ b off, ta = some ⟨b, off, none⟩ ∧ b < w0.heap.size ∧ ∀ k, k < m → w0.cell? ⟨b, off + k, none⟩ = some (.int .i64 (xs.getD k 0))) := hideP (fun hp => by obtain ⟨b, off, e, h1, _, h2⟩ := Row.at hX hp; exact ⟨b, off, e, h1, h2⟩)
 have HO := hideP h
 have H0 := hideP h0
 have HM := hideP hm
 have HS := hideP hs
 have hm2 : m ≤ 1048576 := by omega
 obtain ⟨ao, n, cap, rfl⟩ := BO.shp h
 clear h hl h0 hk hn hm hs hX
 go_enter Tryz.func38, Tryz.ntmps38
 go_wp2
 go_loopw [0, 11] (fun s0 s5 wr => ∃ k : Nat, s5 = .int .i64 (k : Int) ∧ k ≤ m ∧ BO base wr s0 (zs ++ (xs.take k).flatMap sgnB) ∧ GO (.slice ao n cap) W s0 wr) (fun _ s _ => m - (intOf s).toNat)
 case atStart => exact ⟨0, rfl, by omega, by rw [List.take_zero, List.flatMap_nil, List.append_nil]; exact HO.out, GO.refl _ _⟩
 case round =>
  obtain ⟨k, rfl, hkm, ho, hg⟩ := hrel
  by_cases hkn : k < m
  ·have hki : (k : Int) < (m : Int) := by omega
   obtain ⟨b, off, rfl, hbl, hc⟩ := HR.out (by omega)
   have c0 := hc k hkn
   have bw : Below w0.heap.size w0 wr := H0.out.trans ((hg.below HO.out hb).mono HS.out)
   have g0 := (bw.cell (p := ⟨b, off + k, none⟩) hbl).trans c0
   have TK := hideP (TC.out k hkn _ wr ho (by have := hg.size; omega))
   obtain ⟨t, ht⟩ : ∃ t, t = xs.getD k 0 := ⟨_, rfl⟩
   rw [← ht] at g0 TK
   have HG := hideP hg
   obtain ⟨a1, n1, p1, rfl⟩ := BO.shp ho
   clear ho hg bw hc c0 ht
   go_wp2_with fail
   refine TK.out.mono ?_
   rintro e w2 ⟨v2, rfl, ho2, hb2⟩
   have O2 := hideP ho2
   have B2 := hideP (HG.out.trans hb2)
   clear ho2 hb2
   go_wp2
   go_roundw
   case rel => exact ⟨k + 1, by simp, by omega, O2.out, B2.out⟩
   case measure => simp [intOf]; omega
  ·obtain rfl : k = m := by omega
   have hki : ¬ (k : Int) < (k : Int) := by omega
   have O2 := hideP ho
   have B2 := hideP hg
   clear ho hg
   go_wp2
   go_ret
   refine ⟨_, rfl, ?_, B2.out⟩
   have h := O2.out
   rw [List.take_of_length_le (by rw [HM.out]; exact Nat.le_refl _)] at h
   exact h
set_option maxRecDepth 20000 in
set_option maxHeartbeats 4000000 in
theorem eachRow_any {W w0 : World} {base : Nat} {xs : List (List Tk)} {ta : Option Addr} {m tc : Nat} {v : Value} {zs : List Int} (h : BO base W v zs) (hb : base ≤ W.heap.size) (hX : TsRow 0 w0 (.slice ta m tc) xs) (hm : xs.length = m) (h0 : Below w0.heap.size w0 W) (hs : w0.heap.size ≤ base) (hn : xs.length ≤ 1048576) (hk : ∀ ts ∈ xs, ts.length ≤ 2000 ∧ ∀ t ∈ ts, TkD t) (hl : zs.length + (xs.flatMap rwB).length ≤ 70368744177664) :
 Calls Tryz.prog 45 #[v, .slice ta m tc, .func (.func 46) #[] #[]] W fun e W' => PutQ base v W (zs ++ xs.flatMap rwB) e W' := by
 have TC : Hid (∀ k, k < m → ∀ v' w' tv, TRow w0 tv (xs.getD k []) → BO base w' v' (zs ++ (xs.take k).flatMap rwB) → Below w0.heap.size w0 w' → base ≤ w'.heap.size → Calls Tryz.prog 46 #[v', tv] w' fun e W' => PutQ base v' w' (zs ++ (xs.take (k + 1)).flatMap rwB) e W') := hideP (fun k hkm v' w' tv ht h1 h2 h3 => by
  have hkl : k < xs.length := by omega
  have hd := hk _ (getD_in [] hkl)
  have hle := flat_le (f := rwB) [] hkl
  rw [take_flat [] hkl, ← List.append_assoc]
  exact putRow_any h1 h3 ht h2 hs (by omega) hd.2 (by rw [List.length_append]; omega))
 have HR : Hid (0 < m → ∃ b off, ta = some ⟨b, off, none⟩ ∧ b < w0.heap.size ∧ ∀ k, k < m → ∃ a n c, w0.cell? ⟨b, off + k, none⟩ = some (.slice a n c) ∧ TRow w0 (.slice a n c) (xs.getD k [])) := hideP (fun hp => by obtain ⟨b, off, e, h1, _, h2⟩ := TsRow.at hX hp; exact ⟨b, off, e, h1, h2⟩)
 have HO := hideP h
 have H0 := hideP h0
 have HM := hideP hm
 have HS := hideP hs
 have hm2 : m ≤ 1048576 := by omega
 obtain ⟨ao, n, cap, rfl⟩ := BO.shp h
 clear h hl h0 hk hn hm hs hX
 go_enter Tryz.func45, Tryz.ntmps45
 go_wp2
 go_loopw [0, 11] (fun s0 s5 wr => ∃ k : Nat, s5 = .int .i64 (k : Int) ∧ k ≤ m ∧ BO base wr s0 (zs ++ (xs.take k).flatMap rwB) ∧ GO (.slice ao n cap) W s0 wr) (fun _ s _ => m - (intOf s).toNat)
 case atStart => exact ⟨0, rfl, by omega, by rw [List.take_zero, List.flatMap_nil, List.append_nil]; exact HO.out, GO.refl _ _⟩
 case round =>
  obtain ⟨k, rfl, hkm, ho, hg⟩ := hrel
  by_cases hkn : k < m
  ·have hki : (k : Int) < (m : Int) := by omega
   obtain ⟨b, off, rfl, hbl, hc⟩ := HR.out (by omega)
   obtain ⟨qa, qn, qc, c0, hq⟩ := hc k hkn
   have bw : Below w0.heap.size w0 wr := H0.out.trans ((hg.below HO.out hb).mono HS.out)
   have g0 := (bw.cell (p := ⟨b, off + k, none⟩) hbl).trans c0
   have TK := hideP (TC.out k hkn _ wr _ hq ho bw (by have := hg.size; omega))
   have HG := hideP hg
   obtain ⟨a1, n1, p1, rfl⟩ := BO.shp ho
   clear ho hg bw hc c0 hq
   go_wp2_with fail
   refine TK.out.mono ?_
   rintro e w2 ⟨v2, rfl, ho2, hb2⟩
   have O2 := hideP ho2
   have B2 := hideP (HG.out.trans hb2)
   clear ho2 hb2
   go_wp2
   go_roundw
   case rel => exact ⟨k + 1, by simp, by omega, O2.out, B2.out⟩
   case measure => simp [intOf]; omega
  ·obtain rfl : k = m := by omega
   have hki : ¬ (k : Int) < (k : Int) := by omega
   have O2 := hideP ho
   have B2 := hideP hg
   clear ho hg
   go_wp2
   go_ret
   refine ⟨_, rfl, ?_, B2.out⟩
   have h := O2.out
   rw [List.take_of_length_le (by rw [HM.out]; exact Nat.le_refl _)] at h
   exact h
def GlD (g : Gl) : Prop := ((-4294967296 ≤ g.s ∧ g.s ≤ 4294967296) ∧ (-4294967296 ≤ g.p ∧ g.p ≤ 4294967296) ∧ (-4294967296 ≤ g.m ∧ g.m ≤ 4294967296)) ∧ (0 ≤ g.po ∧ g.po ≤ 3) ∧ (0 ≤ g.mo ∧ g.mo ≤ 3)
set_option maxRecDepth 20000 in
set_option maxHeartbeats 4000000 in
theorem putGlue_any {W : World} {base : Nat} {g : Gl} {v : Value} {zs : List Int} (h : BO base W v zs) (hb : base ≤ W.heap.size) (hd : GlD g) (hl : zs.length + (guB g).length ≤ 70368744177664) :
 Calls Tryz.prog 44 #[v, g.v] W fun e W' => PutQ base v W (zs ++ guB g) e W' := by
 obtain ⟨s, p, po, m, mo⟩ := g
 obtain ⟨⟨hs, hp, hm⟩, hpo, hmo⟩ := hd
 simp only at hs hp hm hpo hmo
 have hl2 : zs.length + (([s, p, m].flatMap sgnB).length + 1) ≤ 70368744177664 := by
  unfold guB at hl
  simp only [List.length_append, List.length_cons, List.length_nil, List.flatMap_cons, List.flatMap_nil] at hl ⊢
  omega
 have HL := hideP hl2
 have HO := hideP h
 have hown : v.ownBlock ≠ some W.heap.size := fun e => by have := (h.row _ e).2; omega
 have HW := hideP hown
 have hown2 : v.ownBlock ≠ some (W.heap.size + 1) := fun e => by have := (h.row _ e).2; omega
 have HW2 := hideP hown2
 obtain ⟨ao, n, cap, rfl⟩ := BO.shp h
 obtain ⟨X, hX⟩ : ∃ X, X = (W.alloc (.cells #[.int .i64 s, .int .i64 p, .int .i64 po, .int .i64 m, .int .i64 mo] 61)).alloc (.cells #[.int .i64 s, .int .i64 p, .int .i64 m] 2) := ⟨_, rfl⟩
 have HX := hideP hX
 have H0 : Hid (∀ v2 w2, GO (.slice ao n cap) X v2 w2 → w2.cell? ⟨W.heap.size, 2, none⟩ = some (.int .i64 po) ∧ w2.cell? ⟨W.heap.size, 4, none⟩ = some (.int .i64 mo)) := hideP (fun v2 w2 hg => by
  have h3 : w2.heap[W.heap.size]? = some (.cells #[.int .i64 s, .int .i64 p, .int .i64 po, .int .i64 m, .int .i64 mo] 61) := by
   rw [hg.block (k := W.heap.size) (by rw [HX.out]; simp; omega) HW.out, HX.out]
   exact (Below.heap_alloc _ _ _ (by simp)).trans (heap_alloc_new W _)
  refine ⟨?_, ?_⟩ <;> (rw [cell_of_row _ _ _ _ 61 _ h3]; rfl))
 have H1 : Hid (∀ v2 w2, GO (.slice ao n cap) X v2 w2 → ∀ k, k < 3 → w2.cell? ⟨W.heap.size + 1, k, none⟩ = some (.int .i64 ([s, p, m].getD k 0))) := hideP (fun v2 w2 hg k hk => by
  have h2 := hg.block (k := W.heap.size + 1) (by rw [HX.out]; simp) HW2.out
  have h3 : X.heap[W.heap.size + 1]? = some (.cells #[.int .i64 s, .int .i64 p, .int .i64 m] 2) := by
   rw [HX.out]
   have := heap_alloc_new (W.alloc (.cells #[.int .i64 s, .int .i64 p, .int .i64 po, .int .i64 m, .int .i64 mo] 61)) (.cells #[.int .i64 s, .int .i64 p, .int .i64 m] 2)
   rw [World.size_alloc] at this
   exact this
  rw [cell_of_row _ _ _ _ 2 _ (h2.trans h3)]
  match k, hk with
  | 0, _ => rfl
  | 1, _ => rfl
  | 2, _ => rfl)
 have TC : Hid (∀ k, k < 3 → ∀ v' w', BO base w' v' (zs ++ ([s, p, m].take k).flatMap sgnB) → base ≤ w'.heap.size → Calls Tryz.prog 42 #[v', .int .i64 ([s, p, m].getD k 0)] w' fun e W' => PutQ base v' w' (zs ++ ([s, p, m].take (k + 1)).flatMap sgnB) e W') := hideP (fun k hk v' w' h1 h2 => by
  have hle := flat_le (f := sgnB) (ts := [s, p, m]) (k := k) 0 hk
  rw [take_flat 0 hk, ← List.append_assoc]
  refine putSigned_any h1 h2 ?_ (by rw [List.length_append]; omega)
  match k, hk with
  | 0, _ => simp; omega
  | 1, _ => simp; omega
  | 2, _ => simp; omega)
 have BC : Hid (∀ v' w', BO base w' v' (zs ++ [s, p, m].flatMap sgnB) → base ≤ w'.heap.size → Calls Tryz.prog 39 #[v', .int .i64 (po + 16 * mo)] w' fun e W' => PutQ base v' w' (zs ++ [s, p, m].flatMap sgnB ++ [po + 16 * mo]) e W') := hideP (fun v' w' h1 h2 => putByte_any h1 h2 (by omega) (by rw [List.length_append]; omega))
 have BX : Hid (BO base X (.slice ao n cap) zs ∧ base ≤ X.heap.size ∧ GO (.slice ao n cap) W (.slice ao n cap) X) := hideP (by rw [HX.out]; exact ⟨(HO.out.alloc _).alloc _, by simp; omega, ((GO.refl _ _).alloc _).alloc _⟩)
 show Calls Tryz.prog 44 #[.slice ao n cap, .agg #[.int .i64 s, .int .i64 p, .int .i64 po, .int .i64 m, .int .i64 mo]] W _
 clear h hl hl2 hown hown2 hs hp hm hX
 go_enter Tryz.func44, Tryz.ntmps44
 go_wp2
 have hz : ∀ y, y = (W.alloc (.cells #[.int .i64 s, .int .i64 p, .int .i64 po, .int .i64 m, .int .i64 mo] 61)).alloc (.cells #[.int .i64 s, .int .i64 p, .int .i64 m] 2) → y = X := fun y hy => hy.trans HX.out.symm
 rw [hz _ rfl]
 clear hz
 go_loopw [0, 15, 6] (fun s0 s5 s6 wr => ∃ k : Nat, s5 = .int .i64 (k : Int) ∧ k ≤ 3 ∧ BO base wr s0 (zs ++ ([s, p, m].take k).flatMap sgnB) ∧ GO (.slice ao n cap) X s0 wr) (fun _ s _ _ => 3 - (intOf s).toNat)
 case atStart => exact ⟨0, rfl, by omega, by rw [List.take_zero, List.flatMap_nil, List.append_nil]; exact BX.out.1, GO.refl _ _⟩
 case round =>
  obtain ⟨k, rfl, hkm, ho, hg⟩ := hrel
  have hbw : base ≤ wr.heap.size := by have := hg.size; have := BX.out.2.1; omega
  by_cases hkn : k < 3
  ·have hki : (k : Int) < 3 := by omega
   have g0 := H1.out _ _ hg k hkn
   have TK := hideP (TC.out k hkn _ wr ho hbw)
   have HG := hideP hg
   obtain ⟨t, ht⟩ : ∃ t, t = [s, p, m].getD k 0 := ⟨_, rfl⟩
   rw [← ht] at g0 TK
   obtain ⟨a1, n1, p1, rfl⟩ := BO.shp ho
   clear ho hg ht
   go_wp2_with fail
   refine TK.out.mono ?_
   rintro e w2 ⟨v2, rfl, ho2, hb2⟩
   have O2 := hideP ho2
   have B2 := hideP (HG.out.trans hb2)
   clear ho2 hb2
   go_wp2
   go_roundw
   case rel => exact ⟨k + 1, by simp, by omega, O2.out, B2.out⟩
   case measure => simp [intOf]; omega
  ·obtain rfl : k = 3 := by omega
   have hki : ¬ ((3 : Nat) : Int) < (3 : Int) := by omega
   obtain ⟨g0, g1⟩ := H0.out _ _ hg
   have TK := hideP (BC.out _ wr ho hbw)
   have B2 := hideP (BX.out.2.2.trans hg)
   obtain ⟨a1, n1, p1, rfl⟩ := BO.shp ho
   clear ho hg
   go_wp2_with fail
   refine TK.out.mono ?_
   rintro e w2 ⟨v2, rfl, ho2, hb2⟩
   have O2 := hideP ho2
   have B3 := hideP (B2.out.trans hb2)
   clear ho2 hb2
   go_wp2
   go_ret
   refine ⟨_, rfl, ?_, B3.out⟩
   have h := O2.out
   simp only [guB, List.flatMap_cons, List.flatMap_nil, List.append_nil, List.append_assoc] at h ⊢
   exact h
set_option maxRecDepth 20000 in
set_option maxHeartbeats 4000000 in
theorem eachGlue_any {W w0 : World} {base : Nat} {ts : List Gl} {ta : Option Addr} {m tc : Nat} {v : Value} {zs : List Int} (h : BO base W v zs) (hb : base ≤ W.heap.size) (hT : GRow w0 (.slice ta m tc) ts) (hm : ts.length = m) (h0 : Below w0.heap.size w0 W) (hs : w0.heap.size ≤ base) (hn : ts.length ≤ 1048576) (hk : ∀ t ∈ ts, GlD t) (hl : zs.length + (ts.flatMap guB).length ≤ 70368744177664) :
 Calls Tryz.prog 43 #[v, .slice ta m tc, .func (.func 44) #[] #[]] W fun e W' => PutQ base v W (zs ++ ts.flatMap guB) e W' := by
 have TC : Hid (∀ k, k < m → ∀ v' w', BO base w' v' (zs ++ (ts.take k).flatMap guB) → base ≤ w'.heap.size → Calls Tryz.prog 44 #[v', (ts.getD k Gl.none).v] w' fun e W' => PutQ base v' w' (zs ++ (ts.take (k + 1)).flatMap guB) e W') := hideP (fun k hkm v' w' h1 h2 => by
  have hkl : k < ts.length := by omega
  have hd := hk _ (getD_in Gl.none hkl)
  have hle := flat_le (f := guB) Gl.none hkl
  rw [take_flat Gl.none hkl, ← List.append_assoc]
  exact putGlue_any h1 h2 hd (by rw [List.length_append]; omega))
 have HR : Hid (0 < m → ∃ b off, ta = some ⟨b, off, none⟩ ∧ b < w0.heap.size ∧ ∀ k, k < m → GlAt w0 b off k (ts.getD k Gl.none)) := hideP (fun hp => by obtain ⟨b, off, e, h1, _, h2⟩ := GRow.at hT hp; exact ⟨b, off, e, h1, h2⟩)
 have HO := hideP h
 have H0 := hideP h0
 have HM := hideP hm
 have hm2 : m ≤ 1048576 := by omega
 have HS := hideP hs
 obtain ⟨ao, n, cap, rfl⟩ := BO.shp h
 clear h hl h0 hk hn hm hs hT
 go_enter Tryz.func43, Tryz.ntmps43
 go_wp2
 go_loopw [0, 11] (fun s0 s5 wr => ∃ k : Nat, s5 = .int .i64 (k : Int) ∧ k ≤ m ∧ BO base wr s0 (zs ++ (ts.take k).flatMap guB) ∧ GO (.slice ao n cap) W s0 wr) (fun _ s _ => m - (intOf s).toNat)
 case atStart => exact ⟨0, rfl, by omega, by rw [List.take_zero, List.flatMap_nil, List.append_nil]; exact HO.out, GO.refl _ _⟩
 case round =>
  obtain ⟨k, rfl, hkm, ho, hg⟩ := hrel
  by_cases hkn : k < m
  ·have hki : (k : Int) < (m : Int) := by omega
   obtain ⟨b, off, rfl, hbl, hc⟩ := HR.out (by omega)
   obtain ⟨c0, c1, c2, c3, c4⟩ := hc k hkn
   have bw : Below w0.heap.size w0 wr := H0.out.trans ((hg.below HO.out hb).mono HS.out)
   have g0 := (bw.cell (p := ⟨b, off + k * 5, none⟩) hbl).trans c0
   have g1 := (bw.cell (p := ⟨b, off + k * 5 + 1, none⟩) hbl).trans c1
   have g2 := (bw.cell (p := ⟨b, off + k * 5 + 2, none⟩) hbl).trans c2
   have g3 := (bw.cell (p := ⟨b, off + k * 5 + 3, none⟩) hbl).trans c3
   have g4 := (bw.cell (p := ⟨b, off + k * 5 + 4, none⟩) hbl).trans c4
   have TK := hideP (fun o => TC.out k hkn _ (wr.alloc o) (ho.alloc o) (by have := hg.size; simp; omega))
   obtain ⟨t, ht⟩ : ∃ t, t = ts.getD k Gl.none := ⟨_, rfl⟩
   rw [← ht] at g0 g1 g2 g3 g4 TK
   have HG := hideP hg
   obtain ⟨a1, n1, p1, rfl⟩ := BO.shp ho
   clear ho hg bw hc c0 c1 c2 c3 c4 ht
   obtain ⟨gs, gp, gpo, gm, gmo⟩ := t
   simp only at g0 g1 g2 g3 g4
   go_wp2_with fail
   refine (TK.out _).mono ?_
   rintro e w2 ⟨v2, rfl, ho2, hb2⟩
   have O2 := hideP ho2
   have B2 := hideP ((HG.out.alloc _).trans hb2)
   clear ho2 hb2
   go_wp2
   go_roundw
   case rel => exact ⟨k + 1, by simp, by omega, O2.out, B2.out⟩
   case measure => simp [intOf]; omega
  ·obtain rfl : k = m := by omega
   have hki : ¬ (k : Int) < (k : Int) := by omega
   have O2 := hideP ho
   have B2 := hideP hg
   clear ho hg
   go_wp2
   go_ret
   refine ⟨_, rfl, ?_, B2.out⟩
   have h := O2.out
   rw [List.take_of_length_le (by rw [HM.out]; exact Nat.le_refl _)] at h
   exact h
end Go.Proofs.YtbpidcfoldkhgaaGreat

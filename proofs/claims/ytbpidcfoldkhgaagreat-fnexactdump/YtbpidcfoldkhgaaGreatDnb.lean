import Derived.Test.YtbpidcfoldkhgaaGreatDbl
namespace Go.Proofs.YtbpidcfoldkhgaaGreat
open Go.RowKit
set_option linter.unusedVariables false
set_option linter.unusedSimpArgs false
theorem n62 {n : Nat} (h : n ≤ 4611686018427387903) : n < 128 ^ (9 + 1) := by
 have : (128 : Nat) ^ (9 + 1) = 1180591620717411303424 := by decide
 omega
theorem m_div {m f : Nat} (h : m < 128 ^ (f + 1)) (h1 : 128 ≤ m) : ∃ g, f = g + 1 ∧ m / 128 < 128 ^ (g + 1) := by
 cases f with
 | zero => simp at h; omega
 | succ g =>
  refine ⟨g, rfl, ?_⟩
  rw [Nat.pow_succ] at h
  exact Nat.div_lt_of_lt_mul (by rw [Nat.mul_comm]; exact h)
theorem num_len {zs : List Int} {ys : List Int} {f m n : Nat} (h : ys ++ numF f m = zs ++ numB n) : ys.length + 1 ≤ zs.length + (numB n).length := by
 have h1 := congrArg List.length h
 simp only [List.length_append] at h1
 have h2 : 1 ≤ (numF f m).length := by
  cases f with
  | zero => simp [numF]
  | succ f =>
   rw [numF]
   split <;> simp
 omega
set_option maxRecDepth 20000 in
set_option maxHeartbeats 4000000 in
theorem l15Num_any {W : World} {base n : Nat} {v : Value} {zs : List Int} (h : BO base W v zs) (hb : base ≤ W.heap.size) (hn : n ≤ 4611686018427387903) (hl : zs.length + (numB n).length ≤ 70368744177664) :
 Calls Tryz.prog 18 #[v, .int .u64 (n : Int)] W fun e W' => PutQ base v W (zs ++ numB n) e W' := by
 have HL := hideP hl
 have HO := hideP h
 have HN := hideP hn
 clear h hl hn
 go_enter Tryz.func18, Tryz.ntmps18
 go_wp2
 go_loopw [0, 1] (fun s0 s1 wr => ∃ (f m : Nat) (ys : List Int), s1 = .int .u64 (m : Int) ∧ (m < 128 ^ (f + 1) ∧ m ≤ n) ∧ ys ++ numF f m = zs ++ numB n ∧ BO base wr s0 ys ∧ GO v W s0 wr) (fun _ s _ => (intOf s).toNat)
 case atStart => exact ⟨9, n, zs, rfl, ⟨n62 HN.out, Nat.le_refl _⟩, rfl, HO.out, GO.refl _ _⟩
 case round =>
  obtain ⟨f, m, ys, rfl, ⟨hm, hmn⟩, hy, ho, hB⟩ := hrel
  have HB := hideP hB
  have HO1 := hideP ho
  have HY := hideP hy
  have hbs : base ≤ wr.heap.size := Nat.le_trans hb hB.size
  have HM := hideP hm
  have hm6 : (m : Int) ≤ 4611686018427387903 := by have := HN.out; omega
  have HYL : Hid (ys.length + 1 ≤ 70368744177664) := hideP (by have := num_len hy; have := HL.out; omega)
  clear hB ho hy hm
  by_cases h128 : m < 128
  ·have h1 : ¬ (128 : Int) ≤ (m : Int) := by omega
   go_wp2_with (at_builtin; refine wpList_byte rfl _ _ rfl rfl rfl (BO.alloc HO1.out _) (cell_new _ _ _) (by simp; omega) HYL.out ?_)
   intro v2 w2 ho2 hb2
   have O2 := hideP ho2
   have B2 := hideP (HB.out.trans ((GO.of_below (below1 wr _)).trans hb2))
   clear ho2 hb2
   go_wp2
   go_ret
   refine ⟨_, rfl, ?_, B2.out⟩
   have h := HY.out
   rw [numF_small h128] at h
   rw [← h]
   exact O2.out
  ·have h1 : (128 : Int) ≤ (m : Int) := by omega
   go_wp2_with (at_builtin; refine wpList_byte rfl _ _ rfl rfl rfl (BO.alloc HO1.out _) (cell_new _ _ _) (by simp; omega) HYL.out ?_)
   intro v2 w2 ho2 hb2
   have O2 := hideP ho2
   have B2 := hideP (HB.out.trans ((GO.of_below (below1 wr _)).trans hb2))
   obtain ⟨a2, c2, rfl⟩ := BO.shape ho2
   clear ho2 hb2
   go_wp2
   go_roundw
   case rel =>
    obtain ⟨g, rfl, hg⟩ := m_div HM.out (by omega)
    refine ⟨g, m / 128, _, by simp, ⟨hg, Nat.le_trans (Nat.div_le_self _ _) hmn⟩, ?_, O2.out, B2.out⟩
    have h := HY.out
    rw [numF, if_neg h128] at h
    rw [← h]
    simp
   case measure => simp [intOf]; omega
set_option maxRecDepth 20000 in
set_option maxHeartbeats 4000000 in
theorem l15Signed_any {W : World} {base : Nat} {x : Int} {v : Value} {zs : List Int} (h : BO base W v zs) (hb : base ≤ W.heap.size) (hx : -1152921504606846976 ≤ x ∧ x ≤ 1152921504606846976) (hl : zs.length + (sgnB x).length ≤ 70368744177664) :
 Calls Tryz.prog 21 #[v, .int .i64 x] W fun e W' => PutQ base v W (zs ++ sgnB x) e W' := by
 have NC : Hid (∀ z : Int, z = (sgnN x : Int) → Calls Tryz.prog 18 #[v, .int .u64 z] W fun e W' => PutQ base v W (zs ++ sgnB x) e W') := hideP (fun z hz => by
  rw [hz]
  exact l15Num_any h hb (by unfold sgnN; split <;> omega) hl)
 obtain ⟨ao, n, cap, rfl⟩ := BO.shp h
 clear h hl
 by_cases hx0 : x < 0
 ·have hsn : (sgnN x : Int) = -2 * x - 1 := by unfold sgnN; rw [if_pos hx0]; omega
  have HSN := hideP hsn
  clear hsn
  go_enter Tryz.func21, Tryz.ntmps21
  go_wp2_with fail
  refine (NC.out _ (by rw [HSN.out])).mono ?_
  rintro e w1 ⟨v1, rfl, ho1, hb1⟩
  have O1 := hideP ho1
  have B1 := hideP hb1
  clear ho1 hb1
  go_wp2
  go_ret
  exact ⟨_, rfl, O1.out, B1.out⟩
 ·have hsn : (sgnN x : Int) = 2 * x := by unfold sgnN; rw [if_neg hx0]; omega
  have HSN := hideP hsn
  have h1 : 0 ≤ x := by omega
  clear hsn
  go_enter Tryz.func21, Tryz.ntmps21
  go_wp2_with fail
  refine (NC.out _ (by rw [HSN.out])).mono ?_
  rintro e w1 ⟨v1, rfl, ho1, hb1⟩
  have O1 := hideP ho1
  have B1 := hideP hb1
  clear ho1 hb1
  go_wp2
  go_ret
  exact ⟨_, rfl, O1.out, B1.out⟩
set_option maxRecDepth 20000 in
set_option maxHeartbeats 4000000 in
theorem l16Name_any {W : World} {base : Nat} {s : ByteArray} {v : Value} {zs : List Int} (h : BO base W v zs) (hb : base ≤ W.heap.size) (hl : zs.length + (namB s).length ≤ 70368744177664) :
 Calls Tryz.prog 20 #[v, .string s] W fun e W' => PutQ base v W (zs ++ namB s) e W' := by
 have hl2 : zs.length + ((numB s.size).length + s.size) ≤ 70368744177664 := by unfold namB at hl; rw [List.length_append, strB_len] at hl; exact hl
 have NC := hideP (l15Num_any (n := s.size) h hb (by omega) (by omega))
 have HL := hideP hl2
 obtain ⟨ao, n, cap, rfl⟩ := BO.shp h
 have hs6 : (s.size : Int) ≤ 70368744177664 := by omega
 clear h hl hl2
 have hcv : ∀ W : World, (convert 9 26 (.string s)).run Tryz.prog W = .ok (.slice (some ⟨W.heap.size, 0, none⟩) s.size (grownCap W s.size 0 5)) (Lib.bytesWorld W 5 s) := fun W => Lib.run_convert_string_bytes (P := Tryz.prog) W 9 26 5 s Tryz.underlying9 Tryz.underlying26 Tryz.underlying5
 go_enter Tryz.func20, Tryz.ntmps20
 go_wp2_with fail
 refine NC.out.mono ?_
 rintro e w1 ⟨v1, rfl, ho1, hb1⟩
 have O1 := hideP ho1
 have B1 := hideP hb1
 have hz1 : base ≤ w1.heap.size := Nat.le_trans hb hb1.size
 clear ho1 hb1
 go_wp2_with (at_builtin; refine wpList_bytes (xs := strB s) rfl _ _ rfl rfl rfl (BO.kept O1.out (below_bytes w1 s)) (strB_len s) (fun j hj => ?bc) (by rw [Lib.bytesWorld_size]; omega) (by have := HL.out; rw [List.length_append]; omega) ?_)
 case bc =>
  have h1 := Lib.bytesWorld_cell w1 5 s j hj
  rw [add_new, h1]
  unfold strB
  have hj2 : j < s.data.toList.length := hj
  simp [List.getD_eq_getElem?_getD, List.getElem?_map, List.getElem?_eq_getElem hj2]
 intro v2 w2 ho2 hb2
 have O2 := hideP ho2
 have B2 := hideP (B1.out.trans ((GO.of_below (below_bytes w1 s)).trans hb2))
 clear ho2 hb2
 go_wp2
 go_ret
 exact ⟨_, rfl, O2.out, B2.out⟩
theorem tok_cells (w : World) (c h : Int) (s : ByteArray) {w' : World} (hb : w'.heap[w.heap.size]? = (w.alloc (.cells #[.int .i64 c, .int .i64 h, .string s] 51)).heap[w.heap.size]?) : w'.cell? ⟨w.heap.size, 0, none⟩ = some (.int .i64 c) ∧ w'.cell? ⟨w.heap.size, 1, none⟩ = some (.int .i64 h) ∧ w'.cell? ⟨w.heap.size, 2, none⟩ = some (.string s) := by
 have h2 := hb.trans (heap_alloc_new w (.cells #[.int .i64 c, .int .i64 h, .string s] 51))
 exact ⟨by rw [cell_of_row _ _ _ _ 51 _ h2]; rfl, by rw [cell_of_row _ _ _ _ 51 _ h2]; rfl, by rw [cell_of_row _ _ _ _ 51 _ h2]; rfl⟩
set_option maxRecDepth 20000 in
set_option maxHeartbeats 4000000 in
theorem l16Token_any {W : World} {base : Nat} {t : Tk} {v : Value} {zs : List Int} (h : BO base W v zs) (hb : base ≤ W.heap.size) (hc : 0 ≤ t.c ∧ t.c < 256) (hh : t.c ≠ 0 → 0 ≤ t.h ∧ t.h < 256) (hl : zs.length + (tkB t).length ≤ 70368744177664) :
 Calls Tryz.prog 33 #[v, t.v] W fun e W' => PutQ base v W (zs ++ tkB t) e W' := by
 obtain ⟨c, h', s⟩ := t
 simp only at hc hh
 have HO := hideP h
 have hown : v.ownBlock ≠ some W.heap.size := fun e => by have := (h.row _ e).2; omega
 obtain ⟨ao, n, cap, rfl⟩ := BO.shp h
 have HL := hideP hl
 have hl1 : zs.length + 1 ≤ 70368744177664 := by
  unfold tkB at hl
  rw [List.length_cons] at hl
  omega
 show Calls Tryz.prog 33 #[.slice ao n cap, .agg #[.int .i64 c, .int .i64 h', .string s]] W _
 have HW := hideP hown
 have HL1 := hideP hl1
 clear h hl hown hl1
 have H0 : Hid (∀ v2 w2, GO (.slice ao n cap) ((W.alloc (.cells #[.int .i64 c, .int .i64 h', .string s] 51)).alloc (.cells #[.int .u8 c] 5)) v2 w2 → w2.cell? ⟨W.heap.size, 0, none⟩ = some (.int .i64 c) ∧ w2.cell? ⟨W.heap.size, 1, none⟩ = some (.int .i64 h') ∧ w2.cell? ⟨W.heap.size, 2, none⟩ = some (.string s)) := hideP (fun v2 w2 hg => tok_cells W c h' s ((hg.block (by simp; omega) HW.out).trans (Below.heap_alloc _ _ _ (by simp))))
 by_cases h0 : c = 0
 ·subst h0
  have HT : Hid (tkB ⟨0, h', s⟩ = 0 :: namB s) := hideP (by unfold tkB; simp)
  have NC : Hid (∀ v' w', BO base w' v' (zs ++ [0]) → base ≤ w'.heap.size → Calls Tryz.prog 20 #[v', .string s] w' fun e W' => PutQ base v' w' (zs ++ [0] ++ namB s) e W') := hideP (fun v' w' h1 h2 => l16Name_any h1 h2 (by
   have := HL.out
   rw [HT.out] at this
   simp only [List.length_append, List.length_cons, List.length_nil] at this ⊢
   omega))
  go_enter Tryz.func33, Tryz.ntmps33
  go_wp2_with (at_builtin; refine wpList_byte rfl _ _ rfl rfl rfl (BO.alloc (BO.alloc HO.out _) _) (cell_new2 _ _ _ _) (by simp; omega) HL1.out ?_)
  intro v2 w2 ho2 hb2
  obtain ⟨c0, c1, c2⟩ := H0.out _ _ hb2
  have O2 := hideP ho2
  have hz2 : base ≤ w2.heap.size := by have := hb2.size; simp at this; omega
  have B2 := hideP ((((GO.refl (.slice ao n cap) W).alloc _).alloc _).trans hb2)
  obtain ⟨a2, n2, cp2, rfl⟩ := BO.shp ho2
  clear ho2 hb2 H0
  go_wp2_with fail
  refine (NC.out _ _ O2.out hz2).mono ?_
  rintro e w3 ⟨v3, rfl, ho3, hb3⟩
  have O3 := hideP ho3
  have B3 := hideP (B2.out.trans hb3)
  clear ho3 hb3
  go_wp2
  go_ret
  refine ⟨_, rfl, ?_, B3.out⟩
  rw [HT.out]
  have h := O3.out
  rw [List.append_assoc] at h
  exact h
 ·obtain ⟨g1, g2⟩ := hh h0
  have HT : Hid (tkB ⟨c, h', s⟩ = [c, h']) := hideP (by unfold tkB; simp [h0])
  have h0b : (c == 0) = false := by simp [h0]
  have hl2 : zs.length + 2 ≤ 70368744177664 := by
   have := HL.out
   rw [HT.out] at this
   simpa using this
  have HL2 := hideP hl2
  clear hl2
  go_enter Tryz.func33, Tryz.ntmps33
  go_wp2_with (at_builtin; refine wpList_byte rfl _ _ rfl rfl rfl (BO.alloc (BO.alloc HO.out _) _) (cell_new2 _ _ _ _) (by simp; omega) HL1.out ?_)
  intro v2 w2 ho2 hb2
  obtain ⟨c0, c1, c2⟩ := H0.out _ _ hb2
  have O2 := hideP ho2
  have hz2 : base ≤ w2.heap.size := by have := hb2.size; simp at this; omega
  have B2 := hideP ((((GO.refl (.slice ao n cap) W).alloc _).alloc _).trans hb2)
  obtain ⟨a2, n2, cp2, rfl⟩ := BO.shp ho2
  clear ho2 hb2 H0
  go_wp2_with (at_builtin; refine wpList_byte rfl _ _ rfl rfl rfl (BO.alloc O2.out _) (cell_new _ _ _) (by simp; omega) (by rw [List.length_append, List.length_singleton]; exact HL2.out) ?_)
  intro v3 w3 ho3 hb3
  have O3 := hideP ho3
  have B3 := hideP (B2.out.trans ((GO.of_below (below1 w2 _)).trans hb3))
  clear ho3 hb3
  go_wp2
  go_ret
  refine ⟨_, rfl, ?_, B3.out⟩
  rw [HT.out]
  exact O3.out
end Go.Proofs.YtbpidcfoldkhgaaGreat

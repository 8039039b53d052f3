import Derived.Test.YtbpidcfoldkhgaaGreatDng
namespace Go.Proofs.YtbpidcfoldkhgaaGreat
open Go.RowKit
set_option linter.unusedVariables false
set_option linter.unusedSimpArgs false
set_option maxRecDepth 20000 in
set_option maxHeartbeats 4000000 in
theorem putByte_any {W : World} {base : Nat} {x : Int} {v : Value} {zs : List Int} (h : BO base W v zs) (hb : base ≤ W.heap.size) (hx : 0 ≤ x ∧ x < 256) (hl : zs.length + 1 ≤ 70368744177664) :
 Calls Tryz.prog 39 #[v, .int .i64 x] W fun e W' => PutQ base v W (zs ++ [x]) e W' := by
 have HO := hideP h
 have HL := hideP hl
 obtain ⟨x0, x1⟩ := hx
 obtain ⟨ao, n, cap, rfl⟩ := BO.shp h
 clear h hl
 go_enter Tryz.func39, Tryz.ntmps39
 go_wp2_with (at_builtin; refine wpList_byte rfl _ _ rfl rfl rfl (BO.alloc HO.out _) (cell_new _ _ _) (by simp; omega) HL.out ?_)
 intro v2 w2 ho2 hb2
 have O2 := hideP ho2
 have B2 := hideP ((GO.of_below (below1 W _)).trans hb2)
 clear ho2 hb2
 go_wp2
 go_ret
 exact ⟨_, rfl, O2.out, B2.out⟩
set_option maxRecDepth 20000 in
set_option maxHeartbeats 4000000 in
theorem putNum_any {W : World} {base n : Nat} {v : Value} {zs : List Int} (h : BO base W v zs) (hb : base ≤ W.heap.size) (hn : n ≤ 4611686018427387903) (hl : zs.length + (numB n).length ≤ 70368744177664) :
 Calls Tryz.prog 71 #[v, .int .i64 (n : Int)] W fun e W' => PutQ base v W (zs ++ numB n) e W' := by
 have HL := hideP hl
 have HO := hideP h
 have HN := hideP hn
 clear h hl hn
 go_enter Tryz.func71, Tryz.ntmps71
 go_wp2
 go_loopw [0, 1] (fun s0 s1 wr => ∃ (f m : Nat) (ys : List Int), s1 = .int .i64 (m : Int) ∧ (m < 128 ^ (f + 1) ∧ m ≤ n) ∧ ys ++ numF f m = zs ++ numB n ∧ BO base wr s0 ys ∧ GO v W s0 wr) (fun _ s _ => (intOf s).toNat)
 case atStart => exact ⟨9, n, zs, rfl, ⟨n62 HN.out, Nat.le_refl _⟩, rfl, HO.out, GO.refl _ _⟩
 case round =>
  obtain ⟨f, m, ys, rfl, ⟨hm, hmn⟩, hy, ho, hB⟩ := hrel
  have HB := hideP hB
  have HO1 := hideP ho
  have HY := hideP hy
  have hbs : base ≤ wr.heap.size := Nat.le_trans hb hB.size
  have HM := hideP hm
  have hm6 : (m : Int) ≤ 4611686018427387903 := by have := HN.out; omega
  have HYL : Hid (ys.length + 1 ≤ 70368744177664) := hideP (by have := num_len hy; have := HL.out; omega)
  clear hB ho hy hm
  by_cases h128 : m < 128
  ·have h1 : ¬ (128 : Int) ≤ (m : Int) := by omega
   go_wp2_with (at_builtin; refine wpList_byte rfl _ _ rfl rfl rfl (BO.alloc HO1.out _) (cell_new _ _ _) (by simp; omega) HYL.out ?_)
   intro v2 w2 ho2 hb2
   have O2 := hideP ho2
   have B2 := hideP (HB.out.trans ((GO.of_below (below1 wr _)).trans hb2))
   clear ho2 hb2
   go_wp2
   go_ret
   refine ⟨_, rfl, ?_, B2.out⟩
   have h := HY.out
   rw [numF_small h128] at h
   rw [← h]
   exact O2.out
  ·have h1 : (128 : Int) ≤ (m : Int) := by omega
   have hsh : (m : Int) >>> 7 = ((m / 128 : Nat) : Int) := by rw [Int.shiftRight_eq_div_pow]; norm_cast
   have hq0 : 0 ≤ (m : Int) % 128 := by omega
   have hq1 : (m : Int) % 128 < 128 := by omega
   have hw : IntKind.u8.wrap ((m : Int) % 128 + 128) = (m : Int) % 128 + 128 := by rw [IntKind.wrap_u8]; omega
   go_wp2_with (at_builtin; refine wpList_byte rfl _ _ rfl rfl rfl (BO.alloc HO1.out _) (cell_new _ _ _) (by simp; omega) HYL.out ?_)
   intro v2 w2 ho2 hb2
   have O2 := hideP ho2
   have B2 := hideP (HB.out.trans ((GO.of_below (below1 wr _)).trans hb2))
   obtain ⟨a2, c2, rfl⟩ := BO.shape ho2
   clear ho2 hb2
   go_wp2
   go_roundw
   case rel =>
    obtain ⟨g, rfl, hg⟩ := m_div HM.out (by omega)
    refine ⟨g, m / 128, _, by simp, ⟨hg, Nat.le_trans (Nat.div_le_self _ _) hmn⟩, ?_, O2.out, B2.out⟩
    have h := HY.out
    rw [numF, if_neg h128] at h
    rw [← h]
    simp
   case measure => simp [intOf]; omega
set_option maxHeartbeats 4000000 in
theorem signedNum_any (x : Int) (W : World) (hx : -1152921504606846976 ≤ x ∧ x ≤ 1152921504606846976) : Calls Tryz.prog 75 #[.int .i64 x] W fun e W' => e = .returned (.int .i64 (sgnN x : Int)) ∧ W' = W := by
 by_cases hx0 : x < 0
 ·have hsn : (sgnN x : Int) = -2 * x - 1 := by unfold sgnN; rw [if_pos hx0]; omega
  have HSN := hideP hsn
  clear hsn
  go_enter Tryz.func75, Tryz.ntmps75
  go_wp2
  go_ret
  exact ⟨by rw [HSN.out]; first | rfl | (congr 2; omega), rfl⟩
 ·have hsn : (sgnN x : Int) = 2 * x := by unfold sgnN; rw [if_neg hx0]; omega
  have HSN := hideP hsn
  clear hsn
  go_enter Tryz.func75, Tryz.ntmps75
  go_wp2
  go_ret
  exact ⟨by rw [HSN.out]; first | rfl | (congr 2; omega), rfl⟩
set_option maxRecDepth 20000 in
set_option maxHeartbeats 4000000 in
theorem putSigned_any {W : World} {base : Nat} {x : Int} {v : Value} {zs : List Int} (h : BO base W v zs) (hb : base ≤ W.heap.size) (hx : -1152921504606846976 ≤ x ∧ x ≤ 1152921504606846976) (hl : zs.length + (sgnB x).length ≤ 70368744177664) :
 Calls Tryz.prog 42 #[v, .int .i64 x] W fun e W' => PutQ base v W (zs ++ sgnB x) e W' := by
 have SC := hideP (signedNum_any x W hx)
 have NC : Hid (Calls Tryz.prog 71 #[v, .int .i64 (sgnN x : Int)] W fun e W' => PutQ base v W (zs ++ sgnB x) e W') := hideP (putNum_any h hb (by unfold sgnN; split <;> omega) hl)
 obtain ⟨ao, n, cap, rfl⟩ := BO.shp h
 obtain ⟨m, hm⟩ : ∃ m, m = (sgnN x : Int) := ⟨_, rfl⟩
 rw [← hm] at SC NC
 clear h hl hm
 go_enter Tryz.func42, Tryz.ntmps42
 go_wp2_with fail
 refine SC.out.mono ?_
 rintro e w1 ⟨rfl, hw⟩
 have hw2 := hw.symm
 subst hw2
 go_wp2_with fail
 refine NC.out.mono ?_
 rintro e w1 ⟨v1, rfl, ho1, hb1⟩
 have O1 := hideP ho1
 have B1 := hideP hb1
 clear ho1 hb1
 go_wp2
 go_ret
 exact ⟨_, rfl, O1.out, B1.out⟩
theorem run_text {w : World} {base : Nat} {v : Value} {zs : List Int} {t : ByteArray} (ty : TypeId) (h : BO base w v zs) (hb : base ≤ w.heap.size) (hl : zs.length + t.size ≤ 70368744177664) : ∃ v' w', (Builtin.append_ #[26, 9] ty #[v, .string t]).run Tryz.prog w = .ok v' w' ∧ BO base w' v' (zs ++ strB t) ∧ GO v w v' w' := by
 obtain ⟨i0, hi0, hz0, hz1, hz2⟩ := info_parts Tryz.info5
 obtain ⟨v', w', hr, ho', hg, hnil⟩ := Lib.run_append_own_string (P := Tryz.prog) w base 26 9 ty 5 i0 Tryz.underlying26 Tryz.underlying9 hi0 hz0 hz1 hz2 v zs.length (zs.map (Value.int .u8)) h t (by unfold maxLen; omega) (by omega) hb
 refine ⟨v', w', hr, ?_, ⟨hg, fun q hq => ?_⟩⟩
 ·unfold BO
  rw [List.length_append, strB_len, List.map_append]
  have e : (strB t).map (Value.int .u8) = Lib.strCells t := by unfold strB Lib.strCells; rw [List.map_map]; rfl
  rw [e]
  exact ho'
 ·rcases h.2 with ⟨rfl, h0⟩ | ⟨g, cap, cur, rfl, hbg, hgg, hnc, hcm, hcs, htake⟩
  ·have hx : zs = [] := by simpa using h0
   subst hx
   by_cases hm : t.size = 0
   ·rw [hnil.2 ⟨rfl, hm⟩] at hq
    cases hq
   ·have hr2 := run_append_nil_string (P := Tryz.prog) w 26 9 ty 5 i0 (.int .u8 0) Tryz.underlying26 Tryz.underlying9 hi0 hz0 t (by omega) (by omega) (by rw [hz2]; omega)
    rw [hr2] at hr
    simp only [Result.ok.injEq] at hr
    rw [← hr.1] at hq
    have : w.heap.size = q := by simpa [Value.ownBlock] using hq
    exact .inr (by omega)
  ·by_cases hroom : zs.length + t.size ≤ cap
   ·have hcs' : cur.size = cap := by simpa using hcs
    have hr2 := Lib.run_append_room_string (P := Tryz.prog) w 26 9 ty 5 i0 Tryz.underlying26 Tryz.underlying9 hi0 hz1 g zs.length cap cur hgg t hroom (by omega)
    rw [hr2] at hr
    simp only [Result.ok.injEq] at hr
    rw [← hr.1] at hq
    exact .inl hq
   ·have holds : ∀ j u, (zs.map (Value.int .u8))[j]? = some u → w.cell? ((⟨g, 0, none⟩ : Addr).add j) = some u := World.ownsRow.cells (g := g) h rfl
    have hr2 := Lib.run_append_grow_string (P := Tryz.prog) w 26 9 ty 5 i0 (.int .u8 0) Tryz.underlying26 Tryz.underlying9 hi0 hz0 ⟨g, 0, none⟩ zs.length cap (zs.map (Value.int .u8)) (by rw [hz1]; simp) holds t (by omega) (by omega) (by rw [hz2]; exact growslice_fits (by omega) (by omega))
    rw [hr2] at hr
    simp only [Result.ok.injEq] at hr
    rw [← hr.1] at hq
    have : w.heap.size = q := by simpa [Value.ownBlock] using hq
    exact .inr (by omega)
theorem wpList_text {ops : Array Oper} {rest : List Oper} {o : Oper} {a : Act} {w : World} {Q : Exit → Act → World → Prop} {base : Nat} {v : Value} {zs : List Int} {t : ByteArray} (hgd : o.guard = none) (s y : Operand) (ho : o.op = .call { callee := .builtin .append, args := #[s, y], argTypes := #[26, 9] }) (hs : a.eval s = v) (hy : a.eval y = .string t) (h : BO base w v zs)
 (hb : base ≤ w.heap.size) (hl : zs.length + t.size ≤ 70368744177664) (hK : ∀ v' w', BO base w' v' (zs ++ strB t) → GO v w v' w' → wpList Tryz.prog ops Q rest (a.put o.dst v') w') : wpList Tryz.prog ops Q (o :: rest) a w := by
 obtain ⟨v', w', hr, h1, h2⟩ := run_text o.type h hb hl
 refine wpList_plain hgd fun K hK2 => ?_
 unfold Oper.wp execOp
 simp only [ho, resolve, invoke, builtin, Sem.run_bind, Sem.run_pure, Result.andThen_ok, List.map_toArray, List.map_cons, List.map_nil, hs, hy, hr]
 exact hK2 _ _ (hK _ _ h1 h2)
set_option maxRecDepth 20000 in
set_option maxHeartbeats 4000000 in
theorem putName_any {W : World} {base : Nat} {s : ByteArray} {v : Value} {zs : List Int} (h : BO base W v zs) (hb : base ≤ W.heap.size) (hl : zs.length + (namB s).length ≤ 70368744177664) :
 Calls Tryz.prog 72 #[v, .string s] W fun e W' => PutQ base v W (zs ++ namB s) e W' := by
 have hl2 : zs.length + ((numB s.size).length + s.size) ≤ 70368744177664 := by unfold namB at hl; rw [List.length_append, strB_len] at hl; exact hl
 have NC := hideP (putNum_any (n := s.size) h hb (by omega) (by omega))
 have HL := hideP hl2
 obtain ⟨ao, n, cap, rfl⟩ := BO.shp h
 have hs6 : (s.size : Int) ≤ 70368744177664 := by omega
 clear h hl hl2
 go_enter Tryz.func72, Tryz.ntmps72
 go_wp2_with fail
 refine NC.out.mono ?_
 rintro e w1 ⟨v1, rfl, ho1, hb1⟩
 have O1 := hideP ho1
 have B1 := hideP hb1
 have hz1 : base ≤ w1.heap.size := Nat.le_trans hb hb1.size
 clear ho1 hb1
 go_wp2_with (at_builtin; refine wpList_text rfl _ _ rfl rfl rfl O1.out hz1 (by have := HL.out; rw [List.length_append]; omega) ?_)
 intro v2 w2 ho2 hb2
 have O2 := hideP ho2
 have B2 := hideP (B1.out.trans hb2)
 clear ho2 hb2
 go_wp2
 go_ret
 refine ⟨_, rfl, ?_, B2.out⟩
 have h := O2.out
 first | exact h | (rw [List.append_assoc] at h; exact h) | (show BO base w2 v2 (zs ++ (numB s.size ++ strB s)); rw [← List.append_assoc]; exact h)
set_option maxRecDepth 20000 in
set_option maxHeartbeats 4000000 in
theorem putToken_any {W : World} {base : Nat} {t : Tk} {v : Value} {zs : List Int} (h : BO base W v zs) (hb : base ≤ W.heap.size) (hd : TkD t) (hl : zs.length + (tkB t).length ≤ 70368744177664) :
 Calls Tryz.prog 73 #[v, t.v] W fun e W' => PutQ base v W (zs ++ tkB t) e W' := by
 obtain ⟨c, h', s⟩ := t
 obtain ⟨hc, hh⟩ := hd
 simp only at hc hh
 have HO := hideP h
 have hown : v.ownBlock ≠ some W.heap.size := fun e => by have := (h.row _ e).2; omega
 obtain ⟨ao, n, cap, rfl⟩ := BO.shp h
 have HL := hideP hl
 show Calls Tryz.prog 73 #[.slice ao n cap, .agg #[.int .i64 c, .int .i64 h', .string s]] W _
 have HW := hideP hown
 have H0 : Hid (∀ v2 w2, GO (.slice ao n cap) (W.alloc (.cells #[.int .i64 c, .int .i64 h', .string s] 51)) v2 w2 → w2.cell? ⟨W.heap.size, 0, none⟩ = some (.int .i64 c) ∧ w2.cell? ⟨W.heap.size, 1, none⟩ = some (.int .i64 h') ∧ w2.cell? ⟨W.heap.size, 2, none⟩ = some (.string s)) := hideP (fun v2 w2 hg => tok_cells W c h' s (hg.block (by simp) HW.out))
 have BC : Hid (Calls Tryz.prog 39 #[.slice ao n cap, .int .i64 c] (W.alloc (.cells #[.int .i64 c, .int .i64 h', .string s] 51)) fun e W' => PutQ base (.slice ao n cap) (W.alloc (.cells #[.int .i64 c, .int .i64 h', .string s] 51)) (zs ++ [c]) e W') := hideP (putByte_any (HO.out.alloc _) (by simp; omega) hc (by
  unfold tkB at hl
  rw [List.length_cons] at hl
  omega))
 clear h hl hown
 by_cases h0 : c = 0
 ·subst h0
  have HT : Hid (tkB ⟨0, h', s⟩ = 0 :: namB s) := hideP (by unfold tkB; simp)
  have NC : Hid (∀ v' w', BO base w' v' (zs ++ [0]) → base ≤ w'.heap.size → Calls Tryz.prog 72 #[v', .string s] w' fun e W' => PutQ base v' w' (zs ++ [0] ++ namB s) e W') := hideP (fun v' w' h1 h2 => putName_any h1 h2 (by
   have := HL.out
   rw [HT.out] at this
   simp only [List.length_append, List.length_cons, List.length_nil] at this ⊢
   omega))
  go_enter Tryz.func73, Tryz.ntmps73
  go_wp2_with fail
  refine BC.out.mono ?_
  rintro e w2 ⟨v2, rfl, ho2, hb2⟩
  obtain ⟨c0, c1, c2⟩ := H0.out _ _ hb2
  have O2 := hideP ho2
  have hz2 : base ≤ w2.heap.size := by have := hb2.size; simp at this; omega
  have B2 := hideP (((GO.refl (.slice ao n cap) W).alloc _).trans hb2)
  obtain ⟨a2, n2, cp2, rfl⟩ := BO.shp ho2
  clear ho2 hb2 H0 BC
  go_wp2_with fail
  refine (NC.out _ _ O2.out hz2).mono ?_
  rintro e w3 ⟨v3, rfl, ho3, hb3⟩
  have O3 := hideP ho3
  have B3 := hideP (B2.out.trans hb3)
  clear ho3 hb3
  go_wp2
  go_ret
  refine ⟨_, rfl, ?_, B3.out⟩
  rw [HT.out]
  have h := O3.out
  first | exact h | (rw [List.append_assoc] at h; exact h) | (simpa using h)
 ·have g12 := hh h0
  have HT : Hid (tkB ⟨c, h', s⟩ = [c, h']) := hideP (by unfold tkB; simp [h0])
  have h0b : (c == 0) = false := by simp [h0]
  have NC : Hid (∀ v' w', BO base w' v' (zs ++ [c]) → base ≤ w'.heap.size → Calls Tryz.prog 39 #[v', .int .i64 h'] w' fun e W' => PutQ base v' w' (zs ++ [c] ++ [h']) e W') := hideP (fun v' w' h1 h2 => putByte_any h1 h2 g12 (by
   have := HL.out
   rw [HT.out] at this
   simp only [List.length_append, List.length_cons, List.length_nil] at this ⊢
   omega))
  go_enter Tryz.func73, Tryz.ntmps73
  go_wp2_with fail
  refine BC.out.mono ?_
  rintro e w2 ⟨v2, rfl, ho2, hb2⟩
  obtain ⟨c0, c1, c2⟩ := H0.out _ _ hb2
  have O2 := hideP ho2
  have hz2 : base ≤ w2.heap.size := by have := hb2.size; simp at this; omega
  have B2 := hideP (((GO.refl (.slice ao n cap) W).alloc _).trans hb2)
  obtain ⟨a2, n2, cp2, rfl⟩ := BO.shp ho2
  clear ho2 hb2 H0 BC
  go_wp2_with fail
  refine (NC.out _ _ O2.out hz2).mono ?_
  rintro e w3 ⟨v3, rfl, ho3, hb3⟩
  have O3 := hideP ho3
  have B3 := hideP (B2.out.trans hb3)
  clear ho3 hb3
  go_wp2
  go_ret
  refine ⟨_, rfl, ?_, B3.out⟩
  rw [HT.out]
  have h := O3.out
  first | exact h | (rw [List.append_assoc] at h; exact h) | (simpa using h)
end Go.Proofs.YtbpidcfoldkhgaaGreat

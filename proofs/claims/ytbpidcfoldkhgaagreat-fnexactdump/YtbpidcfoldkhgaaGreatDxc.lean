import Derived.Test.YtbpidcfoldkhgaaGreatDxa
import Derived.Laws.CopyOwn
namespace Go.Proofs.YtbpidcfoldkhgaaGreat
open Go.RowKit
set_option linter.unusedVariables false
set_option linter.unusedSimpArgs false
theorem Tryz.sz5 : (Tryz.prog.info? 5).map (·.size) = some 1 := by kernel_rfl
theorem splice_two (A Z cs : List Value) : splice (A ++ Z) A.length cs = A ++ (cs ++ Z.drop cs.length) := by
 unfold splice
 rw [List.take_left, List.drop_append, List.drop_of_length_le (by omega)]
 simp
theorem flat_next (ps : List (List Int)) {i : Nat} (hi : i < ps.length) : (ps.take (i + 1)).flatten = (ps.take i).flatten ++ ps.getD i [] := by
 rw [List.take_add_one, List.flatten_append, List.getElem?_eq_getElem hi, List.getD_eq_getElem?_getD, List.getElem?_eq_getElem hi]
 simp
theorem flat_part (ps : List (List Int)) (i : Nat) : (ps.take i).flatten.length ≤ ps.flatten.length := by
 have h : ps.flatten = (ps.take i).flatten ++ (ps.drop i).flatten := by rw [← List.flatten_append, List.take_append_drop]
 rw [h, List.length_append]
 omega
def Fil (w : World) (g T : Nat) (zs : List Int) : Prop := ∃ Z : List Value, Z.length = T - zs.length ∧ zs.length ≤ T ∧ w.heap[g]? = some (.cells (zs.map (Value.int .u8) ++ Z).toArray 5 (0, 0))
set_option maxRecDepth 20000 in
set_option maxHeartbeats 8000000 in
theorem together_any {W : World} {B D : Nat} {ps : List (List Int)} {pv : Value} {vs : List Value} (hd : DW B D W 0 ps ps pv vs) (hb : B ≤ W.heap.size) (hl : ps.flatten.length ≤ 70368744177000) (hp : ps.length ≤ 100) :
 Calls Tryz.prog 27 #[.pointer (some ⟨D, 0, none⟩)] W fun e W' => (∃ u, e = .returned u ∧ BO B W' u (ps.flatten ++ endB ps.flatten)) ∧ Below B W W' := by
 have LK := hideP (lockFree ⟨D, 0, none⟩ W hd.f.cells.1 (hd.f.frozen 0))
 have A1 : Hid (Alt D W (W.setCell ⟨D, 0, none⟩ (.int .i32 1))) := hideP ((Alt.refl D W).set 0 _)
 have D1 : Hid (DW B D (W.setCell ⟨D, 0, none⟩ (.int .i32 1)) 1 ps ps pv vs) := hideP (hd.alt A1.out (hd.f.set0 1))
 obtain ⟨W1, hW1⟩ : ∃ X, X = W.setCell ⟨D, 0, none⟩ (.int .i32 1) := ⟨_, rfl⟩
 rw [← hW1] at LK A1 D1
 obtain ⟨c0, c2, c3, c4⟩ := D1.out.f.cells
 obtain ⟨FL, hFL⟩ : ∃ z, z = ps.flatten := ⟨_, rfl⟩
 rw [← hFL] at c2 hl ⊢
 obtain ⟨N, hN⟩ : ∃ n, n = FL.length := ⟨_, rfl⟩
 rw [← hN] at c2 hl
 have HFL := hideP hFL
 have HN := hideP hN
 have hDl := hideP hd.l
 have hl2 : (N : Int) ≤ 70368744177000 := by omega
 have hB1 : Hid (B ≤ W1.heap.size) := hideP (by rw [A1.out.size]; exact hb)
 obtain ⟨m, hm⟩ : ∃ m, m = vs.length := ⟨_, rfl⟩
 obtain ⟨po, pc, hpv⟩ : ∃ a c, pv = .slice a m c := by
  rw [hm]
  rcases D1.out.o.2 with ⟨rfl, h0⟩ | ⟨g, c, cur, rfl, _⟩
  ·exact ⟨none, 0, by rw [h0]⟩
  ·exact ⟨_, _, rfl⟩
 subst hpv
 have hm2 : m ≤ 100 := by have := D1.out.n; omega
 have HM : Hid (m = ps.length ∧ m = vs.length) := hideP ⟨by rw [hm]; exact D1.out.n, hm⟩
 clear hd hW1 c0 c3 hFL hN hl hp hm
 obtain ⟨i0, hi, hz0, hz1, hz2⟩ := info_parts Tryz.info5
 have HI := hideP hz2
 go_enter_defers Tryz.func27, Tryz.ntmps27
 go_wp2_with fail
 refine LK.out.mono ?_
 rintro e w1 ⟨rfl, rfl⟩
 go_wp2_with (at_make; go_loud (refine wpList_make_full _ rfl _ _ 26 rfl w1.heap.size 5 i0 (.int .u8 0) 1 Tryz.underlying26 hi hz0 hz1 _ _ _ _ (N + 2) rfl rfl (by simp) (by simp) (by rw [show i0.bytes = 1 from HI.out]; omega) (by unfold maxLen; omega) (Nat.le_refl _) ?_))
 intro w2 hown hgrow
 obtain ⟨G, hG⟩ : ∃ g, g = w1.heap.size := ⟨_, rfl⟩
 rw [← hG] at hown ⊢
 have f2 : Fil w2 G (N + 2) [] := by
  rcases hown.2 with ⟨e, _⟩ | ⟨g', cap, cur, e, _, hb2, _, _, hsz, _⟩
  ·cases e
  ·simp only [Value.slice.injEq, Option.some.injEq, Addr.mk.injEq, and_true] at e
   obtain ⟨rfl, _, rfl⟩ := e
   refine ⟨cur.toList, by simp [hsz], by simp, by simpa using hb2⟩
 have b2 : Below w1.heap.size w1 w2 := ⟨hgrow.os, hgrow.tape, hgrow.output, hgrow.size, fun k hk => hgrow.block k hk (by simp)⟩
 have hgs : G < w2.heap.size := by
  obtain ⟨Z, _, _, h⟩ := f2
  exact (Array.getElem?_eq_some_iff.1 h).1
 have F2 := hideP f2
 have B2 := hideP b2
 have hDG : D < G := by rw [hG]; exact D1.out.size
 have DX : Hid (∀ X, Below w1.heap.size w1 X → DW B D X 1 ps ps (.slice po m pc) vs) := hideP (fun X hX => D1.out.below hX)
 have c4' := (DX.out w2 b2).f.cells.2.2.2
 have PX : Hid (∀ i, i < m → ∃ q, po = some ⟨q, 0, none⟩ ∧ ∃ a c, (∀ X, Below w1.heap.size w1 X → X.cell? ⟨q, i, none⟩ = some (.slice a (ps.getD i []).length c) ∧ (0 < (ps.getD i []).length → ∃ b, a = some ⟨b, 0, none⟩ ∧ ∀ j, j < (ps.getD i []).length → X.cell? ⟨b, j, none⟩ = some (.int .u8 ((ps.getD i []).getD j 0))))) := hideP (fun i hi => by
  have hip : i < ps.length := by rw [← HM.out.1]; exact hi
  have hiv : i < vs.length := by rw [← HM.out.2]; exact hi
  have hpb := D1.out.p i hip
  obtain ⟨a, c, hv⟩ := hpb.shape
  rcases D1.out.o.2 with ⟨e, h0⟩ | ⟨q, c', cur, e, _⟩
  ·omega
  ·simp only [Value.slice.injEq] at e
   refine ⟨q, e.1, a, c, fun X hX => ⟨?_, fun h0 => ?_⟩⟩
   ·have ho := (DX.out X hX).o
    rw [e.1] at ho
    have := World.ownsRow.cells (g := q) ho rfl i (vs.getD i undef) (by rw [List.getD_eq_getElem?_getD, List.getElem?_eq_getElem hiv]; rfl)
    rw [add_new] at this
    rw [this, hv]
   ·have hpX := (DX.out X hX).p i hip
    obtain ⟨b, c2, e2, _, _⟩ := hpX.at h0
    rw [hv] at e2
    simp only [Value.slice.injEq] at e2
    refine ⟨b, e2.1, fun j hj => ?_⟩
    obtain ⟨b3, c3, e3, _, h3⟩ := hpX.at hj
    rw [hv] at e3
    simp only [Value.slice.injEq] at e3
    have : b3 = b := by have := e3.1.symm.trans e2.1; simpa using this
    rw [← this]
    exact h3)
 have HGE : Hid (w1.heap.size ≤ G) := hideP (Nat.le_of_eq hG.symm)
 have HGG := hideP hG
 clear hown hgrow c2 c4 f2 b2 LK hG
 go_wp2
 go_loopw [4, 28] (fun s4 sc wr => ∃ (i R : Nat) (zs : List Int), sc = .int .i64 (i : Int) ∧ i ≤ m ∧ zs = (ps.take i).flatten ∧ (zs.length + R = N + 2 ∧ zs.length ≤ N) ∧ s4 = .slice (some ⟨G, zs.length, none⟩) R R ∧ Fil wr G (N + 2) zs ∧ Below w1.heap.size w1 wr) (fun _ s _ => m - (intOf s).toNat)
 case atStart => exact ⟨0, N + 2, [], rfl, by omega, by simp, ⟨by simp, by simp⟩, rfl, F2.out, B2.out⟩
 case round =>
  obtain ⟨i, R, zs, rfl, him, hzs, ⟨hR, hzN⟩, rfl, hf, hB⟩ := hrel
  by_cases hin : i < m
  ·have hki : (i : Int) < (m : Int) := by omega
   obtain ⟨q, rfl, a, c, hx⟩ := PX.out i hin
   obtain ⟨g0, gs⟩ := hx wr hB
   have hip : i < ps.length := by rw [← HM.out.1]; exact hin
   obtain ⟨P, hP⟩ : ∃ z, z = ps.getD i [] := ⟨_, rfl⟩
   rw [← hP] at g0 gs hx
   have hnx : (ps.take (i + 1)).flatten = zs ++ P := by rw [flat_next ps hip, ← hzs, ← hP]
   have hlen : zs.length + P.length ≤ N := by
    have := flat_part ps (i + 1)
    rw [hnx, List.length_append, ← HFL.out, ← HN.out] at this
    exact this
   obtain ⟨Z, hZ1, hZ2, hcur⟩ := hf
   obtain ⟨k, hk⟩ : ∃ k, k = P.length := ⟨_, rfl⟩
   obtain ⟨o, ho⟩ : ∃ o, o = zs.length := ⟨_, rfl⟩
   have HPC : Hid (∀ X, Below w1.heap.size w1 X → 0 < P.length → ∃ ad, a = some ad ∧ ∀ j v, (P.map (Value.int .u8))[j]? = some v → X.cell? (ad.add j) = some v) := hideP (fun X hX h0 => by
    obtain ⟨b, e, hc⟩ := (hx X hX).2 h0
    refine ⟨_, e, fun j v hj => ?_⟩
    rw [List.getElem?_map] at hj
    cases e2 : P[j]? with
    | none => rw [e2] at hj; cases hj
    | some z =>
     rw [e2] at hj
     have hz : v = .int .u8 z := by simpa using hj.symm
     have hjl : j < P.length := (List.getElem?_eq_some_iff.1 e2).1
     rw [add_new, hc j hjl, List.getD_eq_getElem?_getD, e2, hz]
     rfl)
   have HB := hideP hB
   have HGS := hideP gs
   have HNX := hideP hnx
   have HCUR := hideP hcur
   have HZ1 := hideP hZ1
   have HK := hideP hk
   have HO := hideP ho
   rw [← hk] at g0 hlen
   rw [← ho] at hlen hR hzN ⊢
   have hkR : k < R := by omega
   clear hx hnx hcur gs hB hZ1 hZ2 hP hzs hk ho
   go_wp2_with (refine wpList_copy_splice rfl _ _ 26 26 rfl 5 Tryz.underlying26 Tryz.sz5 _ _ _ _ _ _ rfl rfl G o (zs.map (Value.int .u8) ++ Z) 5 HCUR.out (P.map (Value.int .u8)) (by rw [List.length_map, ← HK.out]; exact (Nat.min_eq_left (Nat.le_of_lt hkR)).symm) (fun h0 => ⟨rfl, HPC.out wr HB.out (by simpa using h0)⟩) (by simp [HZ1.out, ← HO.out, ← HK.out]; omega) (fun v hv => by obtain ⟨z, _, rfl⟩ := List.mem_map.1 hv; rfl) w1.heap.size w1 HB.out HGE.out ?_)
   intro w3 hg3 hb3
   have hsp := splice_two (zs.map (Value.int .u8)) Z (P.map (Value.int .u8))
   rw [List.length_map, ← HO.out, ← List.append_assoc, ← List.map_append] at hsp
   have F3 : Hid (Fil w3 G (N + 2) (zs ++ P)) := hideP ⟨Z.drop (P.map (Value.int .u8)).length, by simp [HZ1.out]; omega, by simp [← HK.out, ← HO.out]; omega, by rw [← hsp]; exact hg3.out⟩
   have B3 := hideP hb3
   have hcs : Hid ((P.map (Value.int .u8)).length = k) := hideP (by rw [List.length_map, HK.out])
   simp only [List.length_map, ← HK.out]
   have hLN : Hid ((zs ++ P).length = o + k) := hideP (by rw [List.length_append, ← HK.out, ← HO.out])
   clear hg3 hb3 hsp g0
   go_wp2
   go_roundw
   case rel => exact ⟨i + 1, R - k, zs ++ P, by simp, by omega, HNX.out.symm, ⟨by rw [hLN.out]; omega, by rw [hLN.out]; exact hlen⟩, by rw [hLN.out], F3.out, B3.out⟩
   case measure => simp [intOf]; omega
  ·obtain rfl : i = m := by omega
   have hki : ¬ (i : Int) < (i : Int) := by omega
   have hz : zs = FL := by rw [hzs, List.take_of_length_le (by rw [← HM.out.1]; exact Nat.le_refl _), HFL.out]
   subst hz
   have hzl : zs.length = N := HN.out.symm
   rw [hzl] at hR ⊢
   obtain rfl : R = 2 := by omega
   have dx := DX.out wr hB
   have hff := dx.f
   rw [← HFL.out, hzl] at hff
   have SC := hideP (seal_any hff (sumT_in _ _) (by omega))
   obtain ⟨Z, hZ1, hZ2, hcur⟩ := hf
   have hGl : G < wr.heap.size := (Array.getElem?_eq_some_iff.1 hcur).1
   obtain ⟨e0, he0⟩ : ∃ z, z = ((N : Int) + sumT zs N) % 65521 % 256 := ⟨_, rfl⟩
   obtain ⟨e1, he1⟩ : ∃ z, z = ((N : Int) + sumT zs N) % 65521 / 256 := ⟨_, rfl⟩
   have HEB : Hid (endB zs = [e0, e1]) := hideP (by unfold endB; rw [hzl, he0, he1])
   rw [← he0, ← he1] at SC
   have HB := hideP hB
   have HCUR := hideP hcur
   have HZ1 := hideP hZ1
   have HZL := hideP hzl
   clear hB hcur dx hff hZ1 hZ2 he0 he1 hzs hzN hzl
   go_wp2_with fail
   refine SC.out.mono ?_
   rintro e w3 ⟨rfl, hb3⟩
   have B3 := hideP (HB.out.trans (hb3.mono HB.out.size))
   have C3 : Hid (∀ o, (w3.alloc o).heap[G]? = some (.cells (zs.map (Value.int .u8) ++ Z).toArray 5 (0, 0))) := hideP (fun o => (heap_alloc_old w3 o (Nat.lt_of_lt_of_le hGl hb3.size)).trans ((hb3.block G hGl).trans HCUR.out))
   clear hb3
   go_wp2_with (go_loud (refine wpList_copy_splice rfl _ _ 26 26 rfl 5 Tryz.underlying26 Tryz.sz5 _ _ _ _ _ _ rfl rfl G N (zs.map (Value.int .u8) ++ Z) 5 (C3.out _) [.int .u8 e0, .int .u8 e1] rfl (fun h0 => ⟨rfl, _, rfl, fun j v hj => ?_⟩) (by simp [HZ1.out, HZL.out]) (fun v hv => by simp at hv; rcases hv with rfl | rfl <;> rfl) w1.heap.size w1 (B3.out.alloc (by have := B3.out.size; omega) _) HGE.out ?_))
   ·match j, hj with
    | 0, hj =>
     simp at hj
     subst hj
     rw [add_new, cell_of_row _ _ _ _ 100 _ (heap_alloc_new _ _)]
     rfl
    | 1, hj =>
     simp at hj
     subst hj
     rw [add_new, cell_of_row _ _ _ _ 100 _ (heap_alloc_new _ _)]
     rfl
   ·intro w5 hg5 hb5
    have hsp := splice_two (zs.map (Value.int .u8)) Z [.int .u8 e0, .int .u8 e1]
    rw [List.length_map, HZL.out] at hsp
    have hZ0 : Z.drop 2 = [] := List.drop_eq_nil_of_le (by rw [HZ1.out, HZL.out]; omega)
    have BX : Hid (BO B w5 (.slice (some ⟨G, 0, none⟩) (N + 2) (N + 2)) (zs ++ endB zs)) := hideP (by
     have hg := hg5.out
     rw [hsp, show ([.int .u8 e0, .int .u8 e1] : List Value).length = 2 from rfl, hZ0, List.append_nil] at hg
     unfold BO
     have hl : (zs ++ endB zs).length = N + 2 := by rw [List.length_append, HZL.out, HEB.out]; rfl
     rw [hl, HEB.out, List.map_append]
     refine ⟨by simp [HZL.out], .inr ⟨G, N + 2, _, rfl, Nat.le_trans hB1.out HGE.out, hg, Nat.le_refl _, by unfold maxLen; omega, by simp [HZL.out], ?_⟩⟩
     rw [List.toList_toArray, Nat.mul_one]
     exact List.take_of_length_le (by simp [HZL.out]))
    have D5 := hideP (DX.out w5 hb5)
    have B5 := hideP hb5
    clear hg5 hb5 hsp
    go_wp2
    refine leaves_cons (f := 48) (args := #[.pointer (some ⟨D, 0, none⟩)]) (by simp) (by simp [go_sem]) ?_
    refine (unlockD ⟨D, 0, none⟩ _ _ D5.out.f.cells.1 (D5.out.f.frozen 0)).mono ?_
    rintro e u' w'' ⟨rfl, rfl, rfl⟩
    have hfin : BO B (w5.setCell ⟨D, 0, none⟩ (.int .i32 0)) (.slice (some ⟨G, 0, none⟩) (N + 2) (N + 2)) (zs ++ endB zs) := row_alt BX.out D5.out.f (by decide) ((Alt.refl D _).set 0 _)
    refine ⟨_, results_tmp rfl _ _ _, ⟨.slice (some ⟨G, 0, none⟩) (N + 2) (N + 2), by first | rfl | simp, hfin⟩, ?_⟩
    exact ((alt_below A1.out hDl.out).trans (B5.out.mono hB1.out)).trans (alt_below ((Alt.refl D _).set 0 _) hDl.out)
set_option maxRecDepth 20000 in
set_option maxHeartbeats 4000000 in
theorem implDump_any {v : Value} {xs : List Lv} {w : World} (h : LRow 0 w v xs) (hs : SmE xs) :
 Calls Tryz.prog 8 #[.agg #[v]] w fun e W' => (∃ u, e = .returned u ∧ BO w.heap.size W' u (dmpB xs)) ∧ Below w.heap.size w W' := by
 have HC : Hid (∀ W, Below w.heap.size w W → Calls Tryz.prog 25 #[.agg #[v]] W fun e W' => e = .returned (.bool (decide (xs.length = 1) && envB xs)) ∧ Below W.heap.size W W') := hideP (fun W hW => hasBytes_any (SRow.below lvStable h hW) hs)
 obtain ⟨ao, n, cap, rfl, hn, hr⟩ := h
 have HR := hideP hr
 have HN := hideP hn
 obtain ⟨D, hD⟩ : ∃ D, D = dmpB xs := ⟨_, rfl⟩
 rw [← hD]
 have HD := hideP hD
 obtain ⟨eb, heb⟩ : ∃ b, b = (decide (xs.length = 1) && envB xs) := ⟨_, rfl⟩
 rw [← heb] at HC
 have HEB := hideP heb
 clear hr hn hD heb hs
 go_enter Tryz.func8, Tryz.ntmps8
 go_wp2_with fail
 refine (HC.out _ (below1 _ _)).mono ?_
 rintro e w1 ⟨rfl, hb1⟩
 obtain ⟨W1, hW1⟩ : ∃ X, X = w.alloc (.cells #[.slice ao n cap] 30) := ⟨_, rfl⟩
 rw [← hW1] at hb1
 have hz1 : w.heap.size < W1.heap.size := by rw [hW1]; simp
 have e0 : W1.heap[w.heap.size]? = some (.cells #[.slice ao n cap] 30 (0, 0)) := by rw [hW1]; exact heap_alloc_new _ _
 have q0 := (hb1.block _ hz1).trans e0
 have c0 : w1.cell? ⟨w.heap.size, 0, none⟩ = some (.slice ao n cap) := by rw [cell_of_row _ _ _ _ 30 _ q0]; rfl
 have bW1 : Below w.heap.size w W1 := by rw [hW1]; exact below1 _ _
 have B1 := hideP (below_more bW1 hb1 bW1.size)
 clear hb1 hW1 hz1 e0 q0 bW1 HC
 cases eb with
 | false =>
  have HE : Hid (D = []) := hideP (by
   rw [HD.out]; unfold dmpB
   rw [if_neg (fun h => by have := HEB.out; rw [h.1, decide_eq_true h.2] at this; exact absurd this (by decide))])
  go_wp2
  go_ret
  rw [HE.out]
  exact ⟨⟨_, rfl, (BO.new w1 [] 0 rfl (by omega)).mono B1.out.size⟩, B1.out.alloc B1.out.size _⟩
 | true =>
  have hb2 := HEB.out.symm
  simp only [Bool.and_eq_true, decide_eq_true_eq] at hb2
  obtain ⟨hl1, hev⟩ := hb2
  obtain rfl : n = 1 := by have := HN.out; omega
  obtain ⟨b, off, rfl, _, hbl, hcx⟩ := HR.out (by omega)
  obtain ⟨cs, hcl, hlv, hcj⟩ := hcx 0 (by omega)
  obtain ⟨x, hx⟩ : ∃ x, x = xs.getD 0 Lv.none := ⟨_, rfl⟩
  rw [← hx] at hlv
  have hok : levB x = true := by
   have h1 := hev
   unfold envB at h1
   simp only [Bool.and_eq_true] at h1
   rw [hx]
   exact all_in h1.2 _ (getD_in _ (by rw [HN.out]; omega))
  have HDE : Hid (D = lvlB x ++ endB (lvlB x)) := hideP (by rw [HD.out]; unfold dmpB; rw [if_pos ⟨hev, HN.out⟩, ← hx])
  have ld := levB_d hok
  obtain ⟨a0, a1, a2, a3, a4, a5, p0, p1, p2, p3, p4, p5, rfl, hlx⟩ := lv_read hlv
  have hlx1 := hlx.below B1.out
  have cj : ∀ j, j < 6 → w1.cell? ⟨b, off + j, none⟩ = [Value.slice a0 x.cats.length p0, .slice a1 x.binds.length p1, .slice a2 x.counts.length p2, .slice a3 x.lens.length p3, .slice a4 x.glues.length p4, .slice a5 x.toks.length p5][j]? := fun j hj => by
   have h1 := hcj j hj
   rw [show off + 0 * 6 + j = off + j by omega] at h1
   exact (B1.out.cell (p := ⟨b, off + j, none⟩) hbl).trans h1
  have j0 : w1.cell? ⟨b, off, none⟩ = some (.slice a0 x.cats.length p0) := cj 0 (by omega)
  have j1 : w1.cell? ⟨b, off + 1, none⟩ = some (.slice a1 x.binds.length p1) := cj 1 (by omega)
  have j2 : w1.cell? ⟨b, off + 2, none⟩ = some (.slice a2 x.counts.length p2) := cj 2 (by omega)
  have j3 : w1.cell? ⟨b, off + 3, none⟩ = some (.slice a3 x.lens.length p3) := cj 3 (by omega)
  have j4 : w1.cell? ⟨b, off + 4, none⟩ = some (.slice a4 x.glues.length p4) := cj 4 (by omega)
  have j5 : w1.cell? ⟨b, off + 5, none⟩ = some (.slice a5 x.toks.length p5) := cj 5 (by omega)
  have DC := hideP (dumped_any hlx1 ld)
  have LL := hideP ld.all
  clear cj hcj hcx hlv hlx hlx1 hok hev hx ld HR HD HEB hl1
  go_wp2_with fail
  refine DC.out.mono ?_
  rintro e w2 ⟨rfl, ⟨ps, pv, vs, ⟨hfl, hpl⟩, dw⟩, hb2⟩
  have SC := hideP (together_any dw (by have := dw.size; omega) (by rw [hfl]; have := LL.out; omega) (by omega))
  rw [hfl, ← HDE.out] at SC
  have hD1 : w.heap.size ≤ w1.heap.size + 1 := by have := B1.out.size; omega
  have B2 : Hid (Below w.heap.size w w2) := hideP (B1.out.trans (hb2.mono B1.out.size))
  clear dw hb2 hfl
  go_wp2_with fail
  refine SC.out.mono ?_
  rintro e w3 ⟨⟨u, rfl, ho⟩, hb3⟩
  have O3 := hideP (ho.mono hD1)
  obtain ⟨ua, un, uc, rfl⟩ := BO.shp ho
  clear ho
  have B3 : Hid (Below w.heap.size w w3) := hideP (B2.out.trans (hb3.mono hD1))
  clear hb3
  go_wp2
  go_ret
  exact ⟨⟨_, rfl, O3.out⟩, B3.out⟩
end Go.Proofs.YtbpidcfoldkhgaaGreat

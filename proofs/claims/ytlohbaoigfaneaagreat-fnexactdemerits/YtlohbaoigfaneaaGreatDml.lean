import Derived.Test.YtlohbaoigfaneaaGreatInts
import Derived.RowKit3
import Derived.Test.YtlohbaoigfaneaaGreatFlo
import Derived.Test.YtlohbaoigfaneaaGreatSdd
import Derived.Test.YtlohbaoigfaneaaGreatIdq
import Derived.Test.YtlohbaoigfaneaaGreatNdq
import Derived.Test.YtlohbaoigfaneaaGreatNdo
import Derived.Test.YtlohbaoigfaneaaGreatLrw
import Derived.Test.YtlohbaoigfaneaaGreatPay
import Derived.Test.YtlohbaoigfaneaaGreatSts
namespace Go.Proofs.YtlohbaoigfaneaaGreat
open Go.RowKit
set_option linter.unusedVariables false
set_option linter.unusedSimpArgs false
def Copied (B n : Nat) (w w' : World) (zs : List Int) : Prop :=
 w'.ownsRow B 2 1 (.slice (some ⟨B, 0, none⟩) n n) n (zs.map (Value.int .i64)) ∧ zs.length = n ∧ Below B w w' ∧ B < w'.heap.size
theorem made_intsT (n : Nat) : (madeCells (Value.cells (.int .i64 0)) (n * 1)).toList = (List.replicate n (0 : Int)).map (Value.int .i64) := by
 rw [Nat.mul_one]
 show (madeCells #[Value.int .i64 0] n).toList = _
 rw [toList_madeCells_one]
 simp
theorem info2t : (Tryz.prog.info? 2).map (fun i => (i.zero, i.size, i.bytes)) = some (some (.int .i64 0), 1, 8) := by kernel_rfl
set_option maxHeartbeats 1000000 in
theorem toInts_any {v : Value} {zs : List Int} {w : World} (h : Row w v zs) (hsz : zs.length ≤ 1048576) :
 Calls Tryz.prog 10 #[v] w fun e w' => e = .returned (.slice (some ⟨w.heap.size, 0, none⟩) zs.length zs.length) ∧ Copied w.heap.size zs.length w w' zs := by
 obtain ⟨ao, n, cap, rfl, hn, hr⟩ := h
 rw [hn] at hsz
 rw [hn]
 obtain ⟨B, hB⟩ : ∃ B, B = w.heap.size := ⟨_, rfl⟩
 obtain ⟨i0, hi, hz0, hz1, hz2⟩ := info_parts info2t
 have HI : Hid (i0.bytes = 8) := hz2
 have HR : Hid (0 < n → ∃ b off, ao = some ⟨b, off, none⟩ ∧ b < w.heap.size ∧ ∀ i, i < n → w.cell? ⟨b, off + i, none⟩ = some (.int .i64 (zs.getD i 0))) := hr
 clear hr
 have HN : Hid (zs.length = n) := hn
 clear hn
 go_enter Tryz.func10, Tryz.ntmps10
 go_wp2_with (first
  | (refine wpList_make_full _ rfl _ _ 27 rfl w.heap.size 2 i0 (.int .i64 0) 1 Tryz.underlying27 hi hz0 hz1 _ _ _ _ n rfl rfl rfl rfl (by rw [show i0.bytes = 8 from HI]; omega) (by unfold maxLen; omega) (Nat.le_refl _) ?_; intro w1 hown hgrow))
 have hn1 : w.heap.size < w1.heap.size := ownsRow_block hown
 have hown0 : w1.ownsRow w.heap.size 2 1 (.slice (some ⟨w.heap.size, 0, none⟩) n n) n ((List.replicate n (0 : Int)).map (Value.int .i64)) := by rw [← made_intsT]; exact hown
 have hbel : Below w.heap.size w w1 := Below.grown (Below.refl _ _) hgrow (Nat.le_refl _) (by simp)
 have HO : Hid (w1.ownsRow w.heap.size 2 1 (.slice (some ⟨w.heap.size, 0, none⟩) n n) n ((List.replicate n (0 : Int)).map (Value.int .i64)) ∧ Below w.heap.size w w1 ∧ w.heap.size < w1.heap.size) := ⟨hown0, hbel, hn1⟩
 clear hown hown0 hgrow hbel hn1
 go_wp2
 go_loopw [4] (fun i wr => ∃ (k : Nat) (ys : List Int), k ≤ n ∧ i = .int .i64 k ∧ ys.length = n ∧ (∀ j, j < k → ys.getD j 0 = zs.getD j 0) ∧
  wr.ownsRow w.heap.size 2 1 (.slice (some ⟨w.heap.size, 0, none⟩) n n) n (ys.map (Value.int .i64)) ∧ Below w.heap.size w wr ∧ w.heap.size < wr.heap.size)
  (fun i _ => n - (intOf i).toNat)
 case atStart => exact ⟨0, List.replicate n 0, by omega, rfl, by simp, fun j hj => by omega, HO.1, HO.2.1, HO.2.2⟩
 case round =>
  obtain ⟨k, ys, hk, rfl, hys, hj, hown, hbel, hlt⟩ := hrel
  by_cases hkn : k < n
  ·obtain ⟨b, off, rfl, hb, hc⟩ := HR (by omega)
   have hcell : wr.cell? ⟨b, off + k, none⟩ = some (.int .i64 (zs.getD k 0)) := (hbel.cell (p := ⟨b, off + k, none⟩) hb).trans (hc k hkn)
   obtain ⟨z, hz⟩ : ∃ z, z = zs.getD k 0 := ⟨_, rfl⟩
   rw [← hz] at hcell
   have hfz : wr.frozen? ⟨w.heap.size, k, none⟩ = false := World.ownsRow.frozenAt hown k
   have hco : wr.cell? ⟨w.heap.size, k, none⟩ = some (.int .i64 (ys.getD k 0)) := by
    rw [World.ownsRow.cellAt hown k (by omega)]
    simp [List.getElem?_map, List.getD, List.getElem?_eq_getElem (show k < ys.length by omega)]
   have hown2 := (World.ownsRow.stored hown k (.int .i64 z)).1
   have hbel2 := hbel.setCell (Nat.le_refl _) (p := ⟨w.heap.size, k, none⟩) (.int .i64 z)
   have HR2 : Hid ((wr.setCell ⟨w.heap.size, k, none⟩ (.int .i64 z)).ownsRow w.heap.size 2 1 (.slice (some ⟨w.heap.size, 0, none⟩) n n) n ((ys.set k z).map (Value.int .i64)) ∧ Below w.heap.size w (wr.setCell ⟨w.heap.size, k, none⟩ (.int .i64 z)) ∧ w.heap.size < (wr.setCell ⟨w.heap.size, k, none⟩ (.int .i64 z)).heap.size) :=
    ⟨by simpa using hown2, hbel2, by simpa using hlt⟩
   have HZ : Hid (z = zs.getD k 0) := hz
   have HJ : Hid (∀ j, j < k → ys.getD j 0 = zs.getD j 0) := hj
   clear hz hown hbel hown2 hbel2 hc hj
   go_wp2
   go_roundw
   case rel =>
    refine ⟨k + 1, ys.set k z, by omega, by go_num, by simp [hys], fun j hj => ?_, HR2.1, HR2.2.1, HR2.2.2⟩
    by_cases hjk : j = k
    ·subst hjk; rw [← show z = zs.getD j 0 from HZ]; simp [List.getD, hys, hkn]
    ·rw [← HJ j (by omega)]; simp [List.getD, List.getElem?_set, Ne.symm hjk]
   case measure => simp [intOf]; omega
  ·obtain rfl : k = n := by omega
   have hyz : ys = zs := by
    refine List.ext_getElem (by rw [hys]; exact (show zs.length = k from HN).symm) fun i h1 h2 => ?_
    have := hj i (by omega)
    simpa [List.getD, List.getElem?_eq_getElem h1, List.getElem?_eq_getElem h2] using this
   subst hyz
   have HR2 : Hid (Copied w.heap.size k w wr ys) := ⟨hown, HN, hbel, hlt⟩
   clear hown hbel hlt hj
   go_wp2
   go_ret
   exact ⟨rfl, HR2⟩
set_option maxHeartbeats 1000000 in
theorem eqInts_any {v1 v2 : Value} {xs ys : List Int} {w : World} (h1 : Row w v1 xs) (h2 : Row w v2 ys) (hx : xs.length ≤ 1048576) :
 Calls Tryz.prog 13 #[v1, v2] w fun e w' => e = .returned (.bool (decide (xs = ys))) ∧ Below w.heap.size w w' := by
 obtain ⟨ao1, n1, cap1, rfl, hn1, hr1⟩ := h1
 obtain ⟨ao2, n2, cap2, rfl, hn2, hr2⟩ := h2
 rw [hn1] at hx
 have HN1 : Hid (xs.length = n1) := hn1
 have HN2 : Hid (ys.length = n2) := hn2
 have HR1 : Hid (0 < n1 → ∃ b off, ao1 = some ⟨b, off, none⟩ ∧ b < w.heap.size ∧ ∀ i, i < n1 → w.cell? ⟨b, off + i, none⟩ = some (.int .i64 (xs.getD i 0))) := hr1
 have HR2 : Hid (0 < n2 → ∃ b off, ao2 = some ⟨b, off, none⟩ ∧ b < w.heap.size ∧ ∀ i, i < n2 → w.cell? ⟨b, off + i, none⟩ = some (.int .i64 (ys.getD i 0))) := hr2
 clear hn1 hn2 hr1 hr2
 by_cases hne : n1 = n2
 ·subst hne
  go_enter Tryz.func13, Tryz.ntmps13
  go_wp2
  go_loopw [5] (fun i wr => ∃ k : Nat, k ≤ n1 ∧ i = .int .i64 k ∧ (∀ j, j < k → xs.getD j 0 = ys.getD j 0) ∧ Below w.heap.size w wr) (fun i _ => n1 - (intOf i).toNat)
  case atStart => exact ⟨0, by omega, rfl, fun j hj => by omega, Below.refl _ _⟩
  case round =>
   obtain ⟨k, hk, rfl, hj, hbel⟩ := hrel
   have HJ : Hid (∀ j, j < k → xs.getD j 0 = ys.getD j 0) := hj
   clear hj
   by_cases hkn : k < n1
   ·have hki : (k : Int) < (n1 : Int) := by omega
    obtain ⟨b, off, rfl, hb, hc⟩ := HR1 (by omega)
    obtain ⟨b', off', rfl, hb', hc'⟩ := HR2 (by omega)
    obtain ⟨x, hxk⟩ : ∃ x, x = xs.getD k 0 := ⟨_, rfl⟩
    obtain ⟨y, hyk⟩ : ∃ y, y = ys.getD k 0 := ⟨_, rfl⟩
    have hc1 : wr.cell? ⟨b, off + k, none⟩ = some (.int .i64 x) := by rw [hxk]; exact (hbel.cell (p := ⟨b, off + k, none⟩) hb).trans (hc k hkn)
    have hc2 : wr.cell? ⟨b', off' + k, none⟩ = some (.int .i64 y) := by rw [hyk]; exact (hbel.cell (p := ⟨b', off' + k, none⟩) hb').trans (hc' k hkn)
    have HX : Hid (x = xs.getD k 0 ∧ y = ys.getD k 0) := ⟨hxk, hyk⟩
    have HB : Hid (Below w.heap.size w wr) := hbel
    clear hxk hyk hbel hc hc'
    by_cases hxy : x = y
    ·go_wp2
     go_quiet (fail)
     go_wp2
     go_roundw
     case rel =>
      refine ⟨k + 1, by omega, by go_num, fun j hj => ?_, below_drewN HB _⟩
      by_cases hjk : j = k
      ·subst hjk; rw [← HX.1, ← HX.2]; exact hxy
      ·exact HJ j (by omega)
     case measure => simp [intOf]; omega
    ·go_wp2
     go_quiet (fail)
     go_wp2
     go_ret
     refine ⟨retB (decide_eq_false fun he => hxy ?_).symm, below_drewN HB _⟩
     rw [HX.1, HX.2, he]
   ·have hki : ¬ (k : Int) < (n1 : Int) := by omega
    have HB : Hid (Below w.heap.size w wr) := hbel
    clear hbel
    go_wp2
    go_ret
    exact ⟨retB (decide_eq_true (getD_ext ((show xs.length = n1 from HN1).trans (show ys.length = n1 from HN2).symm) fun j hj => HJ j (by have := (show xs.length = n1 from HN1); omega))).symm, HB⟩
 ·have hni : ((n1 : Int) == (n2 : Int)) = false := by simp; omega
  go_enter Tryz.func13, Tryz.ntmps13
  go_wp2
  go_ret
  refine ⟨retB (decide_eq_false fun he => hne ?_).symm, Below.refl _ _⟩
  rw [← (show xs.length = n1 from HN1), ← (show ys.length = n2 from HN2), he]
theorem nn_own {w : World} {base n : Nat} {v : Value} {xs : List Nd} (h : w.ownsRow base 61 15 v n (flatN xs)) (hn : xs.length = n := by rfl) : NN 0 w v xs := by
 have hc := own_cap h
 rcases h.2 with ⟨rfl, h0⟩ | ⟨g, cap, cur, rfl, hb, hg, _⟩
 ·exact .inl ⟨rfl, List.eq_nil_of_length_eq_zero (by omega)⟩
 ·subst hn
  exact .inr ⟨g, 0, cap, rfl, (hc _ _ _ rfl).1, Nat.zero_le _, fun _ => (Array.getElem?_eq_some_iff.1 hg).1, fun j u hj => by rw [Nat.zero_add]; exact (own_cell h hj).1⟩
theorem load_sl {a : Act} {oi : Oper} {p : Operand} {G : Nat} {cs : Array Value} (hsz : cs.size = 23) (ho : oi.op = Op.load 26 p) (hp : a.eval p = .pointer (some ⟨G, 0, none⟩)) (W : World) (h : W.heap[G]? = some (.cells cs 26 (0, 0))) : (execOp a.eval oi).run Tryz.prog W = .ok (.value (.agg cs)) W := by
 have hr : (loadVar 26 ⟨G, 0, none⟩).run Tryz.prog W = .ok (.agg cs) W := run_loadVar_row _ _ 26 26 _ (0, 0) _ h Tryz.underlying26 rfl (by rw [hsz]; kernel_rfl)
 unfold execOp
 simp only [ho, hp, Instr.loadAt, Instr.sureAddr, Sem.run_bind, Sem.run_pure, Result.andThen_ok, hr]
set_option maxRecDepth 20000 in
set_option maxHeartbeats 16000000 in
theorem lawDem_any {v u : Value} {xs : List Nd} {bs : List Int} {w0 : World} (S : Sy) (h : NRow 0 w0 v xs) (hf : xs.length ≤ 9223372036854775807 ∧ ∀ i, i < xs.length → FnN (xs.getD i Nd.none)) (hb : Row w0 u bs) :
 Calls Tryz.prog 3 #[v, syV S, u] w0 fun e w' => e = .returned (.bool true) ∧ Below w0.heap.size w0 w' := by
 have TS : Hid (∀ W, Calls Tryz.prog 9 #[syV S] W fun r w' => r = .returned (syV S) ∧ Below W.heap.size W w') := hideP (fun W => toStyle_any S W)
 have hsy : ∃ cs : Array Value, syV S = .agg cs ∧ cs.size = 23 := ⟨_, rfl, rfl⟩
 obtain ⟨cs, hcs, hsz⟩ := hsy
 have HCS := hideP hcs
 rw [hcs] at TS ⊢
 clear hcs
 have HX := hideP (SRow.below ndStable h (below1 w0 (.cells cs 26)))
 have HU := hideP (Row.below hb (below1 w0 (.cells cs 26)))
 have BB := hideP (below1 w0 (.cells cs 26))
 have hG := heap_alloc_new w0 (.cells cs 26)
 obtain ⟨ao, n, cap, rfl⟩ : ∃ a n c, v = .slice a n c := by obtain ⟨a, c, rfl⟩ := h.shape; exact ⟨_, _, _, rfl⟩
 obtain ⟨ua, m, uc, rfl, hum, _⟩ := hb
 have HF := hideP hf
 have HM := hideP hum
 clear h hf hum
 by_cases hbig : 1048576 < m
 ·have hbi : (1048576 : Int) < (m : Int) := by omega
  clear hG HX HU HF
  go_enter Tryz.func3, Tryz.ntmps3
  go_wp2
  go_ret
  exact ⟨rfl, BB.out⟩
 have hbi : ¬ (1048576 : Int) < (m : Int) := by omega
 have hbl : bs.length ≤ 1048576 := by rw [HM.out]; omega
 go_enter Tryz.func3, Tryz.ntmps3
 go_wp2_with fail
 obtain ⟨sb, hsb⟩ : ∃ sb, sb = w0.heap.size := ⟨_, rfl⟩
 rw [← hsb] at hG
 rw [← hsb]
 have hsl : sb < (w0.alloc (.cells cs 26)).heap.size := by rw [hsb]; simp
 generalize World.alloc _ _ = w at HX HU BB hG hsl ⊢
 have HSt : Hid (∀ X, Below w.heap.size w X → X.heap[sb]? = some (.cells cs 26 (0, 0))) := hideP (fun X hX => (hX.block sb hsl).trans hG)
 clear hG hsb
 refine (szNodeS_any HX.out HF.out (by omega) (by omega)).mono ?_
 rintro e w1 ⟨⟨q, rfl, hml, hm⟩, hb1⟩
 have B1 : Hid (Below w.heap.size w w1) := hb1
 have HQ := hideP hm
 clear hb1 hm
 by_cases hneg : q < 0
 ·go_wp2
  go_ret
  exact ⟨rfl, below_more BB.out B1.out BB.out.size⟩
 ·have HS : Hid (xs.length ≤ 1048576) := hideP (HQ.out (by omega)).1
  clear HQ HF
  obtain ⟨R1, hR1⟩ : ∃ r, r = (demR S (rowI xs S) (blL xs S) bs).1 := ⟨_, rfl⟩
  obtain ⟨R2, hR2⟩ : ∃ r, r = (demR S (rowI xs S) (blL xs S) bs).2 := ⟨_, rfl⟩
  have CS : Hid (∀ (V U : Value) (W : World) (base : Nat), W.ownsRow base 61 15 V xs.length (flatN xs) → Row W U bs → Calls Tryz.prog 7 #[V, .agg cs, U] W fun e W' => e = .returned (.tuple #[.int .i64 R1, .bool R2]) ∧ Below W.heap.size W W') := hideP (fun V U W base ho hu => by rw [hR1, hR2, ← HCS.out]; exact specDem_any S (SRow.mono ndStable (own_NRow ho rfl) (Nat.zero_le _)) HS.out (own_cap ho) hu hbl)
  have CI : Hid (∀ (V U : Value) (W : World) (base : Nat), W.ownsRow base 61 15 V xs.length (flatN xs) → Row W U bs → Calls Tryz.prog 11 #[V, .agg cs, U] W fun e W' => e = .returned (.tuple #[.int .i64 R1, .bool R2]) ∧ Below W.heap.size W W') := hideP (fun V U W base ho hu => by rw [hR1, hR2, ← HCS.out]; exact implDem_any S (SRow.mono ndStable (own_NRow ho rfl) (Nat.zero_le _)) HS.out (own_cap ho) (nn_own ho) hu hbl)
  clear hR1 hR2
  obtain ⟨z, hz⟩ : ∃ z, z = xs.length := ⟨_, rfl⟩
  have CT : Hid (∀ W, Below w.heap.size w W → Calls Tryz.prog 8 #[.slice ao n cap] W fun e w' => e = .returned (.slice (some ⟨W.heap.size, 0, none⟩) z z) ∧ w'.ownsRow W.heap.size 61 15 (.slice (some ⟨W.heap.size, 0, none⟩) z z) z (flatN xs) ∧ Below W.heap.size W w') := hideP (fun W hW => by rw [hz]; exact toNodeS_own (SRow.below ndStable HX.out hW) HS.out)
  have CQ : Hid (∀ (V U : Value) (W : World) (b1 b2 : Nat), W.ownsRow b1 61 15 V z (flatN xs) → W.ownsRow b2 61 15 U z (flatN xs) → Calls Tryz.prog 12 #[V, U] W fun e w' => e = .returned (.bool true) ∧ Below W.heap.size W w') := hideP (fun V U W b1 b2 ho1 ho2 => eqNodeS_same (SRow.mono ndStable (own_NRow ho1 hz.symm) (Nat.zero_le _)) (SRow.mono ndStable (own_NRow ho2 hz.symm) (Nat.zero_le _)) HS.out)
  have TI : Hid (∀ W, Below w.heap.size w W → Calls Tryz.prog 10 #[.slice ua m uc] W fun e w' => e = .returned (.slice (some ⟨W.heap.size, 0, none⟩) m m) ∧ Copied W.heap.size m W w' bs) := hideP (fun W hW => by rw [← HM.out]; exact toInts_any (w := W) (Row.below (by have := HU.out; rw [← HM.out] at this; exact this) hW) hbl)
  have EI : Hid (∀ (V U : Value) (W : World), Row W V bs → Row W U bs → Calls Tryz.prog 13 #[V, U] W fun e w' => e = .returned (.bool true) ∧ Below W.heap.size W w') := hideP (fun V U W h1 h2 => by
   have h3 := eqInts_any h1 h2 hbl
   rw [decide_eq_true rfl] at h3
   exact h3)
  rw [← hz] at CS CI
  clear hz HX HU
  have dd : (R1 != R1) = false := by simp
  have de : (R1 == R1) = true := by simp
  go_upto_region 7 with fail
  refine wp_noPanic ?_
  have BD1 : Hid (Below w.heap.size w w1.drew) := hideP (Below.drew B1.out)
  have hS : (fun Y : World => Y.heap[sb]? = some (.cells cs 26 (0, 0))) w1.drew := HSt.out w1 B1.out
  refine wp_region_held_drew (S := (fun Y : World => Y.heap[sb]? = some (.cells cs 26 (0, 0)))) (by kernel_rfl) hS (fun hS => ?_)
  obtain ⟨v0, hv0⟩ : ∃ X, X = w1.drew := ⟨_, rfl⟩
  rw [← hv0] at hS BD1 ⊢
  clear hv0
  refine tkS (i := 0) (v := .slice ao n cap) rfl hS ?_
  try simp only [Act.put, List.getElem_toArray, List.getElem_cons_zero, List.getElem_cons_succ, List.setIfInBounds_toArray, List.set_cons_zero, List.set_cons_succ]
  refine tkS (i := 2) (v := .agg cs) rfl hS ?_ (hr := fun wx hx => load_sl hsz rfl rfl wx hx)
  try simp only [Act.put, List.getElem_toArray, List.getElem_cons_zero, List.getElem_cons_succ, List.setIfInBounds_toArray, List.set_cons_zero, List.set_cons_succ]
  refine tkS (i := 4) (v := .slice ua m uc) rfl hS ?_
  try simp only [Act.put, List.getElem_toArray, List.getElem_cons_zero, List.getElem_cons_succ, List.setIfInBounds_toArray, List.set_cons_zero, List.set_cons_succ]
  refine rdS (i := 1) rfl (fun K hK => ?_)
  go_simp
  go_at_call 8
  refine (CT.out v0 BD1.out).mono ?_
  rintro e v1 ⟨rfl, ho1, hb1⟩
  have b1 : Below w.heap.size w v1 := below_more BD1.out hb1 BD1.out.size
  refine hK.out _ _ (HSt.out v1 b1) (fun _ => ?_)
  try simp only [Act.put, List.getElem_toArray, List.getElem_cons_zero, List.getElem_cons_succ, List.setIfInBounds_toArray, List.set_cons_zero, List.set_cons_succ]
  clear hK K hb1
  refine rdS (i := 3) rfl (fun K hK => ?_)
  go_simp
  go_at_call 9
  refine (TS.out v1).mono ?_
  rintro e v2 ⟨rfl, hb2⟩
  have b2 : Below w.heap.size w v2 := below_more b1 hb2 b1.size
  have ho2 := own_below ho1 hb2
  refine hK.out _ _ (HSt.out v2 b2) (fun _ => ?_)
  try simp only [Act.put, List.getElem_toArray, List.getElem_cons_zero, List.getElem_cons_succ, List.setIfInBounds_toArray, List.set_cons_zero, List.set_cons_succ]
  clear hK K hb2 ho1
  refine rdS (i := 5) rfl (fun K hK => ?_)
  go_simp
  go_at_call 10
  refine (TI.out v2 b2).mono ?_
  rintro e v3 ⟨rfl, hi3, hl3, hb3, hz3⟩
  have b3 : Below w.heap.size w v3 := below_more b2 hb3 b2.size
  have ho3 := own_below ho2 hb3
  have hr3 := Row.own hi3 hl3 hz3
  refine hK.out _ _ (HSt.out v3 b3) (fun _ => ?_)
  try simp only [Act.put, List.getElem_toArray, List.getElem_cons_zero, List.getElem_cons_succ, List.setIfInBounds_toArray, List.set_cons_zero, List.set_cons_succ]
  clear hK K hb3 ho2
  refine rdS (i := 6) rfl (fun K hK => ?_)
  go_simp
  go_at_call 7
  refine (CS.out _ _ _ _ ho3 hr3).mono ?_
  rintro e w3 ⟨rfl, hb4⟩
  have B3 : Hid (Below w.heap.size w w3) := hideP (below_more b3 hb4 b3.size)
  refine hK.out _ _ (HSt.out w3 B3.out) (fun _ => ?_)
  try simp only [Act.put, List.getElem_toArray, List.getElem_cons_zero, List.getElem_cons_succ, List.setIfInBounds_toArray, List.set_cons_zero, List.set_cons_succ]
  clear hK K hb4 ho3 hr3 hi3 hl3 hz3
  refine tkS (i := 7) (v := .tuple #[.int .i64 R1, .bool R2]) rfl (HSt.out w3 B3.out) ?_
  try simp only [Act.put, List.getElem_toArray, List.getElem_cons_zero, List.getElem_cons_succ, List.setIfInBounds_toArray, List.set_cons_zero, List.set_cons_succ]
  refine tkS (i := 8) (v := .int .i64 R1) rfl (HSt.out w3 B3.out) ?_
  try simp only [Act.put, List.getElem_toArray, List.getElem_cons_zero, List.getElem_cons_succ, List.setIfInBounds_toArray, List.set_cons_zero, List.set_cons_succ]
  refine tkS (i := 9) (v := .bool R2) rfl (HSt.out w3 B3.out) ?_
  try simp only [Act.put, List.getElem_toArray, List.getElem_cons_zero, List.getElem_cons_succ, List.setIfInBounds_toArray, List.set_cons_zero, List.set_cons_succ]
  refine tkS (i := 10) (v := .int .i64 R1) rfl (HSt.out w3 B3.out) ?_
  try simp only [Act.put, List.getElem_toArray, List.getElem_cons_zero, List.getElem_cons_succ, List.setIfInBounds_toArray, List.set_cons_zero, List.set_cons_succ]
  refine tkS (i := 11) (v := .bool R2) rfl (HSt.out w3 B3.out) ?_
  try simp only [Act.put, List.getElem_toArray, List.getElem_cons_zero, List.getElem_cons_succ, List.setIfInBounds_toArray, List.set_cons_zero, List.set_cons_succ]
  refine wpAnyH_done (by kernel_rfl) ?_ _
  clear hS b1 b2 b3
  go_wp2_with fail
  refine (CT.out w3 B3.out).mono ?_
  rintro e w4 ⟨rfl, ho4, hb4⟩
  have B4 : Hid (Below w.heap.size w w4) := hideP (below_more B3.out hb4 B3.out.size)
  have X4 := hideP ho4
  clear ho4 hb4
  go_wp2_with fail
  refine (TI.out w4 B4.out).mono ?_
  rintro e w5 ⟨rfl, hi5, hl5, hb5, hz5⟩
  have B5 : Hid (Below w.heap.size w w5) := hideP (below_more B4.out hb5 B4.out.size)
  have X5 := hideP (own_below X4.out hb5)
  have I5 := hideP (Row.own hi5 hl5 hz5)
  clear hi5 hl5 hb5 hz5 X4
  have hst5 := HSt.out w5 B5.out
  go_wp2_with (refine wpList_load_row rfl 26 _ rfl sb rfl cs 26 (0, 0) hst5 _ Tryz.underlying26 rfl (by rw [hsz]; kernel_rfl) ?_)
  refine (TS.out _).mono ?_
  rintro e w6 ⟨rfl, hb6⟩
  have B6 : Hid (Below w.heap.size w w6) := hideP (below_more B5.out hb6 B5.out.size)
  have X6 := hideP (own_below X5.out hb6)
  have I6 := hideP (Row.below I5.out hb6)
  clear hb6 X5 I5 hst5
  go_wp2_with fail
  refine (CI.out _ _ _ _ X6.out I6.out).mono ?_
  rintro e w7 ⟨rfl, hb7⟩
  have B7 : Hid (Below w.heap.size w w7) := hideP (below_more B6.out hb7 B6.out.size)
  have X7 := hideP (own_below X6.out hb7)
  have I7 := hideP (Row.below I6.out hb7)
  clear hb7 X6 I6
  cases R2
  all_goals
   go_wp2_with fail
   refine (CT.out w7 B7.out).mono ?_
   rintro e w8 ⟨rfl, ho8, hb8⟩
   have B8 : Hid (Below w.heap.size w w8) := hideP (below_more B7.out hb8 B7.out.size)
   have Y8 := hideP ho8
   have X8 := hideP (own_below X7.out hb8)
   have I8 := hideP (Row.below I7.out hb8)
   clear ho8 hb8 X7 I7
   go_wp2_with fail
   refine (CQ.out _ _ _ _ _ X8.out Y8.out).mono ?_
   rintro e w9 ⟨rfl, hb9⟩
   have B9 : Hid (Below w.heap.size w w9) := hideP (below_more B8.out hb9 B8.out.size)
   have I9 := hideP (Row.below I8.out hb9)
   clear hb9 X8 Y8 I8
   go_wp2_with fail
   refine (TI.out w9 B9.out).mono ?_
   rintro e w10 ⟨rfl, hi10, hl10, hb10, hz10⟩
   have B10 : Hid (Below w.heap.size w w10) := hideP (below_more B9.out hb10 B9.out.size)
   have I10 := hideP (Row.below I9.out hb10)
   have J10 := hideP (Row.own hi10 hl10 hz10)
   clear hi10 hl10 hb10 hz10 I9
   go_wp2_with fail
   refine (EI.out _ _ _ I10.out J10.out).mono ?_
   rintro e w11 ⟨rfl, hb11⟩
   have B11 : Hid (Below w.heap.size w w11) := hideP (below_more B10.out hb11 B10.out.size)
   clear hb11 I10 J10
   go_wp2
   go_ret
   exact ⟨rfl, below_more BB.out B11.out BB.out.size⟩
end Go.Proofs.YtlohbaoigfaneaaGreat

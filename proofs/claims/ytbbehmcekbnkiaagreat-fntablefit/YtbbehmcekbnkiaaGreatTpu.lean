import Derived.Test.YtbbehmcekbnkiaaGreatDts
import Derived.Test.YtbbehmcekbnkiaaGreatFng
import Derived.Test.YtbbehmcekbnkiaaGreatDtc
import Derived.Test.YtbbehmcekbnkiaaGreatDlp
namespace Go.Proofs.YtbbehmcekbnkiaaGreat
open Go.RowKit Go.Shelf
set_option linter.unusedVariables false
set_option linter.unusedSimpArgs false
theorem loadTb {w : World} {R : Nat} {a b c d e f : Int} {ya : Option Addr} {yn yc : Nat} (h : w.heap[R]? = some (tbO a b c d e f (.slice ya yn yc))) : (loadVar 52 ⟨R, 0, none⟩).run Tryz.prog w = .ok (.agg #[.int .i64 a, .int .i64 b, .int .i64 c, .int .i64 d, .int .i64 e, .int .i64 f, .slice ya yn yc]) w :=
 run_loadVar_row _ _ 52 52 _ (0, 0) _ h Tryz.underlying52 rfl (by kernel_rfl)
abbrev sevT (w : World) (R : Nat) (a b c d e f : Int) (u : Value) : World := ((((((w.setCell ⟨R, 0, none⟩ (.int .i64 a)).setCell ⟨R, 1, none⟩ (.int .i64 b)).setCell ⟨R, 2, none⟩ (.int .i64 c)).setCell ⟨R, 3, none⟩ (.int .i64 d)).setCell ⟨R, 4, none⟩ (.int .i64 e)).setCell ⟨R, 5, none⟩ (.int .i64 f)).setCell ⟨R, 6, none⟩ u
theorem sevT_all {w w0 wc : World} {ao : Option Addr} {len cap T : Nat} {co gs gp gpo gm gmo : Int} {v : Value} {rs : List DRow} (h : DTQ w w0 wc ao len cap T co gs gp gpo gm gmo v rs) (hw : w.heap.size < w0.heap.size) :
 (sevT wc w0.heap.size co gs gp gpo gm gmo v).heap[w0.heap.size]? = some (tbO co gs gp gpo gm gmo v) /\ OwnTab w0.heap.size (sevT wc w0.heap.size co gs gp gpo gm gmo v) v rs /\ Cur w (sevT wc w0.heap.size co gs gp gpo gm gmo v) ao len cap /\ Fram w w0 (sevT wc w0.heap.size co gs gp gpo gm gmo v) := by
 refine ⟨heap_setCell_same _ _ 6 _ 52 _ (heap_setCell_same _ _ 5 _ 52 _ (heap_setCell_same _ _ 4 _ 52 _ (heap_setCell_same _ _ 3 _ 52 _ (heap_setCell_same _ _ 2 _ 52 _ (heap_setCell_same _ _ 1 _ 52 _ (heap_setCell_same _ _ 0 _ 52 _ h.res)))))), ?_, ?_, ?_⟩
 ·refine h.own.other h.res (by decide) (by decide) (by decide) (fun g hg => ?_)
  rw [Below.heap_setCell _ _ _ _ hg, Below.heap_setCell _ _ _ _ hg, Below.heap_setCell _ _ _ _ hg, Below.heap_setCell _ _ _ _ hg, Below.heap_setCell _ _ _ _ hg, Below.heap_setCell _ _ _ _ hg, Below.heap_setCell _ _ _ _ hg]
 ·exact ((((((h.cur.set hw _ _).set hw _ _).set hw _ _).set hw _ _).set hw _ _).set hw _ _).set hw _ _
 ·have hl := Nat.le_refl w0.heap.size
  exact ((((((h.fram.put hl _ _).put hl _ _).put hl _ _).put hl _ _).put hl _ _).put hl _ _).put hl _ _
set_option maxRecDepth 20000 in
set_option maxHeartbeats 8000000 in
theorem drawTable_any (ao : Option Addr) (len cap : Nat) (w w0 : World) (hB : Bytes w ao len cap) (hC : Cur w w0 ao len cap) :
 Calls Tryz.prog 48 #[curP w] w0 fun e w' => DTb w w0 w' ao len cap e := by
 have HB := hideD hB
 have hwl : w.heap.size < w0.heap.size := hC.lt
 have HC0 : Hid (Cur w (w0.alloc (tbO 0 0 0 0 0 0 (.slice none 0 0))) ao len cap) := hideP (hC.alloc _)
 have F0 : Hid (Fram w w0 (w0.alloc (tbO 0 0 0 0 0 0 (.slice none 0 0)))) := hideP ((Fram.refl w w0).alloc _)
 have R0 : Hid ((w0.alloc (tbO 0 0 0 0 0 0 (.slice none 0 0))).heap[w0.heap.size]? = some (tbO 0 0 0 0 0 0 (.slice none 0 0))) := hideP (heap_alloc_new w0 _)
 clear hB hC
 go_enter Tryz.func48, Tryz.ntmps48
 go_wp2_with fail
 refine (belowN_any 5 ao len cap w _ HB.out HC0.out (by omega) (by omega)).mono ?_
 rintro e w1 ⟨x1, rfl, hx1, hx1', hc1, ho1⟩
 have HC1 := hideP hc1
 have F1 := hideP (F0.out.other ho1 hc1)
 have R1 := hideP ((ho1 w0.heap.size (by omega)).trans R0.out)
 clear hc1 ho1 HC0 F0 R0
 go_wp2_with fail
 refine (belowN_any 12 ao len cap w _ HB.out HC1.out (by omega) (by omega)).mono ?_
 rintro e w2 ⟨x2, rfl, hx2, hx2', hc2, ho2⟩
 have HC2 := hideP hc2
 have F2 := hideP (F1.out.other ho2 hc2)
 have R2 := hideP ((ho2 w0.heap.size (by omega)).trans R1.out)
 clear hc2 ho2 HC1 F1 R1
 go_wp2_with fail
 refine (belowN_any 2 ao len cap w _ HB.out HC2.out (by omega) (by omega)).mono ?_
 rintro e w3 ⟨x3, rfl, hx3, hx3', hc3, ho3⟩
 have HC3 := hideP hc3
 have F3 := hideP (F2.out.other ho3 hc3)
 have R3 := hideP ((ho3 w0.heap.size (by omega)).trans R2.out)
 clear hc3 ho3 HC2 F2 R2
 go_upto_region 2 with fail
 obtain ⟨co, hco⟩ := exq (1 + x1)
 obtain ⟨gs, hgs⟩ := exq (65536 * x2)
 obtain ⟨gp, hgp⟩ := exq (65536 * x3)
 have hco1 : 1 <= co := by omega
 have hco5 : co <= 5 := by omega
 rw [<- hco, <- hgs, <- hgp]
 clear hco hgs hgp hx1 hx1' hx2 hx2' hx3 hx3'
 have hTs : w0.heap.size < w3.heap.size := (glt R3.out)
 have D0 : Hid (DTS w w0 (w3.alloc (tbO co gs gp 0 0 0 (.slice none 0 0))) ao len cap w3.heap.size co gs gp (.slice none 0 0) []) := hideP ⟨HC3.out.alloc _, F3.out.alloc _, (Below.heap_alloc _ _ _ hTs).trans R3.out, heap_alloc_new w3 _, OwnTab.nil _ _⟩
 obtain ⟨T, hT⟩ := exq (w3.heap.size)
 rw [<- hT] at D0 hTs
 rw [<- hT]
 generalize World.alloc _ _ = W at D0 ⊢
 clear hT HC3 F3 R3
 go_wp2_with fail
 refine (belowN_any 6 ao len cap w _ HB.out D0.out.cur (by omega) (by omega)).mono ?_
 rintro e w4 ⟨x4, rfl, hx4, hx4', hc4, ho4⟩
 have D1 := hideP (D0.out.oth hwl hTs ho4 hc4)
 obtain ⟨nR, hnR⟩ : ∃ nR : Nat, x4 = (nR : Int) := ⟨x4.toNat, by omega⟩
 subst hnR
 have hnR5 : nR <= 5 := by omega
 clear hc4 ho4 D0 hx4 hx4'
 go_wp2_with fail
 go_loopw [4, 5, 6, 7] (fun s4 _ _ _ wi => ∃ (i : Nat) (v : Value) (rs : List DRow), s4 = .int .i64 (i : Int) /\ i + rs.length <= 5 /\ Hid (DTS w w0 wi ao len cap T co gs gp v rs)) (fun s4 _ _ _ _ => (intOf s4).toNat)
 case atStart => exact ⟨nR, _, [], rfl, by simpa using hnR5, D1⟩
 case round =>
  obtain ⟨i, v, rs, rfl, hi, DI⟩ := hrel
  clear D1
  by_cases hi0 : 0 < i
  ·have hii : (0 : Int) < (i : Int) := by omega
   go_upto_region 6 with fail
   have ST : Hid (RSt w wr (wr.alloc (rwO (.slice none 0 0) 0)) ao len cap [] (.slice none 0 0) 0) := hideP (RSt.start DI.out.cur)
   have hws : w.heap.size < wr.heap.size := DI.out.cur.lt
   obtain ⟨S, hS⟩ : ∃ S : World, S = wr := ⟨_, rfl⟩
   rw [<- hS] at ST DI hws
   rw [<- hS]
   generalize World.alloc _ _ = W6 at ST ⊢
   clear hS
   go_wp2_with fail
   refine (once_any 6 ao len cap w _ HB.out ST.out.cur (by omega) (by omega)).mono ?_
   rintro e w6 ⟨t6, rfl, hc6, ho6⟩
   have S6 := hideP (ST.out.oth hws ho6 hc6)
   clear hc6 ho6 ST
   go_upto_if 27 with fail
   go_cut [] (fun wc => ∃ ru : Int, Hid (RSt w S wc ao len cap [] (.slice none 0 0) ru))
   case first =>
    cases t6 with
    | false =>
     go_wp2
     go_meet
     case rel => exact ⟨0, S6⟩
    | true =>
     go_wp2_with fail
     refine (belowN_any 65536 ao len cap w _ HB.out S6.out.cur (by omega) (by omega)).mono ?_
     rintro e w7 ⟨x7, rfl, hx7, hx7', hc7, ho7⟩
     have S7 := hideP (S6.out.oth hws ho7 hc7)
     have v1 := cell_of_row w7 S.heap.size 1 _ 59 _ S7.out.var
     have fz : ∀ j, w7.frozen? ⟨S.heap.size, j, none⟩ = false := fun j => frozen_of_row w7 _ j _ _ S7.out.var
     clear hc7 ho7 S6
     go_wp2
     go_meet
     case rel => exact ⟨1 + x7, hideP (S7.out.putRu hws _)⟩
   case rest =>
    obtain ⟨ru, SC⟩ := hcut
    clear S6
    go_wp2_with fail
    go_loopw [6, 7] (fun s6 _ wi => ∃ (at_ : Nat) (cs : List C3) (u : Value), s6 = .int .i64 (at_ : Int) /\ (at_ : Int) <= co /\ cs.length <= at_ /\ Hid (RSt w S wi ao len cap cs u ru)) (fun s6 _ _ => 5 - (intOf s6).toNat)
    case atStart => exact ⟨0, [], _, rfl, by omega, Nat.zero_le _, SC⟩
    case round =>
     obtain ⟨at_, cs, u, rfl, hat, hcl, SI⟩ := hrel
     clear SC
     obtain ⟨ua, uc, hue⟩ := ownG_shape SI.out.own.own
     dsimp only at hue
     subst hue
     obtain ⟨m, hm⟩ := exq (cs.length)
     have HM := hideP hm
     rw [<- hm] at SI hcl
     clear hm
     have hT1 : T < S.heap.size := (glt DI.out.tab)
     have tT := (SI.out.fram.2 T hT1 (by omega)).trans DI.out.tab
     have t0 := cell_of_row wr T 0 _ 52 _ tT
     have v1 := cell_of_row wr S.heap.size 1 _ 59 _ SI.out.var
     clear tT
     go_upto_region 9 with fail
     go_cut [45] (fun s45 wc => (∃ t : Bool, s45 = .bool t /\ (t = true -> (at_ : Int) < co)) /\ Hid (RSt w S wc ao len cap cs (.slice ua m uc) ru))
     case first =>
      by_cases hru : ru = 0
      ·by_cases hac : (at_ : Int) < co
       ·have d1 : decide (ru = 0) = true := by simp [hru]
        have d2 : (ru == 0) = true := by simp [hru]
        have d3 : decide ((at_ : Int) < co) = true := by simp [hac]
        go_wp2_with fail
        refine (once_any 6 ao len cap w _ HB.out SI.out.cur (by omega) (by omega)).mono ?_
        rintro e w8 ⟨t8, rfl, hc8, ho8⟩
        have S8 := hideP (SI.out.oth hws ho8 hc8)
        clear hc8 ho8 SI t0 v1
        go_wp2
        go_meet
        case rel => exact ⟨⟨_, rfl, fun _ => hac⟩, S8⟩
       ·have d1 : decide (ru = 0) = true := by simp [hru]
        have d2 : (ru == 0) = true := by simp [hru]
        have d3 : decide ((at_ : Int) < co) = false := by simp; omega
        go_wp2
        go_meet
        case rel => exact ⟨⟨_, rfl, fun h => by cases h⟩, SI⟩
      ·have d1 : decide (ru = 0) = false := by simp [hru]
       have d2 : (ru == 0) = false := by simp [hru]
       go_wp2
       go_meet
       case rel => exact ⟨⟨_, rfl, fun h => by cases h⟩, SI⟩
     case rest =>
      obtain ⟨⟨t, rfl, ht⟩, SD⟩ := hcut
      clear SI t0 v1
      cases t with
      | true =>
       have hac := ht rfl
       clear ht
       go_wp2_with fail
       refine (belowN_any 3 ao len cap w _ HB.out SD.out.cur (by omega) (by omega)).mono ?_
       rintro e w11 ⟨al, rfl, hal, hal', hc11, ho11⟩
       have S11 := hideP (SD.out.oth hws ho11 hc11)
       clear hc11 ho11 SD
       go_wp2_with fail
       refine (belowN_any 5 ao len cap w _ HB.out S11.out.cur (by omega) (by omega)).mono ?_
       rintro e w12 ⟨x12, rfl, hx12, hx12', hc12, ho12⟩
       have S12 := hideP (S11.out.oth hws ho12 hc12)
       obtain ⟨nL, hnL⟩ : ∃ nL : Nat, x12 = (nL : Int) := ⟨x12.toNat, by omega⟩
       subst hnL
       clear hc12 ho12 S11
       have HDL : Hid (Calls Tryz.prog 54 #[curP w, .int .i64 (nL : Int), .int .i64 1] w12 fun e w' => DL w w12 w' ao len cap e (nL * bnd 1)) := hideP (drawList_any ao len cap w HB.out 1 nL w12 (by omega) (by omega) S12.out.cur)
       go_wp2_with fail
       refine HDL.out.mono ?_
       rintro e w13 ⟨lv, ln, rfl, hol, hln, hc13, hf13⟩
       have hln20 : ln <= 20 := by
        have : bnd 1 = 5 := rfl
        rw [this] at hln
        omega
       have S13 := hideP (S12.out.go hws hf13 hc13)
       have HLT := hideP S12.out.lts
       obtain ⟨b12, hb12⟩ := exq (w12.heap.size)
       have hSb : S.heap.size <= b12 := by have := (glt S12.out.var); omega
       rw [<- hb12] at hol HLT
       obtain ⟨la, lc, hle⟩ := hol.shape
       subst hle
       have OL13 := hideP hol
       clear hc13 hf13 hln hol HDL S12 hb12 hx12 hx12'
       go_upto_region 11 with fail
       have S14 := hideP (S13.out.bel hws (below1 w13 (clO 1 al (.slice la ln lc))))
       have OL14 := hideP (OL13.out.bel (below1 w13 (clO 1 al (.slice la ln lc))))
       have K14 := hideP (heap_alloc_new w13 (clO 1 al (.slice la ln lc)))
       obtain ⟨K, hK⟩ := exq (w13.heap.size)
       have hKK : w13.heap.size <= K := by omega
       rw [<- hK] at K14
       rw [<- hK]
       generalize World.alloc _ _ = W14 at S14 OL14 K14 ⊢
       clear hK OL13
       go_wp2_with fail
       refine (once_any 4 ao len cap w _ HB.out S14.out.cur (by omega) (by omega)).mono ?_
       rintro e w15 ⟨t15, rfl, hc15, ho15⟩
       have S15 := hideP (S14.out.oth hws ho15 hc15)
       have hSl : S.heap.size < w13.heap.size := (glt S13.out.var)
       have hKw : K ≠ w.heap.size := by omega
       have OL15 : Hid (OwnN w15 b12 (.slice la ln lc) ln) := hideP (OL14.out.same fun g hg => ho15 g (by have := (OL14.out.kind hg).1; omega))
       have K15 := hideP ((ho15 K hKw).trans K14.out)
       clear hc15 ho15 S14 OL14 K14
       go_upto_if 54 with fail
       go_cut [] (fun wc => ∃ sp : Nat, 1 <= sp /\ (at_ : Int) + sp <= co /\ Hid (RSt w S wc ao len cap cs (.slice ua m uc) ru) /\ Hid (OwnN wc b12 (.slice la ln lc) ln) /\ Hid (wc.heap[K]? = some (clO (sp : Int) al (.slice la ln lc))))
       case first =>
        cases t15 with
        | false =>
         go_wp2
         go_meet
         case rel => exact ⟨1, Nat.le_refl _, by omega, S15, OL15, K15⟩
        | true =>
         have tT := (S15.out.fram.2 T hT1 (by omega)).trans DI.out.tab
         have t0 := cell_of_row w15 T 0 _ 52 _ tT
         clear tT
         go_wp2_with fail
         refine (belowN_any (co - (at_ : Int)) ao len cap w _ HB.out S15.out.cur (by omega) (by omega)).mono ?_
         rintro e w16 ⟨x16, rfl, hx16, hx16', hc16, ho16⟩
         have S16 := hideP (S15.out.oth hws ho16 hc16)
         have OL16 : Hid (OwnN w16 b12 (.slice la ln lc) ln) := hideP (OL15.out.same fun g hg => ho16 g (by have := (OL15.out.kind hg).1; omega))
         have k16 := (ho16 K hKw).trans K15.out
         have K16 := hideP k16
         have c0 := cell_of_row w16 K 0 _ 61 _ k16
         have fz : ∀ j, w16.frozen? ⟨K, j, none⟩ = false := fun j => frozen_of_row w16 _ j _ _ k16
         clear hc16 ho16 k16 S15 OL15 K15 t0
         go_wp2
         go_meet
         case rel => exact ⟨(1 + x16).toNat, by omega, by omega, hideP (S13.out.above S16.out hws hKK _ _), hideP (OL16.out.otherT K16.out (by decide) _ _), hideP (by rw [show (((1 + x16).toNat : Nat) : Int) = 1 + x16 by omega]; exact heap_setCell_same _ _ 0 _ 61 _ K16.out)⟩
       case rest =>
        obtain ⟨sp, hsp1, hsp2, SE, OE, KE⟩ := hcut
        clear S15 OL15 K15
        have k0 := cell_of_row wc K 0 _ 61 _ KE.out
        have k1 := cell_of_row wc K 1 _ 61 _ KE.out
        have k2 := cell_of_row wc K 2 _ 61 _ KE.out
        have v0 := cell_of_row wc S.heap.size 0 _ 59 _ SE.out.var
        have hwz : S.heap.size <= wc.heap.size := SE.out.fram.1
        have SL := hideP (SE.out.bel hws (below1 wc (clO (sp : Int) al (.slice la ln lc))))
        have OL := hideP (OE.out.bel (below1 wc (clO (sp : Int) al (.slice la ln lc))))
        have LT := hideP (heap_alloc_new wc (clO (sp : Int) al (.slice la ln lc)))
        have OC : Hid ((wc.alloc (clO (sp : Int) al (.slice la ln lc))).ownsRow S.heap.size 61 3 (.slice ua m uc) m (flatC cs)) := hideP (by have h := SL.out.own.own; dsimp only at h; rw [<- HM.out] at h; exact h)
        have hml : m + 1 <= 5 := by omega
        go_wp2_with (at_builtin; refine wpList_appC rfl _ _ rfl S.heap.size (.slice ua m uc) m cs rfl OC.out wc.heap.size (sp : Int) al la ln lc rfl LT.out (by omega) (by simp; omega) ?_; intro v9 w9 ho9 hg9 hat9; have HR9 := hideP (SL.out.app hws hg9 (by rw [<- HM.out]; exact ho9) OL.out hln20 (by rw [<- HM.out]; exact hml) hSb HLT.out); have hv9 : w9.heap[S.heap.size]? = some (rwO (.slice ua m uc) ru) := (grownBy_at hg9 (glt SL.out.var) (fun e => by obtain ⟨c, hc⟩ := own_cells_block OC.out e; rw [SL.out.var] at hc; simp at hc)).trans SL.out.var; have z0 := cell_of_row w9 S.heap.size 0 _ 59 _ hv9; have fz : ∀ j, w9.frozen? ⟨S.heap.size, j, none⟩ = false := fun j => frozen_of_row w9 _ j _ _ hv9; obtain ⟨a9, c9, h9⟩ := ownG_shape ho9; subst h9; clear ho9 hg9 hat9 hv9)
        go_roundw
        case rel => exact ⟨at_ + sp, _, _, by go_num, by push_cast; omega, by simp only [List.length_append, List.length_cons, List.length_nil]; have := HM.out; omega, HR9⟩
        case measure => simp [intOf]; omega
      | false =>
       clear ht
       have tT := (SD.out.fram.2 T hT1 (by omega)).trans DI.out.tab
       obtain ⟨ya, yc, hve⟩ := ownG_shape DI.out.own.own
       subst hve
       obtain ⟨q, hq⟩ := exq (rs.length)
       have HQ := hideP hq
       rw [<- hq] at DI tT hi
       clear hq
       have t6 := cell_of_row wc T 6 _ 52 _ tT
       have v0 := cell_of_row wc S.heap.size 0 _ 59 _ SD.out.var
       have v1 := cell_of_row wc S.heap.size 1 _ 59 _ SD.out.var
       have SL := hideP (SD.out.bel hws (below1 wc (rwO (.slice ua m uc) ru)))
       have DL9 := hideP (DI.out.go hwl hTs SL.out.fram SL.out.cur)
       have LT := hideP (heap_alloc_new wc (rwO (.slice ua m uc) ru))
       have OT : Hid ((wc.alloc (rwO (.slice ua m uc) ru)).ownsRow w0.heap.size 59 2 (.slice ya q yc) q (flatR rs)) := hideP (by have h := DL9.out.own.own; rw [<- HQ.out] at h; exact h)
       have hw0z : w0.heap.size <= wc.heap.size := by have := SD.out.fram.1; omega
       clear tT
       go_wp2_with (at_builtin; refine wpList_appR rfl _ _ rfl w0.heap.size (.slice ya q yc) q rs rfl OT.out wc.heap.size cs ru ua m uc rfl LT.out (by omega) (by simp; omega) ?_; intro v9 w9 ho9 hg9 hat9; have HR9 := hideP (DI.out.app SL.out hwl hTs hg9 (by rw [<- HQ.out]; exact ho9) (by rw [<- HQ.out]; omega)); have hv9 : w9.heap[T]? = some (tbO co gs gp 0 0 0 (.slice ya q yc)) := (grownBy_at hg9 (glt DL9.out.tab) (fun e => by obtain ⟨c, hc⟩ := own_cells_block OT.out e; rw [DL9.out.tab] at hc; simp at hc)).trans DL9.out.tab; have z0 := cell_of_row w9 T 6 _ 52 _ hv9; have fz : ∀ j, w9.frozen? ⟨T, j, none⟩ = false := fun j => frozen_of_row w9 _ j _ _ hv9; obtain ⟨a9, c9, h9⟩ := ownG_shape ho9; subst h9; clear ho9 hg9 hat9 hv9)
       go_roundw
       case rel => exact ⟨i - 1, _, _, by rw [show ((i - 1 : Nat) : Int) = (i : Int) - 1 by omega], by simp only [List.length_append, List.length_cons, List.length_nil]; have := HQ.out; omega, HR9⟩
       case measure => simp [intOf]; omega
  ·have hii : ¬ (0 : Int) < (i : Int) := by omega
   have DQ : Hid (DTQ w w0 wr ao len cap T co gs gp 0 0 0 v rs) := hideP ⟨DI.out.cur, DI.out.fram, DI.out.res, DI.out.tab, DI.out.own⟩
   clear DI
   go_wp2_with fail
   refine (once_any 14 ao len cap w _ HB.out DQ.out.cur (by omega) (by omega)).mono ?_
   rintro e w9 ⟨t9, rfl, c9, o9⟩
   have DR := hideP (DQ.out.oth hwl hTs o9 c9)
   clear c9 o9 DQ
   go_upto_if 80 with fail
   go_cut [] (fun wc => Hid (DTE w w0 wc ao len cap T))
   case first =>
    cases t9 with
    | false =>
     go_wp2
     go_meet
     case rel => exact hideP ⟨_, _, _, _, _, _, _, _, DR.out⟩
    | true =>
     go_wp2_with fail
     refine (spoilT_any ao len cap T w w0 _ HB.out hwl hTs DR.out).mono ?_
     rintro e w10 ⟨⟨rr, rfl⟩, hE⟩
     have HE := hideP hE
     clear hE DR
     go_wp2
     go_meet
     case rel => exact HE
   case rest =>
    clear DR
    obtain ⟨co', gs', gp', gpo', gm', gmo', v', rs', hD⟩ := hcut.out
    clear hcut
    obtain ⟨ya, yc, hve⟩ := ownG_shape hD.own.own
    subst hve
    obtain ⟨q', hq'⟩ : ∃ q', q' = rs'.length := ⟨_, rfl⟩
    rw [<- hq'] at hD
    have DF := hideP hD
    clear hD hq'
    have t0 := cell_of_row wc T 0 _ 52 _ DF.out.tab
    have t1 := cell_of_row wc T 1 _ 52 _ DF.out.tab
    have t2 := cell_of_row wc T 2 _ 52 _ DF.out.tab
    have t3 := cell_of_row wc T 3 _ 52 _ DF.out.tab
    have t4 := cell_of_row wc T 4 _ 52 _ DF.out.tab
    have t5 := cell_of_row wc T 5 _ 52 _ DF.out.tab
    have t6 := cell_of_row wc T 6 _ 52 _ DF.out.tab
    have z0 := cell_of_row wc w0.heap.size 0 _ 52 _ DF.out.res
    have z1 := cell_of_row wc w0.heap.size 1 _ 52 _ DF.out.res
    have z2 := cell_of_row wc w0.heap.size 2 _ 52 _ DF.out.res
    have z3 := cell_of_row wc w0.heap.size 3 _ 52 _ DF.out.res
    have z4 := cell_of_row wc w0.heap.size 4 _ 52 _ DF.out.res
    have z5 := cell_of_row wc w0.heap.size 5 _ 52 _ DF.out.res
    have z6 := cell_of_row wc w0.heap.size 6 _ 52 _ DF.out.res
    have fz : ∀ j, wc.frozen? ⟨w0.heap.size, j, none⟩ = false := fun j => frozen_of_row wc _ j _ _ DF.out.res
    have HG := hideP (sevT_all DF.out hwl)
    clear DF
    go_wp2
    exact bodyPost_ret (v := .agg #[.int .i64 co', .int .i64 gs', .int .i64 gp', .int .i64 gpo', .int .i64 gm', .int .i64 gmo', .slice ya q' yc]) (results_one_cell rfl _ _ w0.heap.size _ rfl (loadTb HG.out.1)) rfl ⟨_, _, _, _, _, _, _, _, rfl, HG.out.2⟩
end Go.Proofs.YtbbehmcekbnkiaaGreat
namespace Go.Proofs.YtbbehmcekbnkiaaGreat
open Go.RowKit
set_option linter.unusedVariables false
set_option linter.unusedSimpArgs false
set_option maxRecDepth 20000 in
set_option maxHeartbeats 8000000 in
theorem drawWidths_any (ao : Option Addr) (len cap : Nat) (w : World) (hB : Bytes w ao len cap) :
 Calls Tryz.prog 21 #[.slice ao len cap] w fun e w' => (∃ (x : Tb) (va : Option Addr) (vc : Nat), e = .returned (tbV x (.slice va x.rs.length vc)) /\ RRowN 0 w' (.slice va x.rs.length vc) x.rs /\ SmT x /\ x.rs.length <= 5) /\ Below w.heap.size w w' := by
 have HB := hideD (hB.kept (below1 w (tbO 0 0 0 0 0 0 (.slice none 0 0))))
 have BA := hideP (below1 w (tbO 0 0 0 0 0 0 (.slice none 0 0)))
 have R0 := hideP (heap_alloc_new w (tbO 0 0 0 0 0 0 (.slice none 0 0)))
 have hsz : (w.alloc (tbO 0 0 0 0 0 0 (.slice none 0 0))).heap.size = w.heap.size + 1 := by simp
 clear hB
 go_enter Tryz.func21, Tryz.ntmps21
 go_wp2_with fail
 generalize World.alloc _ _ = wa at HB BA R0 hsz ⊢
 refine (new_any ao len cap wa HB.out).mono ?_
 rintro e w1 ⟨rfl, c1⟩
 have C1 := hideP c1
 have hlt := c1.lt
 clear c1
 go_wp2_with fail
 refine (drawTable_any ao len cap wa w1 HB.out C1.out).mono ?_
 rintro e w2 ⟨co, gs, gp, gpo, gm, gmo, u, rs, rfl, ho, c2, f2⟩
 obtain ⟨i, h, _, _, _, hbel⟩ := c2
 have hres := (hbel.block w.heap.size (by omega)).trans R0.out
 have hoS := ho.other (w' := sevT w2 w.heap.size co gs gp gpo gm gmo u) hres (by decide) (by decide) (by decide) (fun g hg => by rw [Below.heap_setCell _ _ _ _ hg, Below.heap_setCell _ _ _ _ hg, Below.heap_setCell _ _ _ _ hg, Below.heap_setCell _ _ _ _ hg, Below.heap_setCell _ _ _ _ hg, Below.heap_setCell _ _ _ _ hg, Below.heap_setCell _ _ _ _ hg])
 have hb0 : Below w.heap.size w w2 := below_more BA.out hbel BA.out.size
 have hl := Nat.le_refl w.heap.size
 have hbS : Below w.heap.size w (sevT w2 w.heap.size co gs gp gpo gm gmo u) := ((((((hb0.setCell (p := ⟨w.heap.size, 0, none⟩) hl _).setCell (p := ⟨w.heap.size, 1, none⟩) hl _).setCell (p := ⟨w.heap.size, 2, none⟩) hl _).setCell (p := ⟨w.heap.size, 3, none⟩) hl _).setCell (p := ⟨w.heap.size, 4, none⟩) hl _).setCell (p := ⟨w.heap.size, 5, none⟩) hl _).setCell (p := ⟨w.heap.size, 6, none⟩) hl _
 have hLD : (sevT w2 w.heap.size co gs gp gpo gm gmo u).heap[w.heap.size]? = some (tbO co gs gp gpo gm gmo u) := heap_setCell_same _ _ 6 _ 52 _ (heap_setCell_same _ _ 5 _ 52 _ (heap_setCell_same _ _ 4 _ 52 _ (heap_setCell_same _ _ 3 _ 52 _ (heap_setCell_same _ _ 2 _ 52 _ (heap_setCell_same _ _ 1 _ 52 _ (heap_setCell_same _ _ 0 _ 52 _ hres))))))
 obtain ⟨xs, hl, hr, hsm⟩ := hoS.read
 obtain ⟨ya, yc, hu⟩ := hr.shape
 have hl5 : xs.length <= 5 := by rw [hl]; exact ho.len
 obtain ⟨q, hq⟩ := exq (xs.length)
 rw [<- hq] at hu
 subst hu
 have HX : Hid (RRowN 0 (sevT w2 w.heap.size co gs gp gpo gm gmo (.slice ya q yc)) (.slice ya xs.length yc) xs /\ SmT ⟨co, gs, gp, gpo, gm, gmo, xs⟩ /\ xs.length <= 5 /\ Below w.heap.size w (sevT w2 w.heap.size co gs gp gpo gm gmo (.slice ya q yc)) /\ (sevT w2 w.heap.size co gs gp gpo gm gmo (.slice ya q yc)).heap[w.heap.size]? = some (tbO co gs gp gpo gm gmo (.slice ya q yc))) := hideP ⟨by rw [<- hq]; exact hr, ⟨by simp only; omega, hsm⟩, hl5, hbS, hLD⟩
 have HQ := hideP hq
 have z0 := cell_of_row w2 w.heap.size 0 _ 52 _ hres
 have z1 := cell_of_row w2 w.heap.size 1 _ 52 _ hres
 have z2 := cell_of_row w2 w.heap.size 2 _ 52 _ hres
 have z3 := cell_of_row w2 w.heap.size 3 _ 52 _ hres
 have z4 := cell_of_row w2 w.heap.size 4 _ 52 _ hres
 have z5 := cell_of_row w2 w.heap.size 5 _ 52 _ hres
 have z6 := cell_of_row w2 w.heap.size 6 _ 52 _ hres
 have fz : ∀ j, w2.frozen? ⟨w.heap.size, j, none⟩ = false := fun j => frozen_of_row w2 _ j _ _ hres
 clear hq ho f2 hr hsm hbel hl C1 hoS hb0 hbS hLD hres hl5 R0 BA
 go_wp2
 exact bodyPost_ret (v := .agg #[.int .i64 co, .int .i64 gs, .int .i64 gp, .int .i64 gpo, .int .i64 gm, .int .i64 gmo, .slice ya q yc]) (results_one_cell rfl _ _ w.heap.size _ rfl (loadTb HX.out.2.2.2.2)) rfl ⟨⟨⟨co, gs, gp, gpo, gm, gmo, xs⟩, ya, yc, by rw [HQ.out], HX.out.1, HX.out.2.1, HX.out.2.2.1⟩, HX.out.2.2.2.1⟩
def cellB (c : Cl) (cols : Int) : Bool := decide (1 <= c.sp) && decide (c.sp <= cols) && decide (0 <= c.al) && decide (c.al <= 2) && hpOk c.ns 0 0
def cellsB (cs : List Cl) (cols : Int) : Nat -> Bool
 | 0 => true
 | k + 1 => cellsB cs cols k && cellB (cs.getD k Cl.none) cols
def spK (cs : List Cl) : Nat -> Int
 | 0 => 0
 | k + 1 => spK cs k + (cs.getD k Cl.none).sp
theorem spK_succ (cs : List Cl) (k : Nat) : spK cs (k + 1) = spK cs k + (cs.getD k Cl.none).sp := rfl
def rowB (r : Rw) (cols : Int) : Bool := if r.ru = 0 then cellsB r.cs cols r.cs.length && decide (spK r.cs r.cs.length <= cols) else decide (0 < r.ru) && decide (r.ru <= 1073741823) && decide (r.cs.length = 0)
def rowsB (rs : List Rw) (cols : Int) : Nat -> Bool
 | 0 => true
 | k + 1 => rowsB rs cols k && rowB (rs.getD k Rw.none) cols
def headB (t : Tb) : Bool := decide (1 <= t.co) && decide (t.co <= 20) && glB t.gs t.gp t.gpo t.gm t.gmo && decide (t.rs.length <= 200)
def tabB (t : Tb) : Bool := headB t && rowsB t.rs t.co t.rs.length
theorem cellsB_down {cs : List Cl} {cols : Int} : ∀ {n k : Nat}, k <= n -> cellsB cs cols k = false -> cellsB cs cols n = false
 | 0, k, h, h0 => by
  obtain rfl : k = 0 := by omega
  exact h0
 | n + 1, k, h, h0 => by
  by_cases hk : k = n + 1
  ·subst hk; exact h0
  ·unfold cellsB
   rw [cellsB_down (show k <= n by omega) h0]
   rfl
theorem rowsB_down {rs : List Rw} {cols : Int} : ∀ {n k : Nat}, k <= n -> rowsB rs cols k = false -> rowsB rs cols n = false
 | 0, k, h, h0 => by
  obtain rfl : k = 0 := by omega
  exact h0
 | n + 1, k, h, h0 => by
  by_cases hk : k = n + 1
  ·subst hk; exact h0
  ·unfold rowsB
   rw [rowsB_down (show k <= n by omega) h0]
   rfl
theorem cellsB_at {cs : List Cl} {cols : Int} : ∀ {n : Nat}, cellsB cs cols n = true -> ∀ k, k < n -> cellB (cs.getD k Cl.none) cols = true
 | 0, _, k, hk => by omega
 | n + 1, h, k, hk => by
  unfold cellsB at h
  rw [Bool.and_eq_true] at h
  by_cases e : k = n
  ·subst e; exact h.2
  ·exact cellsB_at h.1 k (by omega)
theorem rowsB_at {rs : List Rw} {cols : Int} : ∀ {n : Nat}, rowsB rs cols n = true -> ∀ k, k < n -> rowB (rs.getD k Rw.none) cols = true
 | 0, _, k, hk => by omega
 | n + 1, h, k, hk => by
  unfold rowsB at h
  rw [Bool.and_eq_true] at h
  by_cases e : k = n
  ·subst e; exact h.2
  ·exact rowsB_at h.1 k (by omega)
theorem cellB_sp {c : Cl} {cols : Int} (h : cellB c cols = true) : 1 <= c.sp /\ c.sp <= cols := by
 unfold cellB at h
 simp only [Bool.and_eq_true, decide_eq_true_eq] at h
 exact ⟨h.1.1.1.1, h.1.1.1.2⟩
theorem cellB_hp {c : Cl} {cols : Int} (h : cellB c cols = true) : hpOk c.ns 0 0 = true := by
 unfold cellB at h
 simp only [Bool.and_eq_true, decide_eq_true_eq] at h
 exact h.2
theorem spK_bound {cs : List Cl} {cols : Int} (hc : cols <= 20) : ∀ {n : Nat}, cellsB cs cols n = true -> (n : Int) <= spK cs n /\ spK cs n <= 20 * n
 | 0, _ => ⟨Int.le_refl _, Int.le_refl _⟩
 | n + 1, h => by
  unfold cellsB at h
  rw [Bool.and_eq_true] at h
  have h1 := spK_bound hc h.1
  have h2 := cellB_sp h.2
  rw [spK_succ]
  omega
theorem spK_mono {cs : List Cl} {cols : Int} : ∀ {n k : Nat}, k <= n -> cellsB cs cols n = true -> spK cs k <= spK cs n
 | 0, k, hk, _ => by
  obtain rfl : k = 0 := by omega
  exact Int.le_refl _
 | n + 1, k, hk, h => by
  by_cases e : k = n + 1
  ·subst e; exact Int.le_refl _
  ·unfold cellsB at h
   rw [Bool.and_eq_true] at h
   have h1 := spK_mono (show k <= n by omega) h.1
   have h2 := cellB_sp h.2
   rw [spK_succ]
   omega
theorem hpR_none {xs : List Nd} : ((hpR xs 0 0).length = 0) ↔ hpOk xs 0 0 = false := by
 unfold hpR
 cases h : hpOk xs 0 0 with
 | false => simp
 | true => simp [hpN_len]
def natW (xs : List Nd) : Int := hpTo xs 0 0
theorem hpR_head {xs : List Nd} (h : hpOk xs 0 0 = true) : ∃ t, hpR xs 0 0 = boxN 6 (natW xs) (hpS xs).h (hpS xs).d xs.length :: t := by
 unfold hpR
 rw [if_pos h]
 exact ⟨_, rfl⟩
theorem natW_fits {xs : List Nd} (h : hpOk xs 0 0 = true) : -1073741823 <= natW xs /\ natW xs <= 1073741823 := by
 unfold hpOk at h
 simp only [Bool.and_eq_true] at h
 have h1 := h.1.1.1.2.1
 unfold Shr.fitsB at h1
 simp only [Bool.and_eq_true, decide_eq_true_eq] at h1
 unfold natW
 omega
theorem implHN {v : Value} {xs : List Nd} {w : World} (mode size : Int) (hN : NRow 0 w v xs) (hNN : NN 0 w v xs) (hs : xs.length <= 1048576) :
 Calls Tryz.prog 10 #[v, .int .i64 mode, .int .i64 size] w fun e w' => ∃ u, e = .returned (packV u (hpT xs mode size)) /\ w'.ownsRow w.heap.size 36 15 u (hpR xs mode size).length (flatN (hpR xs mode size)) /\ Below w.heap.size w w' := by
 refine (implHPack_any mode size hN hNN hs).mono ?_
 rintro e w' ⟨hb, hp⟩
 cases hok : hpOk xs mode size with
 | false =>
  have e1 : hpR xs mode size = [] := by unfold hpR; rw [hok]; rfl
  have e2 : hpT xs mode size = ⟨0, 0, 0, 0, 0, 0⟩ := by unfold hpT; rw [hok]; rfl
  rw [hok] at hp
  rw [e1, e2]
  exact ⟨_, hp, World.ownsRow_nil _ _ _ _, hb⟩
 | true =>
  have e1 : hpR xs mode size = hpN xs mode size := by unfold hpR; rw [if_pos hok]
  have e2 : hpT xs mode size = Shr.shareS (hpS xs).gs (hpQ xs mode size) := by unfold hpT; rw [if_pos hok]
  rw [hok] at hp
  obtain ⟨u, he, ho⟩ := hp
  rw [e1, e2, hpN_len]
  exact ⟨u, he, ho, hb⟩
end Go.Proofs.YtbbehmcekbnkiaaGreat

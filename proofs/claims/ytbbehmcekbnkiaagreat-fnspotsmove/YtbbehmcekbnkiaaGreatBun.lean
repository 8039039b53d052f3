import Derived.Test.YtbbehmcekbnkiaaGreatSdp
import Derived.Test.YtbbehmcekbnkiaaGreatHls
import Derived.Test.YtbbehmcekbnkiaaGreatCln
namespace Go.Proofs.YtbbehmcekbnkiaaGreat
open Go.RowKit
set_option linter.unusedVariables false
set_option linter.unusedSimpArgs false
theorem okK_more (d:Nat) (len:Int):∀(xs:List Nd) (i:Int) (T:List Int),okK d len i T xs=true→okK (d+1) len i T xs=true
 | [],_,_,_=>rfl
 | x :: xs,i,T,h=>by
  simp only[okK,Bool.and_eq_true,Bool.or_eq_true,decide_eq_true_eq] at h ⊢
  obtain⟨⟨h1,h2⟩,h3⟩:=h
  refine⟨⟨h1,?_⟩,okK_more d len xs _ _ h3⟩
  rcases h2 with h2 | h2
  ·exact .inl h2
  ·exact .inr (by omega)
theorem can_list {xs:List Nd} (h:canB xs=true):listB xs=true:=by
 unfold canB at h
 simp only[Bool.and_eq_true,decide_eq_true_eq] at h
 obtain⟨⟨h1,h2⟩,h3⟩:=h
 unfold listB
 rw[okFrom_split,okK_more 39 _ _ _ _ h2,h3,decide_eq_true (by omega)]
 rfl
theorem can_in {xs:List Nd} (h:canB xs=true):∀i,i<xs.length→NdIn (xs.getD i Nd.none):=by
 unfold canB at h
 simp only[Bool.and_eq_true,decide_eq_true_eq] at h
 exact fun i hi=>good_in (all_getD.1 h.2 i hi)
def begins (xs:List Nd):List Nat:=starts xs (xs.length+1) 0
def hpS (xs:List Nd):RS:=rowTo xs (begins xs)
def hpTo (xs:List Nd) (mode size:Int):Int:=Shr.alongI (hpS xs).w (hpS xs).gs mode size
def hpQ (xs:List Nd) (mode size:Int):Int:=hpTo xs mode size - (hpS xs).w - Shr.siz (hpS xs).gs
def hpL (xs:List Nd) (mode size:Int):List Int:=Shr.shareL (hpS xs).gs (hpQ xs mode size)
def hpOk (xs:List Nd) (mode size:Int):Bool:=packB xs mode size && Shr.glsOk (hpS xs).gs && (Shr.fitsB (hpTo xs mode size) && Shr.fitsB (hpS xs).w) && fitsB (hpS xs).h && fitsB (hpS xs).d && (hpL xs mode size).all Shr.fitsB
def hpN (xs:List Nd) (mode size:Int):List Nd:=boxN 6 (hpTo xs mode size) (hpS xs).h (hpS xs).d xs.length :: setL (gluesAt xs (begins xs)) (hpL xs mode size) xs
abbrev packV (u:Value) (s:Shr.Sett):Value:= .agg #[u, .int .i64 s.sign, .int .i64 s.order, .int .i64 s.want, .int .i64 s.have_, .int .i64 s.bad, .int .i64 s.over]
abbrev packO (u:Value) (a b c d e f:Int):Obj:= .cells #[u, .int .i64 a, .int .i64 b, .int .i64 c, .int .i64 d, .int .i64 e, .int .i64 f] 30 (0,0)
theorem loadPack {w:World} {R:Nat} {u:Value} {a b c d e f:Int} (h:w.heap[R]? = some (packO u a b c d e f)):(loadVar 30 ⟨R,0,none⟩).run Tryz.prog w = .ok (packV u ⟨a,b,c,d,e,f⟩) w :=
 run_loadVar_row _ _ 30 30 _ (0,0) _ h Tryz.underlying30 rfl (by kernel_rfl)
theorem results_one_cell {fn:Func} {p:Tmp} {ty:TypeId} (h:fn.results = #[.cell p ty]) (tmps:Array Value) (w:World) (g:Nat) (x:Value) {P:Program}
 (hp:tmps.getD p undef = .pointer (some ⟨g,0,none⟩)) (hld:(loadVar ty ⟨g,0,none⟩).run P w = .ok x w) :
 (results fn tmps).run P w = .ok x w:=by
 have hp':tmps[p]?.getD undef = .pointer (some ⟨g,0,none⟩):=by simpa using hp
 simp[results,h,hp',asAddr,hld,Result.andThen]
theorem pack_cells {w:World} {R:Nat} {u:Value} {a b c d e f:Int} (h:w.heap[R]? = some (packO u a b c d e f)):w.cell? ⟨R,0,none⟩=some u∧w.cell? ⟨R,1,none⟩=some (.int .i64 a)∧w.cell? ⟨R,2,none⟩=some (.int .i64 b)∧w.cell? ⟨R,3,none⟩=some (.int .i64 c)∧w.cell? ⟨R,4,none⟩=some (.int .i64 d)∧w.cell? ⟨R,5,none⟩=some (.int .i64 e)∧w.cell? ⟨R,6,none⟩=some (.int .i64 f) :=
 ⟨cell_of_row w R 0 _ 30 _ h,cell_of_row w R 1 _ 30 _ h,cell_of_row w R 2 _ 30 _ h,cell_of_row w R 3 _ 30 _ h,cell_of_row w R 4 _ 30 _ h,cell_of_row w R 5 _ 30 _ h,cell_of_row w R 6 _ 30 _ h⟩
abbrev sev (w:World) (R:Nat) (u:Value) (a b c d e f:Int):World:=((((((w.setCell ⟨R,0,none⟩ u).setCell ⟨R,1,none⟩ (.int .i64 a)).setCell ⟨R,2,none⟩ (.int .i64 b)).setCell ⟨R,3,none⟩ (.int .i64 c)).setCell ⟨R,4,none⟩ (.int .i64 d)).setCell ⟨R,5,none⟩ (.int .i64 e)).setCell ⟨R,6,none⟩ (.int .i64 f)
set_option maxHeartbeats 4000000 in
theorem sev_heap {w:World} {R:Nat} {u0:Value} {a0 b0 c0 d0 e0 f0:Int} (h:w.heap[R]? = some (packO u0 a0 b0 c0 d0 e0 f0)) (u:Value) (a b c d e f:Int):(sev w R u a b c d e f).heap[R]? = some (packO u a b c d e f) :=
 heap_setCell_same _ R 6 _ 30 _ (heap_setCell_same _ R 5 _ 30 _ (heap_setCell_same _ R 4 _ 30 _ (heap_setCell_same _ R 3 _ 30 _ (heap_setCell_same _ R 2 _ 30 _ (heap_setCell_same _ R 1 _ 30 _ (heap_setCell_same _ R 0 _ 30 _ h))))))
theorem sev_below {B:Nat} {w W:World} {R:Nat} (h:Below B w W) (hR:B≤R) (u:Value) (a b c d e f:Int):Below B w (sev W R u a b c d e f) :=
 ((((((h.setCell (p:=⟨R,0,none⟩) hR _).setCell (p:=⟨R,1,none⟩) hR _).setCell (p:=⟨R,2,none⟩) hR _).setCell (p:=⟨R,3,none⟩) hR _).setCell (p:=⟨R,4,none⟩) hR _).setCell (p:=⟨R,5,none⟩) hR _).setCell (p:=⟨R,6,none⟩) hR _
structure PB (w W:World):Prop where
 box:W.heap[w.heap.size]? = some (packO (.slice none 0 0) 0 0 0 0 0 0)
 bel:Below w.heap.size w W
theorem PB.start (w:World):PB w (w.alloc (.cells #[.slice none 0 0, .int .i64 0, .int .i64 0, .int .i64 0, .int .i64 0, .int .i64 0, .int .i64 0] 30)):=⟨heap_alloc_new w _,below1 _ _⟩
theorem PB.below {w W W':World} (h:PB w W) (hb:Below W.heap.size W W'):PB w W' :=
 ⟨(hb.block _ (Array.getElem?_eq_some_iff.1 h.box).1).trans h.box,below_more h.bel hb h.bel.size⟩
set_option maxRecDepth 20000 in
set_option maxHeartbeats 8000000 in
theorem specHPack_no {v:Value} {xs:List Nd} {w:World} (mode size:Int) (h:NRow 0 w v xs) (hs:xs.length≤1048576) (hno:hpOk xs mode size=false) :
 Calls Tryz.prog 68 #[v, .int .i64 mode, .int .i64 size] w fun e w'=>e = .returned (packV (.slice none 0 0) ⟨0,0,0,0,0,0⟩)∧Below w.heap.size w w':=by
 have HC:Hid (∀W,Below w.heap.size w W→Calls Tryz.prog 86 #[v, .int .i64 mode, .int .i64 size] W fun e w'=>e = .returned (.bool (packB xs mode size))∧Below W.heap.size W w'):=hideP (fun W hW=>specCan_any mode size (h.below ndStable hW) hs)
 obtain⟨ok,hok⟩:∃ok,ok=packB xs mode size:=⟨_,rfl⟩
 rw[← hok] at HC
 have HOK:=hideP hok
 have HN:=hideP h
 have HNO:=hideP hno
 obtain⟨ao,n,cap,rfl,hl,-⟩:=h
 have HL:=hideP hl
 clear hok hl hno
 go_enter Tryz.func68,Tryz.ntmps68
 go_wp2_with fail
 refine (HC.out _ (below1 _ _)).mono ?_
 rintro e w1 ⟨rfl,hb1⟩
 have HP1:Hid (PB w w1):=hideP ((PB.start w).below hb1)
 clear hb1 HC
 cases ok with
 | false =>
  obtain⟨r0,r1,r2,r3,r4,r5,r6⟩:=pack_cells HP1.out.box
  have fR:∀j,w1.frozen? ⟨w.heap.size,j,none⟩=false:=fun j=>frozen_of_row w1 w.heap.size j _ _ HP1.out.box
  have HF:Hid ((sev w1 w.heap.size (.slice none 0 0) 0 0 0 0 0 0).heap[w.heap.size]? = some (packO (.slice none 0 0) 0 0 0 0 0 0)∧Below w.heap.size w (sev w1 w.heap.size (.slice none 0 0) 0 0 0 0 0 0)):=hideP ⟨sev_heap HP1.out.box _ _ _ _ _ _ _,sev_below HP1.out.bel (Nat.le_refl _) _ _ _ _ _ _ _⟩
  go_wp2
  exact bodyPost_ret (v:=packV (.slice none 0 0) ⟨0,0,0,0,0,0⟩) (results_one_cell rfl _ _ w.heap.size _ rfl (loadPack HF.out.1)) rfl ⟨rfl,HF.out.2⟩
 | true =>
  have hpk:packB xs mode size=true:=HOK.out.symm
  have hcan:canB xs=true:=by unfold packB at hpk;simp only[Bool.and_eq_true] at hpk;exact hpk.1.1
  have hfs:fitsB size=true:=by unfold packB at hpk;simp only[Bool.and_eq_true] at hpk;exact hpk.2
  have HFS:Hid (Shr.fitsB size=true):=hideP hfs
  have hin:RIn (hpS xs) (begins xs).length:=rowTo_in xs (can_in hcan) _ (fun p hp=>starts_lt xs _ _ p hp)
  have hcnt:(begins xs).length≤20000:=by
   have h1:=starts_count (xs:=xs) (xs.length+1) 0
   have h2:=(allOk (can_list hcan)).len
   unfold begins
   omega
  have HWB:Hid (-1152921504606846976≤(hpS xs).w∧(hpS xs).w≤1152921504606846976):=hideP ⟨by have:=hin.w1;omega,by have:=hin.w2;omega⟩
  have HGN:Hid ((hpS xs).gs.length≤1048576):=hideP (by have:=hin.n;omega)
  have HROW:Hid (∀W,Below w.heap.size w W→Calls Tryz.prog 87 #[.slice ao n cap] W fun e w'=>(∃u,e = .returned (.tuple #[.int .i64 (hpS xs).w,u, .int .i64 (hpS xs).h, .int .i64 (hpS xs).d])∧w'.ownsRow W.heap.size 34 5 u (hpS xs).gs.length (f5 (hpS xs).gs))∧Below W.heap.size W w'):=hideP (fun W hW=>specRow_any (HN.out.below ndStable hW) (allOk (can_list hcan)) (can_in hcan))
  have HALL:Hid (hpOk xs mode size=(Shr.glsOk (hpS xs).gs && (Shr.fitsB (hpTo xs mode size) && Shr.fitsB (hpS xs).w) && fitsB (hpS xs).h && fitsB (hpS xs).d && (hpL xs mode size).all Shr.fitsB)):=hideP (by unfold hpOk;rw[hpk];rfl)
  clear hpk hcan hfs hin hcnt
  go_wp2_with fail
  refine (HROW.out _ HP1.out.bel).mono ?_
  rintro e w2 ⟨⟨u,rfl,hown⟩,hb2⟩
  have HP2:Hid (PB w w2):=hideP (HP1.out.below hb2)
  have HGR:Hid (Shr.GRow w2 u (hpS xs).gs):=hideP (own_GRow hown rfl)
  clear hown hb2 HROW HP1
  cases hgl:Shr.glsOk (hpS xs).gs with
  | false =>
   have HGL:=hideP hgl
   clear hgl
   go_wp2_with fail
   refine (Shr.along_no _ mode size HGR.out HGN.out HGL.out).mono ?_
   rintro e w3 ⟨rfl,hb3⟩
   have HP3:Hid (PB w w3):=hideP (HP2.out.below hb3)
   clear hb3 HP2
   obtain⟨r0,r1,r2,r3,r4,r5,r6⟩:=pack_cells HP3.out.box
   have fR:∀j,w3.frozen? ⟨w.heap.size,j,none⟩=false:=fun j=>frozen_of_row w3 w.heap.size j _ _ HP3.out.box
   have HF:Hid ((sev w3 w.heap.size (.slice none 0 0) 0 0 0 0 0 0).heap[w.heap.size]? = some (packO (.slice none 0 0) 0 0 0 0 0 0)∧Below w.heap.size w (sev w3 w.heap.size (.slice none 0 0) 0 0 0 0 0 0)):=hideP ⟨sev_heap HP3.out.box _ _ _ _ _ _ _,sev_below HP3.out.bel (Nat.le_refl _) _ _ _ _ _ _ _⟩
   go_wp2
   exact bodyPost_ret (v:=packV (.slice none 0 0) ⟨0,0,0,0,0,0⟩) (results_one_cell rfl _ _ w.heap.size _ rfl (loadPack HF.out.1)) rfl ⟨rfl,HF.out.2⟩
  | true =>
   have HGL:=hideP hgl
   clear hgl
   go_wp2_with fail
   refine (Shr.along_ok _ mode size HGR.out HGL.out HWB.out HFS.out).mono ?_
   rintro e w3 ⟨rfl,hb3⟩
   have HP3:Hid (PB w w3):=hideP (HP2.out.below hb3)
   have HGR3:Hid (Shr.GRow w3 u (hpS xs).gs):=hideP (HGR.out.below hb3)
   clear hb3 HP2 HGR
   rw[show Shr.alongI (hpS xs).w (hpS xs).gs mode size=hpTo xs mode size from rfl]
   obtain⟨tt,htt⟩:∃tt,tt=hpTo xs mode size:=⟨_,rfl⟩
   rw[← htt]
   have HTT:=hideP htt
   clear htt
   obtain⟨fo,hfo⟩:∃fo,fo=(Shr.fitsB tt && Shr.fitsB (hpS xs).w):=⟨_,rfl⟩
   rw[← hfo]
   have HFO:=hideP hfo
   clear hfo
   cases fo with
   | false =>
    obtain⟨r0,r1,r2,r3,r4,r5,r6⟩:=pack_cells HP3.out.box
    have fR:∀j,w3.frozen? ⟨w.heap.size,j,none⟩=false:=fun j=>frozen_of_row w3 w.heap.size j _ _ HP3.out.box
    have HF:Hid ((sev w3 w.heap.size (.slice none 0 0) 0 0 0 0 0 0).heap[w.heap.size]? = some (packO (.slice none 0 0) 0 0 0 0 0 0)∧Below w.heap.size w (sev w3 w.heap.size (.slice none 0 0) 0 0 0 0 0 0)):=hideP ⟨sev_heap HP3.out.box _ _ _ _ _ _ _,sev_below HP3.out.bel (Nat.le_refl _) _ _ _ _ _ _ _⟩
    go_wp2
    exact bodyPost_ret (v:=packV (.slice none 0 0) ⟨0,0,0,0,0,0⟩) (results_one_cell rfl _ _ w.heap.size _ rfl (loadPack HF.out.1)) rfl ⟨rfl,HF.out.2⟩
   | true =>
    go_wp2_with fail
    refine (specFits_any (hpS xs).h _).mono ?_
    rintro e w4 ⟨rfl,rfl⟩
    obtain⟨fh,hfh⟩:∃fh,fh=fitsB (hpS xs).h:=⟨_,rfl⟩
    rw[← hfh]
    have HFH:=hideP hfh
    clear hfh
    cases fh with
    | false =>
     obtain⟨r0,r1,r2,r3,r4,r5,r6⟩:=pack_cells HP3.out.box
     have fR:∀j,w4.frozen? ⟨w.heap.size,j,none⟩=false:=fun j=>frozen_of_row w4 w.heap.size j _ _ HP3.out.box
     have HF:Hid ((sev w4 w.heap.size (.slice none 0 0) 0 0 0 0 0 0).heap[w.heap.size]? = some (packO (.slice none 0 0) 0 0 0 0 0 0)∧Below w.heap.size w (sev w4 w.heap.size (.slice none 0 0) 0 0 0 0 0 0)):=hideP ⟨sev_heap HP3.out.box _ _ _ _ _ _ _,sev_below HP3.out.bel (Nat.le_refl _) _ _ _ _ _ _ _⟩
     go_wp2
     exact bodyPost_ret (v:=packV (.slice none 0 0) ⟨0,0,0,0,0,0⟩) (results_one_cell rfl _ _ w.heap.size _ rfl (loadPack HF.out.1)) rfl ⟨rfl,HF.out.2⟩
    | true =>
     go_wp2_with fail
     refine (specFits_any (hpS xs).d _).mono ?_
     rintro e w5 ⟨rfl,rfl⟩
     obtain⟨fd,hfd⟩:∃fd,fd=fitsB (hpS xs).d:=⟨_,rfl⟩
     rw[← hfd]
     have HFD:=hideP hfd
     clear hfd
     cases fd with
     | false =>
      obtain⟨r0,r1,r2,r3,r4,r5,r6⟩:=pack_cells HP3.out.box
      have fR:∀j,w5.frozen? ⟨w.heap.size,j,none⟩=false:=fun j=>frozen_of_row w5 w.heap.size j _ _ HP3.out.box
      have HF:Hid ((sev w5 w.heap.size (.slice none 0 0) 0 0 0 0 0 0).heap[w.heap.size]? = some (packO (.slice none 0 0) 0 0 0 0 0 0)∧Below w.heap.size w (sev w5 w.heap.size (.slice none 0 0) 0 0 0 0 0 0)):=hideP ⟨sev_heap HP3.out.box _ _ _ _ _ _ _,sev_below HP3.out.bel (Nat.le_refl _) _ _ _ _ _ _ _⟩
      go_wp2
      exact bodyPost_ret (v:=packV (.slice none 0 0) ⟨0,0,0,0,0,0⟩) (results_one_cell rfl _ _ w.heap.size _ rfl (loadPack HF.out.1)) rfl ⟨rfl,HF.out.2⟩
     | true =>
      have HFW:Hid (Shr.fitsB tt=true∧Shr.fitsB (hpS xs).w=true):=hideP (by have h:=HFO.out.symm;simpa only[Bool.and_eq_true] using h)
      go_wp2_with fail
      refine (Shr.specShare_ok (hpS xs).w tt (hpQ xs mode size) HGR3.out HGL.out HFW.out.2 HFW.out.1 (by unfold hpQ;rw[← HTT.out])).mono ?_
      rintro e w6 ⟨⟨vl,rfl,hrow⟩,hb6⟩
      have HP6:Hid (PB w w6):=hideP (HP3.out.below hb6)
      have HRL:Hid (Shr.Row w6 vl (hpL xs mode size)):=hideP hrow
      have HLN:Hid ((hpL xs mode size).length≤1048576):=hideP (by unfold hpL;rw[Shr.shareL_length];exact HGN.out)
      clear hb6 hrow HP3
      go_wp2_with fail
      refine (Shr.fitsAll_any (HRL.out.below (below1 _ _)) HLN.out).mono ?_
      rintro e w7 ⟨rfl,hw7⟩
      have HP7:Hid (PB w w7):=hideP (by rw[hw7];exact HP6.out.below (below1 _ _))
      clear hw7 HP6
      obtain⟨fl,hfl⟩:∃fl,fl=(hpL xs mode size).all Shr.fitsB:=⟨_,rfl⟩
      rw[← hfl]
      have HFL:=hideP hfl
      clear hfl
      cases fl with
      | false =>
       obtain⟨r0,r1,r2,r3,r4,r5,r6⟩:=pack_cells HP7.out.box
       have fR:∀j,w7.frozen? ⟨w.heap.size,j,none⟩=false:=fun j=>frozen_of_row w7 w.heap.size j _ _ HP7.out.box
       have HF:Hid ((sev w7 w.heap.size (.slice none 0 0) 0 0 0 0 0 0).heap[w.heap.size]? = some (packO (.slice none 0 0) 0 0 0 0 0 0)∧Below w.heap.size w (sev w7 w.heap.size (.slice none 0 0) 0 0 0 0 0 0)):=hideP ⟨sev_heap HP7.out.box _ _ _ _ _ _ _,sev_below HP7.out.bel (Nat.le_refl _) _ _ _ _ _ _ _⟩
       go_wp2
       exact bodyPost_ret (v:=packV (.slice none 0 0) ⟨0,0,0,0,0,0⟩) (results_one_cell rfl _ _ w.heap.size _ rfl (loadPack HF.out.1)) rfl ⟨rfl,HF.out.2⟩
      | true =>
       exfalso
       have h1:=HNO.out
       rw[HALL.out,HGL.out,← HTT.out,← HFO.out,← HFH.out,← HFD.out,← HFL.out] at h1
       exact absurd h1 (by decide)
theorem thV_0 (x:Nd) (hk:¬(1≤x.k∧x.k≤11)):thV x = .nilIface:=by
 unfold thV
 rw[if_neg (by omega),if_neg (by omega),if_neg (by omega),if_neg (by omega),if_neg (by omega),if_neg (by omega),if_neg (by omega),if_neg (by omega),if_neg (by omega),if_neg (by omega),if_neg (by omega)]
theorem ask_space (x:Nd):∃c0 c1 c2 c3 c4 c5:Int,(∀W:World,(Instr.typeAssert (thV x) 85 87 true).run Tryz.prog W = .ok (.tuple #[.agg #[.int .i64 c0, .int .i64 c1, .int .i64 c2, .int .i64 c3, .int .i64 c4, .int .i64 c5], .bool (x.k == 3)]) W)∧(x.k=3→c0=x.gs∧c1=x.gp∧c2=x.gpo∧c3=x.gm∧c4=x.gmo∧c5=x.wd):=by
 obtain⟨k,wd,ht,dp,sh,fo,ch,nn,gs,gp,gpo,gm,gmo,tx,kids⟩:=x
 by_cases hk:1≤k∧k≤11
 ·rcases kinds hk.1 hk.2 with rfl | rfl | rfl | rfl | rfl | rfl | rfl | rfl | rfl | rfl | rfl
  ·exact⟨0,0,0,0,0,0,fun _=>by kernel_rfl,fun h=>absurd h (by simp)⟩
  ·exact⟨0,0,0,0,0,0,fun _=>by kernel_rfl,fun h=>absurd h (by simp)⟩
  ·exact⟨gs,gp,gpo,gm,gmo,wd,fun _=>by kernel_rfl,fun _=>⟨rfl,rfl,rfl,rfl,rfl,rfl⟩⟩
  ·exact⟨0,0,0,0,0,0,fun _=>by kernel_rfl,fun h=>absurd h (by simp)⟩
  ·exact⟨0,0,0,0,0,0,fun _=>by kernel_rfl,fun h=>absurd h (by simp)⟩
  ·exact⟨0,0,0,0,0,0,fun _=>by kernel_rfl,fun h=>absurd h (by simp)⟩
  ·exact⟨0,0,0,0,0,0,fun _=>by kernel_rfl,fun h=>absurd h (by simp)⟩
  ·exact⟨0,0,0,0,0,0,fun _=>by kernel_rfl,fun h=>absurd h (by simp)⟩
  ·exact⟨0,0,0,0,0,0,fun _=>by kernel_rfl,fun h=>absurd h (by simp)⟩
  ·exact⟨0,0,0,0,0,0,fun _=>by kernel_rfl,fun h=>absurd h (by simp)⟩
  ·exact⟨0,0,0,0,0,0,fun _=>by kernel_rfl,fun h=>absurd h (by simp)⟩
 ·exact⟨0,0,0,0,0,0,fun _=>by rw[thV_0 _ hk,show (k == 3)=false by simp;omega];kernel_rfl,fun h=>absurd (show k=3 from h) (by omega)⟩
theorem ask_kern (x:Nd):∃c0:Int,(∀W:World,(Instr.typeAssert (thV x) 85 137 true).run Tryz.prog W = .ok (.tuple #[.agg #[.int .i64 c0], .bool (x.k == 2)]) W)∧(x.k=2→c0=x.wd):=by
 obtain⟨k,wd,ht,dp,sh,fo,ch,nn,gs,gp,gpo,gm,gmo,tx,kids⟩:=x
 by_cases hk:1≤k∧k≤11
 ·rcases kinds hk.1 hk.2 with rfl | rfl | rfl | rfl | rfl | rfl | rfl | rfl | rfl | rfl | rfl
  ·exact⟨0,fun _=>by kernel_rfl,fun h=>absurd h (by simp)⟩
  ·exact⟨wd,fun _=>by kernel_rfl,fun _=>rfl⟩
  ·exact⟨0,fun _=>by kernel_rfl,fun h=>absurd h (by simp)⟩
  ·exact⟨0,fun _=>by kernel_rfl,fun h=>absurd h (by simp)⟩
  ·exact⟨0,fun _=>by kernel_rfl,fun h=>absurd h (by simp)⟩
  ·exact⟨0,fun _=>by kernel_rfl,fun h=>absurd h (by simp)⟩
  ·exact⟨0,fun _=>by kernel_rfl,fun h=>absurd h (by simp)⟩
  ·exact⟨0,fun _=>by kernel_rfl,fun h=>absurd h (by simp)⟩
  ·exact⟨0,fun _=>by kernel_rfl,fun h=>absurd h (by simp)⟩
  ·exact⟨0,fun _=>by kernel_rfl,fun h=>absurd h (by simp)⟩
  ·exact⟨0,fun _=>by kernel_rfl,fun h=>absurd h (by simp)⟩
 ·exact⟨0,fun _=>by rw[thV_0 _ hk,show (k == 2)=false by simp;omega];kernel_rfl,fun h=>absurd (show k=2 from h) (by omega)⟩
theorem thV_shape (x:Nd):thV x = .nilIface∨∃X p,thV x = .iface X p:=by
 obtain⟨k,wd,ht,dp,sh,fo,ch,nn,gs,gp,gpo,gm,gmo,tx,kids⟩:=x
 by_cases hk:1≤k∧k≤11
 ·rcases kinds hk.1 hk.2 with rfl | rfl | rfl | rfl | rfl | rfl | rfl | rfl | rfl | rfl | rfl
  ·exact .inr ⟨_,_,rfl⟩
  ·exact .inr ⟨_,_,rfl⟩
  ·exact .inr ⟨_,_,rfl⟩
  ·exact .inr ⟨_,_,rfl⟩
  ·exact .inr ⟨_,_,rfl⟩
  ·exact .inr ⟨_,_,rfl⟩
  ·exact .inr ⟨_,_,rfl⟩
  ·exact .inr ⟨_,_,rfl⟩
  ·exact .inr ⟨_,_,rfl⟩
  ·exact .inr ⟨_,_,rfl⟩
  ·exact .inr ⟨_,_,rfl⟩
 ·exact .inl (thV_0 _ hk)
abbrev bunO (k wd h d len:Int) (g p:Value):Obj:= .cells #[.int .i64 k, .int .i64 wd, .int .i64 h, .int .i64 d, .int .i64 0, .int .i64 0, .int .i64 len,g,p] 130 (0,0)
structure Bun (W:World) (R:Nat) (k wd h d len:Int) (g p:Value):Prop where
 box:W.heap[R]? = some (bunO k wd h d len g p)
theorem Bun.cells {W:World} {R:Nat} {k wd h d len:Int} {g p:Value} (B:Bun W R k wd h d len g p):W.cell? ⟨R,0,none⟩=some (.int .i64 k)∧W.cell? ⟨R,1,none⟩=some (.int .i64 wd)∧W.cell? ⟨R,2,none⟩=some (.int .i64 h)∧W.cell? ⟨R,3,none⟩=some (.int .i64 d)∧W.cell? ⟨R,4,none⟩=some (.int .i64 0)∧W.cell? ⟨R,5,none⟩=some (.int .i64 0)∧W.cell? ⟨R,6,none⟩=some (.int .i64 len)∧W.cell? ⟨R,7,none⟩=some g∧W.cell? ⟨R,8,none⟩=some p :=
 ⟨cell_of_row W R 0 _ 130 _ B.box,cell_of_row W R 1 _ 130 _ B.box,cell_of_row W R 2 _ 130 _ B.box,cell_of_row W R 3 _ 130 _ B.box,cell_of_row W R 4 _ 130 _ B.box,cell_of_row W R 5 _ 130 _ B.box,cell_of_row W R 6 _ 130 _ B.box,cell_of_row W R 7 _ 130 _ B.box,cell_of_row W R 8 _ 130 _ B.box⟩
theorem Bun.free {W:World} {R:Nat} {k wd h d len:Int} {g p:Value} (B:Bun W R k wd h d len g p):∀j,W.frozen? ⟨R,j,none⟩=false:=fun j=>frozen_of_row W R j _ _ B.box
theorem Bun.lt {W:World} {R:Nat} {k wd h d len:Int} {g p:Value} (B:Bun W R k wd h d len g p):R<W.heap.size:=(Array.getElem?_eq_some_iff.1 B.box).1
theorem Bun.same {W W':World} {R:Nat} {k wd h d len:Int} {g p:Value} (B:Bun W R k wd h d len g p) (hq:W'.heap[R]? = W.heap[R]?):Bun W' R k wd h d len g p:=⟨hq.trans B.box⟩
theorem Bun.below {W W':World} {R:Nat} {k wd h d len:Int} {g p:Value} (B:Bun W R k wd h d len g p) (hb:Below W.heap.size W W'):Bun W' R k wd h d len g p:=B.same (hb.block _ B.lt)
theorem Bun.drew {W:World} {R:Nat} {k wd h d len:Int} {g p:Value} (B:Bun W R k wd h d len g p):Bun W.drew R k wd h d len g p:=⟨B.box⟩
theorem Bun.alloc {W:World} {R:Nat} {k wd h d len:Int} {g p:Value} (B:Bun W R k wd h d len g p) (o:Obj):Bun (W.alloc o) R k wd h d len g p:=B.below (below1 _ _)
theorem Bun.setH {W:World} {R:Nat} {k wd h d len:Int} {g p:Value} (B:Bun W R k wd h d len g p) (x:Int):Bun (W.setCell ⟨R,2,none⟩ (.int .i64 x)) R k wd x d len g p:=⟨heap_setCell_same _ R 2 _ 130 _ B.box⟩
theorem Bun.setD {W:World} {R:Nat} {k wd h d len:Int} {g p:Value} (B:Bun W R k wd h d len g p) (x:Int):Bun (W.setCell ⟨R,3,none⟩ (.int .i64 x)) R k wd h x len g p:=⟨heap_setCell_same _ R 3 _ 130 _ B.box⟩
theorem Bun.setL {W:World} {R:Nat} {k wd h d len:Int} {g p:Value} (B:Bun W R k wd h d len g p) (x:Int):Bun (W.setCell ⟨R,6,none⟩ (.int .i64 x)) R k wd h d x g p:=⟨heap_setCell_same _ R 6 _ 130 _ B.box⟩
theorem Bun.setG {W:World} {R:Nat} {k wd h d len:Int} {g p:Value} (B:Bun W R k wd h d len g p) (x:Value):Bun (W.setCell ⟨R,7,none⟩ x) R k wd h d len x p:=⟨heap_setCell_same _ R 7 _ 130 _ B.box⟩
theorem Bun.setP {W:World} {R:Nat} {k wd h d len:Int} {g p:Value} (B:Bun W R k wd h d len g p) (x:Value):Bun (W.setCell ⟨R,8,none⟩ x) R k wd h d len g x:=⟨heap_setCell_same _ R 8 _ 130 _ B.box⟩
theorem frDrew {L:Nat} {w a:World} (h:Shr.Fr L w a):Shr.Fr L w a.drew:=h
theorem mx_max (a b:Int):Shr.mxI a b=max a b:=by
 unfold Shr.mxI
 split <;> omega
set_option maxRecDepth 20000 in
set_option maxHeartbeats 4000000 in
theorem beside_any {w:World} {R:Nat} {k wd h d len:Int} {g p:Value} (a b c s:Int) (B:Bun w R k wd h d len g p)
 (hl : -1152921504606846976≤len∧len≤1152921504606846976) (ha : -1073741823≤a∧a≤1073741823) (hb : -1073741823≤b∧b≤1073741823) (hc : -1073741823≤c∧c≤1073741823) (hs : -1073741823≤s∧s≤1073741823) :
 Calls Tryz.prog 56 #[.pointer (some ⟨R,0,none⟩), .agg #[.int .i64 a, .int .i64 b, .int .i64 c], .int .i64 s] w fun e w'=>(∃v,e = .returned v)∧Bun w' R k wd (Shr.mxI h (b - s)) (Shr.mxI d (c+s)) (len+a) g p∧Shr.Fr R w w':=by
 obtain⟨b0,b1,b2,b3,b4,b5,b6,b7,b8⟩:=B.cells
 have fz:=B.free
 have hR:=B.lt
 have HB:=hideP B
 have w1:IntKind.i64.wrap (len+a)=len+a:=by rw[IntKind.wrap_i64];omega
 have w2:IntKind.i64.wrap (b - s)=b - s:=by rw[IntKind.wrap_i64];omega
 have w3:IntKind.i64.wrap (c+s)=c+s:=by rw[IntKind.wrap_i64];omega
 clear hl ha hb hc hs B
 go_enter Tryz.func56,Tryz.ntmps56
 go_wp2
 go_region
 go_wp2
 go_region
 go_wp2
 go_region
 go_wp2
 go_end0
 rw[mx_max,mx_max]
 refine⟨⟨_,rfl⟩,?_,?_⟩
 ·exact (((((HB.out.setL _).setH _).setD _).alloc _).drew).drew.drew
 ·exact frDrew (frDrew (frDrew (Shr.Fr.alloc (Shr.Fr.set (Shr.Fr.set (Shr.Fr.set (Shr.Fr.refl R w) (.inl rfl) _) (.inl rfl) _) (.inl rfl) _) _)))
end Go.Proofs.YtbbehmcekbnkiaaGreat

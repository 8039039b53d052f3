import Derived.Test.YtbbehmcekbnkiaaGreatHlst
namespace Go.Proofs.YtbbehmcekbnkiaaGreat
set_option maxHeartbeats 8000000
open Go.RowKit
set_option linter.unusedVariables false
set_option linter.unusedSimpArgs false
theorem okK_more (d:Nat)(len:Int):∀(xs:List Nd) (i:Int) (T:List Int),okK d len i T xs=true->okK (d+1) len i T xs=true
 | [],_,_,_=>rfl
 | x :: xs,i,T,h=>by
  simp only[okK,Bool.and_eq_true,Bool.or_eq_true,decide_eq_true_eq] at h ⊢
  obtain⟨⟨h1,h2⟩,h3⟩:=h
  refine⟨⟨h1,?_⟩,okK_more d len xs _ _ h3⟩
  rcases h2 with h2|h2
  ·exact .inl h2
  ·exact .inr (by omega)
theorem can_list {xs:List Nd}(h:canB xs=true):listB xs=true:=by
 unfold canB at h
 simp only[Bool.and_eq_true,decide_eq_true_eq] at h
 obtain⟨⟨h1,h2⟩,h3⟩:=h
 unfold listB
 rw[okFrom_split,okK_more 39 _ _ _ _ h2,h3,decide_eq_true (by omega)]
 rfl
theorem can_in {xs:List Nd}(h:canB xs=true):∀i,i<xs.length->NdIn (xs.getD i Nd.none):=by
 unfold canB at h
 simp only[Bool.and_eq_true,decide_eq_true_eq] at h
 exact fun i hi=>good_in (all_getD.1 h.2 i hi)
def begins (xs:List Nd):List Nat:=starts xs (xs.length+1) 0
def hpS (xs:List Nd):RS:=rowTo xs (begins xs)
def hpTo (xs:List Nd)(mode size:Int):Int:=Shr.alongI (hpS xs).w (hpS xs).gs mode size
def hpQ (xs:List Nd)(mode size:Int):Int:=hpTo xs mode size-(hpS xs).w-Shr.siz (hpS xs).gs
def hpL (xs:List Nd)(mode size:Int):List Int:=Shr.shareL (hpS xs).gs (hpQ xs mode size)
def hpOk (xs:List Nd)(mode size:Int):Bool:=packB xs mode size&&Shr.glsOk (hpS xs).gs&&(Shr.fitsB (hpTo xs mode size)&&Shr.fitsB (hpS xs).w)&&fitsB (hpS xs).h&&fitsB (hpS xs).d&&(hpL xs mode size).all Shr.fitsB
def hpN (xs:List Nd)(mode size:Int):List Nd:=boxN 6 (hpTo xs mode size) (hpS xs).h (hpS xs).d xs.length :: setL (gluesAt xs (begins xs)) (hpL xs mode size) xs
abbrev packV (u:Value)(s:Shr.Sett):Value:= .agg #[u,.int .i64 s.sign,.int .i64 s.order,.int .i64 s.want,.int .i64 s.have_,.int .i64 s.bad,.int .i64 s.over]
abbrev packO (u:Value)(a b c d e f:Int):Obj:= .cells #[u,.int .i64 a,.int .i64 b,.int .i64 c,.int .i64 d,.int .i64 e,.int .i64 f] 30 (0,0)
theorem loadPack {w:World}{R:Nat}{u:Value}{a b c d e f:Int}(h:w.heap[R]?=some (packO u a b c d e f)):(loadVar 30 ⟨R,0,none⟩).run Tryz.prog w = .ok (packV u ⟨a,b,c,d,e,f⟩) w :=
 run_loadVar_row _ _ 30 30 _ (0,0) _ h Tryz.underlying30 rfl (by kernel_rfl)
theorem results_one_cell {fn:Func}{p:Tmp}{ty:TypeId}(h:fn.results = #[.cell p ty])(tmps:Array Value)(w:World)(g:Nat)(x:Value){P:Program}
 (hp:tmps.getD p undef = .pointer (some ⟨g,0,none⟩)) (hld:(loadVar ty ⟨g,0,none⟩).run P w = .ok x w) :
 (results fn tmps).run P w = .ok x w:=by
 have hp':tmps[p]?.getD undef = .pointer (some ⟨g,0,none⟩):=by simpa using hp
 simp[results,h,hp',asAddr,hld,Result.andThen]
theorem pack_cells {w:World}{R:Nat}{u:Value}{a b c d e f:Int}(h:w.heap[R]?=some (packO u a b c d e f)):w.cell? ⟨R,0,none⟩=some u/\w.cell? ⟨R,1,none⟩=some (.int .i64 a)/\w.cell? ⟨R,2,none⟩=some (.int .i64 b)/\w.cell? ⟨R,3,none⟩=some (.int .i64 c)/\w.cell? ⟨R,4,none⟩=some (.int .i64 d)/\w.cell? ⟨R,5,none⟩=some (.int .i64 e)/\w.cell? ⟨R,6,none⟩=some (.int .i64 f) :=
 ⟨cell_of_row w R 0 _ 30 _ h,cell_of_row w R 1 _ 30 _ h,cell_of_row w R 2 _ 30 _ h,cell_of_row w R 3 _ 30 _ h,cell_of_row w R 4 _ 30 _ h,cell_of_row w R 5 _ 30 _ h,cell_of_row w R 6 _ 30 _ h⟩
abbrev sev (w:World)(R:Nat)(u:Value)(a b c d e f:Int):World:=((((((w.setCell ⟨R,0,none⟩ u).setCell ⟨R,1,none⟩ (.int .i64 a)).setCell ⟨R,2,none⟩ (.int .i64 b)).setCell ⟨R,3,none⟩ (.int .i64 c)).setCell ⟨R,4,none⟩ (.int .i64 d)).setCell ⟨R,5,none⟩ (.int .i64 e)).setCell ⟨R,6,none⟩ (.int .i64 f)
theorem sev_heap {w:World}{R:Nat}{u0:Value}{a0 b0 c0 d0 e0 f0:Int}(h:w.heap[R]?=some (packO u0 a0 b0 c0 d0 e0 f0))(u:Value)(a b c d e f:Int):(sev w R u a b c d e f).heap[R]?=some (packO u a b c d e f) :=
 heap_setCell_same _ R 6 _ 30 _ (heap_setCell_same _ R 5 _ 30 _ (heap_setCell_same _ R 4 _ 30 _ (heap_setCell_same _ R 3 _ 30 _ (heap_setCell_same _ R 2 _ 30 _ (heap_setCell_same _ R 1 _ 30 _ (heap_setCell_same _ R 0 _ 30 _ h))))))
theorem sev_below {B:Nat}{w W:World}{R:Nat}(h:Below B w W)(hR:B<=R)(u:Value)(a b c d e f:Int):Below B w (sev W R u a b c d e f) :=
 ((((((h.setCell (p:=⟨R,0,none⟩) hR _).setCell (p:=⟨R,1,none⟩) hR _).setCell (p:=⟨R,2,none⟩) hR _).setCell (p:=⟨R,3,none⟩) hR _).setCell (p:=⟨R,4,none⟩) hR _).setCell (p:=⟨R,5,none⟩) hR _).setCell (p:=⟨R,6,none⟩) hR _
structure PB (w W:World):Prop where
 box:W.heap[w.heap.size]?=some (packO (.slice none 0 0) 0 0 0 0 0 0)
 bel:Below w.heap.size w W
theorem PB.start (w:World):PB w (w.alloc (.cells #[.slice none 0 0,.int .i64 0,.int .i64 0,.int .i64 0,.int .i64 0,.int .i64 0,.int .i64 0] 30)):=⟨heap_alloc_new w _,below1 _ _⟩
theorem PB.below {w W W':World}(h:PB w W)(hb:Below W.heap.size W W'):PB w W' :=
 ⟨(hb.block _ (glt h.box)).trans h.box,below_more h.bel hb h.bel.size⟩
set_option maxRecDepth 20000 in
theorem specHPack_no {v:Value}{xs:List Nd}{w:World}(mode size:Int)(h:NRow 0 w v xs)(hs:xs.length<=1048576)(hno:hpOk xs mode size=false) :
 Calls Tryz.prog 68 #[v,.int .i64 mode,.int .i64 size] w fun e w'=>e = .returned (packV (.slice none 0 0) ⟨0,0,0,0,0,0⟩)/\Below w.heap.size w w':=by
 have HC:Hid (∀W,Below w.heap.size w W->Calls Tryz.prog 86 #[v,.int .i64 mode,.int .i64 size] W fun e w'=>e = .returned (.bool (packB xs mode size))/\Below W.heap.size W w'):=hideP (fun W hW=>specCan_any mode size (h.below ndStable hW) hs)
 obtain⟨ok,hok⟩:=exq (packB xs mode size)
 rw[<-hok] at HC
 have HOK:=hideP hok
 have HN:=hideP h
 have HNO:=hideP hno
 obtain⟨ao,n,cap,rfl,hl,-⟩:=h
 have HL:=hideP hl
 clear hok hl hno
 go_enter Tryz.func68,Tryz.ntmps68
 go_wp2_with fail
 refine(HC.out _ (below1 _ _)).mono ?_
 rintro e w1 ⟨rfl,hb1⟩
 have HP1:Hid (PB w w1):=hideP ((PB.start w).below hb1)
 clear hb1 HC
 cases ok with
 | false =>
  obtain⟨r0,r1,r2,r3,r4,r5,r6⟩:=pack_cells HP1.out.box
  have fR:∀j,w1.frozen? ⟨w.heap.size,j,none⟩=false:=fun j=>frozen_of_row w1 w.heap.size j _ _ HP1.out.box
  have HF:Hid ((sev w1 w.heap.size (.slice none 0 0) 0 0 0 0 0 0).heap[w.heap.size]?=some (packO (.slice none 0 0) 0 0 0 0 0 0)/\Below w.heap.size w (sev w1 w.heap.size (.slice none 0 0) 0 0 0 0 0 0)):=hideP ⟨sev_heap HP1.out.box _ _ _ _ _ _ _,sev_below HP1.out.bel (Nat.le_refl _) _ _ _ _ _ _ _⟩
  go_wp2
  exact bodyPost_ret (v:=packV (.slice none 0 0) ⟨0,0,0,0,0,0⟩) (results_one_cell rfl _ _ w.heap.size _ rfl (loadPack HF.out.1)) rfl ⟨rfl,HF.out.2⟩
 | true =>
  have hpk:packB xs mode size=true:=HOK.out.symm
  have hcan:canB xs=true:=by unfold packB at hpk;simp only[Bool.and_eq_true] at hpk;exact hpk.1.1
  have hfs:fitsB size=true:=by unfold packB at hpk;simp only[Bool.and_eq_true] at hpk;exact hpk.2
  have HFS:Hid (Shr.fitsB size=true):=hideP hfs
  have hin:RIn (hpS xs) (begins xs).length:=rowTo_in xs (can_in hcan) _ (fun p hp=>starts_lt xs _ _ p hp)
  have hcnt:(begins xs).length<=20000:=by
   have h1:=starts_count (xs:=xs) (xs.length+1) 0
   have h2:=(allOk (can_list hcan)).len
   unfold begins
   omega
  have HWB:Hid (-1152921504606846976<=(hpS xs).w/\(hpS xs).w<=1152921504606846976):=hideP ⟨by have:=hin.w1;omega,by have:=hin.w2;omega⟩
  have HGN:Hid ((hpS xs).gs.length<=1048576):=hideP (by have:=hin.n;omega)
  have HROW:Hid (∀W,Below w.heap.size w W->Calls Tryz.prog 87 #[.slice ao n cap] W fun e w'=>(∃u,e = .returned (.tuple #[.int .i64 (hpS xs).w,u,.int .i64 (hpS xs).h,.int .i64 (hpS xs).d])/\w'.ownsRow W.heap.size 34 5 u (hpS xs).gs.length (f5 (hpS xs).gs))/\Below W.heap.size W w'):=hideP (fun W hW=>specRow_any (HN.out.below ndStable hW) (allOk (can_list hcan)) (can_in hcan))
  have HALL:Hid (hpOk xs mode size=(Shr.glsOk (hpS xs).gs&&(Shr.fitsB (hpTo xs mode size)&&Shr.fitsB (hpS xs).w)&&fitsB (hpS xs).h&&fitsB (hpS xs).d&&(hpL xs mode size).all Shr.fitsB)):=hideP (by unfold hpOk;rw[hpk];rfl)
  clear hpk hcan hfs hin hcnt
  go_wp2_with fail
  refine(HROW.out _ HP1.out.bel).mono ?_
  rintro e w2 ⟨⟨u,rfl,hown⟩,hb2⟩
  have HP2:Hid (PB w w2):=hideP (HP1.out.below hb2)
  have HGR:Hid (Shr.GRow w2 u (hpS xs).gs):=hideP (own_GRow hown rfl)
  clear hown hb2 HROW HP1
  cases hgl:Shr.glsOk (hpS xs).gs with
  | false =>
   have HGL:=hideP hgl
   clear hgl
   go_wp2_with fail
   refine(Shr.along_no _ mode size HGR.out HGN.out HGL.out).mono ?_
   rintro e w3 ⟨rfl,hb3⟩
   have HP3:Hid (PB w w3):=hideP (HP2.out.below hb3)
   clear hb3 HP2
   obtain⟨r0,r1,r2,r3,r4,r5,r6⟩:=pack_cells HP3.out.box
   have fR:∀j,w3.frozen? ⟨w.heap.size,j,none⟩=false:=fun j=>frozen_of_row w3 w.heap.size j _ _ HP3.out.box
   have HF:Hid ((sev w3 w.heap.size (.slice none 0 0) 0 0 0 0 0 0).heap[w.heap.size]?=some (packO (.slice none 0 0) 0 0 0 0 0 0)/\Below w.heap.size w (sev w3 w.heap.size (.slice none 0 0) 0 0 0 0 0 0)):=hideP ⟨sev_heap HP3.out.box _ _ _ _ _ _ _,sev_below HP3.out.bel (Nat.le_refl _) _ _ _ _ _ _ _⟩
   go_wp2
   exact bodyPost_ret (v:=packV (.slice none 0 0) ⟨0,0,0,0,0,0⟩) (results_one_cell rfl _ _ w.heap.size _ rfl (loadPack HF.out.1)) rfl ⟨rfl,HF.out.2⟩
  | true =>
   have HGL:=hideP hgl
   clear hgl
   go_wp2_with fail
   refine(Shr.along_ok _ mode size HGR.out HGL.out HWB.out HFS.out).mono ?_
   rintro e w3 ⟨rfl,hb3⟩
   have HP3:Hid (PB w w3):=hideP (HP2.out.below hb3)
   have HGR3:Hid (Shr.GRow w3 u (hpS xs).gs):=hideP (HGR.out.below hb3)
   clear hb3 HP2 HGR
   rw[show Shr.alongI (hpS xs).w (hpS xs).gs mode size=hpTo xs mode size from rfl]
   obtain⟨tt,htt⟩:=exq (hpTo xs mode size)
   rw[<-htt]
   have HTT:=hideP htt
   clear htt
   obtain⟨fo,hfo⟩:=exq ((Shr.fitsB tt&&Shr.fitsB (hpS xs).w))
   rw[<-hfo]
   have HFO:=hideP hfo
   clear hfo
   cases fo with
   | false =>
    obtain⟨r0,r1,r2,r3,r4,r5,r6⟩:=pack_cells HP3.out.box
    have fR:∀j,w3.frozen? ⟨w.heap.size,j,none⟩=false:=fun j=>frozen_of_row w3 w.heap.size j _ _ HP3.out.box
    have HF:Hid ((sev w3 w.heap.size (.slice none 0 0) 0 0 0 0 0 0).heap[w.heap.size]?=some (packO (.slice none 0 0) 0 0 0 0 0 0)/\Below w.heap.size w (sev w3 w.heap.size (.slice none 0 0) 0 0 0 0 0 0)):=hideP ⟨sev_heap HP3.out.box _ _ _ _ _ _ _,sev_below HP3.out.bel (Nat.le_refl _) _ _ _ _ _ _ _⟩
    go_wp2
    exact bodyPost_ret (v:=packV (.slice none 0 0) ⟨0,0,0,0,0,0⟩) (results_one_cell rfl _ _ w.heap.size _ rfl (loadPack HF.out.1)) rfl ⟨rfl,HF.out.2⟩
   | true =>
    go_wp2_with fail
    refine(specFits_any (hpS xs).h _).mono ?_
    rintro e w4 ⟨rfl,rfl⟩
    obtain⟨fh,hfh⟩:=exq (fitsB (hpS xs).h)
    rw[<-hfh]
    have HFH:=hideP hfh
    clear hfh
    cases fh with
    | false =>
     obtain⟨r0,r1,r2,r3,r4,r5,r6⟩:=pack_cells HP3.out.box
     have fR:∀j,w4.frozen? ⟨w.heap.size,j,none⟩=false:=fun j=>frozen_of_row w4 w.heap.size j _ _ HP3.out.box
     have HF:Hid ((sev w4 w.heap.size (.slice none 0 0) 0 0 0 0 0 0).heap[w.heap.size]?=some (packO (.slice none 0 0) 0 0 0 0 0 0)/\Below w.heap.size w (sev w4 w.heap.size (.slice none 0 0) 0 0 0 0 0 0)):=hideP ⟨sev_heap HP3.out.box _ _ _ _ _ _ _,sev_below HP3.out.bel (Nat.le_refl _) _ _ _ _ _ _ _⟩
     go_wp2
     exact bodyPost_ret (v:=packV (.slice none 0 0) ⟨0,0,0,0,0,0⟩) (results_one_cell rfl _ _ w.heap.size _ rfl (loadPack HF.out.1)) rfl ⟨rfl,HF.out.2⟩
    | true =>
     go_wp2_with fail
     refine(specFits_any (hpS xs).d _).mono ?_
     rintro e w5 ⟨rfl,rfl⟩
     obtain⟨fd,hfd⟩:=exq (fitsB (hpS xs).d)
     rw[<-hfd]
     have HFD:=hideP hfd
     clear hfd
     cases fd with
     | false =>
      obtain⟨r0,r1,r2,r3,r4,r5,r6⟩:=pack_cells HP3.out.box
      have fR:∀j,w5.frozen? ⟨w.heap.size,j,none⟩=false:=fun j=>frozen_of_row w5 w.heap.size j _ _ HP3.out.box
      have HF:Hid ((sev w5 w.heap.size (.slice none 0 0) 0 0 0 0 0 0).heap[w.heap.size]?=some (packO (.slice none 0 0) 0 0 0 0 0 0)/\Below w.heap.size w (sev w5 w.heap.size (.slice none 0 0) 0 0 0 0 0 0)):=hideP ⟨sev_heap HP3.out.box _ _ _ _ _ _ _,sev_below HP3.out.bel (Nat.le_refl _) _ _ _ _ _ _ _⟩
      go_wp2
      exact bodyPost_ret (v:=packV (.slice none 0 0) ⟨0,0,0,0,0,0⟩) (results_one_cell rfl _ _ w.heap.size _ rfl (loadPack HF.out.1)) rfl ⟨rfl,HF.out.2⟩
     | true =>
      have HFW:Hid (Shr.fitsB tt=true/\Shr.fitsB (hpS xs).w=true):=hideP (by have h:=HFO.out.symm;simpa only[Bool.and_eq_true] using h)
      go_wp2_with fail
      refine(Shr.specShare_ok (hpS xs).w tt (hpQ xs mode size) HGR3.out HGL.out HFW.out.2 HFW.out.1 (by unfold hpQ;rw[<-HTT.out])).mono ?_
      rintro e w6 ⟨⟨vl,rfl,hrow⟩,hb6⟩
      have HP6:Hid (PB w w6):=hideP (HP3.out.below hb6)
      have HRL:Hid (Shr.Row w6 vl (hpL xs mode size)):=hideP hrow
      have HLN:Hid ((hpL xs mode size).length<=1048576):=hideP (by unfold hpL;rw[Shr.shareL_length];exact HGN.out)
      clear hb6 hrow HP3
      go_wp2_with fail
      refine(Shr.fitsAll_any (HRL.out.below (below1 _ _)) HLN.out).mono ?_
      rintro e w7 ⟨rfl,hw7⟩
      have HP7:Hid (PB w w7):=hideP (by rw[hw7];exact HP6.out.below (below1 _ _))
      clear hw7 HP6
      obtain⟨fl,hfl⟩:=exq ((hpL xs mode size).all Shr.fitsB)
      rw[<-hfl]
      have HFL:=hideP hfl
      clear hfl
      cases fl with
      | false =>
       obtain⟨r0,r1,r2,r3,r4,r5,r6⟩:=pack_cells HP7.out.box
       have fR:∀j,w7.frozen? ⟨w.heap.size,j,none⟩=false:=fun j=>frozen_of_row w7 w.heap.size j _ _ HP7.out.box
       have HF:Hid ((sev w7 w.heap.size (.slice none 0 0) 0 0 0 0 0 0).heap[w.heap.size]?=some (packO (.slice none 0 0) 0 0 0 0 0 0)/\Below w.heap.size w (sev w7 w.heap.size (.slice none 0 0) 0 0 0 0 0 0)):=hideP ⟨sev_heap HP7.out.box _ _ _ _ _ _ _,sev_below HP7.out.bel (Nat.le_refl _) _ _ _ _ _ _ _⟩
       go_wp2
       exact bodyPost_ret (v:=packV (.slice none 0 0) ⟨0,0,0,0,0,0⟩) (results_one_cell rfl _ _ w.heap.size _ rfl (loadPack HF.out.1)) rfl ⟨rfl,HF.out.2⟩
      | true =>
       exfalso
       have h1:=HNO.out
       rw[HALL.out,HGL.out,<-HTT.out,<-HFO.out,<-HFH.out,<-HFD.out,<-HFL.out] at h1
       exact absurd h1 (by decide)
theorem thV_0 (x:Nd)(hk:¬(1<=x.k/\x.k<=11)):thV x = .nilIface:=by
 unfold thV
 rw[if_neg (by omega),if_neg (by omega),if_neg (by omega),if_neg (by omega),if_neg (by omega),if_neg (by omega),if_neg (by omega),if_neg (by omega),if_neg (by omega),if_neg (by omega),if_neg (by omega)]
theorem ask_space (x:Nd):∃c0 c1 c2 c3 c4 c5:Int,(∀W:World,(Instr.typeAssert (thV x) 85 87 true).run Tryz.prog W = .ok (.tuple #[.agg #[.int .i64 c0,.int .i64 c1,.int .i64 c2,.int .i64 c3,.int .i64 c4,.int .i64 c5],.bool (x.k == 3)]) W)/\(x.k=3->c0=x.gs/\c1=x.gp/\c2=x.gpo/\c3=x.gm/\c4=x.gmo/\c5=x.wd):=by
 obtain⟨k,wd,ht,dp,sh,fo,ch,nn,gs,gp,gpo,gm,gmo,tx,kids⟩:=x
 by_cases hk:1<=k/\k<=11
 ·rcases kinds hk.1 hk.2 with rfl|rfl|rfl|rfl|rfl|rfl|rfl|rfl|rfl|rfl|rfl
  ·exact⟨0,0,0,0,0,0,fun _=>by kernel_rfl,fun h=>absurd h (by simp)⟩
  ·exact⟨0,0,0,0,0,0,fun _=>by kernel_rfl,fun h=>absurd h (by simp)⟩
  ·exact⟨gs,gp,gpo,gm,gmo,wd,fun _=>by kernel_rfl,fun _=>⟨rfl,rfl,rfl,rfl,rfl,rfl⟩⟩
  ·exact⟨0,0,0,0,0,0,fun _=>by kernel_rfl,fun h=>absurd h (by simp)⟩
  ·exact⟨0,0,0,0,0,0,fun _=>by kernel_rfl,fun h=>absurd h (by simp)⟩
  ·exact⟨0,0,0,0,0,0,fun _=>by kernel_rfl,fun h=>absurd h (by simp)⟩
  ·exact⟨0,0,0,0,0,0,fun _=>by kernel_rfl,fun h=>absurd h (by simp)⟩
  ·exact⟨0,0,0,0,0,0,fun _=>by kernel_rfl,fun h=>absurd h (by simp)⟩
  ·exact⟨0,0,0,0,0,0,fun _=>by kernel_rfl,fun h=>absurd h (by simp)⟩
  ·exact⟨0,0,0,0,0,0,fun _=>by kernel_rfl,fun h=>absurd h (by simp)⟩
  ·exact⟨0,0,0,0,0,0,fun _=>by kernel_rfl,fun h=>absurd h (by simp)⟩
 ·exact⟨0,0,0,0,0,0,fun _=>by rw[thV_0 _ hk,show (k == 3)=false by simp;omega];kernel_rfl,fun h=>absurd (show k=3 from h) (by omega)⟩
theorem ask_kern (x:Nd):∃c0:Int,(∀W:World,(Instr.typeAssert (thV x) 85 137 true).run Tryz.prog W = .ok (.tuple #[.agg #[.int .i64 c0],.bool (x.k == 2)]) W)/\(x.k=2->c0=x.wd):=by
 obtain⟨k,wd,ht,dp,sh,fo,ch,nn,gs,gp,gpo,gm,gmo,tx,kids⟩:=x
 by_cases hk:1<=k/\k<=11
 ·rcases kinds hk.1 hk.2 with rfl|rfl|rfl|rfl|rfl|rfl|rfl|rfl|rfl|rfl|rfl
  ·exact⟨0,fun _=>by kernel_rfl,fun h=>absurd h (by simp)⟩
  ·exact⟨wd,fun _=>by kernel_rfl,fun _=>rfl⟩
  ·exact⟨0,fun _=>by kernel_rfl,fun h=>absurd h (by simp)⟩
  ·exact⟨0,fun _=>by kernel_rfl,fun h=>absurd h (by simp)⟩
  ·exact⟨0,fun _=>by kernel_rfl,fun h=>absurd h (by simp)⟩
  ·exact⟨0,fun _=>by kernel_rfl,fun h=>absurd h (by simp)⟩
  ·exact⟨0,fun _=>by kernel_rfl,fun h=>absurd h (by simp)⟩
  ·exact⟨0,fun _=>by kernel_rfl,fun h=>absurd h (by simp)⟩
  ·exact⟨0,fun _=>by kernel_rfl,fun h=>absurd h (by simp)⟩
  ·exact⟨0,fun _=>by kernel_rfl,fun h=>absurd h (by simp)⟩
  ·exact⟨0,fun _=>by kernel_rfl,fun h=>absurd h (by simp)⟩
 ·exact⟨0,fun _=>by rw[thV_0 _ hk,show (k == 2)=false by simp;omega];kernel_rfl,fun h=>absurd (show k=2 from h) (by omega)⟩
theorem thV_shape (x:Nd):thV x = .nilIface\/∃X p,thV x = .iface X p:=by
 obtain⟨k,wd,ht,dp,sh,fo,ch,nn,gs,gp,gpo,gm,gmo,tx,kids⟩:=x
 by_cases hk:1<=k/\k<=11
 ·rcases kinds hk.1 hk.2 with rfl|rfl|rfl|rfl|rfl|rfl|rfl|rfl|rfl|rfl|rfl
  ·exact .inr ⟨_,_,rfl⟩
  ·exact .inr ⟨_,_,rfl⟩
  ·exact .inr ⟨_,_,rfl⟩
  ·exact .inr ⟨_,_,rfl⟩
  ·exact .inr ⟨_,_,rfl⟩
  ·exact .inr ⟨_,_,rfl⟩
  ·exact .inr ⟨_,_,rfl⟩
  ·exact .inr ⟨_,_,rfl⟩
  ·exact .inr ⟨_,_,rfl⟩
  ·exact .inr ⟨_,_,rfl⟩
  ·exact .inr ⟨_,_,rfl⟩
 ·exact .inl (thV_0 _ hk)
abbrev bunO (k wd h d len:Int)(g p:Value):Obj:= .cells #[.int .i64 k,.int .i64 wd,.int .i64 h,.int .i64 d,.int .i64 0,.int .i64 0,.int .i64 len,g,p] 130 (0,0)
structure Bun (W:World)(R:Nat)(k wd h d len:Int)(g p:Value):Prop where
 box:W.heap[R]?=some (bunO k wd h d len g p)
theorem Bun.cells {W:World}{R:Nat}{k wd h d len:Int}{g p:Value}(B:Bun W R k wd h d len g p):W.cell? ⟨R,0,none⟩=some (.int .i64 k)/\W.cell? ⟨R,1,none⟩=some (.int .i64 wd)/\W.cell? ⟨R,2,none⟩=some (.int .i64 h)/\W.cell? ⟨R,3,none⟩=some (.int .i64 d)/\W.cell? ⟨R,4,none⟩=some (.int .i64 0)/\W.cell? ⟨R,5,none⟩=some (.int .i64 0)/\W.cell? ⟨R,6,none⟩=some (.int .i64 len)/\W.cell? ⟨R,7,none⟩=some g/\W.cell? ⟨R,8,none⟩=some p :=
 ⟨cell_of_row W R 0 _ 130 _ B.box,cell_of_row W R 1 _ 130 _ B.box,cell_of_row W R 2 _ 130 _ B.box,cell_of_row W R 3 _ 130 _ B.box,cell_of_row W R 4 _ 130 _ B.box,cell_of_row W R 5 _ 130 _ B.box,cell_of_row W R 6 _ 130 _ B.box,cell_of_row W R 7 _ 130 _ B.box,cell_of_row W R 8 _ 130 _ B.box⟩
theorem Bun.free {W:World}{R:Nat}{k wd h d len:Int}{g p:Value}(B:Bun W R k wd h d len g p):∀j,W.frozen? ⟨R,j,none⟩=false:=fun j=>frozen_of_row W R j _ _ B.box
theorem Bun.lt {W:World}{R:Nat}{k wd h d len:Int}{g p:Value}(B:Bun W R k wd h d len g p):R<W.heap.size:=(glt B.box)
theorem Bun.same {W W':World}{R:Nat}{k wd h d len:Int}{g p:Value}(B:Bun W R k wd h d len g p)(hq:W'.heap[R]?=W.heap[R]?):Bun W' R k wd h d len g p:=⟨hq.trans B.box⟩
theorem Bun.below {W W':World}{R:Nat}{k wd h d len:Int}{g p:Value}(B:Bun W R k wd h d len g p)(hb:Below W.heap.size W W'):Bun W' R k wd h d len g p:=B.same (hb.block _ B.lt)
theorem Bun.drew {W:World}{R:Nat}{k wd h d len:Int}{g p:Value}(B:Bun W R k wd h d len g p):Bun W.drew R k wd h d len g p:=⟨B.box⟩
theorem Bun.alloc {W:World}{R:Nat}{k wd h d len:Int}{g p:Value}(B:Bun W R k wd h d len g p)(o:Obj):Bun (W.alloc o) R k wd h d len g p:=B.below (below1 _ _)
theorem Bun.setH {W:World}{R:Nat}{k wd h d len:Int}{g p:Value}(B:Bun W R k wd h d len g p)(x:Int):Bun (W.setCell ⟨R,2,none⟩ (.int .i64 x)) R k wd x d len g p:=⟨heap_setCell_same _ R 2 _ 130 _ B.box⟩
theorem Bun.setD {W:World}{R:Nat}{k wd h d len:Int}{g p:Value}(B:Bun W R k wd h d len g p)(x:Int):Bun (W.setCell ⟨R,3,none⟩ (.int .i64 x)) R k wd h x len g p:=⟨heap_setCell_same _ R 3 _ 130 _ B.box⟩
theorem Bun.setL {W:World}{R:Nat}{k wd h d len:Int}{g p:Value}(B:Bun W R k wd h d len g p)(x:Int):Bun (W.setCell ⟨R,6,none⟩ (.int .i64 x)) R k wd h d x g p:=⟨heap_setCell_same _ R 6 _ 130 _ B.box⟩
theorem Bun.setG {W:World}{R:Nat}{k wd h d len:Int}{g p:Value}(B:Bun W R k wd h d len g p)(x:Value):Bun (W.setCell ⟨R,7,none⟩ x) R k wd h d len x p:=⟨heap_setCell_same _ R 7 _ 130 _ B.box⟩
theorem Bun.setP {W:World}{R:Nat}{k wd h d len:Int}{g p:Value}(B:Bun W R k wd h d len g p)(x:Value):Bun (W.setCell ⟨R,8,none⟩ x) R k wd h d len g x:=⟨heap_setCell_same _ R 8 _ 130 _ B.box⟩
theorem frDrew {L:Nat}{w a:World}(h:Shr.Fr L w a):Shr.Fr L w a.drew:=h
theorem mx_max (a b:Int):Shr.mxI a b=max a b:=by
 unfold Shr.mxI
 split<;>omega
set_option maxRecDepth 20000 in
theorem beside_any {w:World}{R:Nat}{k wd h d len:Int}{g p:Value}(a b c s:Int)(B:Bun w R k wd h d len g p)
 (hl : -1152921504606846976<=len/\len<=1152921504606846976) (ha : -1073741823<=a/\a<=1073741823) (hb : -1073741823<=b/\b<=1073741823) (hc : -1073741823<=c/\c<=1073741823) (hs : -1073741823<=s/\s<=1073741823) :
 Calls Tryz.prog 56 #[.pointer (some ⟨R,0,none⟩),.agg #[.int .i64 a,.int .i64 b,.int .i64 c],.int .i64 s] w fun e w'=>(∃v,e = .returned v)/\Bun w' R k wd (Shr.mxI h (b-s)) (Shr.mxI d (c+s)) (len+a) g p/\Shr.Fr R w w':=by
 obtain⟨b0,b1,b2,b3,b4,b5,b6,b7,b8⟩:=B.cells
 have fz:=B.free
 have hR:=B.lt
 have HB:=hideP B
 have w1:IntKind.i64.wrap (len+a)=len+a:=by rw[IntKind.wrap_i64];omega
 have w2:IntKind.i64.wrap (b-s)=b-s:=by rw[IntKind.wrap_i64];omega
 have w3:IntKind.i64.wrap (c+s)=c+s:=by rw[IntKind.wrap_i64];omega
 clear hl ha hb hc hs B
 go_enter Tryz.func56,Tryz.ntmps56
 go_wp2
 go_region
 go_wp2
 go_region
 go_wp2
 go_region
 go_wp2
 go_end0
 rw[mx_max,mx_max]
 refine⟨⟨_,rfl⟩,?_,?_⟩
 ·exact(((((HB.out.setL _).setH _).setD _).alloc _).drew).drew.drew
 ·exact frDrew (frDrew (frDrew (Shr.Fr.alloc (Shr.Fr.set (Shr.Fr.set (Shr.Fr.set (Shr.Fr.refl R w) (.inl rfl) _) (.inl rfl) _) (.inl rfl) _) _)))
theorem siz_take {gs:List Shr.Gl}{j:Nat}(h:j<gs.length):Shr.siz (gs.take (j+1))=Shr.siz (gs.take j)+(gs.getD j Shr.Gl.none).s:=by
 unfold Shr.siz
 rw[List.take_succ_eq_append_getElem h,List.map_append,List.sum_append]
 simp[List.getD,List.getElem?_eq_getElem h]
theorem siz_le {gs:List Shr.Gl}(hg:∀x∈gs,-1073741823<=x.s/\x.s<=1073741823) : -(1073741823*(gs.length:Int))<=Shr.siz gs/\Shr.siz gs<=1073741823*(gs.length:Int):=by
 induction gs with
 | nil=>simp[Shr.siz]
 | cons x gs ih =>
  have h1:=ih (fun y hy=>hg y (List.mem_cons_of_mem _ hy))
  have h2:=hg x (List.mem_cons_self ..)
  have e:Shr.siz (x :: gs)=x.s+Shr.siz gs:=by simp[Shr.siz]
  rw[e,List.length_cons]
  push_cast
  omega
theorem siz_bound {gs:List Shr.Gl}(hg:∀x∈gs,-1073741823<=x.s/\x.s<=1073741823)(hn:gs.length<=20001)(j:Nat) : -21476983091871<=Shr.siz (gs.take j)/\Shr.siz (gs.take j)<=21476983091871:=by
 have h:=siz_le (gs:=gs.take j) (fun x hx=>hg x (List.mem_of_mem_take hx))
 have h2:(gs.take j).length<=20001:=by rw[List.length_take];omega
 omega
set_option maxRecDepth 20000 in
theorem wanted_any {w:World}{R:Nat}{k wd h d len:Int}{g p:Value}{gs:List Shr.Gl}(mode size:Int)(B:Bun w R k wd h d len g p)(hg:Shr.GRow w g gs)(hgs:∀x∈gs,-1073741823<=x.s/\x.s<=1073741823)(hn:gs.length<=20001)
 (hl : -1073741823000000<=len/\len<=1073741823000000) (hsz : -1073741823<=size/\size<=1073741823) :
 Calls Tryz.prog 58 #[.pointer (some ⟨R,0,none⟩),.int .i64 mode,.int .i64 size] w fun e w'=>e = .returned (.int .i64 (Shr.alongI len gs mode size))/\Below w.heap.size w w':=by
 obtain⟨b0,b1,b2,b3,b4,b5,b6,b7,b8⟩:=B.cells
 have hR:=B.lt
 obtain⟨ga,m,gc,rfl,hgl,hgr⟩:=hg
 have HSB:Hid (∀j,-21476983091871<=Shr.siz (gs.take j)/\Shr.siz (gs.take j)<=21476983091871):=hideP (siz_bound hgs hn)
 have HGR:=hideP hgr
 have HGL:=hideP hgl
 have HB:=hideP B
 have hm:m<=20001:=by omega
 have HBN:=hideP hl
 have HSZ:=hideP hsz
 clear hgr hgl B hgs hl hsz hn
 by_cases h1:mode=1
 ·subst h1
  go_enter Tryz.func58,Tryz.ntmps58
  go_wp2
  go_ret
  exact⟨rfl,Below.refl _ _⟩
 ·have h1':(mode == 1)=false:=by simpa using h1
  have HR2:Hid (Shr.alongI len gs mode size=if mode=2 then len+Shr.siz gs+size else len+Shr.siz gs):=hideP (by unfold Shr.alongI;rw[if_neg h1])
  go_enter Tryz.func58,Tryz.ntmps58
  go_wp2_with fail
  go_loopw [7,22] (fun x i wr=>∃j:Nat,j<=m/\i = .int .i64 j/\x = .int .i64 (len+Shr.siz (gs.take j))/\Below w.heap.size w wr) (fun _ i _=>m-(intOf i).toNat)
  case atStart=>exact⟨0,by omega,rfl,by simp[Shr.siz],Below.refl _ _⟩
  case round =>
   obtain⟨j,hj,rfl,rfl,hb⟩:=hrel
   have HBB:=hideP hb
   by_cases hjm:j<m
   ·have hji:(j:Int)<(m:Int):=by omega
    obtain⟨gb,off,rfl,hgb,hc⟩:=HGR.out (by omega)
    have hcc:=hc j hjm
    obtain⟨q0,q1,q2,q3,q4⟩:=hcc
    have k0:=(hb.cell (p:=⟨gb,off+j*5,none⟩) hgb).trans q0
    have k1:=(hb.cell (p:=⟨gb,off+j*5+1,none⟩) hgb).trans q1
    have k2:=(hb.cell (p:=⟨gb,off+j*5+2,none⟩) hgb).trans q2
    have k3:=(hb.cell (p:=⟨gb,off+j*5+3,none⟩) hgb).trans q3
    have k4:=(hb.cell (p:=⟨gb,off+j*5+4,none⟩) hgb).trans q4
    have hst:Shr.siz (gs.take (j+1))=Shr.siz (gs.take j)+(gs.getD j Shr.Gl.none).s:=siz_take (by rw[HGL.out];exact hjm)
    have hx1:=HSB.out (j+1)
    obtain⟨z,hz⟩:=exq (len+Shr.siz (gs.take j))
    rw[<-hz]
    have HZ:Hid (z+(gs.getD j Shr.Gl.none).s=len+Shr.siz (gs.take (j+1))):=hideP (by rw[hst,hz];omega)
    have hzb : -9000000000000000000<=z+(gs.getD j Shr.Gl.none).s/\z+(gs.getD j Shr.Gl.none).s<=9000000000000000000:=by rw[HZ.out];have:=HBN.out;omega
    obtain⟨⟨y0,y1,y2,y3,y4⟩,hy⟩:∃y:Shr.Gl,y=gs.getD j Shr.Gl.none:=⟨_,rfl⟩
    rw[<-hy] at k0 k1 k2 k3 k4 HZ hzb
    simp only at k0 k1 k2 k3 k4 hzb
    clear hc q0 q1 q2 q3 q4 hst hx1 hz hy hb
    go_wp2
    go_roundw
    case rel=>exact⟨j+1,by omega,by go_num,by rw[<-HZ.out],HBB.out.alloc HBB.out.size _⟩
    case measure=>simp[intOf];omega
   ·have hji:¬(j:Int)<(m:Int):=by omega
    obtain rfl:j=m:=by omega
    have HT:Hid (len+Shr.siz (gs.take j)=len+Shr.siz gs):=hideP (by rw[<-HGL.out,List.take_length])
    have hx1:=HSB.out j
    obtain⟨z,hz⟩:=exq (len+Shr.siz (gs.take j))
    rw[<-hz] at HT ⊢
    have hzb : -9000000000000000000<=z+size/\z+size<=9000000000000000000:=by rw[hz];have:=HBN.out;have:=HSZ.out;omega
    clear hz hx1 hb
    by_cases h2:mode=2
    ·subst h2
     have HRA:Hid (Shr.alongI len gs 2 size=z+size):=hideP (by rw[HR2.out,if_pos rfl,<-HT.out])
     clear HR2
     go_wp2
     go_ret
     refine⟨?_,HBB.out⟩
     rw[HRA.out]
     rfl
    ·have h2':(mode == 2)=false:=by simpa using h2
     have HRA:Hid (Shr.alongI len gs mode size=z):=hideP (by rw[HR2.out,if_neg h2,<-HT.out])
     clear HR2
     go_wp2
     go_ret
     refine⟨?_,HBB.out⟩
     rw[HRA.out]
     rfl
abbrev ndO (x:Nd):Obj:= .cells #[.int .i64 x.k,.int .i64 x.wd,.int .i64 x.ht,.int .i64 x.dp,.int .i64 x.sh,.int .i64 x.fo,.int .i64 x.ch,.int .i64 x.nn,.int .i64 x.gs,.int .i64 x.gp,.int .i64 x.gpo,.int .i64 x.gm,.int .i64 x.gmo,.string x.tx,.int .i64 x.kids] 36 (0,0)
abbrev fif (w:World)(R:Nat)(k wd ht dp sh fo ch nn gs gp gpo gm gmo:Int)(tx:ByteArray)(kids:Int):World:=(((((((((((((((w.setCell ⟨R,0,none⟩ (.int .i64 k)).setCell ⟨R,1,none⟩ (.int .i64 wd)).setCell ⟨R,2,none⟩ (.int .i64 ht)).setCell ⟨R,3,none⟩ (.int .i64 dp)).setCell ⟨R,4,none⟩ (.int .i64 sh)).setCell ⟨R,5,none⟩ (.int .i64 fo)).setCell ⟨R,6,none⟩ (.int .i64 ch)).setCell ⟨R,7,none⟩ (.int .i64 nn)).setCell ⟨R,8,none⟩ (.int .i64 gs)).setCell ⟨R,9,none⟩ (.int .i64 gp)).setCell ⟨R,10,none⟩ (.int .i64 gpo)).setCell ⟨R,11,none⟩ (.int .i64 gm)).setCell ⟨R,12,none⟩ (.int .i64 gmo)).setCell ⟨R,13,none⟩ (.string tx)).setCell ⟨R,14,none⟩ (.int .i64 kids))
theorem fif_heap {w:World}{R:Nat}{y:Nd}(h:w.heap[R]?=some (ndO y))(k wd ht dp sh fo ch nn gs gp gpo gm gmo:Int)(tx:ByteArray)(kids:Int):(fif w R k wd ht dp sh fo ch nn gs gp gpo gm gmo tx kids).heap[R]?=some (ndO ⟨k,wd,ht,dp,sh,fo,ch,nn,gs,gp,gpo,gm,gmo,tx,kids⟩):=by
 obtain⟨w0,e0⟩:=exq (w.setCell ⟨R,0,none⟩ (.int .i64 k))
 have h0:w0.heap[R]?=some (.cells #[.int .i64 k,.int .i64 y.wd,.int .i64 y.ht,.int .i64 y.dp,.int .i64 y.sh,.int .i64 y.fo,.int .i64 y.ch,.int .i64 y.nn,.int .i64 y.gs,.int .i64 y.gp,.int .i64 y.gpo,.int .i64 y.gm,.int .i64 y.gmo,.string y.tx,.int .i64 y.kids] 36 (0,0)):=by rw[e0];exact heap_setCell_same _ R 0 _ 36 _ h
 obtain⟨w1,e1⟩:=exq (w0.setCell ⟨R,1,none⟩ (.int .i64 wd))
 have h1:w1.heap[R]?=some (.cells #[.int .i64 k,.int .i64 wd,.int .i64 y.ht,.int .i64 y.dp,.int .i64 y.sh,.int .i64 y.fo,.int .i64 y.ch,.int .i64 y.nn,.int .i64 y.gs,.int .i64 y.gp,.int .i64 y.gpo,.int .i64 y.gm,.int .i64 y.gmo,.string y.tx,.int .i64 y.kids] 36 (0,0)):=by rw[e1];exact heap_setCell_same _ R 1 _ 36 _ h0
 obtain⟨w2,e2⟩:=exq (w1.setCell ⟨R,2,none⟩ (.int .i64 ht))
 have h2:w2.heap[R]?=some (.cells #[.int .i64 k,.int .i64 wd,.int .i64 ht,.int .i64 y.dp,.int .i64 y.sh,.int .i64 y.fo,.int .i64 y.ch,.int .i64 y.nn,.int .i64 y.gs,.int .i64 y.gp,.int .i64 y.gpo,.int .i64 y.gm,.int .i64 y.gmo,.string y.tx,.int .i64 y.kids] 36 (0,0)):=by rw[e2];exact heap_setCell_same _ R 2 _ 36 _ h1
 obtain⟨w3,e3⟩:=exq (w2.setCell ⟨R,3,none⟩ (.int .i64 dp))
 have h3:w3.heap[R]?=some (.cells #[.int .i64 k,.int .i64 wd,.int .i64 ht,.int .i64 dp,.int .i64 y.sh,.int .i64 y.fo,.int .i64 y.ch,.int .i64 y.nn,.int .i64 y.gs,.int .i64 y.gp,.int .i64 y.gpo,.int .i64 y.gm,.int .i64 y.gmo,.string y.tx,.int .i64 y.kids] 36 (0,0)):=by rw[e3];exact heap_setCell_same _ R 3 _ 36 _ h2
 obtain⟨w4,e4⟩:=exq (w3.setCell ⟨R,4,none⟩ (.int .i64 sh))
 have h4:w4.heap[R]?=some (.cells #[.int .i64 k,.int .i64 wd,.int .i64 ht,.int .i64 dp,.int .i64 sh,.int .i64 y.fo,.int .i64 y.ch,.int .i64 y.nn,.int .i64 y.gs,.int .i64 y.gp,.int .i64 y.gpo,.int .i64 y.gm,.int .i64 y.gmo,.string y.tx,.int .i64 y.kids] 36 (0,0)):=by rw[e4];exact heap_setCell_same _ R 4 _ 36 _ h3
 obtain⟨w5,e5⟩:=exq (w4.setCell ⟨R,5,none⟩ (.int .i64 fo))
 have h5:w5.heap[R]?=some (.cells #[.int .i64 k,.int .i64 wd,.int .i64 ht,.int .i64 dp,.int .i64 sh,.int .i64 fo,.int .i64 y.ch,.int .i64 y.nn,.int .i64 y.gs,.int .i64 y.gp,.int .i64 y.gpo,.int .i64 y.gm,.int .i64 y.gmo,.string y.tx,.int .i64 y.kids] 36 (0,0)):=by rw[e5];exact heap_setCell_same _ R 5 _ 36 _ h4
 obtain⟨w6,e6⟩:=exq (w5.setCell ⟨R,6,none⟩ (.int .i64 ch))
 have h6:w6.heap[R]?=some (.cells #[.int .i64 k,.int .i64 wd,.int .i64 ht,.int .i64 dp,.int .i64 sh,.int .i64 fo,.int .i64 ch,.int .i64 y.nn,.int .i64 y.gs,.int .i64 y.gp,.int .i64 y.gpo,.int .i64 y.gm,.int .i64 y.gmo,.string y.tx,.int .i64 y.kids] 36 (0,0)):=by rw[e6];exact heap_setCell_same _ R 6 _ 36 _ h5
 obtain⟨w7,e7⟩:=exq (w6.setCell ⟨R,7,none⟩ (.int .i64 nn))
 have h7:w7.heap[R]?=some (.cells #[.int .i64 k,.int .i64 wd,.int .i64 ht,.int .i64 dp,.int .i64 sh,.int .i64 fo,.int .i64 ch,.int .i64 nn,.int .i64 y.gs,.int .i64 y.gp,.int .i64 y.gpo,.int .i64 y.gm,.int .i64 y.gmo,.string y.tx,.int .i64 y.kids] 36 (0,0)):=by rw[e7];exact heap_setCell_same _ R 7 _ 36 _ h6
 obtain⟨w8,e8⟩:=exq (w7.setCell ⟨R,8,none⟩ (.int .i64 gs))
 have h8:w8.heap[R]?=some (.cells #[.int .i64 k,.int .i64 wd,.int .i64 ht,.int .i64 dp,.int .i64 sh,.int .i64 fo,.int .i64 ch,.int .i64 nn,.int .i64 gs,.int .i64 y.gp,.int .i64 y.gpo,.int .i64 y.gm,.int .i64 y.gmo,.string y.tx,.int .i64 y.kids] 36 (0,0)):=by rw[e8];exact heap_setCell_same _ R 8 _ 36 _ h7
 obtain⟨w9,e9⟩:=exq (w8.setCell ⟨R,9,none⟩ (.int .i64 gp))
 have h9:w9.heap[R]?=some (.cells #[.int .i64 k,.int .i64 wd,.int .i64 ht,.int .i64 dp,.int .i64 sh,.int .i64 fo,.int .i64 ch,.int .i64 nn,.int .i64 gs,.int .i64 gp,.int .i64 y.gpo,.int .i64 y.gm,.int .i64 y.gmo,.string y.tx,.int .i64 y.kids] 36 (0,0)):=by rw[e9];exact heap_setCell_same _ R 9 _ 36 _ h8
 obtain⟨w10,e10⟩:=exq (w9.setCell ⟨R,10,none⟩ (.int .i64 gpo))
 have h10:w10.heap[R]?=some (.cells #[.int .i64 k,.int .i64 wd,.int .i64 ht,.int .i64 dp,.int .i64 sh,.int .i64 fo,.int .i64 ch,.int .i64 nn,.int .i64 gs,.int .i64 gp,.int .i64 gpo,.int .i64 y.gm,.int .i64 y.gmo,.string y.tx,.int .i64 y.kids] 36 (0,0)):=by rw[e10];exact heap_setCell_same _ R 10 _ 36 _ h9
 obtain⟨w11,e11⟩:=exq (w10.setCell ⟨R,11,none⟩ (.int .i64 gm))
 have h11:w11.heap[R]?=some (.cells #[.int .i64 k,.int .i64 wd,.int .i64 ht,.int .i64 dp,.int .i64 sh,.int .i64 fo,.int .i64 ch,.int .i64 nn,.int .i64 gs,.int .i64 gp,.int .i64 gpo,.int .i64 gm,.int .i64 y.gmo,.string y.tx,.int .i64 y.kids] 36 (0,0)):=by rw[e11];exact heap_setCell_same _ R 11 _ 36 _ h10
 obtain⟨w12,e12⟩:=exq (w11.setCell ⟨R,12,none⟩ (.int .i64 gmo))
 have h12:w12.heap[R]?=some (.cells #[.int .i64 k,.int .i64 wd,.int .i64 ht,.int .i64 dp,.int .i64 sh,.int .i64 fo,.int .i64 ch,.int .i64 nn,.int .i64 gs,.int .i64 gp,.int .i64 gpo,.int .i64 gm,.int .i64 gmo,.string y.tx,.int .i64 y.kids] 36 (0,0)):=by rw[e12];exact heap_setCell_same _ R 12 _ 36 _ h11
 obtain⟨w13,e13⟩:=exq (w12.setCell ⟨R,13,none⟩ (.string tx))
 have h13:w13.heap[R]?=some (.cells #[.int .i64 k,.int .i64 wd,.int .i64 ht,.int .i64 dp,.int .i64 sh,.int .i64 fo,.int .i64 ch,.int .i64 nn,.int .i64 gs,.int .i64 gp,.int .i64 gpo,.int .i64 gm,.int .i64 gmo,.string tx,.int .i64 y.kids] 36 (0,0)):=by rw[e13];exact heap_setCell_same _ R 13 _ 36 _ h12
 obtain⟨w14,e14⟩:=exq (w13.setCell ⟨R,14,none⟩ (.int .i64 kids))
 have h14:w14.heap[R]?=some (.cells #[.int .i64 k,.int .i64 wd,.int .i64 ht,.int .i64 dp,.int .i64 sh,.int .i64 fo,.int .i64 ch,.int .i64 nn,.int .i64 gs,.int .i64 gp,.int .i64 gpo,.int .i64 gm,.int .i64 gmo,.string tx,.int .i64 kids] 36 (0,0)):=by rw[e14];exact heap_setCell_same _ R 14 _ 36 _ h13
 have e:fif w R k wd ht dp sh fo ch nn gs gp gpo gm gmo tx kids=w14:=by rw[e14,e13,e12,e11,e10,e9,e8,e7,e6,e5,e4,e3,e2,e1,e0]
 rw[e]
 exact h14
theorem fif_below {B:Nat}{w W:World}{R:Nat}(h:Below B w W)(hR:B<=R)(k wd ht dp sh fo ch nn gs gp gpo gm gmo:Int)(tx:ByteArray)(kids:Int):Below B w (fif W R k wd ht dp sh fo ch nn gs gp gpo gm gmo tx kids):=by
 repeat(first|with_reducible exact h|(with_reducible refine Below.setCell ?_ ?_ _;rotate_left;focus exact hR))
theorem loadNd {w:World}{R:Nat}{x:Nd}(h:w.heap[R]?=some (ndO x)):(loadVar 36 ⟨R,0,none⟩).run Tryz.prog w = .ok (ndV x) w :=
 run_loadVar_row _ _ 36 36 _ (0,0) _ h Tryz.underlying36 rfl (by kernel_rfl)
theorem nd_cells {W:World}{R:Nat}{x:Nd}(h:W.heap[R]?=some (ndO x)):W.cell? ⟨R,0,none⟩=some (.int .i64 x.k)/\W.cell? ⟨R,1,none⟩=some (.int .i64 x.wd)/\W.cell? ⟨R,2,none⟩=some (.int .i64 x.ht)/\W.cell? ⟨R,3,none⟩=some (.int .i64 x.dp)/\W.cell? ⟨R,4,none⟩=some (.int .i64 x.sh)/\W.cell? ⟨R,5,none⟩=some (.int .i64 x.fo)/\W.cell? ⟨R,6,none⟩=some (.int .i64 x.ch)/\W.cell? ⟨R,7,none⟩=some (.int .i64 x.nn)/\W.cell? ⟨R,8,none⟩=some (.int .i64 x.gs)/\W.cell? ⟨R,9,none⟩=some (.int .i64 x.gp)/\W.cell? ⟨R,10,none⟩=some (.int .i64 x.gpo)/\W.cell? ⟨R,11,none⟩=some (.int .i64 x.gm)/\W.cell? ⟨R,12,none⟩=some (.int .i64 x.gmo)/\W.cell? ⟨R,13,none⟩=some (.string x.tx)/\W.cell? ⟨R,14,none⟩=some (.int .i64 x.kids) :=
 ⟨cell_of_row W R 0 _ 36 _ h,cell_of_row W R 1 _ 36 _ h,cell_of_row W R 2 _ 36 _ h,cell_of_row W R 3 _ 36 _ h,cell_of_row W R 4 _ 36 _ h,cell_of_row W R 5 _ 36 _ h,cell_of_row W R 6 _ 36 _ h,cell_of_row W R 7 _ 36 _ h,cell_of_row W R 8 _ 36 _ h,cell_of_row W R 9 _ 36 _ h,cell_of_row W R 10 _ 36 _ h,cell_of_row W R 11 _ 36 _ h,cell_of_row W R 12 _ 36 _ h,cell_of_row W R 13 _ 36 _ h,cell_of_row W R 14 _ 36 _ h⟩
set_option maxRecDepth 20000 in
theorem around_any {w:World}{R:Nat}{wd h d len:Int}{g p:Value}(length:Int)(kids:Nat)(B:Bun w R 6 wd h d len g p) :
 Calls Tryz.prog 61 #[.pointer (some ⟨R,0,none⟩),.int .i64 length,.int .i64 (kids:Int)] w fun e w'=>e = .returned (ndV (boxN 6 length h d kids))/\Below w.heap.size w w':=by
 obtain⟨b0,b1,b2,b3,b4,b5,b6,b7,b8⟩:=B.cells
 have hR:=B.lt
 go_enter Tryz.func61,Tryz.ntmps61
 go_wp2_with fail
 refine(node_box 6 length h d 0 kids _).mono ?_
 rintro e w1 ⟨rfl,hb1⟩
 have hbx:w1.heap[w.heap.size]?=some (ndO Nd.none):=by
  refine(hb1.block _ (by simp;omega)).trans ?_
  exact(Below.heap_alloc _ _ _ (by simp)).trans (heap_alloc_new w _)
 have HBB:Hid (Below w.heap.size w w1):=hideP (below_more (below2 w _ _) hb1 (by simp;omega))
 have HF:Hid ((fif w1 w.heap.size 6 length h d 0 0 0 0 0 0 0 0 0 ⟨#[]⟩ (kids:Int)).heap[w.heap.size]?=some (ndO ⟨6,length,h,d,0,0,0,0,0,0,0,0,0,⟨#[]⟩,(kids:Int)⟩)/\Below w.heap.size w (fif w1 w.heap.size 6 length h d 0 0 0 0 0 0 0 0 0 ⟨#[]⟩ (kids:Int))):=hideP ⟨fif_heap hbx _ _ _ _ _ _ _ _ _ _ _ _ _ _ _,fif_below HBB.out (Nat.le_refl _) _ _ _ _ _ _ _ _ _ _ _ _ _ _ _⟩
 obtain⟨c0,c1,c2,c3,c4,c5,c6,c7,c8,c9,c10,c11,c12,c13,c14⟩:=nd_cells hbx
 have fR:∀j,w1.frozen? ⟨w.heap.size,j,none⟩=false:=fun j=>frozen_of_row w1 w.heap.size j _ _ hbx
 clear hb1 hbx b0 b1 b2 b3 b4 b5 b6 b7 b8
 go_wp2
 exact bodyPost_ret (v:=ndV ⟨6,length,h,d,0,0,0,0,0,0,0,0,0,⟨#[]⟩,(kids:Int)⟩) (results_one_cell rfl _ _ w.heap.size _ rfl (loadNd HF.out.1)) rfl ⟨rfl,HF.out.2⟩
abbrev ndA (x:Nd):Array Value:=#[.int .i64 x.k,.int .i64 x.wd,.int .i64 x.ht,.int .i64 x.dp,.int .i64 x.sh,.int .i64 x.fo,.int .i64 x.ch,.int .i64 x.nn,.int .i64 x.gs,.int .i64 x.gp,.int .i64 x.gpo,.int .i64 x.gm,.int .i64 x.gmo,.string x.tx,.int .i64 x.kids]
theorem run_bsN (W:World)(x:Nd):(Instr.buildSlice 24 1 #[(0,ndV x)]).run Tryz.prog W = .ok (.slice (some ⟨W.heap.size,0,none⟩) 1 1) (W.alloc (.cells (ndA x) 36)):=by
 obtain⟨k,wd,ht,dp,sh,fo,ch,nn,gs,gp,gpo,gm,gmo,tx,kids⟩:=x
 kernel_rfl
theorem flatN_app:∀xs ys:List Nd,flatN (xs++ys)=flatN xs++flatN ys
 | [],ys=>by simp[flatN]
 | x :: xs,ys=>by simp[flatN,flatN_app xs ys,List.append_assoc]
theorem nn_one {w:World}{g:Nat}{x:Nd}(h:w.heap[g]?=some (ndO x)):NN 0 w (.slice (some ⟨g,0,none⟩) 1 1) [x]:=by
 refine .inr ⟨g,0,1,rfl,Nat.le_refl _,Nat.zero_le _,fun _=>(glt h),fun j u hj=>?_⟩
 rw[Nat.zero_add,cell_of_row _ _ j _ 36 _ h]
 have e:flatN [x]=(ndA x).toList:=by simp[flatN,Nd.cells]
 rw[e] at hj
 simpa using hj
theorem wp_appN {w:World}{o:Oper}{a:Act}{K:Act->World->Prop}{Q:Exit->Act->World->Prop}(s x:Operand)(ho:o.op = .call { callee:= .builtin .append,args:=#[s,x],argTypes:=#[24,24] })
 (base:Nat) (v:Value) (n:Nat) (xs:List Nd) (hs:a.eval s=v) (hown:w.ownsRow base 36 15 v n (flatN xs)) (u:Value) (ys:List Nd) (hx:a.eval x=u) (hp:NN 0 w u ys) (hn:n+ys.length<=5000000) (hbase:base<=w.heap.size)
 (h:∀v' w',w'.ownsRow base 36 15 v' (n+ys.length) (flatN (xs++ys))->w.grownBy w' v.ownBlock->(v'.ownBlock=v.ownBlock\/v'.ownBlock=some w.heap.size)->K (a.put o.dst v') w'):o.wp Tryz.prog a w K Q:=by
 obtain⟨i0,hi,hz0,hz1,hz2⟩:=info_parts Tryz.info57c
 rcases hp with ⟨rfl,rfl⟩ | ⟨b,off,cap,rfl,hc,_,hb,hq⟩
 ·have hrun:=run_append_owned_none (P:=Tryz.prog) (w:=w) base 24 o.type 36 i0 15 Tryz.underlying24 hi v n _ hown
  unfold Oper.wp
  simp[execOp,ho,resolve,invoke,builtin,hs,hx,hrun,Result.andThen]
  exact h v w (by simpa using hown) ⟨rfl,rfl,rfl,Nat.le_refl _,fun _ _ _=>rfl⟩ (.inl rfl)
 ·obtain⟨v',w',hr,h2,h3,h4,h5⟩:=run_append_own_at (P:=Tryz.prog) w base 24 o.type 36 i0 (ndV Nd.none) 15 128 Tryz.underlying24 hi hz0 hz1 hz2 rfl (by decide) v n _ hown ⟨b,off,none⟩ ys.length cap (flatN ys) (flatN_len ys) (fun j u hj=>by
   have h9:=hq j u hj
   unfold Addr.add
   split
   ·rename_i e;have e2:j=0:=by simpa using e
    subst e2;exact h9
   ·exact h9) (flatN_one ys) (by unfold maxLen;omega) (by omega) hbase
  unfold Oper.wp execOp
  simp only[ho,resolve,invoke,builtin,Sem.run_bind,Sem.run_pure,Result.andThen_ok,List.map_toArray,List.map_cons,List.map_nil,hs,hx,hr]
  exact h v' w' (by rw[flatN_app];exact h2) h3 h5
theorem wpList_appN {w:World}{ops:Array Oper}{rest:List Oper}{o:Oper}{a:Act}{Q:Exit->Act->World->Prop}(hgd:o.guard=none)(s x:Operand)(ho:o.op = .call { callee:= .builtin .append,args:=#[s,x],argTypes:=#[24,24] })
 (base:Nat) (v:Value) (n:Nat) (xs:List Nd) (hs:a.eval s=v) (hown:w.ownsRow base 36 15 v n (flatN xs)) (u:Value) (ys:List Nd) (hx:a.eval x=u) (hp:NN 0 w u ys) (hn:n+ys.length<=5000000) (hbase:base<=w.heap.size)
 (h:∀v' w',w'.ownsRow base 36 15 v' (n+ys.length) (flatN (xs++ys))->w.grownBy w' v.ownBlock->(v'.ownBlock=v.ownBlock\/v'.ownBlock=some w.heap.size)->wpList Tryz.prog ops Q rest (a.put o.dst v') w'):wpList Tryz.prog ops Q (o :: rest) a w :=
 wpList_plain hgd fun _ hK=>wp_appN s x ho base v n xs hs hown u ys hx hp hn hbase fun v' w' h2 h3 h4=>hK _ _ (h v' w' h2 h3 h4)
theorem NN.bel {w w':World}{v:Value}{xs:List Nd}(h:NN 0 w v xs)(hb:Below w.heap.size w w'):NN 0 w' v xs:=by
 rcases h with h | ⟨b,off,cap,rfl,h1,h2,h3,h4⟩
 ·exact .inl h
 ·refine .inr ⟨b,off,cap,rfl,h1,h2,fun h=>Nat.lt_of_lt_of_le (h3 h) hb.size,fun j u hj=>?_⟩
  have h0:0<xs.length:=by
   cases xs with
   | nil=>simp[flatN] at hj
   | cons _ _=>simp
  exact(hb.cell (p:=⟨b,off+j,none⟩) (h3 h0)).trans (h4 j u hj)
end Go.Proofs.YtbbehmcekbnkiaaGreat

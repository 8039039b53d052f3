import Derived.Test.YtbbehmcekbnkiaaGreatDrgt
namespace Go.Proofs.YtbbehmcekbnkiaaGreat
open Go.RowKit
set_option linter.unusedVariables false
set_option linter.unusedSimpArgs false
def DN (w wr wi:World)(ao:Option Addr)(len cap R:Nat):Prop:=Cur w wi ao len cap/\Fram w wr wi/\wi.heap[R]?=some (ndO Nd.none)
theorem DN.other {w wr wi wj:World}{ao:Option Addr}{len cap R:Nat}(h:DN w wr wi ao len cap R)(ho:Other w wi wj)(hc:Cur w wj ao len cap)(hR:w.heap.size<R):DN w wr wj ao len cap R :=
 ⟨hc,Fram.other h.2.1 ho hc,(ho R (by omega)).trans h.2.2⟩
theorem DN.fram {w wr wi wj:World}{ao:Option Addr}{len cap R:Nat}(h:DN w wr wi ao len cap R)(ho:Fram w wi wj)(hc:Cur w wj ao len cap)(hR:w.heap.size<R):DN w wr wj ao len cap R :=
 ⟨hc,h.2.1.trans ho,(ho.2 R (glt h.2.2) (by omega)).trans h.2.2⟩
theorem Cur.bel {w wr wj:World}{ao:Option Addr}{len cap:Nat}(h:Cur w wr ao len cap)(hb:Below wr.heap.size wr wj):Cur w wj ao len cap:=by
 obtain⟨i,x,h1,h2,h3,h4⟩:=h
 exact⟨i,x,h1,h2,(hb.block _ (glt h3)).trans h3,below_more h4 hb h4.size⟩
theorem Fram.ofBel {w wr wj:World}(hb:Below wr.heap.size wr wj):Fram w wr wj:=⟨hb.size,fun b hb' _=>hb.block b hb'⟩
theorem DN.bel {w wr wi wj:World}{ao:Option Addr}{len cap R:Nat}(h:DN w wr wi ao len cap R)(hb:Below wi.heap.size wi wj)(hR:w.heap.size<R):DN w wr wj ao len cap R:=h.fram (Fram.ofBel hb) (h.1.bel hb) hR
theorem DN.alloc {w wr wi:World}{ao:Option Addr}{len cap R:Nat}(h:DN w wr wi ao len cap R)(o:Obj)(hR:w.heap.size<R):DN w wr (wi.alloc o) ao len cap R:=h.bel (below1 wi o) hR
theorem DN.fin {w wr wi:World}{ao:Option Addr}{len cap R:Nat}(h:DN w wr wi ao len cap R)(hR:w.heap.size<R)(hr:wr.heap.size<=R)(k wd ht dp sh fo ch nn gs gp gpo gm gmo:Int)(tx:ByteArray)(kids:Int) :
 (fif wi R k wd ht dp sh fo ch nn gs gp gpo gm gmo tx kids).heap[R]?=some (ndO ⟨k,wd,ht,dp,sh,fo,ch,nn,gs,gp,gpo,gm,gmo,tx,kids⟩)/\Cur w (fif wi R k wd ht dp sh fo ch nn gs gp gpo gm gmo tx kids) ao len cap/\Fram w wr (fif wi R k wd ht dp sh fo ch nn gs gp gpo gm gmo tx kids):=by
 refine⟨fif_heap h.2.2 _ _ _ _ _ _ _ _ _ _ _ _ _ _ _,?_,?_⟩
 ·have h1:=h.1
  repeat(first|with_reducible exact h1|(with_reducible refine Cur.set ?_ hR _ _))
 ·have h1:=h.2.1
  repeat(first|with_reducible exact h1|(with_reducible refine Fram.set ?_ hr _ _))
set_option maxRecDepth 20000 in
set_option maxHeartbeats 8000000 in
theorem drawNode_any (ao:Option Addr)(len cap:Nat)(w wr:World)(hB:Bytes w ao len cap)(hC:Cur w wr ao len cap) :
 Calls Tryz.prog 80 #[curP w] wr fun e w'=>∃x:Nd,(e = .returned (ndV x)/\x.tx.size<=2)/\Cur w w' ao len cap/\Fram w wr w':=by
 have HB:=hideD hB
 have D0:Hid (DN w wr (wr.alloc (ndO Nd.none)) ao len cap wr.heap.size):=hideP ⟨hC.alloc _,(Fram.refl w wr).alloc _,heap_alloc_new wr _⟩
 have hRc:w.heap.size<wr.heap.size:=hC.lt
 clear hB hC
 obtain⟨R,hR⟩:=exq (wr.heap.size)
 have hRr:wr.heap.size<=R:=by omega
 rw[<-hR] at D0 hRc
 go_enter Tryz.func80,Tryz.ntmps80
 go_wp2_with fail
 rw[<-hR]
 refine(belowN_any 16 ao len cap w _ HB.out D0.out.1 (by omega) (by omega)).mono ?_
 rintro e w1 ⟨x,rfl,x0,x1,c1,o1⟩
 have D1:=hideP (DN.other D0.out o1 c1 hRc)
 clear D0 c1 o1 hR
 rcases (show x=0\/(x=1\/x=2\/x=3)\/x=4\/x=5\/x=6\/x=7\/8<=x by omega) with hx|hx|hx|hx|hx|hx|hx
 ·subst hx
  go_wp2_with fail
  refine(drawSize_any ao len cap w _ HB.out D1.out.1).mono ?_
  rintro e' w2 ⟨y,rfl,⟨ya,yb⟩,c2,f2⟩
  have D2:=hideP (DN.fram D1.out f2 c2 hRc)
  clear D1 c2 f2
  obtain⟨r0,r1,r2,r3,r4,r5,r6,r7,r8,r9,r10,r11,r12,r13,r14⟩:=nd_15 D2.out.2.2
  have fR:=(ndC_cells D2.out.2.2).2
  have HF:=hideP (DN.fin D2.out hRc hRr 2 (y-262144) 0 0 0 0 0 0 0 0 0 0 0 ⟨#[]⟩ 0)
  clear D2
  go_wp2
  exact bodyPost_ret (v:=ndV ⟨2,y-262144,0,0,0,0,0,0,0,0,0,0,0,⟨#[]⟩,0⟩) (results_cell_row rfl _ _ R 36 _ (0,0) _ rfl HF.out.1 Tryz.underlying36 rfl (by kernel_rfl)) rfl ⟨⟨2,y-262144,0,0,0,0,0,0,0,0,0,0,0,⟨#[]⟩,0⟩,⟨rfl,(by show ByteArray.size ⟨#[]⟩<=2;decide)⟩,HF.out.2⟩
 ·rcases hx with rfl|rfl|rfl
  ·go_wp2_with fail
   refine(draw8Glue_any ao len cap w _ HB.out D1.out.1).mono ?_
   rintro e' w2 ⟨a,b,c,d,f,rfl,c2,f2⟩
   have D2:=hideP (DN.fram D1.out f2 c2 hRc)
   clear D1 c2 f2
   obtain⟨r0,r1,r2,r3,r4,r5,r6,r7,r8,r9,r10,r11,r12,r13,r14⟩:=nd_15 D2.out.2.2
   have fR:=(ndC_cells D2.out.2.2).2
   have HF:=hideP (DN.fin D2.out hRc hRr 3 0 0 0 0 0 0 0 a b c d f ⟨#[]⟩ 0)
   clear D2
   go_wp2
   exact bodyPost_ret (v:=ndV ⟨3,0,0,0,0,0,0,0,a,b,c,d,f,⟨#[]⟩,0⟩) (results_cell_row rfl _ _ R 36 _ (0,0) _ rfl HF.out.1 Tryz.underlying36 rfl (by kernel_rfl)) rfl ⟨⟨3,0,0,0,0,0,0,0,a,b,c,d,f,⟨#[]⟩,0⟩,⟨rfl,(by show ByteArray.size ⟨#[]⟩<=2;decide)⟩,HF.out.2⟩
  ·go_wp2_with fail
   refine(draw8Glue_any ao len cap w _ HB.out D1.out.1).mono ?_
   rintro e' w2 ⟨a,b,c,d,f,rfl,c2,f2⟩
   have D2:=hideP (DN.fram D1.out f2 c2 hRc)
   clear D1 c2 f2
   obtain⟨r0,r1,r2,r3,r4,r5,r6,r7,r8,r9,r10,r11,r12,r13,r14⟩:=nd_15 D2.out.2.2
   have fR:=(ndC_cells D2.out.2.2).2
   have HF:=hideP (DN.fin D2.out hRc hRr 3 0 0 0 0 0 0 0 a b c d f ⟨#[]⟩ 0)
   clear D2
   go_wp2
   exact bodyPost_ret (v:=ndV ⟨3,0,0,0,0,0,0,0,a,b,c,d,f,⟨#[]⟩,0⟩) (results_cell_row rfl _ _ R 36 _ (0,0) _ rfl HF.out.1 Tryz.underlying36 rfl (by kernel_rfl)) rfl ⟨⟨3,0,0,0,0,0,0,0,a,b,c,d,f,⟨#[]⟩,0⟩,⟨rfl,(by show ByteArray.size ⟨#[]⟩<=2;decide)⟩,HF.out.2⟩
  ·go_wp2_with fail
   refine(draw8Glue_any ao len cap w _ HB.out D1.out.1).mono ?_
   rintro e' w2 ⟨a,b,c,d,f,rfl,c2,f2⟩
   have D2:=hideP (DN.fram D1.out f2 c2 hRc)
   clear D1 c2 f2
   obtain⟨r0,r1,r2,r3,r4,r5,r6,r7,r8,r9,r10,r11,r12,r13,r14⟩:=nd_15 D2.out.2.2
   have fR:=(ndC_cells D2.out.2.2).2
   have HF:=hideP (DN.fin D2.out hRc hRr 3 0 0 0 0 0 0 0 a b c d f ⟨#[]⟩ 0)
   clear D2
   go_wp2
   exact bodyPost_ret (v:=ndV ⟨3,0,0,0,0,0,0,0,a,b,c,d,f,⟨#[]⟩,0⟩) (results_cell_row rfl _ _ R 36 _ (0,0) _ rfl HF.out.1 Tryz.underlying36 rfl (by kernel_rfl)) rfl ⟨⟨3,0,0,0,0,0,0,0,a,b,c,d,f,⟨#[]⟩,0⟩,⟨rfl,(by show ByteArray.size ⟨#[]⟩<=2;decide)⟩,HF.out.2⟩
 ·subst hx
  have hsz:w1.heap.size≠w.heap.size:=by have:=D1.out.1.lt;omega
  have DA:=hideP (DN.alloc D1.out (.cells #[.int .i64 0,.int .i64 50,.int .i64 (-50),.int .i64 10000,.int .i64 (-10000),.int .i64 200] 2) hRc)
  have HSL:=hideP (heap_alloc_new w1 (.cells #[.int .i64 0,.int .i64 50,.int .i64 (-50),.int .i64 10000,.int .i64 (-10000),.int .i64 200] 2))
  go_wp2_with fail
  refine(belowN_any 6 ao len cap w _ HB.out DA.out.1 (by omega) (by omega)).mono ?_
  rintro e' w2 ⟨j,rfl,j0,j1,c2,o2⟩
  have D2:=hideP (DN.other DA.out o2 c2 hRc)
  have hsl:=(o2 w1.heap.size hsz).trans HSL.out
  clear D1 DA c2 o2 HSL
  obtain⟨jn,rfl⟩:=Int.eq_ofNat_of_zero_le j0
  obtain⟨v,hcv⟩:∃v:Int,w2.cell? ⟨w1.heap.size,jn,none⟩=some (.int .i64 v):=by
   rw[cell_of_row w2 w1.heap.size jn _ 2 (0,0) hsl]
   rcases (show jn=0\/jn=1\/jn=2\/jn=3\/jn=4\/jn=5 by omega) with rfl|rfl|rfl|rfl|rfl|rfl
   ·exact⟨0,rfl⟩
   ·exact⟨50,rfl⟩
   ·exact⟨-50,rfl⟩
   ·exact⟨10000,rfl⟩
   ·exact⟨-10000,rfl⟩
   ·exact⟨200,rfl⟩
  have hjn:(jn:Int)<6:=j1
  clear hsl hsz
  obtain⟨r0,r1,r2,r3,r4,r5,r6,r7,r8,r9,r10,r11,r12,r13,r14⟩:=nd_15 D2.out.2.2
  have fR:=(ndC_cells D2.out.2.2).2
  have HF:=hideP (DN.fin D2.out hRc hRr 4 0 0 0 0 0 0 v 0 0 0 0 0 ⟨#[]⟩ 0)
  clear D2
  go_wp2
  exact bodyPost_ret (v:=ndV ⟨4,0,0,0,0,0,0,v,0,0,0,0,0,⟨#[]⟩,0⟩) (results_cell_row rfl _ _ R 36 _ (0,0) _ rfl HF.out.1 Tryz.underlying36 rfl (by kernel_rfl)) rfl ⟨⟨4,0,0,0,0,0,0,v,0,0,0,0,0,⟨#[]⟩,0⟩,⟨rfl,(by show ByteArray.size ⟨#[]⟩<=2;decide)⟩,HF.out.2⟩
 ·subst hx
  go_wp2_with fail
  refine(drawSize_any ao len cap w _ HB.out D1.out.1).mono ?_
  rintro e' w2 ⟨y,rfl,⟨ya,yb⟩,c2,f2⟩
  have D2:=hideP (DN.fram D1.out f2 c2 hRc)
  clear D1 c2 f2
  go_wp2_with fail
  refine(drawSize_any ao len cap w _ HB.out D2.out.1).mono ?_
  rintro e' w3 ⟨z,rfl,⟨za,zb⟩,c3,f3⟩
  have D3:=hideP (DN.fram D2.out f3 c3 hRc)
  clear D2 c3 f3
  go_wp2_with fail
  refine(drawSize_any ao len cap w _ HB.out D3.out.1).mono ?_
  rintro e' w4 ⟨u,rfl,⟨ua,ub⟩,c4,f4⟩
  have D4:=hideP (DN.fram D3.out f4 c4 hRc)
  clear D3 c4 f4
  obtain⟨r0,r1,r2,r3,r4,r5,r6,r7,r8,r9,r10,r11,r12,r13,r14⟩:=nd_15 D4.out.2.2
  have fR:=(ndC_cells D4.out.2.2).2
  have HF:=hideP (DN.fin D4.out hRc hRr 5 y z (u / 4) 0 0 0 0 0 0 0 0 0 ⟨#[]⟩ 0)
  clear D4
  go_wp2
  exact bodyPost_ret (v:=ndV ⟨5,y,z,u / 4,0,0,0,0,0,0,0,0,0,⟨#[]⟩,0⟩) (results_cell_row rfl _ _ R 36 _ (0,0) _ rfl HF.out.1 Tryz.underlying36 rfl (by kernel_rfl)) rfl ⟨⟨5,y,z,u / 4,0,0,0,0,0,0,0,0,0,⟨#[]⟩,0⟩,⟨rfl,(by show ByteArray.size ⟨#[]⟩<=2;decide)⟩,HF.out.2⟩
 ·subst hx
  go_wp2_with fail
  refine(belowN_any 3 ao len cap w _ HB.out D1.out.1 (by omega) (by omega)).mono ?_
  rintro e' w2 ⟨j,rfl,ja,jb,c2,o2⟩
  have D2:=hideP (DN.other D1.out o2 c2 hRc)
  clear D1 c2 o2
  obtain⟨jn,rfl⟩:=Int.eq_ofNat_of_zero_le ja
  go_wp2_with fail
  refine(char8_any jn 45 _ (by omega)).mono ?_
  rintro e' w3 ⟨y,⟨rfl,hty⟩,hb3⟩
  have D3:=hideP (DN.bel D2.out hb3 hRc)
  clear D2 hb3
  obtain⟨k1,wd1,ht1,dp1,sh1,fo1,ch1,nn1,gs1,gp1,gpo1,gm1,gmo1,tx1,kids1⟩:=y
  dsimp only at hty
  subst hty
  have hG:w3.heap.size≠R:=by have:=(glt D3.out.2.2);omega
  have hG2:w.heap.size<w3.heap.size:=D3.out.1.lt
  have hG3:wr.heap.size<=w3.heap.size:=by have:=D3.out.2.1.1;omega
  have D4:=hideP (DN.alloc D3.out (ndO ⟨8,wd1,ht1,dp1,sh1,fo1,ch1,nn1,gs1,gp1,gpo1,gm1,gmo1,⟨#[]⟩,kids1⟩) hRc)
  clear D3
  obtain⟨r0,r1,r2,r3,r4,r5,r6,r7,r8,r9,r10,r11,r12,r13,r14⟩:=nd_15 D4.out.2.2
  have fR:=(ndC_cells D4.out.2.2).2
  have HF:=hideP (DN.fin D4.out hRc hRr 8 wd1 ht1 dp1 sh1 fo1 ch1 nn1 gs1 gp1 gpo1 gm1 gmo1 ⟨#[]⟩ kids1)
  clear D4
  go_wp2
  exact bodyPost_ret (v:=ndV ⟨8,wd1,ht1,dp1,sh1,fo1,ch1,nn1,gs1,gp1,gpo1,gm1,gmo1,⟨#[]⟩,kids1⟩) (results_cell_row rfl _ _ R 36 _ (0,0) _ rfl HF.out.1 Tryz.underlying36 rfl (by kernel_rfl)) rfl ⟨⟨8,wd1,ht1,dp1,sh1,fo1,ch1,nn1,gs1,gp1,gpo1,gm1,gmo1,⟨#[]⟩,kids1⟩,⟨rfl,(by show ByteArray.size ⟨#[]⟩<=2;decide)⟩,HF.out.2⟩
 ·subst hx
  go_wp2_with fail
  refine(once_any 2 ao len cap w _ HB.out D1.out.1 (by omega) (by omega)).mono ?_
  rintro e' w2 ⟨bb,rfl,c2,o2⟩
  have D2:=hideP (DN.other D1.out o2 c2 hRc)
  clear D1 c2 o2
  cases bb with
  | true =>
   obtain⟨r0,r1,r2,r3,r4,r5,r6,r7,r8,r9,r10,r11,r12,r13,r14⟩:=nd_15 D2.out.2.2
   have fR:=(ndC_cells D2.out.2.2).2
   have HF:=hideP (DN.fin D2.out hRc hRr 9 0 0 0 0 0 0 0 0 0 0 0 0 ⟨#[109]⟩ 0)
   clear D2
   go_wp2
   exact bodyPost_ret (v:=ndV ⟨9,0,0,0,0,0,0,0,0,0,0,0,0,⟨#[109]⟩,0⟩) (results_cell_row rfl _ _ R 36 _ (0,0) _ rfl HF.out.1 Tryz.underlying36 rfl (by kernel_rfl)) rfl ⟨⟨9,0,0,0,0,0,0,0,0,0,0,0,0,⟨#[109]⟩,0⟩,⟨rfl,(by show ByteArray.size ⟨#[109]⟩<=2;decide)⟩,HF.out.2⟩
  | false =>
   obtain⟨r0,r1,r2,r3,r4,r5,r6,r7,r8,r9,r10,r11,r12,r13,r14⟩:=nd_15 D2.out.2.2
   have fR:=(ndC_cells D2.out.2.2).2
   have HF:=hideP (DN.fin D2.out hRc hRr 10 0 0 0 0 0 0 0 0 0 0 0 0 ⟨#[119,49]⟩ 0)
   clear D2
   go_wp2
   exact bodyPost_ret (v:=ndV ⟨10,0,0,0,0,0,0,0,0,0,0,0,0,⟨#[119,49]⟩,0⟩) (results_cell_row rfl _ _ R 36 _ (0,0) _ rfl HF.out.1 Tryz.underlying36 rfl (by kernel_rfl)) rfl ⟨⟨10,0,0,0,0,0,0,0,0,0,0,0,0,⟨#[119,49]⟩,0⟩,⟨rfl,(by show ByteArray.size ⟨#[119,49]⟩<=2;decide)⟩,HF.out.2⟩
 ·have q0:¬x=0:=by omega
  have q1:¬x=1:=by omega
  have q2:¬x=2:=by omega
  have q3:¬x=3:=by omega
  have q4:¬x=4:=by omega
  have q5:¬x=5:=by omega
  have q6:¬x=6:=by omega
  have q7:¬x=7:=by omega
  go_wp2_with fail
  refine(belowN_any 3 ao len cap w _ HB.out D1.out.1 (by omega) (by omega)).mono ?_
  rintro e' w2 ⟨j,rfl,ja,jb,c2,o2⟩
  have D2:=hideP (DN.other D1.out o2 c2 hRc)
  clear D1 c2 o2
  go_wp2_with fail
  refine(belowN_any 26 ao len cap w _ HB.out D2.out.1 (by omega) (by omega)).mono ?_
  rintro e' w3 ⟨l,rfl,la,lb,c3,o3⟩
  have D3:=hideP (DN.other D2.out o3 c3 hRc)
  clear D2 c3 o3
  obtain⟨jn,rfl⟩:=Int.eq_ofNat_of_zero_le ja
  go_wp2_with fail
  refine(char8_any jn _ _ (by omega)).mono ?_
  rintro e' w4 ⟨y,⟨rfl,hty⟩,hb4⟩
  have D4:=hideP (DN.bel D3.out hb4 hRc)
  clear D3 hb4
  obtain⟨k1,wd1,ht1,dp1,sh1,fo1,ch1,nn1,gs1,gp1,gpo1,gm1,gmo1,tx1,kids1⟩:=y
  dsimp only at hty
  subst hty
  obtain⟨r0,r1,r2,r3,r4,r5,r6,r7,r8,r9,r10,r11,r12,r13,r14⟩:=nd_15 D4.out.2.2
  have fR:=(ndC_cells D4.out.2.2).2
  have HF:=hideP (DN.fin D4.out hRc hRr k1 wd1 ht1 dp1 sh1 fo1 ch1 nn1 gs1 gp1 gpo1 gm1 gmo1 ⟨#[]⟩ kids1)
  clear D4
  go_wp2
  exact bodyPost_ret (v:=ndV ⟨k1,wd1,ht1,dp1,sh1,fo1,ch1,nn1,gs1,gp1,gpo1,gm1,gmo1,⟨#[]⟩,kids1⟩) (results_cell_row rfl _ _ R 36 _ (0,0) _ rfl HF.out.1 Tryz.underlying36 rfl (by kernel_rfl)) rfl ⟨⟨k1,wd1,ht1,dp1,sh1,fo1,ch1,nn1,gs1,gp1,gpo1,gm1,gmo1,⟨#[]⟩,kids1⟩,⟨rfl,(by show ByteArray.size ⟨#[]⟩<=2;decide)⟩,HF.out.2⟩
end Go.Proofs.YtbbehmcekbnkiaaGreat

import Derived.Test.YtbbehmcekbnkiaaGreatSshDt
namespace Go.Proofs.YtbbehmcekbnkiaaGreat.Shr
set_option maxHeartbeats 2000000
set_option maxRecDepth 20000
open Go.RowKit
set_option linter.unusedVariables false
set_option linter.unusedSimpArgs false
theorem specShare_up_zero {v:Value}{gs:List Gl}{w:World}(width target q:Int)(hv bd:Int)(hqs:0<q)(ho:top (tot Gl.p Gl.po gs)=0)(hhv:hv=(tot Gl.p Gl.po gs).getD (top (tot Gl.p Gl.po gs)) 0)(hyes:0<hv)(hbd:bd=badV q hv)(h:GRow w v gs)(hok:glsOk gs=true)(hfw:fitsB width=true)(hft:fitsB target=true)(hq:q=target-width-siz gs) :
 Calls Tryz.prog 90 #[v,.int .i64 width,.int .i64 target] w fun e w'=>(∃v',e = .returned (.tuple #[v',setV 1 0 q hv bd 0])/\Row w' v' (plusL (sizes gs) (stp Gl.p Gl.po 0 q hv gs).2.2))/\Below w.heap.size w w':=by
 have HG:Hid (GRow w v gs):=h
 have HOK:Hid (glsOk gs=true):=hok
 obtain⟨ao,n,cap,rfl,hl,hr⟩:=h
 have heach:=glsOk_each hok
 have hn2:n<=10000:=by have:=heach.1;omega
 have HN:Hid (gs.length<=1048576):=Nat.le_trans heach.1 (by omega)
 have HE:Hid (∀k,k<gs.length->(gs.getD k Gl.none).ok=true):=heach.2
 have hsb:=siz_bound gs (fun k hk=>(ok_bounds (heach.2 k hk)).1) gs.length (Nat.le_refl _)
 rw[List.take_length] at hsb
 have HSB:Hid (-10737418230000<=siz gs/\siz gs<=10737418230000):=by constructor<;>omega
 have HR:Hid (0<n->∃b off,ao=some ⟨b,off,none⟩/\b<w.heap.size/\∀i,i<n->w.cell? ⟨b,off+i*5,none⟩=some (.int .i64 (gs.getD i Gl.none).s)/\w.cell? ⟨b,off+i*5+1,none⟩=some (.int .i64 (gs.getD i Gl.none).p)/\w.cell? ⟨b,off+i*5+2,none⟩=some (.int .i64 (gs.getD i Gl.none).po)/\w.cell? ⟨b,off+i*5+3,none⟩=some (.int .i64 (gs.getD i Gl.none).m)/\w.cell? ⟨b,off+i*5+4,none⟩=some (.int .i64 (gs.getD i Gl.none).mo)):=hr
 have HL:Hid (gs.length=n):=hl
 have hfb1 : -1073741823<=width/\width<=1073741823:=of_decide_eq_true hfw
 have hfb2 : -1073741823<=target/\target<=1073741823:=of_decide_eq_true hft
 obtain⟨hwi1,hwi2⟩:=hfb1
 obtain⟨hta1,hta2⟩:=hfb2
 have HFF:Hid (fitsB width=true/\fitsB target=true):=⟨hfw,hft⟩
 clear hr hl hok heach hsb hfw hft
 have hbp:=stp_bound Gl.p Gl.po 0 q hv gs (fun k hk=>(ok_bounds (HE k hk)).2.1)
 rw[show gs.length=n from HL] at hbp
 have HBP:Hid _:=hbp
 clear hbp
 have htv:=tot_have Gl.p Gl.po gs (show gs.length<=10000 by rw[show gs.length=n from HL];exact hn2) (fun k hk=>(ok_bounds (HE k hk)).2.1) (top (tot Gl.p Gl.po gs))
 rw[<-hhv] at htv
 obtain⟨htv1,htv2⟩:=htv
 have HBD:Hid (bd=badV q hv):=hbd
 clear hbd
 obtain⟨i0,hi,hz0,hz1,hz2⟩:=info_parts Tryz.info2
 go_enter Tryz.func90,Tryz.ntmps90
 go_wp2_with fail
 refine(specGlues_any (GRow.below HG ((Below.refl _ _).alloc (Nat.le_refl _) _)) HN).mono ?_
 rintro e w1 ⟨rfl,hb1⟩
 rw[show glsOk gs=true from HOK]
 have H1:Hid (w1.heap[w.heap.size]?=some (setO 0 0 0 0 0 0)/\Below w.heap.size w w1):=⟨block_keep (heap_alloc_new w _) hb1,((Below.refl _ _).alloc (Nat.le_refl _) _).trans (hb1.mono (by simp))⟩
 clear hb1
 go_wp2_with fail
 refine(specFits_any width _).mono ?_
 rintro e w2 ⟨rfl,hw2⟩
 have hw2':=hw2.symm
 clear hw2
 subst hw2'
 rw[HFF.1]
 go_wp2_with fail
 refine(specFits_any target _).mono ?_
 rintro e w2 ⟨rfl,hw2⟩
 have hw2':=hw2.symm
 clear hw2
 subst hw2'
 rw[HFF.2]
 go_wp2_with fail
 refine(specSum_any (GRow.below HG H1.2) HN).mono ?_
 rintro e w3 ⟨⟨v1,v2,rfl,hR1,hR2⟩,hb3⟩
 rw[show sumN gs=siz gs by simp[sumN,show glsOk gs=true from HOK]]
 rw[show sumP gs=tot Gl.p Gl.po gs by simp[sumP,show glsOk gs=true from HOK]] at hR1
 rw[show sumM gs=tot Gl.m Gl.mo gs by simp[sumM,show glsOk gs=true from HOK]] at hR2
 obtain⟨z,hz⟩:=exq (siz gs)
 rw[<-hz] at hq HSB ⊢
 have hsb1 : -10737418230000<=z:=HSB.1
 have hsb2:z<=10737418230000:=HSB.2
 clear hz HSB
 obtain⟨R,hR⟩:=exq (w.heap.size)
 have H3:Hid (w3.heap[R]?=some (setO 0 0 0 0 0 0)/\Below w.heap.size w w3/\Row w3 v1 (tot Gl.p Gl.po gs)/\Row w3 v2 (tot Gl.m Gl.mo gs)/\w.heap.size<=R):=⟨by rw[hR];exact block_keep H1.1 hb3,H1.2.trans (hb3.mono H1.2.size),hR1,hR2,by omega⟩
 rw[<-hR]
 clear hR hR1 hR2 hb3 H1
 have HAT:Hid ((w3.alloc (.cells #[] 2)).ownsRow w3.heap.size 2 1 (.slice (some ⟨w3.heap.size,0,none⟩) 0 0) 0 ((sizes (gs.take 0)).map (Value.int .i64))/\Below w3.heap.size w3 (w3.alloc (.cells #[] 2))) :=
  ⟨World.ownsRow_lit w3 #[] 0 (Nat.le_refl _) (by decide) rfl,(Below.refl _ _).alloc (Nat.le_refl _) _⟩
 go_wp2_with fail
 go_loopw [11,12] (fun s11 s12 wr=>∃k:Nat,k<=n/\s12 = .int .i64 k/\wr.ownsRow w3.heap.size 2 1 s11 k ((sizes (gs.take k)).map (Value.int .i64))/\s11≠ .slice none 0 0/\Below w3.heap.size w3 wr) (fun _ s _=>n-(intOf s).toNat)
 case atStart=>exact⟨0,by omega,rfl,HAT.1,by simp,HAT.2⟩
 case round =>
  obtain⟨k,hk,rfl,hown,hnil,hbel⟩:=hrel
  have hlen:gs.length=n:=HL
  by_cases hkn:k<n
  ·have hki:(k:Int)<(n:Int):=by omega
   obtain⟨b,off,rfl,hb,hc⟩:=HR (by omega)
   obtain⟨t,ht⟩:=exq ((gs.getD k Gl.none).s)
   have hc0:=(hc k hkn).1
   rw[<-ht] at hc0
   have HEQ:Hid (sizes (gs.take (k+1))=sizes (gs.take k)++[t]):=by rw[sizes_snoc (by omega),<-ht];trivial
   have hb3:b<w3.heap.size:=Nat.lt_of_lt_of_le hb H3.2.1.size
   have g0:=(hbel.cell (p:=⟨b,off+k*5,none⟩) hb3).trans ((H3.2.1.cell (p:=⟨b,off+k*5,none⟩) hb).trans hc0)
   have HOWN:Hid (wr.ownsRow w3.heap.size 2 1 _ k ((sizes (gs.take k)).map (Value.int .i64))):=hown
   have HBEL:Hid (Below w3.heap.size w3 wr):=hbel
   have hz:=hbel.size
   clear hc hc0 ht hown hbel hnil
   go_wp2_with (at_builtin;refine wpList_append_own _ rfl _ _ 54 rfl w3.heap.size 2 i0 (.int .i64 0) 1 8 Tryz.underlying54 hi hz0 hz1 hz2 rfl (by decide) _ _ _ rfl (World.ownsRow.alloc HOWN _) ⟨wr.heap.size,0,none⟩ 1 1 [.int .i64 t] rfl rfl ?c1 ?c2 ?c3 ?c4 ?c5 ?_)
   case c1 =>
    intro j u hj
    match j,hj with
    | 0,hj=>simp at hj;subst hj;simp[Addr.add]
   case c2=>intro u hu;simp at hu;subst hu;rfl
   case c3=>unfold maxLen;omega
   case c4=>omega
   case c5=>simp;omega
   intro v' w4 hown' hgrow hnil'
   have hb4:Below w3.heap.size w3 w4:=Below.grown (Below.alloc HBEL hz _) hgrow (by simp;omega) (fun r hr=>(World.ownsRow.lt HOWN r hr).1)
   have HF:Hid (w4.ownsRow w3.heap.size 2 1 v' (k+1) ((sizes (gs.take (k+1))).map (Value.int .i64))/\v'≠ .slice none 0 0/\Below w3.heap.size w3 w4):=by
    refine⟨?_,hnil',hb4⟩
    rw[show sizes (gs.take (k+1))=sizes (gs.take k)++[t] from HEQ,List.map_append]
    exact hown'
   clear hown' hgrow hnil' hb4 HOWN HBEL
   go_wp2
   go_roundw
   case rel=>exact⟨k+1,by omega,by go_num,HF⟩
   case measure=>simp[intOf];omega
  ·have hki:¬(k:Int)<(n:Int):=by omega
   obtain rfl:k=n:=by omega
   have et:gs.take k=gs:=by rw[<-hlen,List.take_length]
   rw[et] at hown
   obtain⟨g,cp,rfl,hg3⟩:=own_slice hown hnil
   have R4:=block_keep H3.1 hbel
   have hRl:R<wr.heap.size:=(glt R4)
   have hR3:R<w3.heap.size:=(glt H3.1)
   have hgl:=ownsRow_block hown
   have hgR:g≠R:=by omega
   have hRw:w.heap.size<=R:=H3.2.2.2.2
   have hgw:w.heap.size<=g:=by omega
   have HX:Hid (wr.heap[R]?=some (setO 0 0 0 0 0 0)/\wr.ownsRow w3.heap.size 2 1 (.slice (some ⟨g,0,none⟩) k cp) k ((sizes gs).map (Value.int .i64))/\Below w.heap.size w wr/\Row wr v1 (tot Gl.p Gl.po gs)/\Row wr v2 (tot Gl.m Gl.mo gs)):=⟨R4,hown,H3.2.1.trans (hbel.mono H3.2.1.size),H3.2.2.1.below hbel,H3.2.2.2.1.below hbel⟩
   clear hown hnil hbel et R4 HAT
   have hws:IntKind.i64.wrap (width+z)=width+z:=by rw[IntKind.wrap_i64];omega
   have hsl:(sizes gs).length=k:=by simp[sizes];exact hlen
   have HSL:Hid ((sizes gs).length=k):=hsl
   clear hsl
   have hne:¬width+z=target:=by omega
   have hgt:¬target<width+z:=by omega
   have hwq:IntKind.i64.wrap (target-(width+z))=q:=by rw[IntKind.wrap_i64];omega
   have hq9:q<=9223372036854775807:=by omega
   have hrow:=HX.2.2.2.1
   have hrow0:Hid (Row wr v1 (tot Gl.p Gl.po gs)):=hrow
   obtain⟨at0,nt,ct,rfl,hnt,hrt⟩:=hrow
   obtain rfl:nt=4:=by rw[tot_length] at hnt;exact hnt.symm
   obtain⟨bt,ot,rfl,hbt,hct⟩:=hrt (by omega)
   have hcell:wr.cell? ⟨bt,ot,none⟩=some (.int .i64 hv):=by have:=hct 0 (by omega);rw[hhv,ho];exact this
   have hnle:¬hv<=0:=by omega
   have HT:Hid (top (tot Gl.p Gl.po gs)=0):=ho
   clear hq hnt hrt hct hhv ho
   go_wp2_with fail
   refine(specTop_any (Row.below hrow0 ((Below.refl _ _).alloc (Nat.le_refl _) _)) (tot_length _ _ _)).mono ?_
   rintro e w5 ⟨rfl,hw5⟩
   have hw5':=hw5.symm
   clear hw5
   subst hw5'
   rw[show top (tot Gl.p Gl.po gs)=0 from HT]
   rw[show ((0:Nat):Int)=0 from rfl]
   go_wp2_with fail
   refine(specBad_any q hv _ (by omega) (by omega)).mono ?_
   rintro e w6 ⟨rfl,hb6⟩
   rw[<-show bd=badV q hv from HBD]
   have R6:=block_keep ((Below.heap_alloc wr (.cells #[.int .i64 1,.int .i64 0,.int .i64 q,.int .i64 hv,.int .i64 0,.int .i64 0] 28) _ hRl).trans HX.1) hb6
   have S6:=block_keep (heap_alloc_new wr (.cells #[.int .i64 1,.int .i64 0,.int .i64 q,.int .i64 hv,.int .i64 0,.int .i64 0] 28)) hb6
   have O6:=owns_keep (World.ownsRow.alloc HX.2.1 (.cells #[.int .i64 1,.int .i64 0,.int .i64 q,.int .i64 hv,.int .i64 0,.int .i64 0] 28)) hb6
   have B6:Below w.heap.size w w6:=(Below.alloc HX.2.2.1 HX.2.2.1.size (.cells #[.int .i64 1,.int .i64 0,.int .i64 q,.int .i64 hv,.int .i64 0,.int .i64 0] 28)).trans (hb6.mono (by have:=HX.2.2.1.size;simp;omega))
   obtain⟨u0,u1,u2,u3,u4,u5⟩:=set_cells S6
   have fS:∀j,w6.frozen? ⟨wr.heap.size,j,none⟩=false:=fun j=>frozen_of_row w6 wr.heap.size j _ _ S6
   have hww:=HX.2.2.1.size
   have F0:Hid ((w6.setCell ⟨wr.heap.size,4,none⟩ (.int .i64 bd)).heap[R]?=some (setO 0 0 0 0 0 0)/\(w6.setCell ⟨wr.heap.size,4,none⟩ (.int .i64 bd)).heap[wr.heap.size]?=some (setO 1 0 q hv bd 0)/\(w6.setCell ⟨wr.heap.size,4,none⟩ (.int .i64 bd)).ownsRow w3.heap.size 2 1 (.slice (some ⟨g,0,none⟩) k cp) k ((sizes gs).map (Value.int .i64))/\Below w.heap.size w (w6.setCell ⟨wr.heap.size,4,none⟩ (.int .i64 bd))) :=
    ⟨(Below.heap_setCell _ _ _ _ (by simp;omega)).trans R6,heap_setCell_same w6 wr.heap.size 4 _ 28 _ S6,owns_heap O6 (Below.heap_setCell _ _ _ _ (by simp;omega)),B6.setCell (p:=⟨wr.heap.size,4,none⟩) hww _⟩
   clear R6 S6 O6 B6 hb6 HBD
   clear HX hrow0
   go_wp2
   clear u0 u1 u2 u3 u4 u5 fS
   obtain⟨S,hS⟩:=exq (wr.heap.size)
   have F1:Hid ((w6.setCell ⟨S,4,none⟩ (.int .i64 bd)).heap[R]?=some (setO 0 0 0 0 0 0)/\(w6.setCell ⟨S,4,none⟩ (.int .i64 bd)).heap[S]?=some (setO 1 0 q hv bd 0)/\(w6.setCell ⟨S,4,none⟩ (.int .i64 bd)).ownsRow w3.heap.size 2 1 (.slice (some ⟨g,0,none⟩) k cp) k ((sizes gs).map (Value.int .i64))/\Below w.heap.size w (w6.setCell ⟨S,4,none⟩ (.int .i64 bd))):=by rw[hS];exact F0
   rw[<-hS]
   have hSg:S≠g:=by omega
   have hSR:S≠R:=by omega
   have hSw:w.heap.size<=S:=by omega
   clear F0 hS hbt hcell hRl hgl hR3 hg3
   clear hne hgt hws hwq
   go_loopw [18,19,20] (fun s18 s19 s20 wx=>∃(j:Nat) (ys:List Int),j<=k/\s20 = .int .i64 j/\s18 = .int .i64 (stp Gl.p Gl.po 0 q hv (gs.take j)).1/\s19 = .int .i64 (stp Gl.p Gl.po 0 q hv (gs.take j)).2.1/\ys.length=k/\(∀i,i<j->ys.getD i 0=(sizes gs).getD i 0+(stp Gl.p Gl.po 0 q hv (gs.take j)).2.2.getD i 0)/\(∀i,j<=i->ys.getD i 0=(sizes gs).getD i 0)/\
    wx.heap[R]?=some (setO 0 0 0 0 0 0)/\wx.heap[S]?=some (setO 1 0 q hv bd 0)/\wx.ownsRow w3.heap.size 2 1 (.slice (some ⟨g,0,none⟩) k cp) k (ys.map (Value.int .i64))/\Below w.heap.size w wx) (fun _ _ s _=>k-(intOf s).toNat)
   case atStart=>exact⟨0,sizes gs,by omega,rfl,rfl,rfl,HSL,fun i hi=>by omega,fun i _=>rfl,F1⟩
   case round =>
    obtain⟨j,ys,hj,rfl,rfl,rfl,hyl,hy1,hy2,hxR,hxS,hxO,hxB⟩:=hrel
    obtain⟨bd1,bd2,bd3,bd4⟩:=HBP j hj
    by_cases hjn:j<k
    ·have hji:(j:Int)<(k:Int):=by omega
     obtain⟨b,off,rfl,hb,hc⟩:=HR (by omega)
     obtain⟨t,ht⟩:=exq (gs.getD j Gl.none)
     obtain⟨hc0,hc1,hc2,hc3,hc4⟩:=hc j hjn
     rw[<-ht] at hc0 hc1 hc2 hc3 hc4
     have hob:=ok_bounds (HE j (by omega))
     rw[<-ht] at hob
     have hzb:=hob.1
     have hfb : -1073741823<=t.p/\t.p<=1073741823:=hob.2.1
     have hzt:(sizes gs).getD j 0=t.s:=by rw[sizes_at (by omega),<-ht]
     obtain⟨st,hst⟩:=exq (stp Gl.p Gl.po 0 q hv (gs.take j))
     have eyes:t.po=0->stp Gl.p Gl.po 0 q hv (gs.take (j+1))=(st.1+t.p,cut q (st.1+t.p) hv,st.2.2++[cut q (st.1+t.p) hv-st.2.1]):=fun hh=>by rw[take_snoc (by omega),<-ht,stp_yes hh,<-hst]
     have eno:t.po≠0->stp Gl.p Gl.po 0 q hv (gs.take (j+1))=(st.1,st.2.1,st.2.2++[0]):=fun hh=>by rw[take_snoc (by omega),<-ht,stp_no hh,<-hst]
     rw[<-hst] at bd1 bd2 bd3 bd4 hy1 ⊢
     clear hst
     obtain⟨s0,d0,ps⟩:=st
     simp only at bd1 bd2 bd3 bd4 hy1 eyes eno ⊢
     have HY:Hid (t.po=0->stp Gl.p Gl.po 0 q hv (gs.take (j+1))=(s0+t.p,cut q (s0+t.p) hv,ps++[cut q (s0+t.p) hv-d0])):=eyes
     have HNO:Hid (t.po≠0->stp Gl.p Gl.po 0 q hv (gs.take (j+1))=(s0,d0,ps++[0])):=eno
     have g1:=(hxB.cell (p:=⟨b,off+j*5+1,none⟩) hb).trans hc1
     have g2:=(hxB.cell (p:=⟨b,off+j*5+2,none⟩) hb).trans hc2
     have g3:=(hxB.cell (p:=⟨b,off+j*5+3,none⟩) hb).trans hc3
     have g4:=(hxB.cell (p:=⟨b,off+j*5+4,none⟩) hb).trans hc4
     obtain⟨u0,u1,u2,u3,u4,u5⟩:=set_cells hxS
     have HD:Hid (ys.length=k/\ps.length=j/\(∀i,i<j->ys.getD i 0=(sizes gs).getD i 0+ps.getD i 0)/\(∀i,j<=i->ys.getD i 0=(sizes gs).getD i 0)/\(sizes gs).getD j 0=t.s):=⟨hyl,bd3,hy1,hy2,hzt⟩
     have H2:Hid (wr.heap[R]?=some (setO 0 0 0 0 0 0)/\wr.heap[S]?=some (setO 1 0 q hv bd 0)/\wr.ownsRow w3.heap.size 2 1 (.slice (some ⟨g,0,none⟩) k cp) k (ys.map (Value.int .i64))/\Below w.heap.size w wr):=⟨hxR,hxS,hxO,hxB⟩
     clear hc hc0 hc1 hc2 hc3 hc4 ht hxR hxS hxO hxB eyes eno hob bd3 bd4 hyl hy1 hy2 hzt
     by_cases hord:t.po=0
     ·have hw2:IntKind.i64.wrap (s0+t.p)=s0+t.p:=by rw[IntKind.wrap_i64];omega
      have hcl:=cut_le q (s0+t.p) hv
      go_wp2_with fail
      refine(specCut_any q (s0+t.p) hv _ (by omega) (by omega) (by omega) (by omega) (by omega) (by omega)).mono ?_
      rintro e w7 ⟨rfl,hb7⟩
      obtain⟨cc,hcc⟩:=exq (cut q (s0+t.p) hv)
      rw[<-hcc] at hcl ⊢
      obtain⟨df,hdf⟩:=exq (cc-d0)
      have hwA:IntKind.i64.wrap (cc-d0)=df:=by rw[IntKind.wrap_i64];omega
      have hwB:IntKind.i64.wrap (1*df)=df:=by rw[IntKind.wrap_i64];omega
      obtain⟨xx,hxx⟩:=exq (t.s+df)
      have hwC:IntKind.i64.wrap (t.s+df)=xx:=by rw[IntKind.wrap_i64];omega
      have HWX:Hid (wrap64 (t.s+wrap64 df)=xx):=by show wrap64 (t.s+wrap64 df)=xx;unfold wrap64;omega
      have R7:=block_keep H2.1 hb7
      have S7:=block_keep H2.2.1 hb7
      have O7:=owns_keep H2.2.2.1 hb7
      have B7:Below w.heap.size w w7:=H2.2.2.2.trans (hb7.mono H2.2.2.2.size)
      clear u0 u1 u2 u3 u4 u5
      obtain⟨u0,u1,u2,u3,u4,u5⟩:=set_cells S7
      have cg:w7.cell? ⟨g,j,none⟩=some (.int .i64 t.s):=by
       have:=owns_cell O7 j hjn
       rw[HD.2.2.2.1 j (Nat.le_refl _),HD.2.2.2.2] at this
       exact this
      have fg:w7.frozen? ⟨g,j,none⟩=false:=World.ownsRow.frozenAt O7 j
      have HF:Hid ((w7.setCell ⟨g,j,none⟩ (.int .i64 xx)).drew.heap[R]?=some (setO 0 0 0 0 0 0)/\(w7.setCell ⟨g,j,none⟩ (.int .i64 xx)).drew.heap[S]?=some (setO 1 0 q hv bd 0)/\(w7.setCell ⟨g,j,none⟩ (.int .i64 xx)).drew.ownsRow w3.heap.size 2 1 (.slice (some ⟨g,0,none⟩) k cp) k ((ys.set j xx).map (Value.int .i64))/\Below w.heap.size w (w7.setCell ⟨g,j,none⟩ (.int .i64 xx)).drew):=by
       refine⟨(drew_heap _ _).trans ((Below.heap_setCell _ _ _ _ (Ne.symm hgR)).trans R7),(drew_heap _ _).trans ((Below.heap_setCell _ _ _ _ hSg).trans S7),?_,(B7.setCell (p:=⟨g,j,none⟩) hgw _).drew⟩
       rw[List.map_set]
       exact owns_keep (World.ownsRow.stored O7 j _).1 (Below.refl _ _).drew
      have HE2:Hid (stp Gl.p Gl.po 0 q hv (gs.take (j+1))=(s0+t.p,cc,ps++[df])/\xx=t.s+df):=by
       have:=HY hord
       rw[<-hcc,<-hdf] at this
       exact⟨this,hxx⟩
      clear R7 S7 O7 B7 hb7 H2 hcc hdf hxx HY HNO
      go_wp2
      go_region
      all_goals(try go_wp2)
      all_goals
       go_roundw
       case rel =>
        rw[show wrap64 (t.s+wrap64 df)=xx from HWX]
        refine⟨j+1,ys.set j xx,by omega,by go_num,by rw[HE2.1],by rw[HE2.1],by simp;exact HD.1,fun i hi=>?_,fun i hi=>?_,HF⟩
        ·rw[HE2.1]
         by_cases hij:i=j
         ·subst hij
          rw[getD_set_same (by rw[HD.1];omega),getD_snoc_same HD.2.1,HD.2.2.2.2]
          exact HE2.2
         ·rw[getD_set_other (Ne.symm hij),getD_snoc_lt (by rw[HD.2.1];omega)]
          exact HD.2.2.1 i (by omega)
        ·rw[getD_set_other (by omega)]
         exact HD.2.2.2.1 i (by omega)
       case measure=>simp[intOf];omega
     ·go_wp2
      go_roundw
      case rel =>
       have hno:=HNO hord
       refine⟨j+1,ys,by omega,by go_num,by rw[hno],by rw[hno],HD.1,fun i hi=>?_,fun i hi=>HD.2.2.2.1 i (by omega),H2⟩
       rw[hno]
       by_cases hij:i=j
       ·subst hij
        rw[HD.2.2.2.1 i (Nat.le_refl _),getD_snoc_same HD.2.1]
        omega
       ·rw[getD_snoc_lt (by rw[HD.2.1];omega)]
        exact HD.2.2.1 i (by omega)
      case measure=>simp[intOf];omega
    ·have hji:¬(j:Int)<(k:Int):=by omega
     obtain rfl:j=k:=by omega
     have et:gs.take j=gs:=by rw[<-hlen,List.take_length]
     rw[et] at hy1
     have hye:ys=plusL (sizes gs) (stp Gl.p Gl.po 0 q hv gs).2.2:=getD_ext (by rw[plusL_length,hyl];exact(show (sizes gs).length=j from HSL).symm) fun i hi=>by rw[hy1 i (by omega),plusL_at (by rw[show (sizes gs).length=j from HSL];omega)]
     rw[hye] at hxO hyl
     obtain⟨u0,u1,u2,u3,u4,u5⟩:=set_cells hxS
     obtain⟨r0,r1,r2,r3,r4,r5⟩:=set_cells hxR
     have fR:∀i,wr.frozen? ⟨R,i,none⟩=false:=fun i=>frozen_of_row wr R i _ _ hxR
     have hgx:=ownsRow_block hxO
     have HF:Hid ((six wr R 1 0 q hv bd 0).drew.heap[R]?=some (setO 1 0 q hv bd 0)/\Row (six wr R 1 0 q hv bd 0).drew (.slice (some ⟨g,0,none⟩) j cp) (plusL (sizes gs) (stp Gl.p Gl.po 0 q hv gs).2.2)/\Below w.heap.size w (six wr R 1 0 q hv bd 0).drew) :=
      ⟨(drew_heap _ _).trans (six_heap hxR 1 0 q hv bd 0),Row.below (Row.own (owns_heap hxO (six_same hgR _ _ _ _ _ _)) hyl (by simpa [World.setCell] using hgx)) (Below.refl _ _).drew,((six_fr (Fr.below (Fr.refl g w) hxB) hRw _ _ _ _ _ _).toBelow hgw (Nat.le_refl _)).drew⟩
     clear hxR hxS hxO hxB hye hy1 hy2 hyl bd1 bd2 bd3 bd4 et hgx
     go_wp2
     go_region
     all_goals(try go_wp2)
     all_goals exact bodyPost_ret (v:= .tuple #[.slice (some ⟨g,0,none⟩) j cp,setV 1 0 q hv bd 0]) (results_tmp_cell rfl _ _ R _ _ rfl rfl (loadSet HF.1)) rfl ⟨⟨_,rfl,HF.2.1⟩,HF.2.2⟩
theorem specShare_down_zero {v:Value}{gs:List Gl}{w:World}(width target q:Int)(hv bd:Int)(p:Int)(hpq:p = -q)(hqs:q<0)(ho:top (tot Gl.m Gl.mo gs)=0)(hhv:hv=(tot Gl.m Gl.mo gs).getD (top (tot Gl.m Gl.mo gs)) 0)(hyes:0<hv)(hge:p<=hv)(hbd:bd=badV p hv)(h:GRow w v gs)(hok:glsOk gs=true)(hfw:fitsB width=true)(hft:fitsB target=true)(hq:q=target-width-siz gs) :
 Calls Tryz.prog 90 #[v,.int .i64 width,.int .i64 target] w fun e w'=>(∃v',e = .returned (.tuple #[v',setV (-1) 0 p hv bd 0])/\Row w' v' (minusL (sizes gs) (stp Gl.m Gl.mo 0 p hv gs).2.2))/\Below w.heap.size w w':=by
 have HG:Hid (GRow w v gs):=h
 have HOK:Hid (glsOk gs=true):=hok
 obtain⟨ao,n,cap,rfl,hl,hr⟩:=h
 have heach:=glsOk_each hok
 have hn2:n<=10000:=by have:=heach.1;omega
 have HN:Hid (gs.length<=1048576):=Nat.le_trans heach.1 (by omega)
 have HE:Hid (∀k,k<gs.length->(gs.getD k Gl.none).ok=true):=heach.2
 have hsb:=siz_bound gs (fun k hk=>(ok_bounds (heach.2 k hk)).1) gs.length (Nat.le_refl _)
 rw[List.take_length] at hsb
 have HSB:Hid (-10737418230000<=siz gs/\siz gs<=10737418230000):=by constructor<;>omega
 have HR:Hid (0<n->∃b off,ao=some ⟨b,off,none⟩/\b<w.heap.size/\∀i,i<n->w.cell? ⟨b,off+i*5,none⟩=some (.int .i64 (gs.getD i Gl.none).s)/\w.cell? ⟨b,off+i*5+1,none⟩=some (.int .i64 (gs.getD i Gl.none).p)/\w.cell? ⟨b,off+i*5+2,none⟩=some (.int .i64 (gs.getD i Gl.none).po)/\w.cell? ⟨b,off+i*5+3,none⟩=some (.int .i64 (gs.getD i Gl.none).m)/\w.cell? ⟨b,off+i*5+4,none⟩=some (.int .i64 (gs.getD i Gl.none).mo)):=hr
 have HL:Hid (gs.length=n):=hl
 have hfb1 : -1073741823<=width/\width<=1073741823:=of_decide_eq_true hfw
 have hfb2 : -1073741823<=target/\target<=1073741823:=of_decide_eq_true hft
 obtain⟨hwi1,hwi2⟩:=hfb1
 obtain⟨hta1,hta2⟩:=hfb2
 have HFF:Hid (fitsB width=true/\fitsB target=true):=⟨hfw,hft⟩
 clear hr hl hok heach hsb hfw hft
 have hbp:=stp_bound Gl.m Gl.mo 0 p hv gs (fun k hk=>(ok_bounds (HE k hk)).2.2.1)
 rw[show gs.length=n from HL] at hbp
 have HBP:Hid _:=hbp
 clear hbp
 have htv:=tot_have Gl.m Gl.mo gs (show gs.length<=10000 by rw[show gs.length=n from HL];exact hn2) (fun k hk=>(ok_bounds (HE k hk)).2.2.1) (top (tot Gl.m Gl.mo gs))
 rw[<-hhv] at htv
 obtain⟨htv1,htv2⟩:=htv
 have HBD:Hid (bd=badV p hv):=hbd
 clear hbd
 obtain⟨i0,hi,hz0,hz1,hz2⟩:=info_parts Tryz.info2
 go_enter Tryz.func90,Tryz.ntmps90
 go_wp2_with fail
 refine(specGlues_any (GRow.below HG ((Below.refl _ _).alloc (Nat.le_refl _) _)) HN).mono ?_
 rintro e w1 ⟨rfl,hb1⟩
 rw[show glsOk gs=true from HOK]
 have H1:Hid (w1.heap[w.heap.size]?=some (setO 0 0 0 0 0 0)/\Below w.heap.size w w1):=⟨block_keep (heap_alloc_new w _) hb1,((Below.refl _ _).alloc (Nat.le_refl _) _).trans (hb1.mono (by simp))⟩
 clear hb1
 go_wp2_with fail
 refine(specFits_any width _).mono ?_
 rintro e w2 ⟨rfl,hw2⟩
 have hw2':=hw2.symm
 clear hw2
 subst hw2'
 rw[HFF.1]
 go_wp2_with fail
 refine(specFits_any target _).mono ?_
 rintro e w2 ⟨rfl,hw2⟩
 have hw2':=hw2.symm
 clear hw2
 subst hw2'
 rw[HFF.2]
 go_wp2_with fail
 refine(specSum_any (GRow.below HG H1.2) HN).mono ?_
 rintro e w3 ⟨⟨v1,v2,rfl,hR1,hR2⟩,hb3⟩
 rw[show sumN gs=siz gs by simp[sumN,show glsOk gs=true from HOK]]
 rw[show sumP gs=tot Gl.p Gl.po gs by simp[sumP,show glsOk gs=true from HOK]] at hR1
 rw[show sumM gs=tot Gl.m Gl.mo gs by simp[sumM,show glsOk gs=true from HOK]] at hR2
 obtain⟨z,hz⟩:=exq (siz gs)
 rw[<-hz] at hq HSB ⊢
 have hsb1 : -10737418230000<=z:=HSB.1
 have hsb2:z<=10737418230000:=HSB.2
 clear hz HSB
 obtain⟨R,hR⟩:=exq (w.heap.size)
 have H3:Hid (w3.heap[R]?=some (setO 0 0 0 0 0 0)/\Below w.heap.size w w3/\Row w3 v1 (tot Gl.p Gl.po gs)/\Row w3 v2 (tot Gl.m Gl.mo gs)/\w.heap.size<=R):=⟨by rw[hR];exact block_keep H1.1 hb3,H1.2.trans (hb3.mono H1.2.size),hR1,hR2,by omega⟩
 rw[<-hR]
 clear hR hR1 hR2 hb3 H1
 have HAT:Hid ((w3.alloc (.cells #[] 2)).ownsRow w3.heap.size 2 1 (.slice (some ⟨w3.heap.size,0,none⟩) 0 0) 0 ((sizes (gs.take 0)).map (Value.int .i64))/\Below w3.heap.size w3 (w3.alloc (.cells #[] 2))) :=
  ⟨World.ownsRow_lit w3 #[] 0 (Nat.le_refl _) (by decide) rfl,(Below.refl _ _).alloc (Nat.le_refl _) _⟩
 go_wp2_with fail
 go_loopw [11,12] (fun s11 s12 wr=>∃k:Nat,k<=n/\s12 = .int .i64 k/\wr.ownsRow w3.heap.size 2 1 s11 k ((sizes (gs.take k)).map (Value.int .i64))/\s11≠ .slice none 0 0/\Below w3.heap.size w3 wr) (fun _ s _=>n-(intOf s).toNat)
 case atStart=>exact⟨0,by omega,rfl,HAT.1,by simp,HAT.2⟩
 case round =>
  obtain⟨k,hk,rfl,hown,hnil,hbel⟩:=hrel
  have hlen:gs.length=n:=HL
  by_cases hkn:k<n
  ·have hki:(k:Int)<(n:Int):=by omega
   obtain⟨b,off,rfl,hb,hc⟩:=HR (by omega)
   obtain⟨t,ht⟩:=exq ((gs.getD k Gl.none).s)
   have hc0:=(hc k hkn).1
   rw[<-ht] at hc0
   have HEQ:Hid (sizes (gs.take (k+1))=sizes (gs.take k)++[t]):=by rw[sizes_snoc (by omega),<-ht];trivial
   have hb3:b<w3.heap.size:=Nat.lt_of_lt_of_le hb H3.2.1.size
   have g0:=(hbel.cell (p:=⟨b,off+k*5,none⟩) hb3).trans ((H3.2.1.cell (p:=⟨b,off+k*5,none⟩) hb).trans hc0)
   have HOWN:Hid (wr.ownsRow w3.heap.size 2 1 _ k ((sizes (gs.take k)).map (Value.int .i64))):=hown
   have HBEL:Hid (Below w3.heap.size w3 wr):=hbel
   have hz:=hbel.size
   clear hc hc0 ht hown hbel hnil
   go_wp2_with (at_builtin;refine wpList_append_own _ rfl _ _ 54 rfl w3.heap.size 2 i0 (.int .i64 0) 1 8 Tryz.underlying54 hi hz0 hz1 hz2 rfl (by decide) _ _ _ rfl (World.ownsRow.alloc HOWN _) ⟨wr.heap.size,0,none⟩ 1 1 [.int .i64 t] rfl rfl ?c1 ?c2 ?c3 ?c4 ?c5 ?_)
   case c1 =>
    intro j u hj
    match j,hj with
    | 0,hj=>simp at hj;subst hj;simp[Addr.add]
   case c2=>intro u hu;simp at hu;subst hu;rfl
   case c3=>unfold maxLen;omega
   case c4=>omega
   case c5=>simp;omega
   intro v' w4 hown' hgrow hnil'
   have hb4:Below w3.heap.size w3 w4:=Below.grown (Below.alloc HBEL hz _) hgrow (by simp;omega) (fun r hr=>(World.ownsRow.lt HOWN r hr).1)
   have HF:Hid (w4.ownsRow w3.heap.size 2 1 v' (k+1) ((sizes (gs.take (k+1))).map (Value.int .i64))/\v'≠ .slice none 0 0/\Below w3.heap.size w3 w4):=by
    refine⟨?_,hnil',hb4⟩
    rw[show sizes (gs.take (k+1))=sizes (gs.take k)++[t] from HEQ,List.map_append]
    exact hown'
   clear hown' hgrow hnil' hb4 HOWN HBEL
   go_wp2
   go_roundw
   case rel=>exact⟨k+1,by omega,by go_num,HF⟩
   case measure=>simp[intOf];omega
  ·have hki:¬(k:Int)<(n:Int):=by omega
   obtain rfl:k=n:=by omega
   have et:gs.take k=gs:=by rw[<-hlen,List.take_length]
   rw[et] at hown
   obtain⟨g,cp,rfl,hg3⟩:=own_slice hown hnil
   have R4:=block_keep H3.1 hbel
   have hRl:R<wr.heap.size:=(glt R4)
   have hR3:R<w3.heap.size:=(glt H3.1)
   have hgl:=ownsRow_block hown
   have hgR:g≠R:=by omega
   have hRw:w.heap.size<=R:=H3.2.2.2.2
   have hgw:w.heap.size<=g:=by omega
   have HX:Hid (wr.heap[R]?=some (setO 0 0 0 0 0 0)/\wr.ownsRow w3.heap.size 2 1 (.slice (some ⟨g,0,none⟩) k cp) k ((sizes gs).map (Value.int .i64))/\Below w.heap.size w wr/\Row wr v1 (tot Gl.p Gl.po gs)/\Row wr v2 (tot Gl.m Gl.mo gs)):=⟨R4,hown,H3.2.1.trans (hbel.mono H3.2.1.size),H3.2.2.1.below hbel,H3.2.2.2.1.below hbel⟩
   clear hown hnil hbel et R4 HAT
   have hws:IntKind.i64.wrap (width+z)=width+z:=by rw[IntKind.wrap_i64];omega
   have hsl:(sizes gs).length=k:=by simp[sizes];exact hlen
   have HSL:Hid ((sizes gs).length=k):=hsl
   clear hsl
   have hne:¬width+z=target:=by omega
   have hgt:target<width+z:=by omega
   have hwq:IntKind.i64.wrap (target-(width+z))=q:=by rw[IntKind.wrap_i64];omega
   have hwp:IntKind.i64.wrap (width+z-target)=p:=by rw[IntKind.wrap_i64];omega
   have hpos:0<p:=by omega
   have hp9:p<=9223372036854775807:=by omega
   have hrow:=HX.2.2.2.2
   have hrow0:Hid (Row wr v2 (tot Gl.m Gl.mo gs)):=hrow
   obtain⟨at0,nt,ct,rfl,hnt,hrt⟩:=hrow
   obtain rfl:nt=4:=by rw[tot_length] at hnt;exact hnt.symm
   obtain⟨bt,ot,rfl,hbt,hct⟩:=hrt (by omega)
   have hcell:wr.cell? ⟨bt,ot,none⟩=some (.int .i64 hv):=by have:=hct 0 (by omega);rw[hhv,ho];exact this
   have hnle:¬hv<=0:=by omega
   have HT:Hid (top (tot Gl.m Gl.mo gs)=0):=ho
   clear hq hnt hrt hct hhv ho hpq
   go_wp2_with fail
   refine(specTop_any (Row.below hrow0 ((Below.refl _ _).alloc (Nat.le_refl _) _)) (tot_length _ _ _)).mono ?_
   rintro e w5 ⟨rfl,hw5⟩
   have hw5':=hw5.symm
   clear hw5
   subst hw5'
   rw[show top (tot Gl.m Gl.mo gs)=0 from HT]
   rw[show ((0:Nat):Int)=0 from rfl]
   go_wp2_with fail
   refine(specBad_any p hv _ (by omega) (by omega)).mono ?_
   rintro e w6 ⟨rfl,hb6⟩
   rw[<-show bd=badV p hv from HBD]
   have R6:=block_keep ((Below.heap_alloc wr (.cells #[.int .i64 (-1),.int .i64 0,.int .i64 p,.int .i64 hv,.int .i64 0,.int .i64 0] 28) _ hRl).trans HX.1) hb6
   have S6:=block_keep (heap_alloc_new wr (.cells #[.int .i64 (-1),.int .i64 0,.int .i64 p,.int .i64 hv,.int .i64 0,.int .i64 0] 28)) hb6
   have O6:=owns_keep (World.ownsRow.alloc HX.2.1 (.cells #[.int .i64 (-1),.int .i64 0,.int .i64 p,.int .i64 hv,.int .i64 0,.int .i64 0] 28)) hb6
   have B6:Below w.heap.size w w6:=(Below.alloc HX.2.2.1 HX.2.2.1.size (.cells #[.int .i64 (-1),.int .i64 0,.int .i64 p,.int .i64 hv,.int .i64 0,.int .i64 0] 28)).trans (hb6.mono (by have:=HX.2.2.1.size;simp;omega))
   obtain⟨u0,u1,u2,u3,u4,u5⟩:=set_cells S6
   have fS:∀j,w6.frozen? ⟨wr.heap.size,j,none⟩=false:=fun j=>frozen_of_row w6 wr.heap.size j _ _ S6
   have hww:=HX.2.2.1.size
   have F0:Hid ((w6.setCell ⟨wr.heap.size,4,none⟩ (.int .i64 bd)).heap[R]?=some (setO 0 0 0 0 0 0)/\(w6.setCell ⟨wr.heap.size,4,none⟩ (.int .i64 bd)).heap[wr.heap.size]?=some (setO (-1) 0 p hv bd 0)/\(w6.setCell ⟨wr.heap.size,4,none⟩ (.int .i64 bd)).ownsRow w3.heap.size 2 1 (.slice (some ⟨g,0,none⟩) k cp) k ((sizes gs).map (Value.int .i64))/\Below w.heap.size w (w6.setCell ⟨wr.heap.size,4,none⟩ (.int .i64 bd))) :=
    ⟨(Below.heap_setCell _ _ _ _ (by simp;omega)).trans R6,heap_setCell_same w6 wr.heap.size 4 _ 28 _ S6,owns_heap O6 (Below.heap_setCell _ _ _ _ (by simp;omega)),B6.setCell (p:=⟨wr.heap.size,4,none⟩) hww _⟩
   clear R6 S6 O6 B6 hb6 HBD
   clear HX hrow0
   go_wp2
   clear u0 u1 u2 u3 u4 u5 fS
   obtain⟨S,hS⟩:=exq (wr.heap.size)
   have F1:Hid ((w6.setCell ⟨S,4,none⟩ (.int .i64 bd)).heap[R]?=some (setO 0 0 0 0 0 0)/\(w6.setCell ⟨S,4,none⟩ (.int .i64 bd)).heap[S]?=some (setO (-1) 0 p hv bd 0)/\(w6.setCell ⟨S,4,none⟩ (.int .i64 bd)).ownsRow w3.heap.size 2 1 (.slice (some ⟨g,0,none⟩) k cp) k ((sizes gs).map (Value.int .i64))/\Below w.heap.size w (w6.setCell ⟨S,4,none⟩ (.int .i64 bd))):=by rw[hS];exact F0
   rw[<-hS]
   have hSg:S≠g:=by omega
   have hSR:S≠R:=by omega
   have hSw:w.heap.size<=S:=by omega
   clear F0 hS hbt hcell hRl hgl hR3 hg3
   clear hne hgt hws hwq hwp
   go_loopw [18,19,20] (fun s18 s19 s20 wx=>∃(j:Nat) (ys:List Int),j<=k/\s20 = .int .i64 j/\s18 = .int .i64 (stp Gl.m Gl.mo 0 p hv (gs.take j)).1/\s19 = .int .i64 (stp Gl.m Gl.mo 0 p hv (gs.take j)).2.1/\ys.length=k/\(∀i,i<j->ys.getD i 0=(sizes gs).getD i 0-(stp Gl.m Gl.mo 0 p hv (gs.take j)).2.2.getD i 0)/\(∀i,j<=i->ys.getD i 0=(sizes gs).getD i 0)/\
    wx.heap[R]?=some (setO 0 0 0 0 0 0)/\wx.heap[S]?=some (setO (-1) 0 p hv bd 0)/\wx.ownsRow w3.heap.size 2 1 (.slice (some ⟨g,0,none⟩) k cp) k (ys.map (Value.int .i64))/\Below w.heap.size w wx) (fun _ _ s _=>k-(intOf s).toNat)
   case atStart=>exact⟨0,sizes gs,by omega,rfl,rfl,rfl,HSL,fun i hi=>by omega,fun i _=>rfl,F1⟩
   case round =>
    obtain⟨j,ys,hj,rfl,rfl,rfl,hyl,hy1,hy2,hxR,hxS,hxO,hxB⟩:=hrel
    obtain⟨bd1,bd2,bd3,bd4⟩:=HBP j hj
    by_cases hjn:j<k
    ·have hji:(j:Int)<(k:Int):=by omega
     obtain⟨b,off,rfl,hb,hc⟩:=HR (by omega)
     obtain⟨t,ht⟩:=exq (gs.getD j Gl.none)
     obtain⟨hc0,hc1,hc2,hc3,hc4⟩:=hc j hjn
     rw[<-ht] at hc0 hc1 hc2 hc3 hc4
     have hob:=ok_bounds (HE j (by omega))
     rw[<-ht] at hob
     have hzb:=hob.1
     have hfb : -1073741823<=t.m/\t.m<=1073741823:=hob.2.2.1
     have hzt:(sizes gs).getD j 0=t.s:=by rw[sizes_at (by omega),<-ht]
     obtain⟨st,hst⟩:=exq (stp Gl.m Gl.mo 0 p hv (gs.take j))
     have eyes:t.mo=0->stp Gl.m Gl.mo 0 p hv (gs.take (j+1))=(st.1+t.m,cut p (st.1+t.m) hv,st.2.2++[cut p (st.1+t.m) hv-st.2.1]):=fun hh=>by rw[take_snoc (by omega),<-ht,stp_yes hh,<-hst]
     have eno:t.mo≠0->stp Gl.m Gl.mo 0 p hv (gs.take (j+1))=(st.1,st.2.1,st.2.2++[0]):=fun hh=>by rw[take_snoc (by omega),<-ht,stp_no hh,<-hst]
     rw[<-hst] at bd1 bd2 bd3 bd4 hy1 ⊢
     clear hst
     obtain⟨s0,d0,ps⟩:=st
     simp only at bd1 bd2 bd3 bd4 hy1 eyes eno ⊢
     have HY:Hid (t.mo=0->stp Gl.m Gl.mo 0 p hv (gs.take (j+1))=(s0+t.m,cut p (s0+t.m) hv,ps++[cut p (s0+t.m) hv-d0])):=eyes
     have HNO:Hid (t.mo≠0->stp Gl.m Gl.mo 0 p hv (gs.take (j+1))=(s0,d0,ps++[0])):=eno
     have g1:=(hxB.cell (p:=⟨b,off+j*5+1,none⟩) hb).trans hc1
     have g2:=(hxB.cell (p:=⟨b,off+j*5+2,none⟩) hb).trans hc2
     have g3:=(hxB.cell (p:=⟨b,off+j*5+3,none⟩) hb).trans hc3
     have g4:=(hxB.cell (p:=⟨b,off+j*5+4,none⟩) hb).trans hc4
     obtain⟨u0,u1,u2,u3,u4,u5⟩:=set_cells hxS
     have HD:Hid (ys.length=k/\ps.length=j/\(∀i,i<j->ys.getD i 0=(sizes gs).getD i 0-ps.getD i 0)/\(∀i,j<=i->ys.getD i 0=(sizes gs).getD i 0)/\(sizes gs).getD j 0=t.s):=⟨hyl,bd3,hy1,hy2,hzt⟩
     have H2:Hid (wr.heap[R]?=some (setO 0 0 0 0 0 0)/\wr.heap[S]?=some (setO (-1) 0 p hv bd 0)/\wr.ownsRow w3.heap.size 2 1 (.slice (some ⟨g,0,none⟩) k cp) k (ys.map (Value.int .i64))/\Below w.heap.size w wr):=⟨hxR,hxS,hxO,hxB⟩
     clear hc hc0 hc1 hc2 hc3 hc4 ht hxR hxS hxO hxB eyes eno hob bd3 bd4 hyl hy1 hy2 hzt
     by_cases hord:t.mo=0
     ·have hw2:IntKind.i64.wrap (s0+t.m)=s0+t.m:=by rw[IntKind.wrap_i64];omega
      have hcl:=cut_le p (s0+t.m) hv
      go_wp2_with fail
      refine(specCut_any p (s0+t.m) hv _ (by omega) (by omega) (by omega) (by omega) (by omega) (by omega)).mono ?_
      rintro e w7 ⟨rfl,hb7⟩
      obtain⟨cc,hcc⟩:=exq (cut p (s0+t.m) hv)
      rw[<-hcc] at hcl ⊢
      obtain⟨df,hdf⟩:=exq (cc-d0)
      have hwA:IntKind.i64.wrap (cc-d0)=df:=by rw[IntKind.wrap_i64];omega
      have hwB:IntKind.i64.wrap ((-1)*df)=(-df):=by rw[IntKind.wrap_i64];omega
      obtain⟨xx,hxx⟩:=exq (t.s-df)
      have hwC:IntKind.i64.wrap (t.s+(-df))=xx:=by rw[IntKind.wrap_i64];omega
      have HWX:Hid (wrap64 (t.s+wrap64 (-df))=xx/\wrap64 (t.s+wrap64 (-1*df))=xx):=⟨by unfold wrap64;omega,by unfold wrap64;omega⟩
      have R7:=block_keep H2.1 hb7
      have S7:=block_keep H2.2.1 hb7
      have O7:=owns_keep H2.2.2.1 hb7
      have B7:Below w.heap.size w w7:=H2.2.2.2.trans (hb7.mono H2.2.2.2.size)
      clear u0 u1 u2 u3 u4 u5
      obtain⟨u0,u1,u2,u3,u4,u5⟩:=set_cells S7
      have cg:w7.cell? ⟨g,j,none⟩=some (.int .i64 t.s):=by
       have:=owns_cell O7 j hjn
       rw[HD.2.2.2.1 j (Nat.le_refl _),HD.2.2.2.2] at this
       exact this
      have fg:w7.frozen? ⟨g,j,none⟩=false:=World.ownsRow.frozenAt O7 j
      have HF:Hid ((w7.setCell ⟨g,j,none⟩ (.int .i64 xx)).drew.heap[R]?=some (setO 0 0 0 0 0 0)/\(w7.setCell ⟨g,j,none⟩ (.int .i64 xx)).drew.heap[S]?=some (setO (-1) 0 p hv bd 0)/\(w7.setCell ⟨g,j,none⟩ (.int .i64 xx)).drew.ownsRow w3.heap.size 2 1 (.slice (some ⟨g,0,none⟩) k cp) k ((ys.set j xx).map (Value.int .i64))/\Below w.heap.size w (w7.setCell ⟨g,j,none⟩ (.int .i64 xx)).drew):=by
       refine⟨(drew_heap _ _).trans ((Below.heap_setCell _ _ _ _ (Ne.symm hgR)).trans R7),(drew_heap _ _).trans ((Below.heap_setCell _ _ _ _ hSg).trans S7),?_,(B7.setCell (p:=⟨g,j,none⟩) hgw _).drew⟩
       rw[List.map_set]
       exact owns_keep (World.ownsRow.stored O7 j _).1 (Below.refl _ _).drew
      have HE2:Hid (stp Gl.m Gl.mo 0 p hv (gs.take (j+1))=(s0+t.m,cc,ps++[df])/\xx=t.s-df):=by
       have:=HY hord
       rw[<-hcc,<-hdf] at this
       exact⟨this,hxx⟩
      clear R7 S7 O7 B7 hb7 H2 hcc hdf hxx HY HNO
      go_wp2
      go_region
      all_goals(try go_wp2)
      all_goals
       go_roundw
       case rel =>
        first|rw[show wrap64 (t.s+wrap64 (-df))=xx from HWX.1]|rw[show wrap64 (t.s+wrap64 (-1*df))=xx from HWX.2]
        refine⟨j+1,ys.set j xx,by omega,by go_num,by rw[HE2.1],by rw[HE2.1],by simp;exact HD.1,fun i hi=>?_,fun i hi=>?_,HF⟩
        ·rw[HE2.1]
         by_cases hij:i=j
         ·subst hij
          rw[getD_set_same (by rw[HD.1];omega),getD_snoc_same HD.2.1,HD.2.2.2.2]
          exact HE2.2
         ·rw[getD_set_other (Ne.symm hij),getD_snoc_lt (by rw[HD.2.1];omega)]
          exact HD.2.2.1 i (by omega)
        ·rw[getD_set_other (by omega)]
         exact HD.2.2.2.1 i (by omega)
       case measure=>simp[intOf];omega
     ·go_wp2
      go_roundw
      case rel =>
       have hno:=HNO hord
       refine⟨j+1,ys,by omega,by go_num,by rw[hno],by rw[hno],HD.1,fun i hi=>?_,fun i hi=>HD.2.2.2.1 i (by omega),H2⟩
       rw[hno]
       by_cases hij:i=j
       ·subst hij
        rw[HD.2.2.2.1 i (Nat.le_refl _),getD_snoc_same HD.2.1]
        omega
       ·rw[getD_snoc_lt (by rw[HD.2.1];omega)]
        exact HD.2.2.1 i (by omega)
      case measure=>simp[intOf];omega
    ·have hji:¬(j:Int)<(k:Int):=by omega
     obtain rfl:j=k:=by omega
     have et:gs.take j=gs:=by rw[<-hlen,List.take_length]
     rw[et] at hy1
     have hye:ys=minusL (sizes gs) (stp Gl.m Gl.mo 0 p hv gs).2.2:=getD_ext (by rw[minusL_length,hyl];exact(show (sizes gs).length=j from HSL).symm) fun i hi=>by rw[hy1 i (by omega),minusL_at (by rw[show (sizes gs).length=j from HSL];omega)]
     rw[hye] at hxO hyl
     obtain⟨u0,u1,u2,u3,u4,u5⟩:=set_cells hxS
     obtain⟨r0,r1,r2,r3,r4,r5⟩:=set_cells hxR
     have fR:∀i,wr.frozen? ⟨R,i,none⟩=false:=fun i=>frozen_of_row wr R i _ _ hxR
     have hgx:=ownsRow_block hxO
     have HF:Hid ((six wr R (-1) 0 p hv bd 0).drew.heap[R]?=some (setO (-1) 0 p hv bd 0)/\Row (six wr R (-1) 0 p hv bd 0).drew (.slice (some ⟨g,0,none⟩) j cp) (minusL (sizes gs) (stp Gl.m Gl.mo 0 p hv gs).2.2)/\Below w.heap.size w (six wr R (-1) 0 p hv bd 0).drew) :=
      ⟨(drew_heap _ _).trans (six_heap hxR (-1) 0 p hv bd 0),Row.below (Row.own (owns_heap hxO (six_same hgR _ _ _ _ _ _)) hyl (by simpa [World.setCell] using hgx)) (Below.refl _ _).drew,((six_fr (Fr.below (Fr.refl g w) hxB) hRw _ _ _ _ _ _).toBelow hgw (Nat.le_refl _)).drew⟩
     clear hxR hxS hxO hxB hye hy1 hy2 hyl bd1 bd2 bd3 bd4 et hgx
     go_wp2
     go_region
     all_goals(try go_wp2)
     all_goals exact bodyPost_ret (v:= .tuple #[.slice (some ⟨g,0,none⟩) j cp,setV (-1) 0 p hv bd 0]) (results_tmp_cell rfl _ _ R _ _ rfl rfl (loadSet HF.1)) rfl ⟨⟨_,rfl,HF.2.1⟩,HF.2.2⟩
end Go.Proofs.YtbbehmcekbnkiaaGreat.Shr

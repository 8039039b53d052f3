import Derived.Test.YtbbehmcekbnkiaaGreatSshFt
namespace Go.Proofs.YtbbehmcekbnkiaaGreat.Shr
set_option maxHeartbeats 2000000
set_option maxRecDepth 20000
open Go.RowKit
set_option linter.unusedVariables false
set_option linter.unusedSimpArgs false
theorem specShare_down_over {v:Value}{gs:List Gl}{w:World}(width target q:Int)(hv:Int)(p:Int)(hpq:p = -q)(hqs:q<0)(ho:top (tot Gl.m Gl.mo gs)=0)(hhv:hv=(tot Gl.m Gl.mo gs).getD (top (tot Gl.m Gl.mo gs)) 0)(hyes:0<hv)(hlt:hv<p)(h:GRow w v gs)(hok:glsOk gs=true)(hfw:fitsB width=true)(hft:fitsB target=true)(hq:q=target-width-siz gs) :
 Calls Tryz.prog 90 #[v,.int .i64 width,.int .i64 target] w fun e w'=>(∃v',e = .returned (.tuple #[v',setV (-1) 0 p hv 1000000 (p-hv)])/\Row w' v' (minusL (sizes gs) (stp Gl.m Gl.mo 0 hv hv gs).2.2))/\Below w.heap.size w w':=by
 have HG:Hid (GRow w v gs):=h
 have HOK:Hid (glsOk gs=true):=hok
 obtain⟨ao,n,cap,rfl,hl,hr⟩:=h
 have heach:=glsOk_each hok
 have hn2:n<=10000:=by have:=heach.1;omega
 have HN:Hid (gs.length<=1048576):=Nat.le_trans heach.1 (by omega)
 have HE:Hid (∀k,k<gs.length->(gs.getD k Gl.none).ok=true):=heach.2
 have hsb:=siz_bound gs (fun k hk=>(ok_bounds (heach.2 k hk)).1) gs.length (Nat.le_refl _)
 rw[List.take_length] at hsb
 have HSB:Hid (-10737418230000<=siz gs/\siz gs<=10737418230000):=by constructor<;>omega
 have HR:Hid (0<n->∃b off,ao=some ⟨b,off,none⟩/\b<w.heap.size/\∀i,i<n->w.cell? ⟨b,off+i*5,none⟩=some (.int .i64 (gs.getD i Gl.none).s)/\w.cell? ⟨b,off+i*5+1,none⟩=some (.int .i64 (gs.getD i Gl.none).p)/\w.cell? ⟨b,off+i*5+2,none⟩=some (.int .i64 (gs.getD i Gl.none).po)/\w.cell? ⟨b,off+i*5+3,none⟩=some (.int .i64 (gs.getD i Gl.none).m)/\w.cell? ⟨b,off+i*5+4,none⟩=some (.int .i64 (gs.getD i Gl.none).mo)):=hr
 have HL:Hid (gs.length=n):=hl
 have hfb1 : -1073741823<=width/\width<=1073741823:=of_decide_eq_true hfw
 have hfb2 : -1073741823<=target/\target<=1073741823:=of_decide_eq_true hft
 obtain⟨hwi1,hwi2⟩:=hfb1
 obtain⟨hta1,hta2⟩:=hfb2
 have HFF:Hid (fitsB width=true/\fitsB target=true):=⟨hfw,hft⟩
 clear hr hl hok heach hsb hfw hft
 have hbp:=stp_bound Gl.m Gl.mo 0 hv hv gs (fun k hk=>(ok_bounds (HE k hk)).2.2.1)
 rw[show gs.length=n from HL] at hbp
 have HBP:Hid _:=hbp
 clear hbp
 have htv:=tot_have Gl.m Gl.mo gs (show gs.length<=10000 by rw[show gs.length=n from HL];exact hn2) (fun k hk=>(ok_bounds (HE k hk)).2.2.1) (top (tot Gl.m Gl.mo gs))
 rw[<-hhv] at htv
 obtain⟨htv1,htv2⟩:=htv
 obtain⟨i0,hi,hz0,hz1,hz2⟩:=info_parts Tryz.info2
 go_enter Tryz.func90,Tryz.ntmps90
 go_wp2_with fail
 refine(specGlues_any (GRow.below HG ((Below.refl _ _).alloc (Nat.le_refl _) _)) HN).mono ?_
 rintro e w1 ⟨rfl,hb1⟩
 rw[show glsOk gs=true from HOK]
 have H1:Hid (w1.heap[w.heap.size]?=some (setO 0 0 0 0 0 0)/\Below w.heap.size w w1):=⟨block_keep (heap_alloc_new w _) hb1,((Below.refl _ _).alloc (Nat.le_refl _) _).trans (hb1.mono (by simp))⟩
 clear hb1
 go_wp2_with fail
 refine(specFits_any width _).mono ?_
 rintro e w2 ⟨rfl,hw2⟩
 have hw2':=hw2.symm
 clear hw2
 subst hw2'
 rw[HFF.1]
 go_wp2_with fail
 refine(specFits_any target _).mono ?_
 rintro e w2 ⟨rfl,hw2⟩
 have hw2':=hw2.symm
 clear hw2
 subst hw2'
 rw[HFF.2]
 go_wp2_with fail
 refine(specSum_any (GRow.below HG H1.2) HN).mono ?_
 rintro e w3 ⟨⟨v1,v2,rfl,hR1,hR2⟩,hb3⟩
 rw[show sumN gs=siz gs by simp[sumN,show glsOk gs=true from HOK]]
 rw[show sumP gs=tot Gl.p Gl.po gs by simp[sumP,show glsOk gs=true from HOK]] at hR1
 rw[show sumM gs=tot Gl.m Gl.mo gs by simp[sumM,show glsOk gs=true from HOK]] at hR2
 obtain⟨z,hz⟩:=exq (siz gs)
 rw[<-hz] at hq HSB ⊢
 have hsb1 : -10737418230000<=z:=HSB.1
 have hsb2:z<=10737418230000:=HSB.2
 clear hz HSB
 obtain⟨R,hR⟩:=exq (w.heap.size)
 have H3:Hid (w3.heap[R]?=some (setO 0 0 0 0 0 0)/\Below w.heap.size w w3/\Row w3 v1 (tot Gl.p Gl.po gs)/\Row w3 v2 (tot Gl.m Gl.mo gs)/\w.heap.size<=R):=⟨by rw[hR];exact block_keep H1.1 hb3,H1.2.trans (hb3.mono H1.2.size),hR1,hR2,by omega⟩
 rw[<-hR]
 clear hR hR1 hR2 hb3 H1
 have HAT:Hid ((w3.alloc (.cells #[] 2)).ownsRow w3.heap.size 2 1 (.slice (some ⟨w3.heap.size,0,none⟩) 0 0) 0 ((sizes (gs.take 0)).map (Value.int .i64))/\Below w3.heap.size w3 (w3.alloc (.cells #[] 2))) :=
  ⟨World.ownsRow_lit w3 #[] 0 (Nat.le_refl _) (by decide) rfl,(Below.refl _ _).alloc (Nat.le_refl _) _⟩
 go_wp2_with fail
 go_loopw [11,12] (fun s11 s12 wr=>∃k:Nat,k<=n/\s12 = .int .i64 k/\wr.ownsRow w3.heap.size 2 1 s11 k ((sizes (gs.take k)).map (Value.int .i64))/\s11≠ .slice none 0 0/\Below w3.heap.size w3 wr) (fun _ s _=>n-(intOf s).toNat)
 case atStart=>exact⟨0,by omega,rfl,HAT.1,by simp,HAT.2⟩
 case round =>
  obtain⟨k,hk,rfl,hown,hnil,hbel⟩:=hrel
  have hlen:gs.length=n:=HL
  by_cases hkn:k<n
  ·have hki:(k:Int)<(n:Int):=by omega
   obtain⟨b,off,rfl,hb,hc⟩:=HR (by omega)
   obtain⟨t,ht⟩:=exq ((gs.getD k Gl.none).s)
   have hc0:=(hc k hkn).1
   rw[<-ht] at hc0
   have HEQ:Hid (sizes (gs.take (k+1))=sizes (gs.take k)++[t]):=by rw[sizes_snoc (by omega),<-ht];trivial
   have hb3:b<w3.heap.size:=Nat.lt_of_lt_of_le hb H3.2.1.size
   have g0:=(hbel.cell (p:=⟨b,off+k*5,none⟩) hb3).trans ((H3.2.1.cell (p:=⟨b,off+k*5,none⟩) hb).trans hc0)
   have HOWN:Hid (wr.ownsRow w3.heap.size 2 1 _ k ((sizes (gs.take k)).map (Value.int .i64))):=hown
   have HBEL:Hid (Below w3.heap.size w3 wr):=hbel
   have hz:=hbel.size
   clear hc hc0 ht hown hbel hnil
   go_wp2_with (at_builtin;refine wpList_append_own _ rfl _ _ 54 rfl w3.heap.size 2 i0 (.int .i64 0) 1 8 Tryz.underlying54 hi hz0 hz1 hz2 rfl (by decide) _ _ _ rfl (World.ownsRow.alloc HOWN _) ⟨wr.heap.size,0,none⟩ 1 1 [.int .i64 t] rfl rfl ?c1 ?c2 ?c3 ?c4 ?c5 ?_)
   case c1 =>
    intro j u hj
    match j,hj with
    | 0,hj=>simp at hj;subst hj;simp[Addr.add]
   case c2=>intro u hu;simp at hu;subst hu;rfl
   case c3=>unfold maxLen;omega
   case c4=>omega
   case c5=>simp;omega
   intro v' w4 hown' hgrow hnil'
   have hb4:Below w3.heap.size w3 w4:=Below.grown (Below.alloc HBEL hz _) hgrow (by simp;omega) (fun r hr=>(World.ownsRow.lt HOWN r hr).1)
   have HF:Hid (w4.ownsRow w3.heap.size 2 1 v' (k+1) ((sizes (gs.take (k+1))).map (Value.int .i64))/\v'≠ .slice none 0 0/\Below w3.heap.size w3 w4):=by
    refine⟨?_,hnil',hb4⟩
    rw[show sizes (gs.take (k+1))=sizes (gs.take k)++[t] from HEQ,List.map_append]
    exact hown'
   clear hown' hgrow hnil' hb4 HOWN HBEL
   go_wp2
   go_roundw
   case rel=>exact⟨k+1,by omega,by go_num,HF⟩
   case measure=>simp[intOf];omega
  ·have hki:¬(k:Int)<(n:Int):=by omega
   obtain rfl:k=n:=by omega
   have et:gs.take k=gs:=by rw[<-hlen,List.take_length]
   rw[et] at hown
   obtain⟨g,cp,rfl,hg3⟩:=own_slice hown hnil
   have R4:=block_keep H3.1 hbel
   have hRl:R<wr.heap.size:=(glt R4)
   have hR3:R<w3.heap.size:=(glt H3.1)
   have hgl:=ownsRow_block hown
   have hgR:g≠R:=by omega
   have hRw:w.heap.size<=R:=H3.2.2.2.2
   have hgw:w.heap.size<=g:=by omega
   have HX:Hid (wr.heap[R]?=some (setO 0 0 0 0 0 0)/\wr.ownsRow w3.heap.size 2 1 (.slice (some ⟨g,0,none⟩) k cp) k ((sizes gs).map (Value.int .i64))/\Below w.heap.size w wr/\Row wr v1 (tot Gl.p Gl.po gs)/\Row wr v2 (tot Gl.m Gl.mo gs)):=⟨R4,hown,H3.2.1.trans (hbel.mono H3.2.1.size),H3.2.2.1.below hbel,H3.2.2.2.1.below hbel⟩
   clear hown hnil hbel et R4 HAT
   have hws:IntKind.i64.wrap (width+z)=width+z:=by rw[IntKind.wrap_i64];omega
   have hsl:(sizes gs).length=k:=by simp[sizes];exact hlen
   have HSL:Hid ((sizes gs).length=k):=hsl
   clear hsl
   have hne:¬width+z=target:=by omega
   have hgt:target<width+z:=by omega
   have hwq:IntKind.i64.wrap (target-(width+z))=q:=by rw[IntKind.wrap_i64];omega
   have hwp:IntKind.i64.wrap (width+z-target)=p:=by rw[IntKind.wrap_i64];omega
   have hpos:0<p:=by omega
   have hp9:p<=9223372036854775807:=by omega
   have hrow:=HX.2.2.2.2
   have hrow0:Hid (Row wr v2 (tot Gl.m Gl.mo gs)):=hrow
   obtain⟨at0,nt,ct,rfl,hnt,hrt⟩:=hrow
   obtain rfl:nt=4:=by rw[tot_length] at hnt;exact hnt.symm
   obtain⟨bt,ot,rfl,hbt,hct⟩:=hrt (by omega)
   have hcell:wr.cell? ⟨bt,ot,none⟩=some (.int .i64 hv):=by have:=hct 0 (by omega);rw[hhv,ho];exact this
   have hnle:¬hv<=0:=by omega
   have hwo:IntKind.i64.wrap (p-hv)=p-hv:=by rw[IntKind.wrap_i64];omega
   have hng:¬p<=hv:=by omega
   have hdec:decide (p<=hv)=false:=decide_eq_false hng
   have HT:Hid (top (tot Gl.m Gl.mo gs)=0):=ho
   clear hq hnt hrt hct hhv ho hpq
   go_wp2_with fail
   refine(specTop_any (Row.below hrow0 ((Below.refl _ _).alloc (Nat.le_refl _) _)) (tot_length _ _ _)).mono ?_
   rintro e w5 ⟨rfl,hw5⟩
   have hw5':=hw5.symm
   clear hw5
   subst hw5'
   rw[show top (tot Gl.m Gl.mo gs)=0 from HT]
   rw[show ((0:Nat):Int)=0 from rfl]
   have hww:=HX.2.2.1.size
   have F0:Hid ((wr.alloc (.cells #[.int .i64 (-1),.int .i64 0,.int .i64 p,.int .i64 hv,.int .i64 1000000,.int .i64 (p-hv)] 28)).heap[R]?=some (setO 0 0 0 0 0 0)/\(wr.alloc (.cells #[.int .i64 (-1),.int .i64 0,.int .i64 p,.int .i64 hv,.int .i64 1000000,.int .i64 (p-hv)] 28)).heap[wr.heap.size]?=some (setO (-1) 0 p hv 1000000 (p-hv))/\(wr.alloc (.cells #[.int .i64 (-1),.int .i64 0,.int .i64 p,.int .i64 hv,.int .i64 1000000,.int .i64 (p-hv)] 28)).ownsRow w3.heap.size 2 1 (.slice (some ⟨g,0,none⟩) k cp) k ((sizes gs).map (Value.int .i64))/\Below w.heap.size w (wr.alloc (.cells #[.int .i64 (-1),.int .i64 0,.int .i64 p,.int .i64 hv,.int .i64 1000000,.int .i64 (p-hv)] 28))) :=
    ⟨(Below.heap_alloc _ _ _ hRl).trans HX.1,heap_alloc_new wr _,World.ownsRow.alloc HX.2.1 _,Below.alloc HX.2.2.1 hww _⟩
   clear HX hrow0
   go_wp2
   obtain⟨S,hS⟩:=exq (wr.heap.size)
   have F1:Hid ((wr.alloc (.cells #[.int .i64 (-1),.int .i64 0,.int .i64 p,.int .i64 hv,.int .i64 1000000,.int .i64 (p-hv)] 28)).heap[R]?=some (setO 0 0 0 0 0 0)/\(wr.alloc (.cells #[.int .i64 (-1),.int .i64 0,.int .i64 p,.int .i64 hv,.int .i64 1000000,.int .i64 (p-hv)] 28)).heap[S]?=some (setO (-1) 0 p hv 1000000 (p-hv))/\(wr.alloc (.cells #[.int .i64 (-1),.int .i64 0,.int .i64 p,.int .i64 hv,.int .i64 1000000,.int .i64 (p-hv)] 28)).ownsRow w3.heap.size 2 1 (.slice (some ⟨g,0,none⟩) k cp) k ((sizes gs).map (Value.int .i64))/\Below w.heap.size w (wr.alloc (.cells #[.int .i64 (-1),.int .i64 0,.int .i64 p,.int .i64 hv,.int .i64 1000000,.int .i64 (p-hv)] 28))):=by rw[hS];exact F0
   rw[<-hS]
   have hSg:S≠g:=by omega
   have hSR:S≠R:=by omega
   have hSw:w.heap.size<=S:=by omega
   clear F0 hS hbt hcell hRl hgl hR3 hg3
   clear hne hgt hws hwq hwp
   go_loopw [18,19,20] (fun s18 s19 s20 wx=>∃(j:Nat) (ys:List Int),j<=k/\s20 = .int .i64 j/\s18 = .int .i64 (stp Gl.m Gl.mo 0 hv hv (gs.take j)).1/\s19 = .int .i64 (stp Gl.m Gl.mo 0 hv hv (gs.take j)).2.1/\ys.length=k/\(∀i,i<j->ys.getD i 0=(sizes gs).getD i 0-(stp Gl.m Gl.mo 0 hv hv (gs.take j)).2.2.getD i 0)/\(∀i,j<=i->ys.getD i 0=(sizes gs).getD i 0)/\
    wx.heap[R]?=some (setO 0 0 0 0 0 0)/\wx.heap[S]?=some (setO (-1) 0 p hv 1000000 (p-hv))/\wx.ownsRow w3.heap.size 2 1 (.slice (some ⟨g,0,none⟩) k cp) k (ys.map (Value.int .i64))/\Below w.heap.size w wx) (fun _ _ s _=>k-(intOf s).toNat)
   case atStart=>exact⟨0,sizes gs,by omega,rfl,rfl,rfl,HSL,fun i hi=>by omega,fun i _=>rfl,F1⟩
   case round =>
    obtain⟨j,ys,hj,rfl,rfl,rfl,hyl,hy1,hy2,hxR,hxS,hxO,hxB⟩:=hrel
    obtain⟨bd1,bd2,bd3,bd4⟩:=HBP j hj
    by_cases hjn:j<k
    ·have hji:(j:Int)<(k:Int):=by omega
     obtain⟨b,off,rfl,hb,hc⟩:=HR (by omega)
     obtain⟨t,ht⟩:=exq (gs.getD j Gl.none)
     obtain⟨hc0,hc1,hc2,hc3,hc4⟩:=hc j hjn
     rw[<-ht] at hc0 hc1 hc2 hc3 hc4
     have hob:=ok_bounds (HE j (by omega))
     rw[<-ht] at hob
     have hzb:=hob.1
     have hfb : -1073741823<=t.m/\t.m<=1073741823:=hob.2.2.1
     have hzt:(sizes gs).getD j 0=t.s:=by rw[sizes_at (by omega),<-ht]
     obtain⟨st,hst⟩:=exq (stp Gl.m Gl.mo 0 hv hv (gs.take j))
     have eyes:t.mo=0->stp Gl.m Gl.mo 0 hv hv (gs.take (j+1))=(st.1+t.m,cut hv (st.1+t.m) hv,st.2.2++[cut hv (st.1+t.m) hv-st.2.1]):=fun hh=>by rw[take_snoc (by omega),<-ht,stp_yes hh,<-hst]
     have eno:t.mo≠0->stp Gl.m Gl.mo 0 hv hv (gs.take (j+1))=(st.1,st.2.1,st.2.2++[0]):=fun hh=>by rw[take_snoc (by omega),<-ht,stp_no hh,<-hst]
     rw[<-hst] at bd1 bd2 bd3 bd4 hy1 ⊢
     clear hst
     obtain⟨s0,d0,ps⟩:=st
     simp only at bd1 bd2 bd3 bd4 hy1 eyes eno ⊢
     have HY:Hid (t.mo=0->stp Gl.m Gl.mo 0 hv hv (gs.take (j+1))=(s0+t.m,cut hv (s0+t.m) hv,ps++[cut hv (s0+t.m) hv-d0])):=eyes
     have HNO:Hid (t.mo≠0->stp Gl.m Gl.mo 0 hv hv (gs.take (j+1))=(s0,d0,ps++[0])):=eno
     have g1:=(hxB.cell (p:=⟨b,off+j*5+1,none⟩) hb).trans hc1
     have g2:=(hxB.cell (p:=⟨b,off+j*5+2,none⟩) hb).trans hc2
     have g3:=(hxB.cell (p:=⟨b,off+j*5+3,none⟩) hb).trans hc3
     have g4:=(hxB.cell (p:=⟨b,off+j*5+4,none⟩) hb).trans hc4
     obtain⟨u0,u1,u2,u3,u4,u5⟩:=set_cells hxS
     have HD:Hid (ys.length=k/\ps.length=j/\(∀i,i<j->ys.getD i 0=(sizes gs).getD i 0-ps.getD i 0)/\(∀i,j<=i->ys.getD i 0=(sizes gs).getD i 0)/\(sizes gs).getD j 0=t.s):=⟨hyl,bd3,hy1,hy2,hzt⟩
     have H2:Hid (wr.heap[R]?=some (setO 0 0 0 0 0 0)/\wr.heap[S]?=some (setO (-1) 0 p hv 1000000 (p-hv))/\wr.ownsRow w3.heap.size 2 1 (.slice (some ⟨g,0,none⟩) k cp) k (ys.map (Value.int .i64))/\Below w.heap.size w wr):=⟨hxR,hxS,hxO,hxB⟩
     clear hc hc0 hc1 hc2 hc3 hc4 ht hxR hxS hxO hxB eyes eno hob bd3 bd4 hyl hy1 hy2 hzt
     by_cases hord:t.mo=0
     ·have hw2:IntKind.i64.wrap (s0+t.m)=s0+t.m:=by rw[IntKind.wrap_i64];omega
      have hcl:=cut_le hv (s0+t.m) hv
      go_wp2_with fail
      refine(specCut_any hv (s0+t.m) hv _ (by omega) (by omega) (by omega) (by omega) (by omega) (by omega)).mono ?_
      rintro e w7 ⟨rfl,hb7⟩
      obtain⟨cc,hcc⟩:=exq (cut hv (s0+t.m) hv)
      rw[<-hcc] at hcl ⊢
      obtain⟨df,hdf⟩:=exq (cc-d0)
      have hwA:IntKind.i64.wrap (cc-d0)=df:=by rw[IntKind.wrap_i64];omega
      have hwB:IntKind.i64.wrap ((-1)*df)=(-df):=by rw[IntKind.wrap_i64];omega
      obtain⟨xx,hxx⟩:=exq (t.s-df)
      have hwC:IntKind.i64.wrap (t.s+(-df))=xx:=by rw[IntKind.wrap_i64];omega
      have HWX:Hid (wrap64 (t.s+wrap64 (-df))=xx/\wrap64 (t.s+wrap64 (-1*df))=xx):=⟨by unfold wrap64;omega,by unfold wrap64;omega⟩
      have R7:=block_keep H2.1 hb7
      have S7:=block_keep H2.2.1 hb7
      have O7:=owns_keep H2.2.2.1 hb7
      have B7:Below w.heap.size w w7:=H2.2.2.2.trans (hb7.mono H2.2.2.2.size)
      clear u0 u1 u2 u3 u4 u5
      obtain⟨u0,u1,u2,u3,u4,u5⟩:=set_cells S7
      have cg:w7.cell? ⟨g,j,none⟩=some (.int .i64 t.s):=by
       have:=owns_cell O7 j hjn
       rw[HD.2.2.2.1 j (Nat.le_refl _),HD.2.2.2.2] at this
       exact this
      have fg:w7.frozen? ⟨g,j,none⟩=false:=World.ownsRow.frozenAt O7 j
      have HF:Hid ((w7.setCell ⟨g,j,none⟩ (.int .i64 xx)).drew.heap[R]?=some (setO 0 0 0 0 0 0)/\(w7.setCell ⟨g,j,none⟩ (.int .i64 xx)).drew.heap[S]?=some (setO (-1) 0 p hv 1000000 (p-hv))/\(w7.setCell ⟨g,j,none⟩ (.int .i64 xx)).drew.ownsRow w3.heap.size 2 1 (.slice (some ⟨g,0,none⟩) k cp) k ((ys.set j xx).map (Value.int .i64))/\Below w.heap.size w (w7.setCell ⟨g,j,none⟩ (.int .i64 xx)).drew):=by
       refine⟨(drew_heap _ _).trans ((Below.heap_setCell _ _ _ _ (Ne.symm hgR)).trans R7),(drew_heap _ _).trans ((Below.heap_setCell _ _ _ _ hSg).trans S7),?_,(B7.setCell (p:=⟨g,j,none⟩) hgw _).drew⟩
       rw[List.map_set]
       exact owns_keep (World.ownsRow.stored O7 j _).1 (Below.refl _ _).drew
      have HE2:Hid (stp Gl.m Gl.mo 0 hv hv (gs.take (j+1))=(s0+t.m,cc,ps++[df])/\xx=t.s-df):=by
       have:=HY hord
       rw[<-hcc,<-hdf] at this
       exact⟨this,hxx⟩
      clear R7 S7 O7 B7 hb7 H2 hcc hdf hxx HY HNO
      go_wp2
      go_region
      all_goals(try go_wp2)
      all_goals
       go_roundw
       case rel =>
        first|rw[show wrap64 (t.s+wrap64 (-df))=xx from HWX.1]|rw[show wrap64 (t.s+wrap64 (-1*df))=xx from HWX.2]
        refine⟨j+1,ys.set j xx,by omega,by go_num,by rw[HE2.1],by rw[HE2.1],by simp;exact HD.1,fun i hi=>?_,fun i hi=>?_,HF⟩
        ·rw[HE2.1]
         by_cases hij:i=j
         ·subst hij
          rw[getD_set_same (by rw[HD.1];omega),getD_snoc_same HD.2.1,HD.2.2.2.2]
          exact HE2.2
         ·rw[getD_set_other (Ne.symm hij),getD_snoc_lt (by rw[HD.2.1];omega)]
          exact HD.2.2.1 i (by omega)
        ·rw[getD_set_other (by omega)]
         exact HD.2.2.2.1 i (by omega)
       case measure=>simp[intOf];omega
     ·go_wp2
      go_roundw
      case rel =>
       have hno:=HNO hord
       refine⟨j+1,ys,by omega,by go_num,by rw[hno],by rw[hno],HD.1,fun i hi=>?_,fun i hi=>HD.2.2.2.1 i (by omega),H2⟩
       rw[hno]
       by_cases hij:i=j
       ·subst hij
        rw[HD.2.2.2.1 i (Nat.le_refl _),getD_snoc_same HD.2.1]
        omega
       ·rw[getD_snoc_lt (by rw[HD.2.1];omega)]
        exact HD.2.2.1 i (by omega)
      case measure=>simp[intOf];omega
    ·have hji:¬(j:Int)<(k:Int):=by omega
     obtain rfl:j=k:=by omega
     have et:gs.take j=gs:=by rw[<-hlen,List.take_length]
     rw[et] at hy1
     have hye:ys=minusL (sizes gs) (stp Gl.m Gl.mo 0 hv hv gs).2.2:=getD_ext (by rw[minusL_length,hyl];exact(show (sizes gs).length=j from HSL).symm) fun i hi=>by rw[hy1 i (by omega),minusL_at (by rw[show (sizes gs).length=j from HSL];omega)]
     rw[hye] at hxO hyl
     obtain⟨u0,u1,u2,u3,u4,u5⟩:=set_cells hxS
     obtain⟨r0,r1,r2,r3,r4,r5⟩:=set_cells hxR
     have fR:∀i,wr.frozen? ⟨R,i,none⟩=false:=fun i=>frozen_of_row wr R i _ _ hxR
     have hgx:=ownsRow_block hxO
     have HF:Hid ((six wr R (-1) 0 p hv 1000000 (p-hv)).drew.heap[R]?=some (setO (-1) 0 p hv 1000000 (p-hv))/\Row (six wr R (-1) 0 p hv 1000000 (p-hv)).drew (.slice (some ⟨g,0,none⟩) j cp) (minusL (sizes gs) (stp Gl.m Gl.mo 0 hv hv gs).2.2)/\Below w.heap.size w (six wr R (-1) 0 p hv 1000000 (p-hv)).drew) :=
      ⟨(drew_heap _ _).trans (six_heap hxR (-1) 0 p hv 1000000 (p-hv)),Row.below (Row.own (owns_heap hxO (six_same hgR _ _ _ _ _ _)) hyl (by simpa [World.setCell] using hgx)) (Below.refl _ _).drew,((six_fr (Fr.below (Fr.refl g w) hxB) hRw _ _ _ _ _ _).toBelow hgw (Nat.le_refl _)).drew⟩
     clear hxR hxS hxO hxB hye hy1 hy2 hyl bd1 bd2 bd3 bd4 et hgx
     go_wp2
     go_region
     all_goals(try go_wp2)
     all_goals exact bodyPost_ret (v:= .tuple #[.slice (some ⟨g,0,none⟩) j cp,setV (-1) 0 p hv 1000000 (p-hv)]) (results_tmp_cell rfl _ _ R _ _ rfl rfl (loadSet HF.1)) rfl ⟨⟨_,rfl,HF.2.1⟩,HF.2.2⟩
theorem specShare_ok {v:Value}{gs:List Gl}{w:World}(width target q:Int)(h:GRow w v gs)(hok:glsOk gs=true)(hfw:fitsB width=true)(hft:fitsB target=true)(hq:q=target-width-siz gs) :
 Calls Tryz.prog 90 #[v,.int .i64 width,.int .i64 target] w fun e w'=>(∃v',e = .returned (.tuple #[v',(shareS gs q).v])/\Row w' v' (shareL gs q))/\Below w.heap.size w w':=by
 by_cases h1:0<q
 ·have e1:shareS gs q=upS gs q:=by unfold shareS;rw[if_pos h1]
  have e2:shareL gs q=upL gs q:=by unfold shareL;rw[if_pos h1]
  rw[e1,e2]
  by_cases hno:hvOf Gl.p Gl.po gs<=0
  ·have e3:upS gs q=⟨1,ordOf Gl.p Gl.po gs,q,hvOf Gl.p Gl.po gs,10000,0⟩:=by unfold upS;rw[if_pos hno]
   have e4:upL gs q=sizes gs:=by unfold upL;rw[if_pos hno]
   rw[e3,e4]
   exact specShare_up_none width target q _ _ h1 rfl rfl hno h hok hfw hft hq
  ·have hpos:0<hvOf Gl.p Gl.po gs:=by omega
   have e3:upS gs q=⟨1,ordOf Gl.p Gl.po gs,q,hvOf Gl.p Gl.po gs,if 0<ordOf Gl.p Gl.po gs then 0 else badV q (hvOf Gl.p Gl.po gs),0⟩:=by unfold upS;rw[if_neg hno]
   have e4:upL gs q=plusL (sizes gs) (stp Gl.p Gl.po (ordOf Gl.p Gl.po gs) q (hvOf Gl.p Gl.po gs) gs).2.2:=by unfold upL;rw[if_neg hno]
   rw[e3,e4]
   by_cases h0:top (tot Gl.p Gl.po gs)=0
   ·have e5:ordOf Gl.p Gl.po gs=0:=by unfold ordOf;omega
    rw[e5,if_neg (by omega)]
    exact specShare_up_zero width target q _ _ h1 h0 rfl hpos rfl h hok hfw hft hq
   ·have e5:0<ordOf Gl.p Gl.po gs:=by unfold ordOf;omega
    rw[if_pos e5]
    exact specShare_up_high width target q _ _ h1 rfl rfl hpos (by omega) h hok hfw hft hq
 ·by_cases h2:q<0
  ·have e1:shareS gs q=downS gs (-q):=by unfold shareS;rw[if_neg h1,if_pos h2]
   have e2:shareL gs q=downL gs (-q):=by unfold shareL;rw[if_neg h1,if_pos h2]
   rw[e1,e2]
   by_cases hno:hvOf Gl.m Gl.mo gs<=0
   ·have e3:downS gs (-q)=⟨-1,ordOf Gl.m Gl.mo gs,-q,hvOf Gl.m Gl.mo gs,1000000,-q⟩:=by unfold downS;rw[if_pos hno]
    have e4:downL gs (-q)=sizes gs:=by unfold downL;rw[if_pos hno]
    rw[e3,e4]
    exact specShare_down_none width target q _ _ (-q) rfl h2 rfl rfl hno h hok hfw hft hq
   ·have hpos:0<hvOf Gl.m Gl.mo gs:=by omega
    by_cases h0:top (tot Gl.m Gl.mo gs)=0
    ·have e5:ordOf Gl.m Gl.mo gs=0:=by unfold ordOf;omega
     by_cases hlt:hvOf Gl.m Gl.mo gs < -q
     ·have e3:downS gs (-q)=⟨-1,0,-q,hvOf Gl.m Gl.mo gs,1000000,-q-hvOf Gl.m Gl.mo gs⟩:=by unfold downS;rw[if_neg hno,if_pos ⟨e5,hlt⟩]
      have e4:downL gs (-q)=minusL (sizes gs) (stp Gl.m Gl.mo 0 (hvOf Gl.m Gl.mo gs) (hvOf Gl.m Gl.mo gs) gs).2.2:=by unfold downL;rw[if_neg hno,if_pos ⟨e5,hlt⟩]
      rw[e3,e4]
      exact specShare_down_over width target q _ (-q) rfl h2 h0 rfl hpos hlt h hok hfw hft hq
     ·have e3:downS gs (-q)=⟨-1,ordOf Gl.m Gl.mo gs,-q,hvOf Gl.m Gl.mo gs,if 0<ordOf Gl.m Gl.mo gs then 0 else badV (-q) (hvOf Gl.m Gl.mo gs),0⟩:=by unfold downS;rw[if_neg hno,if_neg (fun hh=>hlt hh.2)]
      have e4:downL gs (-q)=minusL (sizes gs) (stp Gl.m Gl.mo (ordOf Gl.m Gl.mo gs) (-q) (hvOf Gl.m Gl.mo gs) gs).2.2:=by unfold downL;rw[if_neg hno,if_neg (fun hh=>hlt hh.2)]
      rw[e3,e4,e5,if_neg (by omega)]
      exact specShare_down_zero width target q _ _ (-q) rfl h2 h0 rfl hpos (Int.not_lt.1 hlt) rfl h hok hfw hft hq
    ·have e5:0<ordOf Gl.m Gl.mo gs:=by unfold ordOf;omega
     have e3:downS gs (-q)=⟨-1,ordOf Gl.m Gl.mo gs,-q,hvOf Gl.m Gl.mo gs,if 0<ordOf Gl.m Gl.mo gs then 0 else badV (-q) (hvOf Gl.m Gl.mo gs),0⟩:=by unfold downS;rw[if_neg hno,if_neg (fun hh=>by omega)]
     have e4:downL gs (-q)=minusL (sizes gs) (stp Gl.m Gl.mo (ordOf Gl.m Gl.mo gs) (-q) (hvOf Gl.m Gl.mo gs) gs).2.2:=by unfold downL;rw[if_neg hno,if_neg (fun hh=>by omega)]
     rw[e3,e4,if_pos e5]
     exact specShare_down_high width target q _ _ (-q) rfl h2 rfl rfl hpos (by omega) h hok hfw hft hq
  ·have e1:shareS gs q=⟨0,0,0,0,0,0⟩:=by unfold shareS;rw[if_neg h1,if_neg h2]
   have e2:shareL gs q=sizes gs:=by unfold shareL;rw[if_neg h1,if_neg h2]
   rw[e1,e2]
   exact specShare_zero width target q (by omega) h hok hfw hft hq
theorem plus_len (gs:List Gl)(xs:List Int):(plusL (sizes gs) xs).length=gs.length:=by rw[plusL_length];simp[sizes]
theorem minus_len (gs:List Gl)(xs:List Int):(minusL (sizes gs) xs).length=gs.length:=by rw[minusL_length];simp[sizes]
theorem sizes_len (gs:List Gl):(sizes gs).length=gs.length:=by simp[sizes]
theorem shareL_length (gs:List Gl)(q:Int):(shareL gs q).length=gs.length:=by
 unfold shareL upL downL
 split
 ·split
  ·exact sizes_len gs
  ·exact plus_len gs _
 ·split
  ·split
   ·exact sizes_len gs
   ·split
    ·exact minus_len gs _
    ·exact minus_len gs _
  ·exact sizes_len gs
end Go.Proofs.YtbbehmcekbnkiaaGreat.Shr
namespace Go.Proofs.YtbbehmcekbnkiaaGreat
open Go.RowKit
set_option linter.unusedVariables false
set_option linter.unusedSimpArgs false
def putC (w:World)(g o:Nat):List Value->World
 | []=>w
 | c :: cs=>putC (w.setCell ⟨g,o,none⟩ c) g (o+1) cs
structure Stable {α:Type}(R:Nat->World->List Value->α->Prop):Prop where
 abv:∀{lo w w' cs x},R lo w cs x->Abv lo w w'->R lo w' cs x
 mono:∀{lo lo' w cs x},R lo w cs x->lo'<=lo->R lo' w cs x
def SRow {α:Type}(sz:Nat)(R:Nat->World->List Value->α->Prop)(d:α)(lo:Nat)(w:World)(v:Value)(xs:List α):Prop :=
 ∃ao n cap,v = .slice ao n cap/\xs.length=n/\(0<n->∃b off,ao=some ⟨b,off,none⟩/\lo<=b/\b<w.heap.size/\∀i,i<n->∃cs:List Value,cs.length=sz/\R lo w cs (xs.getD i d)/\∀j,j<sz->w.cell? ⟨b,off+i*sz+j,none⟩=cs[j]?)
theorem SRow.abv {α:Type}{sz:Nat}{R:Nat->World->List Value->α->Prop}{d:α}(st:Stable R){lo:Nat}{w w':World}{v:Value}{xs:List α}(h:SRow sz R d lo w v xs)(ha:Abv lo w w'):SRow sz R d lo w' v xs:=by
 obtain⟨ao,n,cap,rfl,hn,hc⟩:=h
 refine⟨ao,n,cap,rfl,hn,fun hp=>?_⟩
 obtain⟨b,off,rfl,hlo,hlt,hcell⟩:=hc hp
 refine⟨b,off,rfl,hlo,Nat.lt_of_lt_of_le hlt ha.size,fun i hi=>?_⟩
 obtain⟨cs,hl,hr,hj⟩:=hcell i hi
 exact⟨cs,hl,st.abv hr ha,fun j hj2=>(World.cell?_of_block (w:=w) (a:=⟨b,off+i*sz+j,none⟩) (ha.block b hlo hlt)).trans (hj j hj2)⟩
theorem SRow.mono {α:Type}{sz:Nat}{R:Nat->World->List Value->α->Prop}{d:α}(st:Stable R){lo lo':Nat}{w:World}{v:Value}{xs:List α}(h:SRow sz R d lo w v xs)(hl:lo'<=lo):SRow sz R d lo' w v xs:=by
 obtain⟨ao,n,cap,rfl,hn,hc⟩:=h
 refine⟨ao,n,cap,rfl,hn,fun hp=>?_⟩
 obtain⟨b,off,rfl,hlo,hlt,hcell⟩:=hc hp
 refine⟨b,off,rfl,Nat.le_trans hl hlo,hlt,fun i hi=>?_⟩
 obtain⟨cs,hcl,hr,hj⟩:=hcell i hi
 exact⟨cs,hcl,st.mono hr hl,hj⟩
theorem SRow.below {α:Type}{sz:Nat}{R:Nat->World->List Value->α->Prop}{d:α}(st:Stable R){lo:Nat}{w w':World}{v:Value}{xs:List α}(h:SRow sz R d lo w v xs)(hb:Below w.heap.size w w'):SRow sz R d lo w' v xs:=h.abv st (Abv.below hb)
def SPart {α:Type}(sz:Nat)(R:Nat->World->List Value->α->Prop)(d:α)(ty:Nat)(w:World)(g n k:Nat)(xs:List α):Prop :=
 ∃cur:Array Value,w.heap[g]?=some (.cells cur ty (0,0))/\cur.size=n*sz/\∀i,i<k->∃cs:List Value,cs.length=sz/\R (g+1) w cs (xs.getD i d)/\∀j,j<sz->cur[i*sz+j]?=cs[j]?
theorem below3 (w:World)(o o2 o3:Obj):Below w.heap.size w (((w.alloc o).alloc o2).alloc o3):=(below2 w o o2).alloc (by simp;omega) _
structure Nd where
 k:Int
 wd:Int
 ht:Int
 dp:Int
 sh:Int
 fo:Int
 ch:Int
 nn:Int
 gs:Int
 gp:Int
 gpo:Int
 gm:Int
 gmo:Int
 tx:ByteArray
 kids:Int
def Nd.cells (x:Nd):List Value:=[.int .i64 x.k,.int .i64 x.wd,.int .i64 x.ht,.int .i64 x.dp,.int .i64 x.sh,.int .i64 x.fo,.int .i64 x.ch,.int .i64 x.nn,.int .i64 x.gs,.int .i64 x.gp,.int .i64 x.gpo,.int .i64 x.gm,.int .i64 x.gmo,.string x.tx,.int .i64 x.kids]
abbrev glueV (s p po m mo:Int):Value:= .agg #[.int .i64 s,.int .i64 p,.int .i64 po,.int .i64 m,.int .i64 mo]
abbrev ndV (x:Nd):Value:= .agg #[.int .i64 x.k,.int .i64 x.wd,.int .i64 x.ht,.int .i64 x.dp,.int .i64 x.sh,.int .i64 x.fo,.int .i64 x.ch,.int .i64 x.nn,.int .i64 x.gs,.int .i64 x.gp,.int .i64 x.gpo,.int .i64 x.gm,.int .i64 x.gmo,.string x.tx,.int .i64 x.kids]
end Go.Proofs.YtbbehmcekbnkiaaGreat
namespace Go.Proofs.YtbbehmcekbnkiaaGreat.Shr
open Go.RowKit
set_option linter.unusedVariables false
set_option linter.unusedSimpArgs false
def mxI (a b:Int):Int:=if b<a then a else b
theorem mostI_any (a b:Int)(w:World):Calls Tryz.prog 109 #[.int .i64 a,.int .i64 b] w fun e w'=>e = .returned (.int .i64 (mxI a b))/\w'=w:=by
 by_cases h:b<a
 ·rw[show mxI a b=a by simp[mxI,h]]
  go_enter Tryz.func109,Tryz.ntmps109
  go_wp2
  go_ret
  exact⟨rfl,rfl⟩
 ·rw[show mxI a b=b by simp[mxI,h]]
  go_enter Tryz.func109,Tryz.ntmps109
  go_wp2
  go_ret
  exact⟨rfl,rfl⟩
theorem all_at {zs:List Int}:zs.all fitsB=true↔∀j,j<zs.length->fitsB (zs.getD j 0)=true:=by
 rw[List.all_eq_true]
 constructor
 ·intro h j hj
  rw[List.getD_eq_getElem?_getD,List.getElem?_eq_getElem hj]
  exact h _ (List.getElem_mem hj)
 ·intro h x hx
  obtain⟨j,hj,rfl⟩:=List.getElem_of_mem hx
  have:=h j hj
  rw[List.getD_eq_getElem?_getD,List.getElem?_eq_getElem hj] at this
  exact this
theorem fitsAll_any {v:Value}{zs:List Int}{w:World}(h:Row w v zs)(hn:zs.length<=1048576) :
 Calls Tryz.prog 91 #[v] w fun e w'=>e = .returned (.bool (zs.all fitsB))/\w'=w:=by
 obtain⟨ao,n,cap,rfl,hl,hr⟩:=h
 rw[hl] at hn
 obtain⟨R,hR⟩:=exq (zs.all fitsB)
 rw[<-hR]
 have HRR:=hideP hR
 have HR:Hid (0<n->∃b off,ao=some ⟨b,off,none⟩/\b<w.heap.size/\∀i,i<n->w.cell? ⟨b,off+i,none⟩=some (.int .i64 (zs.getD i 0))):=hr
 have HL:Hid (zs.length=n):=hl
 clear hr hl hR
 go_enter Tryz.func91,Tryz.ntmps91
 go_wp2
 go_loopw [3] (fun s wr=>∃k:Nat,k<=n/\s = .int .i64 k/\(∀j,j<k->fitsB (zs.getD j 0)=true)/\wr=w) (fun s _=>n-(intOf s).toNat)
 case atStart=>exact⟨0,by omega,rfl,fun j hj=>by omega,rfl⟩
 case round =>
  obtain⟨k,hk,rfl,hok,rfl⟩:=hrel
  have HK:=hideP hok
  clear hok
  by_cases hkn:k<n
  ·have hki:(k:Int)<(n:Int):=by omega
   obtain⟨b,off,rfl,hb,hc⟩:=HR (by omega)
   have g0:=hc k hkn
   obtain⟨z,hz⟩:=exq (zs.getD k 0)
   rw[<-hz] at g0
   have HZ:=hideP hz
   clear hc hz
   go_wp2_with fail
   refine(specFits_any z _).mono ?_
   rintro e w2 ⟨rfl,rfl⟩
   cases hf:fitsB z with
   | false =>
    have HE:Hid (R=false):=hideP (by
     rw[HRR.out,Bool.eq_false_iff]
     intro hall
     have h1:=all_at.1 hall k (by rw[show zs.length=n from HL];exact hkn)
     rw[<-HZ.out,hf] at h1
     cases h1)
    clear hf
    go_wp2
    go_ret
    exact⟨retB HE.out.symm,rfl⟩
   | true =>
    have HF:=hideP hf
    clear hf
    go_wp2
    go_roundw
    case rel =>
     refine⟨k+1,by omega,by go_num,fun j hj=>?_,trivial⟩
     by_cases hjk:j=k
     ·subst hjk;rw[<-HZ.out];exact HF.out
     ·exact HK.out j (by omega)
    case measure=>simp[intOf];omega
  ·have hki:¬(k:Int)<(n:Int):=by omega
   have HE:Hid (R=true):=hideP (by rw[HRR.out,all_at];intro j hj;exact HK.out j (by have:=(show zs.length=n from HL);omega))
   clear HK
   go_wp2
   go_ret
   exact⟨retB HE.out.symm,rfl⟩
def alongI (all:Int)(gs:List Gl)(mode size:Int):Int:=if mode=1 then size else if mode=2 then all+siz gs+size else all+siz gs
theorem siz_in {gs:List Gl}(h:glsOk gs=true) : -10737418230000<=siz gs/\siz gs<=10737418230000:=by
 obtain⟨h1,h2⟩:=glsOk_each h
 have h3:=siz_bound gs (fun k hk=>by
  have:=h2 k hk
  unfold Gl.ok okB at this
  simp only[fitsB,Bool.and_eq_true,decide_eq_true_eq] at this
  omega) gs.length (Nat.le_refl _)
 rw[List.take_length] at h3
 have h4:(gs.length:Int)<=10000:=by omega
 have h5:(gs.length:Int)*1073741823<=10000*1073741823:=by omega
 omega
theorem along_no {v:Value}{gs:List Gl}{w:World}(all mode size:Int)(h:GRow w v gs)(hn:gs.length<=1048576)(hok:glsOk gs=false) :
 Calls Tryz.prog 88 #[.int .i64 all,v,.int .i64 mode,.int .i64 size] w fun e w'=>e = .returned (.tuple #[.int .i64 0,.bool false])/\Below w.heap.size w w':=by
 have HC:=hideP (specSum_any h hn)
 have HOK:=hideP hok
 clear h hok
 go_enter Tryz.func88,Tryz.ntmps88
 go_wp2_with fail
 refine HC.out.mono ?_
 rintro e w1 ⟨⟨v1,v2,rfl,hr1,hr2⟩,hb⟩
 have HB:=hideP hb
 clear hb hr2 HC
 obtain⟨ao1,n1,cap1,rfl,hl1,-⟩:=hr1
 have hz:n1=0:=by rw[<-hl1];simp[sumP,HOK.out]
 subst hz
 clear hl1
 go_wp2
 go_ret2
 exact⟨rfl,HB.out⟩
theorem along_ok {v:Value}{gs:List Gl}{w:World}(all mode size:Int)(h:GRow w v gs)(hok:glsOk gs=true)(ha : -1152921504606846976<=all/\all<=1152921504606846976)(hs:fitsB size=true) :
 Calls Tryz.prog 88 #[.int .i64 all,v,.int .i64 mode,.int .i64 size] w fun e w'=>e = .returned (.tuple #[.int .i64 (alongI all gs mode size),.bool (fitsB (alongI all gs mode size)&&fitsB all)])/\Below w.heap.size w w':=by
 have HC:=hideP (specSum_any h (by have:=(glsOk_each hok).1;omega))
 have hs2 : -1073741823<=size/\size<=1073741823:=of_decide_eq_true hs
 obtain⟨hs3,hs4⟩:=hs2
 obtain⟨ha1,ha2⟩:=ha
 obtain⟨hq1,hq2⟩:=siz_in hok
 have HOK:=hideP hok
 obtain⟨tt,hto⟩:=exq (alongI all gs mode size)
 rw[<-hto]
 have HTO:=hideP hto
 clear h hs hto hok
 go_enter Tryz.func88,Tryz.ntmps88
 go_wp2_with fail
 refine HC.out.mono ?_
 rintro e w1 ⟨⟨v1,v2,rfl,hr1,hr2⟩,hb⟩
 have HB:=hideP hb
 clear hb hr2 HC
 obtain⟨ao1,n1,cap1,rfl,hl1,-⟩:=hr1
 have hz:n1=4:=by rw[<-hl1];simp[sumP,HOK.out,tot_length]
 subst hz
 have hsz:sumN gs=siz gs:=by simp[sumN,HOK.out]
 rw[hsz]
 obtain⟨S,hS⟩:=exq (siz gs)
 rw[<-hS] at hq1 hq2
 rw[<-hS]
 have HS:=hideP hS
 clear hl1 hsz hS
 by_cases h1:mode=1
 ·have he:tt=size:=by rw[HTO.out];unfold alongI;rw[if_pos h1]
  subst h1
  have HE:=hideP he
  clear he
  go_wp2_with fail
  refine(specFits_any size _).mono ?_
  rintro e w2 ⟨rfl,rfl⟩
  cases hf:fitsB (size) with
  | false =>
   have HF:=hideP hf
   clear hf
   go_wp2
   go_ret2
   exact⟨by rw[HE.out,HF.out];rfl,HB.out⟩
  | true =>
   have HF:=hideP hf
   clear hf
   go_wp2_with fail
   refine(specFits_any all _).mono ?_
   rintro e w2 ⟨rfl,rfl⟩
   go_wp2
   go_ret2
   exact⟨by rw[HE.out,HF.out];rfl,HB.out⟩
 ·by_cases h2:mode=2
  ·have he:tt=all+S+size:=by rw[HTO.out];unfold alongI;rw[if_neg h1,if_pos h2,HS.out]
   subst h2
   have HE:=hideP he
   clear he
   go_wp2_with fail
   refine(specFits_any (all+S+size) _).mono ?_
   rintro e w2 ⟨rfl,rfl⟩
   cases hf:fitsB (all+S+size) with
   | false =>
    have HF:=hideP hf
    clear hf
    go_wp2
    go_ret2
    exact⟨by rw[HE.out,HF.out];rfl,HB.out⟩
   | true =>
    have HF:=hideP hf
    clear hf
    go_wp2_with fail
    refine(specFits_any all _).mono ?_
    rintro e w2 ⟨rfl,rfl⟩
    go_wp2
    go_ret2
    exact⟨by rw[HE.out,HF.out];rfl,HB.out⟩
  ·have he:tt=all+S:=by rw[HTO.out];unfold alongI;rw[if_neg h1,if_neg h2,HS.out]
   have HE:=hideP he
   clear he
   go_wp2_with fail
   refine(specFits_any (all+S) _).mono ?_
   rintro e w2 ⟨rfl,rfl⟩
   cases hf:fitsB (all+S) with
   | false =>
    have HF:=hideP hf
    clear hf
    go_wp2
    go_ret2
    exact⟨by rw[HE.out,HF.out];rfl,HB.out⟩
   | true =>
    have HF:=hideP hf
    clear hf
    go_wp2_with fail
    refine(specFits_any all _).mono ?_
    rintro e w2 ⟨rfl,rfl⟩
    go_wp2
    go_ret2
    exact⟨by rw[HE.out,HF.out];rfl,HB.out⟩
end Go.Proofs.YtbbehmcekbnkiaaGreat.Shr

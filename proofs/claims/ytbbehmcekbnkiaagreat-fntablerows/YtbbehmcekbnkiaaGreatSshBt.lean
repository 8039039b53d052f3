import Derived.Test.YtbbehmcekbnkiaaGreatOutt
namespace Go.Proofs.YtbbehmcekbnkiaaGreat.Shr
set_option maxHeartbeats 8000000
set_option maxRecDepth 20000
open Go.RowKit
set_option linter.unusedVariables false
set_option linter.unusedSimpArgs false
theorem own_slice {w:World}{base n:Nat}{v:Value}{xs:List Value}(h:w.ownsRow base 2 1 v n xs)(hnil:v≠ .slice none 0 0):∃g cp,v = .slice (some ⟨g,0,none⟩) n cp/\base<=g:=by
 rcases h.2 with ⟨h1,_⟩ | ⟨g,cp,cur,h1,hg0,_⟩
 ·exact absurd h1 hnil
 ·exact⟨g,cp,h1,hg0⟩
theorem specShare_zero {v:Value}{gs:List Gl}{w:World}(width target q:Int)(hq0:q=0)(h:GRow w v gs)(hok:glsOk gs=true)(hfw:fitsB width=true)(hft:fitsB target=true)(hq:q=target-width-siz gs) :
 Calls Tryz.prog 90 #[v,.int .i64 width,.int .i64 target] w fun e w'=>(∃v',e = .returned (.tuple #[v',setV 0 0 0 0 0 0])/\Row w' v' (sizes gs))/\Below w.heap.size w w':=by
 have HG:Hid (GRow w v gs):=h
 have HOK:Hid (glsOk gs=true):=hok
 obtain⟨ao,n,cap,rfl,hl,hr⟩:=h
 have heach:=glsOk_each hok
 have hn2:n<=10000:=by have:=heach.1;omega
 have HN:Hid (gs.length<=1048576):=Nat.le_trans heach.1 (by omega)
 have HE:Hid (∀k,k<gs.length->(gs.getD k Gl.none).ok=true):=heach.2
 have hsb:=siz_bound gs (fun k hk=>(ok_bounds (heach.2 k hk)).1) gs.length (Nat.le_refl _)
 rw[List.take_length] at hsb
 have HSB:Hid (-10737418230000<=siz gs/\siz gs<=10737418230000):=by constructor<;>omega
 have HR:Hid (0<n->∃b off,ao=some ⟨b,off,none⟩/\b<w.heap.size/\∀i,i<n->w.cell? ⟨b,off+i*5,none⟩=some (.int .i64 (gs.getD i Gl.none).s)/\w.cell? ⟨b,off+i*5+1,none⟩=some (.int .i64 (gs.getD i Gl.none).p)/\w.cell? ⟨b,off+i*5+2,none⟩=some (.int .i64 (gs.getD i Gl.none).po)/\w.cell? ⟨b,off+i*5+3,none⟩=some (.int .i64 (gs.getD i Gl.none).m)/\w.cell? ⟨b,off+i*5+4,none⟩=some (.int .i64 (gs.getD i Gl.none).mo)):=hr
 have HL:Hid (gs.length=n):=hl
 have hfb1 : -1073741823<=width/\width<=1073741823:=of_decide_eq_true hfw
 have hfb2 : -1073741823<=target/\target<=1073741823:=of_decide_eq_true hft
 obtain⟨hwi1,hwi2⟩:=hfb1
 obtain⟨hta1,hta2⟩:=hfb2
 have HFF:Hid (fitsB width=true/\fitsB target=true):=⟨hfw,hft⟩
 clear hr hl hok heach hsb hfw hft
 obtain⟨i0,hi,hz0,hz1,hz2⟩:=info_parts Tryz.info2
 go_enter Tryz.func90,Tryz.ntmps90
 go_wp2_with fail
 refine(specGlues_any (GRow.below HG ((Below.refl _ _).alloc (Nat.le_refl _) _)) HN).mono ?_
 rintro e w1 ⟨rfl,hb1⟩
 rw[show glsOk gs=true from HOK]
 have H1:Hid (w1.heap[w.heap.size]?=some (setO 0 0 0 0 0 0)/\Below w.heap.size w w1):=⟨block_keep (heap_alloc_new w _) hb1,((Below.refl _ _).alloc (Nat.le_refl _) _).trans (hb1.mono (by simp))⟩
 clear hb1
 go_wp2_with fail
 refine(specFits_any width _).mono ?_
 rintro e w2 ⟨rfl,hw2⟩
 have hw2':=hw2.symm
 clear hw2
 subst hw2'
 rw[HFF.1]
 go_wp2_with fail
 refine(specFits_any target _).mono ?_
 rintro e w2 ⟨rfl,hw2⟩
 have hw2':=hw2.symm
 clear hw2
 subst hw2'
 rw[HFF.2]
 go_wp2_with fail
 refine(specSum_any (GRow.below HG H1.2) HN).mono ?_
 rintro e w3 ⟨⟨v1,v2,rfl,hR1,hR2⟩,hb3⟩
 rw[show sumN gs=siz gs by simp[sumN,show glsOk gs=true from HOK]]
 rw[show sumP gs=tot Gl.p Gl.po gs by simp[sumP,show glsOk gs=true from HOK]] at hR1
 rw[show sumM gs=tot Gl.m Gl.mo gs by simp[sumM,show glsOk gs=true from HOK]] at hR2
 obtain⟨z,hz⟩:=exq (siz gs)
 rw[<-hz] at hq HSB ⊢
 have hsb1 : -10737418230000<=z:=HSB.1
 have hsb2:z<=10737418230000:=HSB.2
 clear hz HSB
 obtain⟨R,hR⟩:=exq (w.heap.size)
 have H3:Hid (w3.heap[R]?=some (setO 0 0 0 0 0 0)/\Below w.heap.size w w3/\Row w3 v1 (tot Gl.p Gl.po gs)/\Row w3 v2 (tot Gl.m Gl.mo gs)/\w.heap.size<=R):=⟨by rw[hR];exact block_keep H1.1 hb3,H1.2.trans (hb3.mono H1.2.size),hR1,hR2,by omega⟩
 rw[<-hR]
 clear hR hR1 hR2 hb3 H1
 have HAT:Hid ((w3.alloc (.cells #[] 2)).ownsRow w3.heap.size 2 1 (.slice (some ⟨w3.heap.size,0,none⟩) 0 0) 0 ((sizes (gs.take 0)).map (Value.int .i64))/\Below w3.heap.size w3 (w3.alloc (.cells #[] 2))) :=
  ⟨World.ownsRow_lit w3 #[] 0 (Nat.le_refl _) (by decide) rfl,(Below.refl _ _).alloc (Nat.le_refl _) _⟩
 go_wp2_with fail
 go_loopw [11,12] (fun s11 s12 wr=>∃k:Nat,k<=n/\s12 = .int .i64 k/\wr.ownsRow w3.heap.size 2 1 s11 k ((sizes (gs.take k)).map (Value.int .i64))/\s11≠ .slice none 0 0/\Below w3.heap.size w3 wr) (fun _ s _=>n-(intOf s).toNat)
 case atStart=>exact⟨0,by omega,rfl,HAT.1,by simp,HAT.2⟩
 case round =>
  obtain⟨k,hk,rfl,hown,hnil,hbel⟩:=hrel
  have hlen:gs.length=n:=HL
  by_cases hkn:k<n
  ·have hki:(k:Int)<(n:Int):=by omega
   obtain⟨b,off,rfl,hb,hc⟩:=HR (by omega)
   obtain⟨t,ht⟩:=exq ((gs.getD k Gl.none).s)
   have hc0:=(hc k hkn).1
   rw[<-ht] at hc0
   have HEQ:Hid (sizes (gs.take (k+1))=sizes (gs.take k)++[t]):=by rw[sizes_snoc (by omega),<-ht];trivial
   have hb3:b<w3.heap.size:=Nat.lt_of_lt_of_le hb H3.2.1.size
   have g0:=(hbel.cell (p:=⟨b,off+k*5,none⟩) hb3).trans ((H3.2.1.cell (p:=⟨b,off+k*5,none⟩) hb).trans hc0)
   have HOWN:Hid (wr.ownsRow w3.heap.size 2 1 _ k ((sizes (gs.take k)).map (Value.int .i64))):=hown
   have HBEL:Hid (Below w3.heap.size w3 wr):=hbel
   have hz:=hbel.size
   clear hc hc0 ht hown hbel hnil
   go_wp2_with (at_builtin;refine wpList_append_own _ rfl _ _ 54 rfl w3.heap.size 2 i0 (.int .i64 0) 1 8 Tryz.underlying54 hi hz0 hz1 hz2 rfl (by decide) _ _ _ rfl (World.ownsRow.alloc HOWN _) ⟨wr.heap.size,0,none⟩ 1 1 [.int .i64 t] rfl rfl ?c1 ?c2 ?c3 ?c4 ?c5 ?_)
   case c1 =>
    intro j u hj
    match j,hj with
    | 0,hj=>simp at hj;subst hj;simp[Addr.add]
   case c2=>intro u hu;simp at hu;subst hu;rfl
   case c3=>unfold maxLen;omega
   case c4=>omega
   case c5=>simp;omega
   intro v' w4 hown' hgrow hnil'
   have hb4:Below w3.heap.size w3 w4:=Below.grown (Below.alloc HBEL hz _) hgrow (by simp;omega) (fun r hr=>(World.ownsRow.lt HOWN r hr).1)
   have HF:Hid (w4.ownsRow w3.heap.size 2 1 v' (k+1) ((sizes (gs.take (k+1))).map (Value.int .i64))/\v'≠ .slice none 0 0/\Below w3.heap.size w3 w4):=by
    refine⟨?_,hnil',hb4⟩
    rw[show sizes (gs.take (k+1))=sizes (gs.take k)++[t] from HEQ,List.map_append]
    exact hown'
   clear hown' hgrow hnil' hb4 HOWN HBEL
   go_wp2
   go_roundw
   case rel=>exact⟨k+1,by omega,by go_num,HF⟩
   case measure=>simp[intOf];omega
  ·have hki:¬(k:Int)<(n:Int):=by omega
   obtain rfl:k=n:=by omega
   have et:gs.take k=gs:=by rw[<-hlen,List.take_length]
   rw[et] at hown
   obtain⟨g,cp,rfl,hg3⟩:=own_slice hown hnil
   have R4:=block_keep H3.1 hbel
   have hRl:R<wr.heap.size:=(glt R4)
   have hR3:R<w3.heap.size:=(glt H3.1)
   have hgl:=ownsRow_block hown
   have hgR:g≠R:=by omega
   have hRw:w.heap.size<=R:=H3.2.2.2.2
   have hgw:w.heap.size<=g:=by omega
   have HX:Hid (wr.heap[R]?=some (setO 0 0 0 0 0 0)/\wr.ownsRow w3.heap.size 2 1 (.slice (some ⟨g,0,none⟩) k cp) k ((sizes gs).map (Value.int .i64))/\Below w.heap.size w wr/\Row wr v1 (tot Gl.p Gl.po gs)/\Row wr v2 (tot Gl.m Gl.mo gs)):=⟨R4,hown,H3.2.1.trans (hbel.mono H3.2.1.size),H3.2.2.1.below hbel,H3.2.2.2.1.below hbel⟩
   clear hown hnil hbel et R4 HAT
   have hws:IntKind.i64.wrap (width+z)=width+z:=by rw[IntKind.wrap_i64];omega
   have hsl:(sizes gs).length=k:=by simp[sizes];exact hlen
   have HSL:Hid ((sizes gs).length=k):=hsl
   clear hsl
   have heq:width+z=target:=by omega
   clear hq hq0
   obtain⟨r0,r1,r2,r3,r4,r5⟩:=set_cells HX.1
   have fR:∀j,wr.frozen? ⟨R,j,none⟩=false:=fun j=>frozen_of_row wr R j _ _ HX.1
   have HF:Hid ((six wr R 0 0 0 0 0 0).heap[R]?=some (setO 0 0 0 0 0 0)/\Row (six wr R 0 0 0 0 0 0) (.slice (some ⟨g,0,none⟩) k cp) (sizes gs)/\Below w.heap.size w (six wr R 0 0 0 0 0 0)) :=
    ⟨six_heap HX.1 _ _ _ _ _ _,Row.own (owns_heap HX.2.1 (six_same hgR _ _ _ _ _ _)) HSL (by simpa [World.setCell] using hgl),(six_fr (Fr.below (Fr.refl g w) HX.2.2.1) hRw _ _ _ _ _ _).toBelow hgw (Nat.le_refl _)⟩
   clear HX
   go_wp2
   exact bodyPost_ret (v:= .tuple #[.slice (some ⟨g,0,none⟩) k cp,setV 0 0 0 0 0 0]) (results_tmp_cell rfl _ _ R _ _ rfl rfl (loadSet HF.1)) rfl ⟨⟨_,rfl,HF.2.1⟩,HF.2.2⟩
theorem specShare_up_none {v:Value}{gs:List Gl}{w:World}(width target q:Int)(on:Nat)(hv:Int)(hqs:0<q)(ho:on=top (tot Gl.p Gl.po gs))(hhv:hv=(tot Gl.p Gl.po gs).getD (top (tot Gl.p Gl.po gs)) 0)(hno:hv<=0)(h:GRow w v gs)(hok:glsOk gs=true)(hfw:fitsB width=true)(hft:fitsB target=true)(hq:q=target-width-siz gs) :
 Calls Tryz.prog 90 #[v,.int .i64 width,.int .i64 target] w fun e w'=>(∃v',e = .returned (.tuple #[v',setV 1 ((on:Int)) q hv 10000 0])/\Row w' v' (sizes gs))/\Below w.heap.size w w':=by
 have HG:Hid (GRow w v gs):=h
 have HOK:Hid (glsOk gs=true):=hok
 obtain⟨ao,n,cap,rfl,hl,hr⟩:=h
 have heach:=glsOk_each hok
 have hn2:n<=10000:=by have:=heach.1;omega
 have HN:Hid (gs.length<=1048576):=Nat.le_trans heach.1 (by omega)
 have HE:Hid (∀k,k<gs.length->(gs.getD k Gl.none).ok=true):=heach.2
 have hsb:=siz_bound gs (fun k hk=>(ok_bounds (heach.2 k hk)).1) gs.length (Nat.le_refl _)
 rw[List.take_length] at hsb
 have HSB:Hid (-10737418230000<=siz gs/\siz gs<=10737418230000):=by constructor<;>omega
 have HR:Hid (0<n->∃b off,ao=some ⟨b,off,none⟩/\b<w.heap.size/\∀i,i<n->w.cell? ⟨b,off+i*5,none⟩=some (.int .i64 (gs.getD i Gl.none).s)/\w.cell? ⟨b,off+i*5+1,none⟩=some (.int .i64 (gs.getD i Gl.none).p)/\w.cell? ⟨b,off+i*5+2,none⟩=some (.int .i64 (gs.getD i Gl.none).po)/\w.cell? ⟨b,off+i*5+3,none⟩=some (.int .i64 (gs.getD i Gl.none).m)/\w.cell? ⟨b,off+i*5+4,none⟩=some (.int .i64 (gs.getD i Gl.none).mo)):=hr
 have HL:Hid (gs.length=n):=hl
 have hfb1 : -1073741823<=width/\width<=1073741823:=of_decide_eq_true hfw
 have hfb2 : -1073741823<=target/\target<=1073741823:=of_decide_eq_true hft
 obtain⟨hwi1,hwi2⟩:=hfb1
 obtain⟨hta1,hta2⟩:=hfb2
 have HFF:Hid (fitsB width=true/\fitsB target=true):=⟨hfw,hft⟩
 clear hr hl hok heach hsb hfw hft
 have hbp:=stp_bound Gl.p Gl.po (on:Int) q hv gs (fun k hk=>(ok_bounds (HE k hk)).2.1)
 rw[show gs.length=n from HL] at hbp
 have HBP:Hid _:=hbp
 clear hbp
 have htv:=tot_have Gl.p Gl.po gs (show gs.length<=10000 by rw[show gs.length=n from HL];exact hn2) (fun k hk=>(ok_bounds (HE k hk)).2.1) (top (tot Gl.p Gl.po gs))
 rw[<-hhv] at htv
 obtain⟨htv1,htv2⟩:=htv
 obtain⟨i0,hi,hz0,hz1,hz2⟩:=info_parts Tryz.info2
 go_enter Tryz.func90,Tryz.ntmps90
 go_wp2_with fail
 refine(specGlues_any (GRow.below HG ((Below.refl _ _).alloc (Nat.le_refl _) _)) HN).mono ?_
 rintro e w1 ⟨rfl,hb1⟩
 rw[show glsOk gs=true from HOK]
 have H1:Hid (w1.heap[w.heap.size]?=some (setO 0 0 0 0 0 0)/\Below w.heap.size w w1):=⟨block_keep (heap_alloc_new w _) hb1,((Below.refl _ _).alloc (Nat.le_refl _) _).trans (hb1.mono (by simp))⟩
 clear hb1
 go_wp2_with fail
 refine(specFits_any width _).mono ?_
 rintro e w2 ⟨rfl,hw2⟩
 have hw2':=hw2.symm
 clear hw2
 subst hw2'
 rw[HFF.1]
 go_wp2_with fail
 refine(specFits_any target _).mono ?_
 rintro e w2 ⟨rfl,hw2⟩
 have hw2':=hw2.symm
 clear hw2
 subst hw2'
 rw[HFF.2]
 go_wp2_with fail
 refine(specSum_any (GRow.below HG H1.2) HN).mono ?_
 rintro e w3 ⟨⟨v1,v2,rfl,hR1,hR2⟩,hb3⟩
 rw[show sumN gs=siz gs by simp[sumN,show glsOk gs=true from HOK]]
 rw[show sumP gs=tot Gl.p Gl.po gs by simp[sumP,show glsOk gs=true from HOK]] at hR1
 rw[show sumM gs=tot Gl.m Gl.mo gs by simp[sumM,show glsOk gs=true from HOK]] at hR2
 obtain⟨z,hz⟩:=exq (siz gs)
 rw[<-hz] at hq HSB ⊢
 have hsb1 : -10737418230000<=z:=HSB.1
 have hsb2:z<=10737418230000:=HSB.2
 clear hz HSB
 obtain⟨R,hR⟩:=exq (w.heap.size)
 have H3:Hid (w3.heap[R]?=some (setO 0 0 0 0 0 0)/\Below w.heap.size w w3/\Row w3 v1 (tot Gl.p Gl.po gs)/\Row w3 v2 (tot Gl.m Gl.mo gs)/\w.heap.size<=R):=⟨by rw[hR];exact block_keep H1.1 hb3,H1.2.trans (hb3.mono H1.2.size),hR1,hR2,by omega⟩
 rw[<-hR]
 clear hR hR1 hR2 hb3 H1
 have HAT:Hid ((w3.alloc (.cells #[] 2)).ownsRow w3.heap.size 2 1 (.slice (some ⟨w3.heap.size,0,none⟩) 0 0) 0 ((sizes (gs.take 0)).map (Value.int .i64))/\Below w3.heap.size w3 (w3.alloc (.cells #[] 2))) :=
  ⟨World.ownsRow_lit w3 #[] 0 (Nat.le_refl _) (by decide) rfl,(Below.refl _ _).alloc (Nat.le_refl _) _⟩
 go_wp2_with fail
 go_loopw [11,12] (fun s11 s12 wr=>∃k:Nat,k<=n/\s12 = .int .i64 k/\wr.ownsRow w3.heap.size 2 1 s11 k ((sizes (gs.take k)).map (Value.int .i64))/\s11≠ .slice none 0 0/\Below w3.heap.size w3 wr) (fun _ s _=>n-(intOf s).toNat)
 case atStart=>exact⟨0,by omega,rfl,HAT.1,by simp,HAT.2⟩
 case round =>
  obtain⟨k,hk,rfl,hown,hnil,hbel⟩:=hrel
  have hlen:gs.length=n:=HL
  by_cases hkn:k<n
  ·have hki:(k:Int)<(n:Int):=by omega
   obtain⟨b,off,rfl,hb,hc⟩:=HR (by omega)
   obtain⟨t,ht⟩:=exq ((gs.getD k Gl.none).s)
   have hc0:=(hc k hkn).1
   rw[<-ht] at hc0
   have HEQ:Hid (sizes (gs.take (k+1))=sizes (gs.take k)++[t]):=by rw[sizes_snoc (by omega),<-ht];trivial
   have hb3:b<w3.heap.size:=Nat.lt_of_lt_of_le hb H3.2.1.size
   have g0:=(hbel.cell (p:=⟨b,off+k*5,none⟩) hb3).trans ((H3.2.1.cell (p:=⟨b,off+k*5,none⟩) hb).trans hc0)
   have HOWN:Hid (wr.ownsRow w3.heap.size 2 1 _ k ((sizes (gs.take k)).map (Value.int .i64))):=hown
   have HBEL:Hid (Below w3.heap.size w3 wr):=hbel
   have hz:=hbel.size
   clear hc hc0 ht hown hbel hnil
   go_wp2_with (at_builtin;refine wpList_append_own _ rfl _ _ 54 rfl w3.heap.size 2 i0 (.int .i64 0) 1 8 Tryz.underlying54 hi hz0 hz1 hz2 rfl (by decide) _ _ _ rfl (World.ownsRow.alloc HOWN _) ⟨wr.heap.size,0,none⟩ 1 1 [.int .i64 t] rfl rfl ?c1 ?c2 ?c3 ?c4 ?c5 ?_)
   case c1 =>
    intro j u hj
    match j,hj with
    | 0,hj=>simp at hj;subst hj;simp[Addr.add]
   case c2=>intro u hu;simp at hu;subst hu;rfl
   case c3=>unfold maxLen;omega
   case c4=>omega
   case c5=>simp;omega
   intro v' w4 hown' hgrow hnil'
   have hb4:Below w3.heap.size w3 w4:=Below.grown (Below.alloc HBEL hz _) hgrow (by simp;omega) (fun r hr=>(World.ownsRow.lt HOWN r hr).1)
   have HF:Hid (w4.ownsRow w3.heap.size 2 1 v' (k+1) ((sizes (gs.take (k+1))).map (Value.int .i64))/\v'≠ .slice none 0 0/\Below w3.heap.size w3 w4):=by
    refine⟨?_,hnil',hb4⟩
    rw[show sizes (gs.take (k+1))=sizes (gs.take k)++[t] from HEQ,List.map_append]
    exact hown'
   clear hown' hgrow hnil' hb4 HOWN HBEL
   go_wp2
   go_roundw
   case rel=>exact⟨k+1,by omega,by go_num,HF⟩
   case measure=>simp[intOf];omega
  ·have hki:¬(k:Int)<(n:Int):=by omega
   obtain rfl:k=n:=by omega
   have et:gs.take k=gs:=by rw[<-hlen,List.take_length]
   rw[et] at hown
   obtain⟨g,cp,rfl,hg3⟩:=own_slice hown hnil
   have R4:=block_keep H3.1 hbel
   have hRl:R<wr.heap.size:=(glt R4)
   have hR3:R<w3.heap.size:=(glt H3.1)
   have hgl:=ownsRow_block hown
   have hgR:g≠R:=by omega
   have hRw:w.heap.size<=R:=H3.2.2.2.2
   have hgw:w.heap.size<=g:=by omega
   have HX:Hid (wr.heap[R]?=some (setO 0 0 0 0 0 0)/\wr.ownsRow w3.heap.size 2 1 (.slice (some ⟨g,0,none⟩) k cp) k ((sizes gs).map (Value.int .i64))/\Below w.heap.size w wr/\Row wr v1 (tot Gl.p Gl.po gs)/\Row wr v2 (tot Gl.m Gl.mo gs)):=⟨R4,hown,H3.2.1.trans (hbel.mono H3.2.1.size),H3.2.2.1.below hbel,H3.2.2.2.1.below hbel⟩
   clear hown hnil hbel et R4 HAT
   have hws:IntKind.i64.wrap (width+z)=width+z:=by rw[IntKind.wrap_i64];omega
   have hsl:(sizes gs).length=k:=by simp[sizes];exact hlen
   have HSL:Hid ((sizes gs).length=k):=hsl
   clear hsl
   have hne:¬width+z=target:=by omega
   have hgt:¬target<width+z:=by omega
   have hwq:IntKind.i64.wrap (target-(width+z))=q:=by rw[IntKind.wrap_i64];omega
   have hq9:q<=9223372036854775807:=by omega
   have hrow:=HX.2.2.2.1
   have hrow0:Hid (Row wr v1 (tot Gl.p Gl.po gs)):=hrow
   obtain⟨at0,nt,ct,rfl,hnt,hrt⟩:=hrow
   obtain rfl:nt=4:=by rw[tot_length] at hnt;exact hnt.symm
   obtain⟨bt,ot,rfl,hbt,hct⟩:=hrt (by omega)
   have hon4:on<4:=by have:=top_le (tot Gl.p Gl.po gs);omega
   have honi:(on:Int)<4:=by omega
   have hcell:wr.cell? ⟨bt,ot+on,none⟩=some (.int .i64 hv):=by rw[hhv,<-ho];exact hct on hon4
   have hngt:¬0<hv:=by omega
   have HT:Hid (on=top (tot Gl.p Gl.po gs)):=ho
   clear hq hnt hrt hct hhv ho
   go_wp2_with fail
   refine(specTop_any (Row.below hrow0 ((Below.refl _ _).alloc (Nat.le_refl _) _)) (tot_length _ _ _)).mono ?_
   rintro e w5 ⟨rfl,hw5⟩
   have hw5':=hw5.symm
   clear hw5
   subst hw5'
   rw[<-show on=top (tot Gl.p Gl.po gs) from HT]
   obtain⟨r0,r1,r2,r3,r4,r5⟩:=set_cells HX.1
   have fR:∀j,wr.frozen? ⟨R,j,none⟩=false:=fun j=>frozen_of_row wr R j _ _ HX.1
   have HF:Hid (((six wr R 1 ((on:Int)) q hv 10000 0).alloc (.cells #[.int .i64 1,.int .i64 ((on:Int)),.int .i64 q,.int .i64 hv,.int .i64 10000,.int .i64 0] 28)).drew.heap[R]?=some (setO 1 ((on:Int)) q hv 10000 0)/\Row ((six wr R 1 ((on:Int)) q hv 10000 0).alloc (.cells #[.int .i64 1,.int .i64 ((on:Int)),.int .i64 q,.int .i64 hv,.int .i64 10000,.int .i64 0] 28)).drew (.slice (some ⟨g,0,none⟩) k cp) (sizes gs)/\Below w.heap.size w ((six wr R 1 ((on:Int)) q hv 10000 0).alloc (.cells #[.int .i64 1,.int .i64 ((on:Int)),.int .i64 q,.int .i64 hv,.int .i64 10000,.int .i64 0] 28)).drew):=by
    have hs:=six_heap HX.1 1 ((on:Int)) q hv 10000 0
    exact⟨(drew_heap _ _).trans ((Below.heap_alloc _ _ _ (glt hs)).trans hs),Row.below (Row.own (owns_heap HX.2.1 (six_same hgR _ _ _ _ _ _)) HSL (by simpa [World.setCell] using hgl)) ((Below.refl _ _).alloc (Nat.le_refl _) _).drew,(((six_fr (Fr.below (Fr.refl g w) HX.2.2.1) hRw _ _ _ _ _ _).alloc _).toBelow hgw (Nat.le_refl _)).drew⟩
   clear HX hrow0
   go_wp2
   go_region
   all_goals(try go_wp2)
   all_goals exact bodyPost_ret (v:= .tuple #[.slice (some ⟨g,0,none⟩) k cp,setV 1 ((on:Int)) q hv 10000 0]) (results_tmp_cell rfl _ _ R _ _ rfl rfl (loadSet HF.1)) rfl ⟨⟨_,rfl,HF.2.1⟩,HF.2.2⟩
theorem specShare_down_none {v:Value}{gs:List Gl}{w:World}(width target q:Int)(on:Nat)(hv:Int)(p:Int)(hpq:p = -q)(hqs:q<0)(ho:on=top (tot Gl.m Gl.mo gs))(hhv:hv=(tot Gl.m Gl.mo gs).getD (top (tot Gl.m Gl.mo gs)) 0)(hno:hv<=0)(h:GRow w v gs)(hok:glsOk gs=true)(hfw:fitsB width=true)(hft:fitsB target=true)(hq:q=target-width-siz gs) :
 Calls Tryz.prog 90 #[v,.int .i64 width,.int .i64 target] w fun e w'=>(∃v',e = .returned (.tuple #[v',setV (-1) ((on:Int)) p hv 1000000 p])/\Row w' v' (sizes gs))/\Below w.heap.size w w':=by
 have HG:Hid (GRow w v gs):=h
 have HOK:Hid (glsOk gs=true):=hok
 obtain⟨ao,n,cap,rfl,hl,hr⟩:=h
 have heach:=glsOk_each hok
 have hn2:n<=10000:=by have:=heach.1;omega
 have HN:Hid (gs.length<=1048576):=Nat.le_trans heach.1 (by omega)
 have HE:Hid (∀k,k<gs.length->(gs.getD k Gl.none).ok=true):=heach.2
 have hsb:=siz_bound gs (fun k hk=>(ok_bounds (heach.2 k hk)).1) gs.length (Nat.le_refl _)
 rw[List.take_length] at hsb
 have HSB:Hid (-10737418230000<=siz gs/\siz gs<=10737418230000):=by constructor<;>omega
 have HR:Hid (0<n->∃b off,ao=some ⟨b,off,none⟩/\b<w.heap.size/\∀i,i<n->w.cell? ⟨b,off+i*5,none⟩=some (.int .i64 (gs.getD i Gl.none).s)/\w.cell? ⟨b,off+i*5+1,none⟩=some (.int .i64 (gs.getD i Gl.none).p)/\w.cell? ⟨b,off+i*5+2,none⟩=some (.int .i64 (gs.getD i Gl.none).po)/\w.cell? ⟨b,off+i*5+3,none⟩=some (.int .i64 (gs.getD i Gl.none).m)/\w.cell? ⟨b,off+i*5+4,none⟩=some (.int .i64 (gs.getD i Gl.none).mo)):=hr
 have HL:Hid (gs.length=n):=hl
 have hfb1 : -1073741823<=width/\width<=1073741823:=of_decide_eq_true hfw
 have hfb2 : -1073741823<=target/\target<=1073741823:=of_decide_eq_true hft
 obtain⟨hwi1,hwi2⟩:=hfb1
 obtain⟨hta1,hta2⟩:=hfb2
 have HFF:Hid (fitsB width=true/\fitsB target=true):=⟨hfw,hft⟩
 clear hr hl hok heach hsb hfw hft
 have hbp:=stp_bound Gl.m Gl.mo (on:Int) p hv gs (fun k hk=>(ok_bounds (HE k hk)).2.2.1)
 rw[show gs.length=n from HL] at hbp
 have HBP:Hid _:=hbp
 clear hbp
 have htv:=tot_have Gl.m Gl.mo gs (show gs.length<=10000 by rw[show gs.length=n from HL];exact hn2) (fun k hk=>(ok_bounds (HE k hk)).2.2.1) (top (tot Gl.m Gl.mo gs))
 rw[<-hhv] at htv
 obtain⟨htv1,htv2⟩:=htv
 obtain⟨i0,hi,hz0,hz1,hz2⟩:=info_parts Tryz.info2
 go_enter Tryz.func90,Tryz.ntmps90
 go_wp2_with fail
 refine(specGlues_any (GRow.below HG ((Below.refl _ _).alloc (Nat.le_refl _) _)) HN).mono ?_
 rintro e w1 ⟨rfl,hb1⟩
 rw[show glsOk gs=true from HOK]
 have H1:Hid (w1.heap[w.heap.size]?=some (setO 0 0 0 0 0 0)/\Below w.heap.size w w1):=⟨block_keep (heap_alloc_new w _) hb1,((Below.refl _ _).alloc (Nat.le_refl _) _).trans (hb1.mono (by simp))⟩
 clear hb1
 go_wp2_with fail
 refine(specFits_any width _).mono ?_
 rintro e w2 ⟨rfl,hw2⟩
 have hw2':=hw2.symm
 clear hw2
 subst hw2'
 rw[HFF.1]
 go_wp2_with fail
 refine(specFits_any target _).mono ?_
 rintro e w2 ⟨rfl,hw2⟩
 have hw2':=hw2.symm
 clear hw2
 subst hw2'
 rw[HFF.2]
 go_wp2_with fail
 refine(specSum_any (GRow.below HG H1.2) HN).mono ?_
 rintro e w3 ⟨⟨v1,v2,rfl,hR1,hR2⟩,hb3⟩
 rw[show sumN gs=siz gs by simp[sumN,show glsOk gs=true from HOK]]
 rw[show sumP gs=tot Gl.p Gl.po gs by simp[sumP,show glsOk gs=true from HOK]] at hR1
 rw[show sumM gs=tot Gl.m Gl.mo gs by simp[sumM,show glsOk gs=true from HOK]] at hR2
 obtain⟨z,hz⟩:=exq (siz gs)
 rw[<-hz] at hq HSB ⊢
 have hsb1 : -10737418230000<=z:=HSB.1
 have hsb2:z<=10737418230000:=HSB.2
 clear hz HSB
 obtain⟨R,hR⟩:=exq (w.heap.size)
 have H3:Hid (w3.heap[R]?=some (setO 0 0 0 0 0 0)/\Below w.heap.size w w3/\Row w3 v1 (tot Gl.p Gl.po gs)/\Row w3 v2 (tot Gl.m Gl.mo gs)/\w.heap.size<=R):=⟨by rw[hR];exact block_keep H1.1 hb3,H1.2.trans (hb3.mono H1.2.size),hR1,hR2,by omega⟩
 rw[<-hR]
 clear hR hR1 hR2 hb3 H1
 have HAT:Hid ((w3.alloc (.cells #[] 2)).ownsRow w3.heap.size 2 1 (.slice (some ⟨w3.heap.size,0,none⟩) 0 0) 0 ((sizes (gs.take 0)).map (Value.int .i64))/\Below w3.heap.size w3 (w3.alloc (.cells #[] 2))) :=
  ⟨World.ownsRow_lit w3 #[] 0 (Nat.le_refl _) (by decide) rfl,(Below.refl _ _).alloc (Nat.le_refl _) _⟩
 go_wp2_with fail
 go_loopw [11,12] (fun s11 s12 wr=>∃k:Nat,k<=n/\s12 = .int .i64 k/\wr.ownsRow w3.heap.size 2 1 s11 k ((sizes (gs.take k)).map (Value.int .i64))/\s11≠ .slice none 0 0/\Below w3.heap.size w3 wr) (fun _ s _=>n-(intOf s).toNat)
 case atStart=>exact⟨0,by omega,rfl,HAT.1,by simp,HAT.2⟩
 case round =>
  obtain⟨k,hk,rfl,hown,hnil,hbel⟩:=hrel
  have hlen:gs.length=n:=HL
  by_cases hkn:k<n
  ·have hki:(k:Int)<(n:Int):=by omega
   obtain⟨b,off,rfl,hb,hc⟩:=HR (by omega)
   obtain⟨t,ht⟩:=exq ((gs.getD k Gl.none).s)
   have hc0:=(hc k hkn).1
   rw[<-ht] at hc0
   have HEQ:Hid (sizes (gs.take (k+1))=sizes (gs.take k)++[t]):=by rw[sizes_snoc (by omega),<-ht];trivial
   have hb3:b<w3.heap.size:=Nat.lt_of_lt_of_le hb H3.2.1.size
   have g0:=(hbel.cell (p:=⟨b,off+k*5,none⟩) hb3).trans ((H3.2.1.cell (p:=⟨b,off+k*5,none⟩) hb).trans hc0)
   have HOWN:Hid (wr.ownsRow w3.heap.size 2 1 _ k ((sizes (gs.take k)).map (Value.int .i64))):=hown
   have HBEL:Hid (Below w3.heap.size w3 wr):=hbel
   have hz:=hbel.size
   clear hc hc0 ht hown hbel hnil
   go_wp2_with (at_builtin;refine wpList_append_own _ rfl _ _ 54 rfl w3.heap.size 2 i0 (.int .i64 0) 1 8 Tryz.underlying54 hi hz0 hz1 hz2 rfl (by decide) _ _ _ rfl (World.ownsRow.alloc HOWN _) ⟨wr.heap.size,0,none⟩ 1 1 [.int .i64 t] rfl rfl ?c1 ?c2 ?c3 ?c4 ?c5 ?_)
   case c1 =>
    intro j u hj
    match j,hj with
    | 0,hj=>simp at hj;subst hj;simp[Addr.add]
   case c2=>intro u hu;simp at hu;subst hu;rfl
   case c3=>unfold maxLen;omega
   case c4=>omega
   case c5=>simp;omega
   intro v' w4 hown' hgrow hnil'
   have hb4:Below w3.heap.size w3 w4:=Below.grown (Below.alloc HBEL hz _) hgrow (by simp;omega) (fun r hr=>(World.ownsRow.lt HOWN r hr).1)
   have HF:Hid (w4.ownsRow w3.heap.size 2 1 v' (k+1) ((sizes (gs.take (k+1))).map (Value.int .i64))/\v'≠ .slice none 0 0/\Below w3.heap.size w3 w4):=by
    refine⟨?_,hnil',hb4⟩
    rw[show sizes (gs.take (k+1))=sizes (gs.take k)++[t] from HEQ,List.map_append]
    exact hown'
   clear hown' hgrow hnil' hb4 HOWN HBEL
   go_wp2
   go_roundw
   case rel=>exact⟨k+1,by omega,by go_num,HF⟩
   case measure=>simp[intOf];omega
  ·have hki:¬(k:Int)<(n:Int):=by omega
   obtain rfl:k=n:=by omega
   have et:gs.take k=gs:=by rw[<-hlen,List.take_length]
   rw[et] at hown
   obtain⟨g,cp,rfl,hg3⟩:=own_slice hown hnil
   have R4:=block_keep H3.1 hbel
   have hRl:R<wr.heap.size:=(glt R4)
   have hR3:R<w3.heap.size:=(glt H3.1)
   have hgl:=ownsRow_block hown
   have hgR:g≠R:=by omega
   have hRw:w.heap.size<=R:=H3.2.2.2.2
   have hgw:w.heap.size<=g:=by omega
   have HX:Hid (wr.heap[R]?=some (setO 0 0 0 0 0 0)/\wr.ownsRow w3.heap.size 2 1 (.slice (some ⟨g,0,none⟩) k cp) k ((sizes gs).map (Value.int .i64))/\Below w.heap.size w wr/\Row wr v1 (tot Gl.p Gl.po gs)/\Row wr v2 (tot Gl.m Gl.mo gs)):=⟨R4,hown,H3.2.1.trans (hbel.mono H3.2.1.size),H3.2.2.1.below hbel,H3.2.2.2.1.below hbel⟩
   clear hown hnil hbel et R4 HAT
   have hws:IntKind.i64.wrap (width+z)=width+z:=by rw[IntKind.wrap_i64];omega
   have hsl:(sizes gs).length=k:=by simp[sizes];exact hlen
   have HSL:Hid ((sizes gs).length=k):=hsl
   clear hsl
   have hne:¬width+z=target:=by omega
   have hgt:target<width+z:=by omega
   have hwq:IntKind.i64.wrap (target-(width+z))=q:=by rw[IntKind.wrap_i64];omega
   have hwp:IntKind.i64.wrap (width+z-target)=p:=by rw[IntKind.wrap_i64];omega
   have hpos:0<p:=by omega
   have hp9:p<=9223372036854775807:=by omega
   have hrow:=HX.2.2.2.2
   have hrow0:Hid (Row wr v2 (tot Gl.m Gl.mo gs)):=hrow
   obtain⟨at0,nt,ct,rfl,hnt,hrt⟩:=hrow
   obtain rfl:nt=4:=by rw[tot_length] at hnt;exact hnt.symm
   obtain⟨bt,ot,rfl,hbt,hct⟩:=hrt (by omega)
   have hon4:on<4:=by have:=top_le (tot Gl.m Gl.mo gs);omega
   have honi:(on:Int)<4:=by omega
   have hcell:wr.cell? ⟨bt,ot+on,none⟩=some (.int .i64 hv):=by rw[hhv,<-ho];exact hct on hon4
   have hngt:¬0<hv:=by omega
   have HT:Hid (on=top (tot Gl.m Gl.mo gs)):=ho
   clear hq hnt hrt hct hhv ho hpq
   go_wp2_with fail
   refine(specTop_any (Row.below hrow0 ((Below.refl _ _).alloc (Nat.le_refl _) _)) (tot_length _ _ _)).mono ?_
   rintro e w5 ⟨rfl,hw5⟩
   have hw5':=hw5.symm
   clear hw5
   subst hw5'
   rw[<-show on=top (tot Gl.m Gl.mo gs) from HT]
   obtain⟨r0,r1,r2,r3,r4,r5⟩:=set_cells HX.1
   have fR:∀j,wr.frozen? ⟨R,j,none⟩=false:=fun j=>frozen_of_row wr R j _ _ HX.1
   have HF:Hid (((six wr R (-1) ((on:Int)) p hv 1000000 p).alloc (.cells #[.int .i64 (-1),.int .i64 ((on:Int)),.int .i64 p,.int .i64 hv,.int .i64 1000000,.int .i64 p] 28)).drew.heap[R]?=some (setO (-1) ((on:Int)) p hv 1000000 p)/\Row ((six wr R (-1) ((on:Int)) p hv 1000000 p).alloc (.cells #[.int .i64 (-1),.int .i64 ((on:Int)),.int .i64 p,.int .i64 hv,.int .i64 1000000,.int .i64 p] 28)).drew (.slice (some ⟨g,0,none⟩) k cp) (sizes gs)/\Below w.heap.size w ((six wr R (-1) ((on:Int)) p hv 1000000 p).alloc (.cells #[.int .i64 (-1),.int .i64 ((on:Int)),.int .i64 p,.int .i64 hv,.int .i64 1000000,.int .i64 p] 28)).drew):=by
    have hs:=six_heap HX.1 (-1) ((on:Int)) p hv 1000000 p
    exact⟨(drew_heap _ _).trans ((Below.heap_alloc _ _ _ (glt hs)).trans hs),Row.below (Row.own (owns_heap HX.2.1 (six_same hgR _ _ _ _ _ _)) HSL (by simpa [World.setCell] using hgl)) ((Below.refl _ _).alloc (Nat.le_refl _) _).drew,(((six_fr (Fr.below (Fr.refl g w) HX.2.2.1) hRw _ _ _ _ _ _).alloc _).toBelow hgw (Nat.le_refl _)).drew⟩
   clear HX hrow0
   go_wp2
   go_region
   all_goals(try go_wp2)
   all_goals exact bodyPost_ret (v:= .tuple #[.slice (some ⟨g,0,none⟩) k cp,setV (-1) ((on:Int)) p hv 1000000 p]) (results_tmp_cell rfl _ _ R _ _ rfl rfl (loadSet HF.1)) rfl ⟨⟨_,rfl,HF.2.1⟩,HF.2.2⟩
end Go.Proofs.YtbbehmcekbnkiaaGreat.Shr

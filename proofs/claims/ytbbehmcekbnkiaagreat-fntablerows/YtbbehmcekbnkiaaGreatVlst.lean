import Derived.Test.YtbbehmcekbnkiaaGreatBslt
namespace Go.Proofs.YtbbehmcekbnkiaaGreat
open Go.RowKit
set_option linter.unusedVariables false
set_option linter.unusedSimpArgs false
def spk (xs:List Nd)(Z:List Nat)(deep:Int)(k:Nat):RS :=
 if k<Z.length then ⟨(stkTo xs (Z.take k)).w,(stkTo xs (Z.take k)).h,0,(stkTo xs (Z.take k)).gs⟩
 else ⟨(stkTo xs (Z.take k)).w-mnI (stkTo xs (Z.take k)).d deep,(stkTo xs (Z.take k)).h,mnI (stkTo xs (Z.take k)).d deep,(stkTo xs (Z.take k)).gs⟩
theorem spk_lt {xs:List Nd}{Z:List Nat}{deep:Int}{k:Nat}(h:k<Z.length):spk xs Z deep k=⟨(stkTo xs (Z.take k)).w,(stkTo xs (Z.take k)).h,0,(stkTo xs (Z.take k)).gs⟩:=by unfold spk;rw[if_pos h]
theorem spk_eq {xs:List Nd}{Z:List Nat}{deep:Int}{k:Nat}(h:¬k<Z.length):spk xs Z deep k=⟨(stkTo xs (Z.take k)).w-mnI (stkTo xs (Z.take k)).d deep,(stkTo xs (Z.take k)).h,mnI (stkTo xs (Z.take k)).d deep,(stkTo xs (Z.take k)).gs⟩:=by unfold spk;rw[if_neg h]
theorem spk_nil (xs:List Nd)(Z:List Nat){deep:Int}(hd:0<=deep):spk xs Z deep 0=RS.nil:=by
 have hmz:mnI 0 deep=0:=by unfold mnI;rw[if_neg (by omega)]
 unfold spk
 split
 ·rfl
 ·simp only[List.take_zero,stkTo,List.foldl_nil,RS.nil,hmz,Int.sub_zero]
theorem spk_all (xs:List Nd)(deep:Int):spk xs (begins xs) deep (begins xs).length=vpS xs deep:=by
 rw[spk_eq (Nat.lt_irrefl _),List.take_length]
 rfl
set_option maxRecDepth 20000 in
set_option maxHeartbeats 8000000 in
theorem specStack_any {v:Value}{xs:List Nd}{w:World}(deep:Int)(hdp:0<=deep/\deep<=1073741823)(h:NRow 0 w v xs)(hok:AllOk xs)(hg:∀i,i<xs.length->NdIn (xs.getD i Nd.none)) :
 Calls Tryz.prog 93 #[v,.int .i64 deep] w fun e w'=>(∃u,e = .returned (.tuple #[.int .i64 (spk xs (starts xs (xs.length+1) 0) deep (starts xs (xs.length+1) 0).length).w,u,.int .i64 (spk xs (starts xs (xs.length+1) 0) deep (starts xs (xs.length+1) 0).length).h,.int .i64 (spk xs (starts xs (xs.length+1) 0) deep (starts xs (xs.length+1) 0).length).d])/\w'.ownsRow w.heap.size 34 5 u (spk xs (starts xs (xs.length+1) 0) deep (starts xs (xs.length+1) 0).length).gs.length (f5 (spk xs (starts xs (xs.length+1) 0) deep (starts xs (xs.length+1) 0).length).gs))/\Below w.heap.size w w':=by
 have HC:Hid (∀W,Below w.heap.size w W->Calls Tryz.prog 108 #[v] W fun e w'=>(∃u,e = .returned u/\IR w' W.heap.size u (starts xs (xs.length+1) 0).length (natI (starts xs (xs.length+1) 0)))/\Below W.heap.size W w'):=hideP (fun W hW=>starts_any (h.below ndStable hW) hok.len hok.weak)
 obtain⟨ao,n,cap,rfl,hl,hr⟩:=h
 have hn:n<=20000:=by rw[<-hl];exact hok.len
 have HR:Hid (0<n->∃b off,ao=some ⟨b,off,none⟩/\0<=b/\b<w.heap.size/\∀i,i<n->∃cs:List Value,cs.length=15/\NdR 0 w cs (xs.getD i Nd.none)/\∀j,j<15->w.cell? ⟨b,off+i*15+j,none⟩=cs[j]?):=hideP hr
 obtain⟨Z,hZ⟩:=exq (starts xs (xs.length+1) 0)
 rw[<-hZ] at HC
 rw[<-hZ]
 have HZP:Hid (∀p∈Z,p<xs.length):=hideP (fun p hp=>starts_lt xs _ _ p (by rw[<-hZ];exact hp))
 have HRI:Hid (∀k,k<=Z.length->VIn (stkTo xs (Z.take k)) k):=hideP (fun k hk=>by
  have h1:=stkTo_in xs hg (Z.take k) (fun p hp=>HZP.out p (List.mem_of_mem_take hp))
  rw[List.length_take,Nat.min_eq_left hk] at h1
  exact h1)
 have HG:=hideP hg
 have HL:=hideP hl
 obtain⟨r,hrz⟩:=exq (Z.length)
 have HRZ:=hideP hrz
 have hr20:r<=20000:=by
  rw[hrz,hZ]
  have:=starts_count (xs:=xs) (xs.length+1) 0
  omega
 clear hr hl hZ hrz hg hok
 obtain⟨i0,hi,hz0,hz1,hz2⟩:=info_parts Shr.Tryz.info34
 go_enter Tryz.func93,Tryz.ntmps93
 go_wp2_with fail
 refine(HC.out _ (below1 _ _)).mono ?_
 rintro e w1 ⟨⟨va,rfl,hI⟩,hb1⟩
 have J0:Hid (RInv w w1 va Z (.slice (some ⟨w.heap.size,0,none⟩) 0 0) []):=hideP ⟨ownG_below (w:=w.alloc (.cells #[] 34)) ⟨rfl,.inr ⟨_,_,_,rfl,Nat.le_refl _,heap_alloc_new w _,by simp,by decide,rfl,rfl⟩⟩ hb1,ownG_mono hI (by simp),below_more (below1 _ _) hb1 (by simp)⟩
 obtain⟨aa,ca,rfl⟩:=ownG_shape hI
 rw[<-HRZ.out]
 clear hI hb1 HC
 go_wp2
 go_loopw [8,9,10,11,13] (fun sh sw sd su i wr=>∃(k:Nat) (u:Value) (m:Nat) (s:RS),k<=r/\i = .int .i64 k/\Hid (s=spk xs Z deep k)/\sw = .int .i64 s.w/\sh = .int .i64 s.h/\sd = .int .i64 s.d/\su=u/\Hid (m=s.gs.length)/\Hid (RInv w wr (.slice aa r ca) Z u s.gs)) (fun _ _ _ _ i _=>r-(intOf i).toNat)
 case atStart=>exact⟨0,_,0,RS.nil,by omega,rfl,hideP (spk_nil xs Z hdp.1).symm,rfl,rfl,rfl,rfl,hideP rfl,by rw[HRZ.out];exact J0⟩
 case round =>
  obtain⟨k,u,m,s,hk,rfl,HS,rfl,rfl,rfl,rfl,HM,HJ⟩:=hrel
  by_cases hkr:k<r
  ·have hki:(k:Int)<(r:Int):=by omega
   obtain⟨p,hp⟩:=exq (Z.getD k 0)
   have hpn:p<n:=by
    rw[<-HL.out,hp]
    refine HZP.out _ ?_
    rw[List.getD_eq_getElem?_getD,List.getElem?_eq_getElem (by rw[<-HRZ.out];exact hkr)]
    exact List.getElem_mem _
   have hpi:(p:Int)<(n:Int):=by omega
   have HTK:Hid (Z.take (k+1)=Z.take k++[p]):=hideP (by rw[hp];exact take_snoc Z k 0 (by rw[<-HRZ.out];exact hkr))
   obtain⟨b,off,rfl,_,hb,hc⟩:=HR.out (by omega)
   obtain⟨cs,hcl,hRel,hcj⟩:=hc p hpn
   obtain⟨t,ht⟩:=exq (xs.getD p Nd.none)
   rw[<-ht] at hRel
   have HNI:Hid (NdIn t):=hideP (by rw[ht];exact HG.out p (by rw[HL.out];exact hpn))
   have hSk:s=⟨(stkTo xs (Z.take k)).w,(stkTo xs (Z.take k)).h,0,(stkTo xs (Z.take k)).gs⟩:=by rw[HS.out];exact spk_lt (by rw[<-HRZ.out];exact hkr)
   have HST:Hid (stkTo xs (Z.take (k+1))=stkStep (stkTo xs (Z.take k)) t):=hideP (by rw[HTK.out,stkTo_snoc,<-ht])
   have hIn:VIn (stkTo xs (Z.take k)) k:=HRI.out k (by rw[<-HRZ.out];exact hk)
   obtain⟨qw1,qw2,qh1,qh2,qd1,qd2,qn,-⟩:=hIn
   obtain⟨⟨nw1,nw2⟩,⟨nh1,nh2⟩,⟨nd1,nd2⟩,⟨ns1,ns2⟩,-⟩:=HNI.out
   have hm:m<=20000:=by rw[HM.out,hSk];show (stkTo xs (Z.take k)).gs.length<=20000;omega
   obtain⟨GZ,rfl⟩:∃GZ,aa=some ⟨GZ,0,none⟩:=by
    rcases HJ.out.row.2 with ⟨_,h0⟩ | ⟨g,c,cur,he,_⟩
    ·rw[<-HRZ.out] at h0;omega
    ·cases he;exact⟨g,rfl⟩
   have hcz:wr.cell? ⟨GZ,k,none⟩=some (.int .i64 (p:Int)):=by
    have h0:=HJ.out.row
    rw[<-HRZ.out] at h0
    have h1:=natI_at (j:=k) h0 HRZ.out.symm hkr
    rw[<-hp] at h1
    exact h1
   obtain⟨kd,wd,hh,dp,sh,fo,ch,nn,gs,gp,gpo,gm,gmo,tx,kids⟩:=t
   simp only at nw1 nw2 nh1 nh2 nd1 nd2 ns1 ns2
   rw[show cs=_ from hRel] at hcj
   simp only[Nd.cells] at hcj
   have g0:wr.cell? ⟨b,off+p*15,none⟩=some (.int .i64 kd):=(HJ.out.bel.cell (p:=⟨b,off+p*15,none⟩) hb).trans (hcj 0 (by omega))
   have g1:wr.cell? ⟨b,off+p*15+1,none⟩=some (.int .i64 wd):=(HJ.out.bel.cell (p:=⟨b,off+p*15+1,none⟩) hb).trans (hcj 1 (by omega))
   have g2:wr.cell? ⟨b,off+p*15+2,none⟩=some (.int .i64 hh):=(HJ.out.bel.cell (p:=⟨b,off+p*15+2,none⟩) hb).trans (hcj 2 (by omega))
   have g3:wr.cell? ⟨b,off+p*15+3,none⟩=some (.int .i64 dp):=(HJ.out.bel.cell (p:=⟨b,off+p*15+3,none⟩) hb).trans (hcj 3 (by omega))
   have g4:wr.cell? ⟨b,off+p*15+4,none⟩=some (.int .i64 sh):=(HJ.out.bel.cell (p:=⟨b,off+p*15+4,none⟩) hb).trans (hcj 4 (by omega))
   have g5:wr.cell? ⟨b,off+p*15+5,none⟩=some (.int .i64 fo):=(HJ.out.bel.cell (p:=⟨b,off+p*15+5,none⟩) hb).trans (hcj 5 (by omega))
   have g6:wr.cell? ⟨b,off+p*15+6,none⟩=some (.int .i64 ch):=(HJ.out.bel.cell (p:=⟨b,off+p*15+6,none⟩) hb).trans (hcj 6 (by omega))
   have g7:wr.cell? ⟨b,off+p*15+7,none⟩=some (.int .i64 nn):=(HJ.out.bel.cell (p:=⟨b,off+p*15+7,none⟩) hb).trans (hcj 7 (by omega))
   have g8:wr.cell? ⟨b,off+p*15+8,none⟩=some (.int .i64 gs):=(HJ.out.bel.cell (p:=⟨b,off+p*15+8,none⟩) hb).trans (hcj 8 (by omega))
   have g9:wr.cell? ⟨b,off+p*15+9,none⟩=some (.int .i64 gp):=(HJ.out.bel.cell (p:=⟨b,off+p*15+9,none⟩) hb).trans (hcj 9 (by omega))
   have g10:wr.cell? ⟨b,off+p*15+10,none⟩=some (.int .i64 gpo):=(HJ.out.bel.cell (p:=⟨b,off+p*15+10,none⟩) hb).trans (hcj 10 (by omega))
   have g11:wr.cell? ⟨b,off+p*15+11,none⟩=some (.int .i64 gm):=(HJ.out.bel.cell (p:=⟨b,off+p*15+11,none⟩) hb).trans (hcj 11 (by omega))
   have g12:wr.cell? ⟨b,off+p*15+12,none⟩=some (.int .i64 gmo):=(HJ.out.bel.cell (p:=⟨b,off+p*15+12,none⟩) hb).trans (hcj 12 (by omega))
   have g13:wr.cell? ⟨b,off+p*15+13,none⟩=some (.string tx):=(HJ.out.bel.cell (p:=⟨b,off+p*15+13,none⟩) hb).trans (hcj 13 (by omega))
   have g14:wr.cell? ⟨b,off+p*15+14,none⟩=some (.int .i64 kids):=(HJ.out.bel.cell (p:=⟨b,off+p*15+14,none⟩) hb).trans (hcj 14 (by omega))
   clear hc hcj hcl hRel ht hp
   obtain⟨S0,hS0⟩:=exq (stkTo xs (Z.take k))
   rw[<-hS0] at hSk HST qw1 qw2 qh1 qh2 qn
   obtain⟨aw,sh0,sd1,sgs⟩:=S0
   subst hSk
   simp only at qw1 qw2 qh1 qh2 qn
   clear hS0 qd1 qd2
   have N5:Hid (∀j u,[Value.int .i64 gs,.int .i64 gp,.int .i64 gpo,.int .i64 gm,.int .i64 gmo][j]?=some u->((wr.alloc (.cells #[.int .i64 kd,.int .i64 wd,.int .i64 hh,.int .i64 dp,.int .i64 sh,.int .i64 fo,.int .i64 ch,.int .i64 nn,.int .i64 gs,.int .i64 gp,.int .i64 gpo,.int .i64 gm,.int .i64 gmo,.string tx,.int .i64 kids] 36)).alloc (.cells #[.int .i64 gs,.int .i64 gp,.int .i64 gpo,.int .i64 gm,.int .i64 gmo] 34)).cell? ((⟨wr.heap.size+1,0,none⟩:Addr).add j)=some u):=hideP (by
    have h:=new5 (wr.alloc (.cells #[.int .i64 kd,.int .i64 wd,.int .i64 hh,.int .i64 dp,.int .i64 sh,.int .i64 fo,.int .i64 ch,.int .i64 nn,.int .i64 gs,.int .i64 gp,.int .i64 gpo,.int .i64 gm,.int .i64 gmo,.string tx,.int .i64 kids] 36)) (.int .i64 gs) (.int .i64 gp) (.int .i64 gpo) (.int .i64 gm) (.int .i64 gmo) 34
    rw[show (wr.alloc (.cells #[.int .i64 kd,.int .i64 wd,.int .i64 hh,.int .i64 dp,.int .i64 sh,.int .i64 fo,.int .i64 ch,.int .i64 nn,.int .i64 gs,.int .i64 gp,.int .i64 gpo,.int .i64 gm,.int .i64 gmo,.string tx,.int .i64 kids] 36)).heap.size=wr.heap.size+1 by simp] at h
    exact h)
   have HJ1:Hid (RInv w (wr.alloc (.cells #[.int .i64 kd,.int .i64 wd,.int .i64 hh,.int .i64 dp,.int .i64 sh,.int .i64 fo,.int .i64 ch,.int .i64 nn,.int .i64 gs,.int .i64 gp,.int .i64 gpo,.int .i64 gm,.int .i64 gmo,.string tx,.int .i64 kids] 36)) (.slice (some ⟨GZ,0,none⟩) r ca) Z u11 sgs):=hideP (HJ.out.below (below1 _ _))
   have hsz:w.heap.size<=wr.heap.size:=HJ.out.bel.size
   have hk1:(k+1=Z.length)=(k+1=r):=by rw[<-HRZ.out]
   have PN:Hid (pileB ⟨kd,wd,hh,dp,sh,fo,ch,nn,gs,gp,gpo,gm,gmo,tx,kids⟩=true->k+1<r->(⟨aw+hh+dp,Shr.mxI sh0 (wd+sh),0,sgs⟩:RS)=spk xs Z deep (k+1)):=hideP (fun h hl=>by
    rw[spk_lt (by rw[<-HRZ.out];exact hl),HST.out];unfold stkStep;rw[if_pos h];simp only[RS.pile];rw[show aw+hh+dp=aw+(hh+dp) by omega])
   have PD:Hid (pileB ⟨kd,wd,hh,dp,sh,fo,ch,nn,gs,gp,gpo,gm,gmo,tx,kids⟩=true->¬k+1<r->deep<dp->(⟨aw+hh+dp-deep,Shr.mxI sh0 (wd+sh),deep,sgs⟩:RS)=spk xs Z deep (k+1)):=hideP (fun h hl hd=>by
    rw[spk_eq (by rw[<-HRZ.out];omega),HST.out];unfold stkStep;rw[if_pos h];have hm:mnI dp deep=deep:=by unfold mnI;rw[if_pos hd]
    show _=(⟨aw+(hh+dp)-mnI dp deep,Shr.mxI sh0 (wd+sh),mnI dp deep,sgs⟩:RS)
    rw[hm,show aw+hh+dp-deep=aw+(hh+dp)-deep by omega])
   have PU:Hid (pileB ⟨kd,wd,hh,dp,sh,fo,ch,nn,gs,gp,gpo,gm,gmo,tx,kids⟩=true->¬k+1<r->¬deep<dp->(⟨aw+hh,Shr.mxI sh0 (wd+sh),dp,sgs⟩:RS)=spk xs Z deep (k+1)):=hideP (fun h hl hd=>by
    rw[spk_eq (by rw[<-HRZ.out];omega),HST.out];unfold stkStep;rw[if_pos h];have hm:mnI dp deep=dp:=by unfold mnI;rw[if_neg hd]
    show _=(⟨aw+(hh+dp)-mnI dp deep,Shr.mxI sh0 (wd+sh),mnI dp deep,sgs⟩:RS)
    rw[hm,show aw+hh=aw+(hh+dp)-dp by omega])
   have ZR:Hid (∀s':RS,stkTo xs (Z.take (k+1))=s'->s'.d=0->s'=spk xs Z deep (k+1)):=hideP (fun s' hs hd=>by
    have hmz:mnI 0 deep=0:=by unfold mnI;rw[if_neg (by omega)]
    by_cases hl:k+1<r
    ·rw[spk_lt (by rw[<-HRZ.out];exact hl),hs];obtain⟨x1,x2,x3,x4⟩:=s';simp only at hd;rw[hd]
    ·rw[spk_eq (by rw[<-HRZ.out];omega),hs];obtain⟨x1,x2,x3,x4⟩:=s';simp only at hd;subst hd;simp only[hmz,Int.sub_zero])
   have KERN:Hid (kd=2->(⟨aw+wd,sh0,0,sgs⟩:RS)=spk xs Z deep (k+1)):=hideP (fun h=>ZR.out _ (by rw[HST.out];exact stkStep_2 h) rfl)
   have GLUE:Hid (kd=3->(⟨aw,sh0,0,sgs++[⟨gs,gp,gpo,gm,gmo⟩]⟩:RS)=spk xs Z deep (k+1)):=hideP (fun h=>ZR.out _ (by rw[HST.out];exact stkStep_3 h) rfl)
   have NONE:Hid (kd≠5->kd≠6->kd≠7->kd≠2->kd≠3->(⟨aw,sh0,0,sgs⟩:RS)=spk xs Z deep (k+1)):=hideP (fun h5 h6 h7 h2 h3=>ZR.out _ (by rw[HST.out];exact stkStep_0 h2 h3 h5 h6 h7) rfl)
   clear HS HNI HST HTK HRI HZP HG HR HL ZR hk1
   have hr1:(0:Int)<=(r:Int)-1:=by omega
   by_cases hlast:k+1<r
   ·have hA:(k:Int)<(r:Int)-1:=by omega
    have HLA:=hideP hlast
    clear hlast
    go_wp2_with (first
     | (go_at_call 109;refine(Shr.mostI_any _ _ _).mono ?_;rintro e w2 ⟨rfl,rfl⟩)
     | (at_builtin;refine wpList_append_own_at _ rfl _ _ 127 rfl w.heap.size 34 i0 (.agg #[.int .i64 0,.int .i64 0,.int .i64 0,.int .i64 0,.int .i64 0]) 5 40 Tryz.underlying127 hi hz0 hz1 hz2 rfl (by decide) u11 m (f5 sgs) rfl (World.ownsRow.alloc (RInv.own' HJ1.out HM.out) _) ⟨wr.heap.size+1,0,none⟩ 1 1 [.int .i64 gs,.int .i64 gp,.int .i64 gpo,.int .i64 gm,.int .i64 gmo] rfl rfl N5.out (one5 _ _ _ _ _) (by unfold maxLen;omega) (by omega) (by simp;omega) ?_;intro v6 w6 hown6 hgrow6 hnil6 hlies6;have J6:Hid (RInv w w6 (.slice (some ⟨GZ,0,none⟩) r ca) Z v6 (sgs++[⟨gs,gp,gpo,gm,gmo⟩])):=hideP (RInv.put HJ1.out (by rw[<-HM.out];exact hown6) hgrow6);clear hown6 hgrow6 hnil6 hlies6))
    ·exact⟨⟨k+1,_,m,⟨aw+hh+dp,Shr.mxI sh0 (wd+sh),0,sgs⟩,by omega,by go_num,hideP (PN.out (by unfold pileB;simp only[‹(kd == 5)=true›,Bool.or_true,Bool.true_or]) HLA.out),rfl,rfl,rfl,rfl,HM,HJ1⟩,by simp[intOf];omega⟩
    ·exact⟨⟨k+1,_,m,⟨aw+hh+dp,Shr.mxI sh0 (wd+sh),0,sgs⟩,by omega,by go_num,hideP (PN.out (by unfold pileB;simp only[‹(kd == 6)=true›,Bool.or_true,Bool.true_or]) HLA.out),rfl,rfl,rfl,rfl,HM,HJ1⟩,by simp[intOf];omega⟩
    ·exact⟨⟨k+1,_,m,⟨aw+hh+dp,Shr.mxI sh0 (wd+sh),0,sgs⟩,by omega,by go_num,hideP (PN.out (by unfold pileB;simp only[‹(kd == 7)=true›,Bool.or_true,Bool.true_or]) HLA.out),rfl,rfl,rfl,rfl,HM,HJ1⟩,by simp[intOf];omega⟩
    ·exact⟨⟨k+1,_,m,⟨aw+wd,sh0,0,sgs⟩,by omega,by go_num,hideP (KERN.out (beq_iff_eq.1 ‹(kd == 2)=true›)),rfl,rfl,rfl,rfl,HM,HJ1⟩,by simp[intOf];omega⟩
    ·exact⟨⟨k+1,_,m+1,⟨aw,sh0,0,sgs++[⟨gs,gp,gpo,gm,gmo⟩]⟩,by omega,by go_num,hideP (GLUE.out (beq_iff_eq.1 ‹(kd == 3)=true›)),rfl,rfl,rfl,rfl,hideP (by rw[HM.out];simp),‹Hid (RInv w _ _ Z _ (sgs++[_]))›⟩,by simp[intOf];omega⟩
    ·exact⟨⟨k+1,_,m,⟨aw,sh0,0,sgs⟩,by omega,by go_num,hideP (NONE.out (fun e=>by subst e;exact absurd ‹((5:Int) == 5)=false› (by decide)) (fun e=>by subst e;exact absurd ‹((6:Int) == 6)=false› (by decide)) (fun e=>by subst e;exact absurd ‹((7:Int) == 7)=false› (by decide)) (fun e=>by subst e;exact absurd ‹((2:Int) == 2)=false› (by decide)) (fun e=>by subst e;exact absurd ‹((3:Int) == 3)=false› (by decide))),rfl,rfl,rfl,rfl,HM,HJ1⟩,by simp[intOf];omega⟩
   ·have hA:¬(k:Int)<(r:Int)-1:=by omega
    have HLA:=hideP hlast
    clear hlast
    by_cases hdd:deep<dp
    ·have HDD:=hideP hdd
     go_wp2_with (first
      | (go_at_call 109;refine(Shr.mostI_any _ _ _).mono ?_;rintro e w2 ⟨rfl,rfl⟩)
      | (at_builtin;refine wpList_append_own_at _ rfl _ _ 127 rfl w.heap.size 34 i0 (.agg #[.int .i64 0,.int .i64 0,.int .i64 0,.int .i64 0,.int .i64 0]) 5 40 Tryz.underlying127 hi hz0 hz1 hz2 rfl (by decide) u11 m (f5 sgs) rfl (World.ownsRow.alloc (RInv.own' HJ1.out HM.out) _) ⟨wr.heap.size+1,0,none⟩ 1 1 [.int .i64 gs,.int .i64 gp,.int .i64 gpo,.int .i64 gm,.int .i64 gmo] rfl rfl N5.out (one5 _ _ _ _ _) (by unfold maxLen;omega) (by omega) (by simp;omega) ?_;intro v6 w6 hown6 hgrow6 hnil6 hlies6;have J6:Hid (RInv w w6 (.slice (some ⟨GZ,0,none⟩) r ca) Z v6 (sgs++[⟨gs,gp,gpo,gm,gmo⟩])):=hideP (RInv.put HJ1.out (by rw[<-HM.out];exact hown6) hgrow6);clear hown6 hgrow6 hnil6 hlies6))
     ·exact⟨⟨k+1,_,m,⟨aw+hh+dp-deep,Shr.mxI sh0 (wd+sh),deep,sgs⟩,by omega,by go_num,hideP (PD.out (by unfold pileB;simp only[‹(kd == 5)=true›,Bool.or_true,Bool.true_or]) HLA.out HDD.out),rfl,rfl,rfl,rfl,HM,HJ1⟩,by simp[intOf];omega⟩
     ·exact⟨⟨k+1,_,m,⟨aw+hh+dp-deep,Shr.mxI sh0 (wd+sh),deep,sgs⟩,by omega,by go_num,hideP (PD.out (by unfold pileB;simp only[‹(kd == 6)=true›,Bool.or_true,Bool.true_or]) HLA.out HDD.out),rfl,rfl,rfl,rfl,HM,HJ1⟩,by simp[intOf];omega⟩
     ·exact⟨⟨k+1,_,m,⟨aw+hh+dp-deep,Shr.mxI sh0 (wd+sh),deep,sgs⟩,by omega,by go_num,hideP (PD.out (by unfold pileB;simp only[‹(kd == 7)=true›,Bool.or_true,Bool.true_or]) HLA.out HDD.out),rfl,rfl,rfl,rfl,HM,HJ1⟩,by simp[intOf];omega⟩
     ·exact⟨⟨k+1,_,m,⟨aw+wd,sh0,0,sgs⟩,by omega,by go_num,hideP (KERN.out (beq_iff_eq.1 ‹(kd == 2)=true›)),rfl,rfl,rfl,rfl,HM,HJ1⟩,by simp[intOf];omega⟩
     ·exact⟨⟨k+1,_,m+1,⟨aw,sh0,0,sgs++[⟨gs,gp,gpo,gm,gmo⟩]⟩,by omega,by go_num,hideP (GLUE.out (beq_iff_eq.1 ‹(kd == 3)=true›)),rfl,rfl,rfl,rfl,hideP (by rw[HM.out];simp),‹Hid (RInv w _ _ Z _ (sgs++[_]))›⟩,by simp[intOf];omega⟩
     ·exact⟨⟨k+1,_,m,⟨aw,sh0,0,sgs⟩,by omega,by go_num,hideP (NONE.out (fun e=>by subst e;exact absurd ‹((5:Int) == 5)=false› (by decide)) (fun e=>by subst e;exact absurd ‹((6:Int) == 6)=false› (by decide)) (fun e=>by subst e;exact absurd ‹((7:Int) == 7)=false› (by decide)) (fun e=>by subst e;exact absurd ‹((2:Int) == 2)=false› (by decide)) (fun e=>by subst e;exact absurd ‹((3:Int) == 3)=false› (by decide))),rfl,rfl,rfl,rfl,HM,HJ1⟩,by simp[intOf];omega⟩
    ·have HDD:=hideP hdd
     go_wp2_with (first
      | (go_at_call 109;refine(Shr.mostI_any _ _ _).mono ?_;rintro e w2 ⟨rfl,rfl⟩)
      | (at_builtin;refine wpList_append_own_at _ rfl _ _ 127 rfl w.heap.size 34 i0 (.agg #[.int .i64 0,.int .i64 0,.int .i64 0,.int .i64 0,.int .i64 0]) 5 40 Tryz.underlying127 hi hz0 hz1 hz2 rfl (by decide) u11 m (f5 sgs) rfl (World.ownsRow.alloc (RInv.own' HJ1.out HM.out) _) ⟨wr.heap.size+1,0,none⟩ 1 1 [.int .i64 gs,.int .i64 gp,.int .i64 gpo,.int .i64 gm,.int .i64 gmo] rfl rfl N5.out (one5 _ _ _ _ _) (by unfold maxLen;omega) (by omega) (by simp;omega) ?_;intro v6 w6 hown6 hgrow6 hnil6 hlies6;have J6:Hid (RInv w w6 (.slice (some ⟨GZ,0,none⟩) r ca) Z v6 (sgs++[⟨gs,gp,gpo,gm,gmo⟩])):=hideP (RInv.put HJ1.out (by rw[<-HM.out];exact hown6) hgrow6);clear hown6 hgrow6 hnil6 hlies6))
     ·exact⟨⟨k+1,_,m,⟨aw+hh,Shr.mxI sh0 (wd+sh),dp,sgs⟩,by omega,by go_num,hideP (PU.out (by unfold pileB;simp only[‹(kd == 5)=true›,Bool.or_true,Bool.true_or]) HLA.out HDD.out),rfl,rfl,rfl,rfl,HM,HJ1⟩,by simp[intOf];omega⟩
     ·exact⟨⟨k+1,_,m,⟨aw+hh,Shr.mxI sh0 (wd+sh),dp,sgs⟩,by omega,by go_num,hideP (PU.out (by unfold pileB;simp only[‹(kd == 6)=true›,Bool.or_true,Bool.true_or]) HLA.out HDD.out),rfl,rfl,rfl,rfl,HM,HJ1⟩,by simp[intOf];omega⟩
     ·exact⟨⟨k+1,_,m,⟨aw+hh,Shr.mxI sh0 (wd+sh),dp,sgs⟩,by omega,by go_num,hideP (PU.out (by unfold pileB;simp only[‹(kd == 7)=true›,Bool.or_true,Bool.true_or]) HLA.out HDD.out),rfl,rfl,rfl,rfl,HM,HJ1⟩,by simp[intOf];omega⟩
     ·exact⟨⟨k+1,_,m,⟨aw+wd,sh0,0,sgs⟩,by omega,by go_num,hideP (KERN.out (beq_iff_eq.1 ‹(kd == 2)=true›)),rfl,rfl,rfl,rfl,HM,HJ1⟩,by simp[intOf];omega⟩
     ·exact⟨⟨k+1,_,m+1,⟨aw,sh0,0,sgs++[⟨gs,gp,gpo,gm,gmo⟩]⟩,by omega,by go_num,hideP (GLUE.out (beq_iff_eq.1 ‹(kd == 3)=true›)),rfl,rfl,rfl,rfl,hideP (by rw[HM.out];simp),‹Hid (RInv w _ _ Z _ (sgs++[_]))›⟩,by simp[intOf];omega⟩
     ·exact⟨⟨k+1,_,m,⟨aw,sh0,0,sgs⟩,by omega,by go_num,hideP (NONE.out (fun e=>by subst e;exact absurd ‹((5:Int) == 5)=false› (by decide)) (fun e=>by subst e;exact absurd ‹((6:Int) == 6)=false› (by decide)) (fun e=>by subst e;exact absurd ‹((7:Int) == 7)=false› (by decide)) (fun e=>by subst e;exact absurd ‹((2:Int) == 2)=false› (by decide)) (fun e=>by subst e;exact absurd ‹((3:Int) == 3)=false› (by decide))),rfl,rfl,rfl,rfl,HM,HJ1⟩,by simp[intOf];omega⟩
  ·have hki:¬(k:Int)<(r:Int):=by omega
   have hE:s=spk xs Z deep Z.length:=by rw[HS.out,show k=Z.length by rw[<-HRZ.out];omega]
   subst hE
   go_wp2
   refine bodyPost_ret (by simp[results,Tryz.results93,go_sem];try rfl) rfl ?_
   exact⟨⟨_,rfl,HJ.out.own⟩,HJ.out.bel⟩
end Go.Proofs.YtbbehmcekbnkiaaGreat

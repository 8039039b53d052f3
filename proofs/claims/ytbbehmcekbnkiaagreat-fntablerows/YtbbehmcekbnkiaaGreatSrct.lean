import Derived.Test.YtbbehmcekbnkiaaGreatTrqt
namespace Go.Proofs.YtbbehmcekbnkiaaGreat
set_option maxHeartbeats 16000000
open Go.RowKit
set_option linter.unusedVariables false
set_option linter.unusedSimpArgs false
structure GI2 (W0 wr:World)(G:Nat)(co gs gp gpo gm gmo:Int)(ua:Option Addr)(n uc:Nat)(ls:List Ln)(rs:List Rw):Prop where
 grd:wr.heap[G]?=some (grO co gs gp gpo gm gmo (.slice ua n uc))
 own:wr.ownsRow W0.heap.size 119 2 (.slice ua n uc) n (flatL ls)
 rows:GRows W0 wr rs ls n
theorem GI2.below {W0 wr w2:World}{G:Nat}{co gs gp gpo gm gmo:Int}{ua:Option Addr}{n uc:Nat}{ls:List Ln}{rs:List Rw}(h:GI2 W0 wr G co gs gp gpo gm gmo ua n uc ls rs)(hb:Below wr.heap.size wr w2):GI2 W0 w2 G co gs gp gpo gm gmo ua n uc ls rs :=
 ⟨(hb.block _ (glt h.grd)).trans h.grd,ownG_below h.own hb,h.rows.below hb⟩
theorem GI2.grown {W0 wr w2:World}{G:Nat}{co gs gp gpo gm gmo:Int}{ua:Option Addr}{n uc:Nat}{ls:List Ln}{rs:List Rw}{B k:Nat}{v:Value}{xs:List Value}(h:GI2 W0 wr G co gs gp gpo gm gmo ua n uc ls rs)(o:wr.ownsRow B 54 1 v k xs)(hg:wr.grownBy w2 v.ownBlock):GI2 W0 w2 G co gs gp gpo gm gmo ua n uc ls rs :=
 ⟨(hg.block _ (glt h.grd) (fun e=>own_neB h.grd o (by decide) e.symm)).trans h.grd,World.ownsRow.kept h.own hg (ownG_ne h.own o (by decide)),h.rows.keep (fun _ _ _ o2=>World.ownsRow.kept o2 hg (ownG_ne o2 o (by decide)))⟩
theorem GI2.lt {W0 wr:World}{G:Nat}{co gs gp gpo gm gmo:Int}{ua:Option Addr}{n uc:Nat}{ls:List Ln}{rs:List Rw}(h:GI2 W0 wr G co gs gp gpo gm gmo ua n uc ls rs):G<wr.heap.size:=(glt h.grd)
theorem GI2.cell6 {W0 wr:World}{G:Nat}{co gs gp gpo gm gmo:Int}{ua:Option Addr}{n uc:Nat}{ls:List Ln}{rs:List Rw}(h:GI2 W0 wr G co gs gp gpo gm gmo ua n uc ls rs):wr.cell? ⟨G,6,none⟩=some (.slice ua n uc):=cell_of_row _ _ 6 _ 110 _ h.grd
theorem GI2.lane {W0 wr:World}{G:Nat}{co gs gp gpo gm gmo:Int}{ua:Option Addr}{n uc:Nat}{ls:List Ln}{rs:List Rw}(h:GI2 W0 wr G co gs gp gpo gm gmo ua n uc ls rs){i:Nat}(hi:i<n):∃a c,(ls.getD i Ln.none).v = .slice a (rs.getD i Rw.none).cs.length c:=by
 obtain⟨_,ps,o,_⟩:=h.rows.2 i hi
 exact ownG_shape o
theorem GI2.cellL {W0 wr:World}{G gl:Nat}{co gs gp gpo gm gmo:Int}{n uc:Nat}{ls:List Ln}{rs:List Rw}(h:GI2 W0 wr G co gs gp gpo gm gmo (some ⟨gl,0,none⟩) n uc ls rs){i:Nat}(hi:i<n):wr.cell? ⟨gl,i*2+1,none⟩=some (ls.getD i Ln.none).v :=
 ownG_cell h.own (flatL_get ls i (by rw[h.rows.1];exact hi) 1 (by omega))
theorem GI2.place {W0 wr:World}{G gpp c:Nat}{co gs gp gpo gm gmo:Int}{ua:Option Addr}{n uc:Nat}{ls:List Ln}{rs:List Rw}{cs:List Cl}(h:GI2 W0 wr G co gs gp gpo gm gmo ua n uc ls rs){i:Nat}(hi:i<n)(hcs:cs=(rs.getD i Rw.none).cs)(hv:(ls.getD i Ln.none).v = .slice (some ⟨gpp,0,none⟩) cs.length c):gpp<wr.heap.size/\∀j,j<cs.length->∃na al va vn vc,wr.cell? ⟨gpp,j*5,none⟩=some (.int .i64 (spK cs j))/\wr.cell? ⟨gpp,j*5+1,none⟩=some (.int .i64 (spK cs (j+1)-1))/\wr.cell? ⟨gpp,j*5+2,none⟩=some (.int .i64 na)/\wr.cell? ⟨gpp,j*5+3,none⟩=some (.int .i64 al)/\wr.cell? ⟨gpp,j*5+4,none⟩=some (.slice va vn vc):=by
 obtain⟨_,ps,o,h3⟩:=h.rows.2 i hi
 rw[<-hcs] at o h3
 rw[hv] at o
 refine⟨(o.lt gpp rfl).2,fun j hj=>?_⟩
 obtain⟨e1,e2,e3,e4,e5,e6⟩:=h3.2 j hj
 obtain⟨va,vc,e7⟩:=e5.shape
 have m0:=flatP_get ps j (by rw[h3.1];exact hj) 0 (by omega)
 have m1:=flatP_get ps j (by rw[h3.1];exact hj) 1 (by omega)
 have m2:=flatP_get ps j (by rw[h3.1];exact hj) 2 (by omega)
 have m3:=flatP_get ps j (by rw[h3.1];exact hj) 3 (by omega)
 have m4:=flatP_get ps j (by rw[h3.1];exact hj) 4 (by omega)
 refine⟨(ps.getD j Pl.none).na,(ps.getD j Pl.none).al,va,(cs.getD j Cl.none).ns.length,vc,ownG_cell o (m0.trans ?_),ownG_cell o (m1.trans ?_),ownG_cell o m2,ownG_cell o m3,ownG_cell o (m4.trans ?_)⟩
 ·rw[<-e1];rfl
 ·rw[<-e2];rfl
 ·rw[<-e7];rfl
theorem new1d (w:World)(o o2:Obj)(a:Value)(t:TypeId):∀j u,[a][j]?=some u->(((w.alloc o).alloc o2).alloc (.cells #[a] t)).cell? ((⟨w.heap.size+1+1,0,none⟩:Addr).add j)=some u:=by
 have h:=new1c (w.alloc o) o2 a t
 rwa [World.size_alloc] at h
set_option maxRecDepth 20000 in
theorem implCells_any (x:Tb){v:Value}{w:World}(h:RRowN 0 w v x.rs)(hs:SmT x) :
 Calls Tryz.prog 26 #[tbV x v] w fun e w'=>∃a c gs,e = .returned (.slice a gs.length c)/\SSO w.heap.size w' (.slice a gs.length c) (celL x) gs/\Below w.heap.size w w':=by
 obtain⟨va,vn,vc,rfl⟩:∃a n c,v = .slice a n c:=by obtain⟨a,c,rfl⟩:=h.shape;exact⟨_,_,_,rfl⟩
 have HC:Hid (∀W,Below w.heap.size w W->Calls Tryz.prog 47 #[tbV x (.slice va vn vc)] W fun e w'=>(∃p,e = .returned (.tuple #[.pointer p,.bool (tabB x)])/\(tabB x=true->∃G ua uc ls,p=some ⟨G,0,none⟩/\w'.heap[G]?=some (grO x.co x.gs x.gp x.gpo x.gm x.gmo (.slice ua x.rs.length uc))/\w'.ownsRow W.heap.size 119 2 (.slice ua x.rs.length uc) x.rs.length (flatL ls)/\GRows W w' x.rs ls x.rs.length))/\Below W.heap.size W w'):=hideP (fun W hW=>(gridOf_any x (h.below rwNStable hW) hs).mono (fun e w' ⟨h1,h2⟩=>by
  refine⟨?_,h2⟩
  cases hb:tabB x with
  | false =>
   rw[hb] at h1
   exact⟨none,h1,fun h=>by cases h⟩
  | true =>
   rw[hb] at h1
   obtain⟨G,rfl,u,ls,hG,hg,ho,hr⟩:=h1
   obtain⟨ua,uc,rfl⟩:=ownG_shape ho
   exact⟨_,rfl,fun _=>⟨G,ua,uc,ls,rfl,hg,ho,hr⟩⟩))
 have hTP:tabB x=true->1<=x.co/\x.co<=20/\x.rs.length<=200/\∀i,i<x.rs.length->RowIn (x.rs.getD i Rw.none).cs x.co:=celB
 obtain⟨i0,hi,hz0,hz1,hz2⟩:=info_parts Tryz.info46s
 have HI:Hid (i0.bytes=24):=hz2
 have HL:Hid (celL x=if tabB x=true then rT x.rs x.rs.length else []):=hideP rfl
 obtain⟨R,hR⟩:=exq (celL x)
 obtain⟨T,hT⟩:=exq (tabB x)
 rw[<-hR] at HL ⊢
 rw[<-hT] at HC hTP HL
 clear hT hR h hs
 obtain⟨co,gs,gp,gpo,gm,gmo,rs⟩:=x
 dsimp only at hTP HL ⊢
 simp only[tbV] at HC ⊢
 have S0:Hid (∀(W:World),W.heap[w.heap.size+1]?=some (.cells #[] 54 (0,0))->SSO w.heap.size W (.slice (some ⟨w.heap.size+1,0,none⟩) 0 0) [] []):=hideP (fun W hW=>⟨⟨rfl,.inr ⟨w.heap.size+1,0,#[],rfl,by omega,hW,Nat.le_refl _,by decide,rfl,rfl⟩⟩,rfl,fun i hi=>absurd hi (by simp),fun i j _ hj=>absurd hj (by simp)⟩)
 have E0:Hid (∀o,((w.alloc o).alloc (.cells #[] 54)).heap[w.heap.size+1]?=some (.cells #[] 54 (0,0))):=hideP (fun o=>by have h:=heap_alloc_new (w.alloc o) (.cells #[] 54);rwa [World.size_alloc] at h)
 cases T with
 | false =>
  have hR0:R=[]:=by rw[HL.out];rfl
  subst hR0
  go_enter Tryz.func26,Tryz.ntmps26
  go_wp2_with fail
  refine(HC.out _ (below2 _ _ _)).mono ?_
  rintro e w1 ⟨⟨p,rfl,_⟩,hb1⟩
  have B1:Hid (Below w.heap.size w w1):=hideP (below_more (below2 _ _ _) hb1 (by simp;omega))
  have S1:Hid (SSO w.heap.size w1 (.slice (some ⟨w.heap.size+1,0,none⟩) 0 0) [] []):=hideP ((S0.out _ (E0.out _)).below hb1)
  clear hb1
  go_wp2
  go_ret
  exact⟨_,_,[],rfl,S1.out,B1.out⟩
 | true =>
  obtain⟨hc1,hc2,hlen,hin⟩:=hTP (by first|rfl|trivial)
  obtain⟨n,hn⟩:=exq (rs.length)
  have HN:=hideP hn
  rw[<-hn] at hlen hin HC
  have HIN:=hideP hin
  have HR0:Hid (R=rT rs n):=hideP (by rw[HL.out,hn];rfl)
  have HLE:Hid (∀i,i<=n->(rT rs i).length<=20*i):=hideP (fun i hi=>rT_len (fun k hk=>(HIN.out k (by omega)).le hc2))
  clear hin hTP HL hn
  go_enter Tryz.func26,Tryz.ntmps26
  go_wp2_with fail
  refine(HC.out _ (below2 _ _ _)).mono ?_
  rintro e w1 ⟨⟨p,rfl,hp⟩,hb1⟩
  obtain⟨G,ua,uc,ls,rfl,hgr,hown,hrows⟩:=hp (by first|rfl|trivial)
  have B1:Hid (Below w.heap.size w w1):=hideP (below_more (below2 _ _ _) hb1 (by simp;omega))
  have S1:Hid (SSO w.heap.size w1 (.slice (some ⟨w.heap.size+1,0,none⟩) 0 0) [] []):=hideP ((S0.out _ (E0.out _)).below hb1)
  obtain⟨W0,hW0⟩:∃W0:World,W0=(w.alloc (.cells #[.int .i64 co,.int .i64 gs,.int .i64 gp,.int .i64 gpo,.int .i64 gm,.int .i64 gmo,.slice va vn vc] 52)).alloc (.cells #[] 54):=⟨_,rfl⟩
  rw[<-hW0] at hown hrows
  have HG1:Hid (GI2 W0 w1 G co gs gp gpo gm gmo ua n uc ls rs):=hideP ⟨hgr,hown,by rw[HN.out];rw[HN.out] at hrows;exact hrows⟩
  have hGl:=(glt hgr)
  clear hb1 S0 E0 HC hp hgr hown hrows hW0
  have g6:=HG1.out.cell6
  go_wp2_with fail
  clear g6 hGl
  go_loopw [3,23,35] (fun s3 s _ wr=>∃(i:Nat) (a:Option Addr) (c:Nat) (ks:List Nat),i<=n/\s = .int .i64 i/\s3 = .slice a ks.length c/\Hid (SSO w.heap.size wr (.slice a ks.length c) (rT rs i) ks)/\Hid (GI2 W0 wr G co gs gp gpo gm gmo ua n uc ls rs)/\Below w.heap.size w wr) (fun _ s _ _=>n-(intOf s).toNat)
  case atStart=>exact⟨0,_,_,[],by omega,rfl,rfl,S1,HG1,B1.out⟩
  case round =>
   obtain⟨i,a,c,ks,hi2,rfl,rfl,HS3,HGI,hbel⟩:=hrel
   obtain⟨wp,rfl⟩:∃wp:World,wp=wr:=⟨_,rfl⟩
   have BP:=hideP hbel
   clear hbel S1 HG1 B1
   have g6:=HGI.out.cell6
   have hGl:=HGI.out.lt
   by_cases hin:i<n
   ·have hii:(i:Int)<(n:Int):=by omega
    obtain⟨gl,rfl,hgl⟩:=ownG_addr HGI.out.own (by omega)
    obtain⟨cs,hcs⟩:=exq ((rs.getD i Rw.none).cs)
    obtain⟨la0,lc0,hlv⟩:=HGI.out.lane hin
    have r1:=HGI.out.cellL hin
    have hri:=HIN.out i hin
    have HST:Hid (rT rs (i+1)=rT rs i++cT i cs cs.length):=hideP (by rw[hcs];rfl)
    rw[<-hcs] at hlv hri
    have hcl:cs.length<=20:=hri.le hc2
    have hl0:=HLE.out i hi2
    have HPL:Hid (∀gpp,la0=some ⟨gpp,0,none⟩->∀X,GI2 W0 X G co gs gp gpo gm gmo (some ⟨gl,0,none⟩) n uc ls rs->_):=hideP (fun gpp e X hX=>GI2.place hX hin hcs (c:=lc0) (gpp:=gpp) (by rw[hlv,e]))
    have HPA:Hid (0<cs.length->∃gpp,la0=some ⟨gpp,0,none⟩):=hideP (fun hp=>by
     obtain⟨_,ps,o,_⟩:=HGI.out.rows.2 i hin
     rw[<-hcs,hlv] at o
     obtain⟨g,e,_⟩:=ownG_addr o hp
     exact⟨g,e⟩)
    rw[hlv] at r1
    obtain⟨m,hm⟩:=exq (cs.length)
    rw[<-hm] at r1 HST hcl HPL HPA
    obtain⟨L0,hL0⟩:=exq (rT rs i)
    rw[<-hL0] at HS3 HST hl0
    have HRI:=hideP hri
    have HM:=hideP hm
    clear hri hcs hlv hm hL0
    go_wp2_with fail
    clear r1 g6 hGl hgl
    go_loopw [3,35] (fun s3 s wr=>∃(j:Nat) (a:Option Addr) (c:Nat) (ks:List Nat),j<=m/\s = .int .i64 j/\s3 = .slice a ks.length c/\Hid (SSO w.heap.size wr (.slice a ks.length c) (L0++cT i cs j) ks)/\Hid (GI2 W0 wr G co gs gp gpo gm gmo (some ⟨gl,0,none⟩) n uc ls rs)/\Below w.heap.size w wr) (fun _ s _=>m-(intOf s).toNat)
    case atStart=>exact⟨0,a,c,ks,by omega,rfl,rfl,hideP (by simpa [cT] using HS3.out),HGI,BP.out⟩
    case round =>
     obtain⟨j,a,c,ks,hj,rfl,rfl,HJ,HGJ,hbel⟩:=hrel
     have BR:=hideP hbel
     clear hbel HS3 HGI BP
     by_cases hjm:j<m
     ·have hji:(j:Int)<(m:Int):=by omega
      obtain⟨gpp,rfl⟩:=HPA.out (by omega)
      obtain⟨hgpp,hpl⟩:=HPL.out gpp rfl wr HGJ.out
      obtain⟨na,al,va,vn,vc,d0,d1,d2,d3,d4⟩:=hpl j hjm
      have hat:=HRI.out.at hc2 (j:=j) (by rw[<-HM.out];omega)
      obtain⟨fi,hfi⟩:=exq (spK cs j)
      obtain⟨la,hla⟩:=exq (spK cs (j+1)-1)
      rw[<-hfi] at d0
      rw[<-hla] at d1
      have hb1:0<=fi/\fi<=la/\la<20:=by rw[hfi,hla];have:=hat.2.1;have:=hat.2.2.1;have:=hat.1;omega
      have HNX:Hid (L0++cT i cs (j+1)=(L0++cT i cs j)++[⟨(i:Int),fi,la-fi+1⟩]):=hideP (by
       rw[List.append_assoc]
       congr 1
       show cT i cs j++[⟨(i:Int),spK cs j,(cs.getD j Cl.none).sp⟩]=_
       rw[hla,hfi,spK_succ]
       congr 3
       omega)
      have hkl:ks.length<=8000:=by have h1:=HJ.out.len;rw[h1,List.length_append,cT_len];omega
      have hsz:w.heap.size<=wr.heap.size:=BR.out.size
      have w1:IntKind.i64.wrap (la-fi)=la-fi:=by rw[IntKind.wrap_i64];omega
      have w2:IntKind.i64.wrap (la-fi+1)=la-fi+1:=by rw[IntKind.wrap_i64];omega
      clear hpl hat hfi hla
      go_wp2_with (at_builtin;refine wpList_append_own _ rfl _ _ 67 rfl w.heap.size 54 i0 (.slice none 0 0) 1 24 Tryz.underlying67 hi hz0 hz1 HI.out rfl (by decide) (.slice a ks.length c) ks.length (ks.map slG) rfl (((HJ.out.own.alloc _).alloc _).alloc _) ⟨wr.heap.size+1+1,0,none⟩ 1 1 [slG (wr.heap.size+1)] rfl rfl (new1d _ _ _ _ _) (by intro u hu;simp at hu;subst hu;rfl) (by unfold maxLen;omega) (by omega) (by simp;omega) ?_;intro v4 w4 ho4 hg4 hn4;obtain⟨a4,c4,rfl⟩:=ownG_shape ho4;have S4:Hid (SSO w.heap.size w4 (.slice a4 (ks.length+1) c4) ((L0++cT i cs j)++[⟨(i:Int),fi,la-fi+1⟩]) (ks++[wr.heap.size+1])):=hideP (by have h1:=SSO.snoc (t:=⟨(i:Int),fi,la-fi+1⟩) (HJ.out.below (below1 wr (.cells #[.int .i64 fi,.int .i64 la,.int .i64 na,.int .i64 al,.slice va vn vc] 122))) (by simp;omega) (v':= .slice a4 (ks.length+1) c4) (by rw[World.size_alloc];exact ho4) hg4;rw[World.size_alloc] at h1;exact h1);have G4:Hid (GI2 W0 w4 G co gs gp gpo gm gmo (some ⟨gl,0,none⟩) n uc ls rs):=hideP ((((HGJ.out.below (below1 _ _)).below (below1 _ _)).below (below1 _ _)).grown (((HJ.out.own.alloc _).alloc _).alloc _) hg4);have B4:Hid (Below w.heap.size w w4):=hideP (Below.grown (((BR.out.alloc BR.out.size _).alloc (by simp;omega) _).alloc (by simp;omega) _) hg4 (by simp;omega) (fun k hk=>(HJ.out.own.lt k hk).1));clear ho4 hg4 hn4)
      go_roundw
      case rel =>
       refine⟨j+1,a4,c4,ks++[wr.heap.size+1],by omega,by go_num,by simp,hideP ?_,G4,B4.out⟩
       rw[HNX.out]
       simpa using S4.out
      case measure=>simp[intOf];omega
     ·have hji:¬(j:Int)<(m:Int):=by omega
      obtain rfl:j=m:=by omega
      go_wp2
      go_roundw
      case rel=>exact⟨i+1,a,c,ks,by omega,by go_num,rfl,hideP (by rw[HST.out];exact HJ.out),HGJ,BR.out⟩
      case measure=>simp[intOf];omega
   ·have hii:¬(i:Int)<(n:Int):=by omega
    obtain rfl:i=n:=by omega
    go_wp2
    go_ret
    exact⟨a,c,ks,rfl,by rw[HR0.out];exact HS3.out,BP.out⟩
theorem zeros_one (n:Nat):∀v∈(Builtin.zeroCells (Value.cells (ndV Nd.none)) n).toList,v.oneCell'=true:=by
 intro v hv
 have hz:∀i,i<15->((Value.cells (ndV Nd.none))[i]!).oneCell'=true:=by decide
 unfold Builtin.zeroCells at hv
 simp only[Array.toList_map,List.mem_map] at hv
 obtain⟨i,_,rfl⟩:=hv
 exact hz _ (Nat.mod_lt _ (by decide))
theorem zero36 (w:World):(zeroValue 36).run Tryz.prog w = .ok (ndV Nd.none) w:=by kernel_rfl
theorem run_clearN {w:World}{g n cap:Nat}{cur:Array Value}(hg:w.heap[g]?=some (.cells cur 36 (0,0)))(hs:n*15<=cur.size)(h0:n≠0) :
 ∃cur':Array Value,cur'.size=cur.size/\∀ty,(Builtin.clear_ #[24] ty #[.slice (some ⟨g,0,none⟩) n cap]).run Tryz.prog w = .ok (.tuple #[]) (w.setRow g cur'):=by
 have hz:(Builtin.zeroCells (Value.cells (ndV Nd.none)) n).toList.length=n*15:=by simp[Builtin.zeroCells,Value.cells]
 have hr:=run_storeCells_at (P:=Tryz.prog) g 0 36 (Builtin.zeroCells (Value.cells (ndV Nd.none)) n).toList 0 cur w hg (by rw[hz];omega) (zeros_one n)
 refine⟨(cur.toList.take (0+0)++(Builtin.zeroCells (Value.cells (ndV Nd.none)) n).toList++cur.toList.drop (0+0+(Builtin.zeroCells (Value.cells (ndV Nd.none)) n).toList.length)).toArray,?_,fun ty=>?_⟩
 rotate_left
 ·obtain⟨m,rfl⟩:∃m,n=m+1:=⟨n-1,by omega⟩
  simp only[Builtin.clear_,Sem.run_bind,run_underlying Tryz.underlying24,Result.andThen_ok,zero36,List.getElem?_toArray,List.getElem?_cons_zero]
  simp only[Sem.run_bind,zero36,Result.andThen_ok,hr,Sem.run_pure]
 ·simp only[List.size_toArray,List.length_append,List.length_take,List.length_drop,hz]
  simp
  omega
abbrev stO (G A:Nat)(lv:Value):Obj:= .cells #[.pointer (some ⟨G,0,none⟩),.pointer (some ⟨A,0,none⟩),lv] 115 (0,0)
theorem setRow_frs {w:World}{g:Nat}{cs:Array Value}(S:Nat->Prop)(hg:S g):Frs S w (w.setRow g cs) :=
 ⟨rfl,rfl,rfl,by simp[World.setRow],fun b hb hn=>setRow_other _ _ _ _ (fun e=>hn (by rw[e];exact hg))⟩
theorem own_one {w:World}{g base:Nat}{x:Nd}(hb:base<=g)(h:w.heap[g]?=some (ndO x)):w.ownsRow base 36 15 (.slice (some ⟨g,0,none⟩) 1 1) 1 (flatN [x]):=by
 refine⟨by rw[flatN_len];rfl,.inr ⟨g,1,ndA x,rfl,hb,h,Nat.le_refl _,by unfold maxLen;omega,rfl,?_⟩⟩
 simp[flatN,Nd.cells]
theorem filler_any (w:World):Calls Tryz.prog 98 #[] w fun e w'=>e = .returned (ndV filN)/\Below w.heap.size w w':=by
 go_enter Tryz.func98,Tryz.ntmps98
 go_wp2_with fail
 refine(node_space 0 65536 1 0 0 0 _).mono ?_
 rintro e w1 ⟨rfl,hb1⟩
 have hx:w1.heap[w.heap.size]?=some (ndO Nd.none):=(hb1.block _ (by simp)).trans (heap_alloc_new w _)
 have B1:Hid (Below w.heap.size w w1):=hideP (below_more (below1 _ _) hb1 (by simp))
 have HX:=hideP hx
 clear hb1 hx
 go_simp
 iterate 1 (first|go_values|go_skip|go_guarded|go_step|go_upon|go_in|go_back)
 refine wpList_store_row rfl 36 _ _ rfl w.heap.size rfl _ (ndA filN) rfl 36 HX.out (by kernel_rfl) rfl (by kernel_rfl) ?_
 obtain⟨W,hW⟩:=exq (w1.setRow w.heap.size (ndA filN))
 have BW:Below w.heap.size w W:=by rw[hW];exact below_setRow B1.out (Nat.le_refl _) _
 have hl:(loadVar 36 ⟨w.heap.size,0,none⟩).run Tryz.prog W = .ok (ndV filN) W:=loadNd (by rw[hW];exact setRow_heap _ _ _ _ _ _ HX.out)
 rw[<-hW]
 clear hW HX B1
 go_wp2
 exact bodyPost_ret (v:=ndV filN) (by simp[results,Tryz.results98,asAddr,Act.put,hl,Result.andThen]) rfl ⟨rfl,BW⟩
theorem startList_any {w:World}{S G A n B0:Nat}{lv:Value}{L:List Value}(hS:w.heap[S]?=some (stO G A lv))(o:w.ownsRow B0 36 15 lv n L) :
 Calls Tryz.prog 99 #[.pointer (some ⟨S,0,none⟩)] w fun e w'=>(∃v,e = .returned v)/\∃a c,w'.heap[S]?=some (stO G A (.slice a 0 c))/\w'.ownsRow B0 36 15 (.slice a 0 c) 0 (flatN [])/\(Value.slice a 0 c).ownBlock=lv.ownBlock/\Frs (fun b=>b=S\/lv.ownBlock=some b) w w':=by
 have hSl:S<w.heap.size:=(glt hS)
 have hne:lv.ownBlock≠some S:=own_neB hS o (by decide)
 obtain⟨a,c,rfl⟩:=ownG_shape o
 have hc2:∀W:World,W.heap[S]?=some (stO G A (.slice a n c))->W.cell? ⟨S,2,none⟩=some (.slice a n c):=fun W h=>cell_of_row _ _ 2 _ 115 _ h
 have hfz:∀W:World,W.heap[S]?=some (stO G A (.slice a n c))->W.frozen? ⟨S,2,none⟩=false:=fun W h=>frozen_of_row _ _ 2 _ _ h
 have hW:∃W,(∀ty,(Builtin.clear_ #[24] ty #[.slice a n c]).run Tryz.prog w = .ok (.tuple #[]) W)/\W.heap[S]?=some (stO G A (.slice a n c))/\W.heap.size=w.heap.size/\W.ownsRow B0 36 15 (.slice a 0 c) 0 (flatN [])/\Frs (fun b=>b=S\/(Value.slice a n c).ownBlock=some b) w W/\0<=c:=by
  rcases o.2 with ⟨e,h0⟩ | ⟨g,cap,cur,e,hb,hg,hn,hm,hsz,_⟩
  ·cases e
   exact⟨w,fun ty=>by simp[Builtin.clear_,run_underlying Tryz.underlying24],hS,rfl,World.ownsRow_nil _ _ _ _,Frs.refl _ _,Nat.zero_le _⟩
  ·cases e
   by_cases h0:n=0
   ·subst h0
    exact⟨w,fun ty=>by simp[Builtin.clear_,run_underlying Tryz.underlying24],hS,rfl,⟨rfl,.inr ⟨g,c,cur,rfl,hb,hg,Nat.zero_le _,hm,hsz,by simp[flatN]⟩⟩,Frs.refl _ _,Nat.zero_le _⟩
   ·obtain⟨cur',hs',hr⟩:=run_clearN (cap:=c) hg (by rw[hsz];exact Nat.mul_le_mul_right _ hn) h0
    have hgS:g≠S:=fun e=>hne (by rw[<-e];rfl)
    exact⟨w.setRow g cur',hr,(setRow_other _ _ _ _ (fun e=>hgS e.symm)).trans hS,by simp[World.setRow],⟨rfl,.inr ⟨g,c,cur',rfl,hb,setRow_heap _ _ _ _ _ _ hg,Nat.zero_le _,hm,by rw[hs',hsz],by simp[flatN]⟩⟩,setRow_frs _ (.inr rfl),Nat.zero_le _⟩
 obtain⟨W,hcl,hWS,hWs,hWo,hWf,_⟩:=hW
 have k2:=hc2 w hS
 have j2:=hc2 W hWS
 have jf:=hfz W hWS
 have hSW:S<W.heap.size:=by rw[hWs];exact hSl
 have HO:=hideP hWo
 have HF:=hideP hWf
 have HS2:=hideP hWS
 have HNE:=hideP hne
 clear hS o hWo hWf hWS hne hc2 hfz hWs
 go_enter Tryz.func99,Tryz.ntmps99
 go_wp2_with (simp only[hcl])
 go_end0
 refine⟨⟨_,rfl⟩,a,c,heap_setCell_same _ S 2 _ 115 _ HS2.out,own_setR HO.out ?_ 2 _,?_,HF.out.set (.inl rfl) _⟩
 ·intro e
  refine HNE.out ?_
  cases a with
  | none=>cases e
  | some x=>exact e
 ·cases a<;>rfl
end Go.Proofs.YtbbehmcekbnkiaaGreat
namespace Go.Proofs.YtbbehmcekbnkiaaGreat
open Go.RowKit
theorem fld28 (u:Value)(s:Shr.Sett)(W:World):(Instr.field 30 (packV u s) 0).run Tryz.prog W = .ok u W:=by kernel_rfl
set_option linter.unusedVariables false
set_option linter.unusedSimpArgs false
theorem ex_loadN {o:Oper}{ev:Operand->Value}{p:Operand}{g:Nat}{w:World}{x:Nd}(ho:o.op=Op.load 36 p)(hp:ev p = .pointer (some ⟨g,0,none⟩))(h:w.heap[g]?=some (ndO x)):(execOp ev o).run Tryz.prog w = .ok (.value (ndV x)) w:=by
 have hr:=loadNd h
 unfold execOp
 simp only[ho,hp,Instr.loadAt,Instr.sureAddr,Sem.run_bind,Sem.run_pure,Result.andThen_ok,hr]
theorem wp_bsN {w:World}{o:Oper}{a:Act}{K:Act->World->Prop}{Q:Exit->Act->World->Prop}{p:Operand}{x:Nd}(ho:o.op = .buildSlice 24 1 #[(0,p)])(hp:a.eval p=ndV x)
 (h:K (a.put o.dst (.slice (some ⟨w.heap.size,0,none⟩) 1 1)) (w.alloc (.cells (ndA x) 36))):o.wp Tryz.prog a w K Q:=by
 have hr:=run_bsN w x
 unfold Oper.wp
 simp only[execOp,ho,List.map_toArray,List.map_cons,List.map_nil,hp,Sem.run_bind,hr,Result.andThen_ok,Sem.run_pure]
 exact h
theorem ty_ne {W:World}{g h:Nat}{x y:Array Value}{t s:TypeId}{r q:Nat×Nat}(h1:W.heap[g]?=some (.cells x t r))(h2:W.heap[h]?=some (.cells y s q))(hn:t≠s):g≠h:=by
 intro e
 subst e
 rw[h1] at h2
 cases h2
 exact hn rfl
structure PI (w wr:World)(S G A F:Nat)(lv:Value)(fi la na al:Int)(v:Value)(a:Option Addr)(n c:Nat)(L:List Nd)(B0:Nat):Prop where
 frs:Frs (fun b=>b=S\/lv.ownBlock=some b) w wr
 box:wr.heap[w.heap.size]?=some (plO fi la na al v)
 fil:wr.heap[F]?=some (ndO filN)
 hF:w.heap.size<F
 st:wr.heap[S]?=some (stO G A (.slice a n c))
 own:wr.ownsRow B0 36 15 (.slice a n c) n (flatN L)
 nF:(Value.slice a n c).ownBlock≠some F
 at_:∀b,(Value.slice a n c).ownBlock=some b->lv.ownBlock=some b\/w.heap.size<=b
 hB:B0<=S
section
variable {w wr : World} {S G A F : Nat} {lv : Value} {fi la na al : Int} {v : Value} {a : Option Addr} {n c : Nat} {L : List Nd} {B0 : Nat}
theorem PI.lt (h:PI w wr S G A F lv fi la na al v a n c L B0):S<wr.heap.size/\F<wr.heap.size/\w.heap.size<wr.heap.size/\B0<=wr.heap.size:=⟨(glt h.st),(glt h.fil),(glt h.box),Nat.le_trans h.hB (Nat.le_of_lt (glt h.st))⟩
theorem PI.c2 (h:PI w wr S G A F lv fi la na al v a n c L B0):wr.cell? ⟨S,2,none⟩=some (.slice a n c):=cell_of_row _ _ 2 _ 115 _ h.st
theorem PI.below {w2:World}(h:PI w wr S G A F lv fi la na al v a n c L B0)(hb:Below wr.heap.size wr w2):PI w w2 S G A F lv fi la na al v a n c L B0 :=
 ⟨h.frs.below hb,(hb.block _ h.lt.2.2.1).trans h.box,(hb.block _ h.lt.2.1).trans h.fil,h.hF,(hb.block _ h.lt.1).trans h.st,ownG_below h.own hb,h.nF,h.at_,h.hB⟩
theorem PI.keepB {w2:World}(h:PI w wr S G A F lv fi la na al v a n c L B0)(hg:wr.grownBy w2 (Value.slice a n c).ownBlock):w2.heap[S]?=some (stO G A (.slice a n c))/\w2.heap[F]?=some (ndO filN)/\w2.heap[w.heap.size]?=some (plO fi la na al v) :=
 ⟨(hg.block _ h.lt.1 (fun e=>own_neB h.st h.own (by decide) e.symm)).trans h.st,(hg.block _ h.lt.2.1 (fun e=>h.nF e.symm)).trans h.fil,(hg.block _ h.lt.2.2.1 (fun e=>own_neB h.box h.own (by decide) e.symm)).trans h.box⟩
theorem PI.keep {w2:World}(h:PI w wr S G A F lv fi la na al v a n c L B0)(hg:wr.grownBy w2 (Value.slice a n c).ownBlock):w2.cell? ⟨S,2,none⟩=some (.slice a n c):=cell_of_row _ _ 2 _ 115 _ (h.keepB hg).1
theorem PI.keepF {w2:World}(h:PI w wr S G A F lv fi la na al v a n c L B0)(hg:wr.grownBy w2 (Value.slice a n c).ownBlock):w2.frozen? ⟨S,2,none⟩=false:=frozen_of_row _ _ 2 _ _ (h.keepB hg).1
theorem PI.keepS {w2:World}(h:PI w wr S G A F lv fi la na al v a n c L B0)(hg:wr.grownBy w2 (Value.slice a n c).ownBlock):w2.heap[F]?=some (ndO filN)/\∀x,(w2.setCell ⟨S,2,none⟩ x).heap[F]?=some (ndO filN) :=
 ⟨(h.keepB hg).2.1,fun x=>(Below.heap_setCell _ _ _ _ (ty_ne h.fil h.st (by decide))).trans (h.keepB hg).2.1⟩
theorem PI.keepX {w2:World}(h:PI w wr S G A F lv fi la na al v a n c L B0)(hg:wr.grownBy w2 (Value.slice a n c).ownBlock):w2.heap[w.heap.size]?=some (plO fi la na al v)/\∀x,(w2.setCell ⟨S,2,none⟩ x).heap[w.heap.size]?=some (plO fi la na al v) :=
 ⟨(h.keepB hg).2.2,fun x=>(Below.heap_setCell _ _ _ _ (ty_ne h.box h.st (by decide))).trans (h.keepB hg).2.2⟩
theorem PI.put {w2:World}{a':Option Addr}{n' c':Nat}{L':List Nd}(h:PI w wr S G A F lv fi la na al v a n c L B0)(hg:wr.grownBy w2 (Value.slice a n c).ownBlock)(ho:w2.ownsRow B0 36 15 (.slice a' n' c') n' (flatN L'))(ha:(Value.slice a' n' c').ownBlock=(Value.slice a n c).ownBlock\/(Value.slice a' n' c').ownBlock=some wr.heap.size) :
 PI w (w2.setCell ⟨S,2,none⟩ (.slice a' n' c')) S G A F lv fi la na al v a' n' c' L' B0:=by
 obtain⟨k1,k2,k3⟩:=h.keepB hg
 obtain⟨l1,l2,l3,_⟩:=h.lt
 have hsz:=h.frs.size
 refine⟨(h.frs.grown hg (fun j hj=>?_)).set (.inl rfl) _,(Below.heap_setCell _ _ _ _ (ty_ne k3 k1 (by decide))).trans k3,(Below.heap_setCell _ _ _ _ (ty_ne k2 k1 (by decide))).trans k2,h.hF,heap_setCell_same _ S 2 _ 115 _ k1,own_setR ho (own_neB k1 ho (by decide)) 2 _,?_,?_,h.hB⟩
 ·rcases h.at_ j hj with h1|h1
  ·exact .inl (.inr h1)
  ·exact .inr h1
 ·rcases ha with e|e
  ·rw[e];exact h.nF
  ·rw[e];intro e2;injection e2 with e3;omega
 ·intro b hb
  rcases ha with e|e
  ·rw[e] at hb;exact h.at_ b hb
  ·rw[e] at hb;injection hb with e3;right;omega
end
set_option maxRecDepth 20000 in
theorem cell_any {w0 w:World}{S G A n0:Nat}{co gs gp gpo gm gmo:Int}{u lv:Value}{f:Nat->Int}{L0:List Value}(fi la:Nat)(na al:Int){v:Value}{ns:List Nd}
 (hb0:Below w0.heap.size w0 w) (hS0:w0.heap.size<=S) (hS:w.heap[S]?=some (stO G A lv)) (hG:w.heap[G]?=some (grO co gs gp gpo gm gmo u)) (hA:ArrAt w A f) (hf:Bd f) (hgs : -1073741823<=gs/\gs<=1073741823) (o:w.ownsRow w0.heap.size 36 15 lv n0 L0) (hN:NN 0 w0 v ns) (hs:ns.length<=20000) (h2:fi<=la) (h3:la<20) :
 Calls Tryz.prog 78 #[.pointer (some ⟨S,0,none⟩),plV fi la na al v] w fun e w'=>∃r lv' n' L',e = .returned r/\w'.ownsRow w.heap.size 36 15 r (hpR (celN al ns) 1 (acr f gs fi la)).length (flatN (hpR (celN al ns) 1 (acr f gs fi la)))/\w'.heap[S]?=some (stO G A lv')/\w'.ownsRow w0.heap.size 36 15 lv' n' L'/\(∀b,lv'.ownBlock=some b->lv.ownBlock=some b\/w.heap.size<=b)/\Frs (fun b=>b=S\/lv.ownBlock=some b) w w':=by
 obtain⟨va,vc,rfl⟩:∃a c,v = .slice a ns.length c:=by
  rcases hN with ⟨rfl,h⟩ | ⟨b,off,cap,rfl,_⟩
  ·exact⟨_,_,by rw[h];rfl⟩
  ·exact⟨_,_,rfl⟩
 obtain⟨R,hR⟩:=exq (hpR (celN al ns) 1 (acr f gs fi la))
 rw[<-hR]
 obtain⟨B0,hB0⟩:=exq (w0.heap.size)
 rw[<-hB0] at hS0 o ⊢
 have hSl:S<w.heap.size:=(glt hS)
 have hGl:G<w.heap.size:=(glt hG)
 have hAl:=hA.lt
 have HKG:Hid (∀wr,Frs (fun b=>b=S\/lv.ownBlock=some b) w wr->wr.heap[G]?=some (grO co gs gp gpo gm gmo u)/\ArrAt wr A f/\NN 0 wr (.slice va ns.length vc) ns):=hideP (fun wr hr=>by
  obtain⟨arr,h1,_,_⟩:=id hA
  refine⟨(hr.block _ hGl ?_).trans hG,hA.same (hr.block _ hAl ?_),hN.bel (Frs.toBelow (by rw[<-hB0] at hb0;rw[<-hB0];exact hb0) hr ?_ (by rw[<-hB0];omega))⟩
  ·rintro (e|e)
   ·exact ty_ne hG hS (by decide) e
   ·exact own_neB hG o (by decide) e
  ·rintro (e|e)
   ·exact ty_ne h1 hS (by decide) e
   ·exact own_neB h1 o (by decide) e
  ·rintro b (e|e)
   ·rw[<-hB0];omega
   ·rw[<-hB0];exact(o.lt b e).1)
 have HST:Hid (∀wr,Below w.heap.size w wr->Calls Tryz.prog 99 #[.pointer (some ⟨S,0,none⟩)] wr fun e w'=>(∃v,e = .returned v)/\∃a c,w'.heap[S]?=some (stO G A (.slice a 0 c))/\w'.ownsRow B0 36 15 (.slice a 0 c) 0 (flatN [])/\(Value.slice a 0 c).ownBlock=lv.ownBlock/\Frs (fun b=>b=S\/lv.ownBlock=some b) wr w'):=hideP (fun wr hr=>startList_any ((hr.block _ hSl).trans hS) (ownG_below o hr))
 have HLV:Hid (∀b,lv.ownBlock=some b->b<w.heap.size):=hideP (fun b hb=>(o.lt b hb).2)
 obtain⟨m,hm⟩:=exq (ns.length)
 rw[<-hm] at hs HKG ⊢
 obtain⟨v,hv⟩:=exq (Value.slice va m vc)
 have HR:=hideP hR
 have HM:=hideP hm
 have HF2:=hideP hf
 have HGS:=hideP hgs
 clear hR hm hf hgs hN hb0 hA hG hS o hB0 hAl hGl
 go_enter Tryz.func78,Tryz.ntmps78
 go_wp2_with fail
 refine(filler_any _).mono ?_
 rintro e w1 ⟨rfl,hb1⟩
 have E1:Hid (w1.heap[w.heap.size]?=some (plO fi la na al (.slice va m vc))):=hideP ((hb1.block _ (by simp)).trans (heap_alloc_new w _))
 have B1:Hid (Below w.heap.size w w1):=hideP (below_more (below1 _ _) hb1 (by simp))
 have hx1:w.heap.size<w1.heap.size:=(glt E1.out)
 clear hb1
 go_wp2_with fail
 obtain⟨W2,hW2⟩:=exq (w1.alloc (.cells (ndA filN) 36))
 rw[<-hW2]
 have E2:Hid (W2.heap[w.heap.size]?=some (plO fi la na al (.slice va m vc))):=hideP (by rw[hW2];exact(Below.heap_alloc _ _ _ hx1).trans E1.out)
 have F2:Hid (W2.heap[w1.heap.size]?=some (ndO filN)):=hideP (by rw[hW2];exact heap_alloc_new w1 _)
 have B2:Hid (Below w.heap.size w W2):=hideP (by rw[hW2];exact B1.out.alloc B1.out.size _)
 obtain⟨F,hF⟩:=exq (w1.heap.size)
 rw[<-hF] at F2 hx1 ⊢
 clear hW2 hF E1 B1
 refine(HST.out _ B2.out).mono ?_
 rintro e wr ⟨⟨z,rfl⟩,a,c,hst,hown,hoe,hfr⟩
 have HP:Hid (PI w wr S G A F lv fi la na al (.slice va m vc) a 0 c [] B0):=hideP (by
  have hFn:∀b,lv.ownBlock=some b->b≠F/\b≠w.heap.size:=fun b hb=>by have:=HLV.out b hb;omega
  refine⟨⟨hfr.os.trans B2.out.os,hfr.tape.trans B2.out.tape,hfr.out.trans B2.out.output,Nat.le_trans B2.out.size hfr.size,fun b hb hn=>(hfr.block b (Nat.lt_of_lt_of_le hb B2.out.size) hn).trans (B2.out.block b hb)⟩,(hfr.block _ (glt E2.out) ?_).trans E2.out,(hfr.block _ (glt F2.out) ?_).trans F2.out,hx1,hst,hown,?_,?_,hS0⟩
  ·rintro (e|e)
   ·omega
   ·exact(hFn _ e).2 rfl
  ·rintro (e|e)
   ·omega
   ·exact(hFn _ e).1 rfl
  ·rw[hoe];intro e;exact(hFn _ e).1 rfl
  ·intro b hb;rw[hoe] at hb;exact .inl hb)
 clear hst hown hoe hfr E2 F2 B2 hx1 HST
 rw[<-hv] at HP
 obtain⟨L1,hL1⟩:∃L1:List Nd,L1=if al=0 then [] else [filN]:=⟨_,rfl⟩
 obtain⟨L2,hL2⟩:∃L2:List Nd,L2=if al=2 then [] else [filN]:=⟨_,rfl⟩
 have hl1:L1.length<=1:=by rw[hL1];split<;>simp
 have hl2:L2.length<=1:=by rw[hL2];split<;>simp
 have HL1:=hideP hL1
 have HL2:=hideP hL2
 clear hL1 hL2
 have hsz:=HP.out.lt
 have d3:wr.cell? ⟨w.heap.size,3,none⟩=some (.int .i64 al):=cell_of_row _ _ 3 _ 122 _ HP.out.box
 go_upto_if 11 with fail
 clear d3
 go_cut [] (fun wc=>∃a n c,Hid (PI w wc S G A F lv fi la na al v a n c L1 B0))
 case first =>
  obtain⟨n,L,hn0,hL0⟩:∃(n:Nat) (L:List Nd),n=0/\L=[]:=⟨_,_,rfl,rfl⟩
  rw[<-hn0,<-hL0] at HP
  by_cases e0:al=0
  ·have HLN:Hid (L1=[]):=hideP (by rw[HL1.out,if_pos e0])
   have ne:(al != 0)=false:=by simpa using e0
   clear e0
   go_wp2
   go_meet
   case rel=>exact⟨a,n,c,by rw[HLN.out];rw[hL0] at HP;exact HP⟩
  ·have ne:(al != 0)=true:=by simpa using e0
   have hLN:L1=L++[filN]:=by rw[HL1.out,if_neg e0,hL0];rfl
   have HLN:=hideP hLN
   have hn1:n<=0:=by omega
   clear hn0 hL0 hLN
   go_wp2_with fail
   refine wp_region_held_drew (S:=fun x=>x.heap[F]?=some (ndO filN)) (by kernel_rfl) HP.out.fil (fun hS=>?_)
   refine tkS (i:=0) (v:= .pointer (some ⟨S,0,none⟩)) rfl hS ?_
   try simp only[sput]
   refine tkS (i:=1) (v:= .pointer (some ⟨S,0,none⟩)) rfl hS ?_
   try simp only[sput]
   refine tkS (i:=2) (v:= .pointer (some ⟨S,0,none⟩)) rfl hS ?_
   try simp only[sput]
   refine tkS (i:=3) (v:= .pointer (some ⟨S,2,none⟩)) rfl hS ?_
   try simp only[sput]
   refine tkS (i:=5) (v:=ndV filN) rfl hS ?_ (hr:=fun wx hx=>ex_loadN rfl rfl hx)
   try simp only[sput]
   obtain⟨WB,hWB⟩:=exq (wr.drew.alloc (.cells (ndA filN) 36))
   have PB:Hid (PI w WB S G A F lv fi la na al v a n c (L) B0):=hideP (by rw[hWB];exact HP.out.below (((Below.refl _ _).drew).alloc (Nat.le_refl _) _))
   have NB:Hid (NN 0 WB (.slice (some ⟨wr.heap.size,0,none⟩) 1 1) [filN]):=hideP (nn_one (by rw[hWB];exact heap_alloc_new wr.drew _))
   have HWB:=hideP hWB
   clear hWB
   have b2:wr.cell? ⟨S,2,none⟩=some (.slice a n c):=HP.out.c2
   have bB2:WB.cell? ⟨S,2,none⟩=some (.slice a n c):=PB.out.c2
   have hSr:=HP.out.lt.1
   have hSB:=PB.out.lt.1
   refine wpAnyH_ready (rs:=[4,6]) (by kernel_rfl) (by simp) ?_
   refine AllReadyH.cons rfl (fun K hK=>?_) (AllReadyH.cons rfl (fun K hK=>?_) AllReadyH.nil)
   ·rw[if_pos (by first|rfl|go_simp)]
    go_simp
    refine hK.out _ _ HP.out.fil (fun hS=>?_)
    try simp only[sput]
    clear hK K
    refine rdS (i:=6) rfl (fun K hK=>?_)
    refine wp_bsN rfl rfl ?_
    rw[<-HWB.out]
    refine hK.out _ _ PB.out.fil (fun hS=>?_)
    try simp only[sput]
    clear hK K
    refine rdS (i:=7) rfl (fun K hK=>?_)
    refine wp_appN _ _ rfl B0 (.slice a n c) n L rfl PB.out.own (.slice (some ⟨wr.heap.size,0,none⟩) 1 1) [filN] rfl NB.out (by simp;omega) (by have:=PB.out.lt;omega) ?_
    intro v6 w6 ho6 hg6 ha6
    obtain⟨N6,hN6⟩:=exq (n+[filN].length)
    rw[<-hN6] at ho6
    clear hN6
    obtain⟨u6,d6,rfl⟩:=ownG_shape ho6
    have Q6:Hid (PI w (w6.setCell ⟨S,2,none⟩ (.slice u6 N6 d6)) S G A F lv fi la na al v u6 N6 d6 (L++[filN]) B0):=hideP (PB.out.put hg6 ho6 ha6)
    have q2:w6.cell? ⟨S,2,none⟩=some (.slice a n c):=PB.out.keep hg6
    have qf:w6.frozen? ⟨S,2,none⟩=false:=PB.out.keepF hg6
    have qs:S<w6.heap.size:=Nat.lt_of_lt_of_le PB.out.lt.1 hg6.size
    have T6:=hideP (PB.out.keepS hg6)
    clear ho6 hg6 ha6
    refine hK.out _ _ T6.out.1 (fun hS=>?_)
    try simp only[sput]
    clear hK K
    refine tkS (i:=8) (v:= .pointer (some ⟨S,0,none⟩)) rfl hS ?_
    try simp only[sput]
    refine tkS (i:=9) (v:= .pointer (some ⟨S,2,none⟩)) rfl hS ?_
    try simp only[sput]
    refine rdS (i:=10) rfl (fun K hK=>?_)
    go_simp
    refine hK.out _ _ (T6.out.2 _) (fun hS=>?_)
    try simp only[sput]
    clear hK K
    refine wpAnyH_done (by kernel_rfl) ?_ _
    obtain⟨W7,hW7⟩:=exq (w6.setCell ⟨S,2,none⟩ (.slice u6 N6 d6))
    rw[<-hW7] at Q6 ⊢
    clear hW7 q2 qf qs T6 hS
    go_wp2
    go_meet
    case rel=>exact⟨u6,N6,d6,by rw[HLN.out];exact Q6⟩
   ·rw[if_pos (by first|rfl|go_simp)]
    refine wp_bsN rfl rfl ?_
    rw[<-HWB.out]
    refine hK.out _ _ PB.out.fil (fun hS=>?_)
    try simp only[sput]
    clear hK K
    refine rdS (i:=4) rfl (fun K hK=>?_)
    go_simp
    refine hK.out _ _ PB.out.fil (fun hS=>?_)
    try simp only[sput]
    clear hK K
    refine rdS (i:=7) rfl (fun K hK=>?_)
    refine wp_appN _ _ rfl B0 (.slice a n c) n L rfl PB.out.own (.slice (some ⟨wr.heap.size,0,none⟩) 1 1) [filN] rfl NB.out (by simp;omega) (by have:=PB.out.lt;omega) ?_
    intro v6 w6 ho6 hg6 ha6
    obtain⟨N6,hN6⟩:=exq (n+[filN].length)
    rw[<-hN6] at ho6
    clear hN6
    obtain⟨u6,d6,rfl⟩:=ownG_shape ho6
    have Q6:Hid (PI w (w6.setCell ⟨S,2,none⟩ (.slice u6 N6 d6)) S G A F lv fi la na al v u6 N6 d6 (L++[filN]) B0):=hideP (PB.out.put hg6 ho6 ha6)
    have q2:w6.cell? ⟨S,2,none⟩=some (.slice a n c):=PB.out.keep hg6
    have qf:w6.frozen? ⟨S,2,none⟩=false:=PB.out.keepF hg6
    have qs:S<w6.heap.size:=Nat.lt_of_lt_of_le PB.out.lt.1 hg6.size
    have T6:=hideP (PB.out.keepS hg6)
    clear ho6 hg6 ha6
    refine hK.out _ _ T6.out.1 (fun hS=>?_)
    try simp only[sput]
    clear hK K
    refine tkS (i:=8) (v:= .pointer (some ⟨S,0,none⟩)) rfl hS ?_
    try simp only[sput]
    refine tkS (i:=9) (v:= .pointer (some ⟨S,2,none⟩)) rfl hS ?_
    try simp only[sput]
    refine rdS (i:=10) rfl (fun K hK=>?_)
    go_simp
    refine hK.out _ _ (T6.out.2 _) (fun hS=>?_)
    try simp only[sput]
    clear hK K
    refine wpAnyH_done (by kernel_rfl) ?_ _
    obtain⟨W7,hW7⟩:=exq (w6.setCell ⟨S,2,none⟩ (.slice u6 N6 d6))
    rw[<-hW7] at Q6 ⊢
    clear hW7 q2 qf qs T6 hS
    go_wp2
    go_meet
    case rel=>exact⟨u6,N6,d6,by rw[HLN.out];exact Q6⟩
 case rest =>
  obtain⟨a,n,c,HQ⟩:=hcut
  have hnL:n=L1.length:=by have h:=HQ.out.own.1;rw[flatN_len] at h;omega
  have hn1:n<=1:=by omega
  have HNW:Hid (NN 0 wc (.slice va m vc) ns):=hideP (HKG.out _ HQ.out.frs).2.2
  have hms:ns.length<=20000:=by rw[<-HM.out];exact hs
  clear hnL HP hsz
  obtain⟨L,hL⟩:=exq (L1)
  obtain⟨wr2,hwr⟩:∃wr2:World,wr2=wc:=⟨_,rfl⟩
  have HBX:Hid (∀x:World,x.heap[w.heap.size]?=some (plO fi la na al v)->x.cell? ⟨w.heap.size,4,none⟩=some (.slice va m vc)):=hideP (fun x hx=>by rw[<-hv];exact cell_of_row _ _ 4 _ 122 _ hx)
  go_upto_region 5 with fail
  go_cut [] (fun wc=>∃a n c,Hid (PI w wc S G A F lv fi la na al v a n c (L1++ns) B0))
  case first =>
   clear hwr hL
   refine wp_region_held_drew (S:=fun x=>x.heap[w.heap.size]?=some (plO fi la na al v)) (by kernel_rfl) HQ.out.box (fun hS=>?_)
   refine tkS (i:=0) (v:= .pointer (some ⟨S,0,none⟩)) rfl hS ?_
   try simp only[sput]
   refine tkS (i:=1) (v:= .pointer (some ⟨S,0,none⟩)) rfl hS ?_
   try simp only[sput]
   refine tkS (i:=2) (v:= .pointer (some ⟨S,0,none⟩)) rfl hS ?_
   try simp only[sput]
   refine tkS (i:=3) (v:= .pointer (some ⟨S,2,none⟩)) rfl hS ?_
   try simp only[sput]
   refine tkS (i:=5) (v:= .pointer (some ⟨w.heap.size,4,none⟩)) rfl hS ?_
   try simp only[sput]
   refine tkS (i:=6) (v:= .slice va m vc) rfl hS ?_ (hr:=fun wx hx=>by have h4:=HBX.out wx hx;go_simp)
   try simp only[sput]
   have PB:Hid (PI w wc.drew S G A F lv fi la na al v a n c (L1) B0):=hideP (HQ.out.below ((Below.refl _ _).drew))
   have b2:wc.cell? ⟨S,2,none⟩=some (.slice a n c):=HQ.out.c2
   have hSr:=HQ.out.lt.1
   have NB:Hid (NN 0 wc.drew (.slice va m vc) ns):=hideP (HNW.out.bel ((Below.refl _ _).drew))
   refine rdS (i:=4) rfl (fun K hK=>?_)
   go_simp
   refine hK.out _ _ HQ.out.box (fun hS=>?_)
   try simp only[sput]
   clear hK K
   refine rdS (i:=7) rfl (fun K hK=>?_)
   refine wp_appN _ _ rfl B0 (.slice a n c) n L1 rfl PB.out.own (.slice va m vc) ns rfl NB.out (by omega) (by have:=PB.out.lt;omega) ?_
   intro v6 w6 ho6 hg6 ha6
   obtain⟨N6,hN6⟩:=exq (n+ns.length)
   rw[<-hN6] at ho6
   clear hN6
   obtain⟨u6,d6,rfl⟩:=ownG_shape ho6
   have Q6:Hid (PI w (w6.setCell ⟨S,2,none⟩ (.slice u6 N6 d6)) S G A F lv fi la na al v u6 N6 d6 (L1++ns) B0):=hideP (PB.out.put hg6 ho6 ha6)
   have q2:w6.cell? ⟨S,2,none⟩=some (.slice a n c):=PB.out.keep hg6
   have qf:w6.frozen? ⟨S,2,none⟩=false:=PB.out.keepF hg6
   have qs:S<w6.heap.size:=Nat.lt_of_lt_of_le PB.out.lt.1 hg6.size
   have T6:=hideP (PB.out.keepX hg6)
   clear ho6 hg6 ha6
   refine hK.out _ _ T6.out.1 (fun hS=>?_)
   try simp only[sput]
   clear hK K
   refine tkS (i:=8) (v:= .pointer (some ⟨S,0,none⟩)) rfl hS ?_
   try simp only[sput]
   refine tkS (i:=9) (v:= .pointer (some ⟨S,2,none⟩)) rfl hS ?_
   try simp only[sput]
   refine rdS (i:=10) rfl (fun K hK=>?_)
   go_simp
   refine hK.out _ _ (T6.out.2 _) (fun hS=>?_)
   try simp only[sput]
   clear hK K
   refine wpAnyH_done (by kernel_rfl) ?_ _
   obtain⟨W7,hW7⟩:=exq (w6.setCell ⟨S,2,none⟩ (.slice u6 N6 d6))
   rw[<-hW7] at Q6 ⊢
   clear hW7 q2 qf qs T6 hS
   go_wp2
   go_meet
   case rel=>exact⟨u6,N6,d6,Q6⟩
  case rest =>
   obtain⟨a,n,c,HR2⟩:=hcut
   have hnL:n=(L1++ns).length:=by have h:=HR2.out.own.1;rw[flatN_len] at h;omega
   have hn2:n<=20001:=by rw[hnL,List.length_append];omega
   clear hnL HQ HNW
   obtain⟨L,hL⟩:=exq (L1++ns)
   rw[<-hL] at HR2
   have HLX:=hideP hL
   obtain⟨wr,hwr2⟩:∃wr:World,wr=wc:=⟨_,rfl⟩
   rw[<-hwr2] at HR2 ⊢
   have d3:wr.cell? ⟨w.heap.size,3,none⟩=some (.int .i64 al):=cell_of_row _ _ 3 _ 122 _ HR2.out.box
   have hsz:=HR2.out.lt
   clear hL hwr2
   go_upto_if 34 with fail
   clear d3
   go_cut [] (fun wc=>∃a n c,Hid (PI w wc S G A F lv fi la na al v a n c (L1++ns++L2) B0))
   case first =>
    have HP:=HR2
    by_cases e0:al=2
    ·have HLN:Hid (L2=[]):=hideP (by rw[HL2.out,if_pos e0])
     have ne:(al != 2)=false:=by simpa using e0
     clear e0
     go_wp2
     go_meet
     case rel=>exact⟨a,n,c,by rw[HLN.out,List.append_nil,<-HLX.out];exact HP⟩
    ·have ne:(al != 2)=true:=by simpa using e0
     have HLN:Hid (L1++ns++L2=L++[filN]):=hideP (by rw[HL2.out,if_neg e0,HLX.out])
     go_wp2_with fail
     refine wp_region_held_drew (S:=fun x=>x.heap[F]?=some (ndO filN)) (by kernel_rfl) HP.out.fil (fun hS=>?_)
     refine tkS (i:=0) (v:= .pointer (some ⟨S,0,none⟩)) rfl hS ?_
     try simp only[sput]
     refine tkS (i:=1) (v:= .pointer (some ⟨S,0,none⟩)) rfl hS ?_
     try simp only[sput]
     refine tkS (i:=2) (v:= .pointer (some ⟨S,0,none⟩)) rfl hS ?_
     try simp only[sput]
     refine tkS (i:=3) (v:= .pointer (some ⟨S,2,none⟩)) rfl hS ?_
     try simp only[sput]
     refine tkS (i:=5) (v:=ndV filN) rfl hS ?_ (hr:=fun wx hx=>ex_loadN rfl rfl hx)
     try simp only[sput]
     obtain⟨WB,hWB⟩:=exq (wr.drew.alloc (.cells (ndA filN) 36))
     have PB:Hid (PI w WB S G A F lv fi la na al v a n c (L) B0):=hideP (by rw[hWB];exact HP.out.below (((Below.refl _ _).drew).alloc (Nat.le_refl _) _))
     have NB:Hid (NN 0 WB (.slice (some ⟨wr.heap.size,0,none⟩) 1 1) [filN]):=hideP (nn_one (by rw[hWB];exact heap_alloc_new wr.drew _))
     have HWB:=hideP hWB
     clear hWB
     have b2:wr.cell? ⟨S,2,none⟩=some (.slice a n c):=HP.out.c2
     have bB2:WB.cell? ⟨S,2,none⟩=some (.slice a n c):=PB.out.c2
     have hSr:=HP.out.lt.1
     have hSB:=PB.out.lt.1
     refine wpAnyH_ready (rs:=[4,6]) (by kernel_rfl) (by simp) ?_
     refine AllReadyH.cons rfl (fun K hK=>?_) (AllReadyH.cons rfl (fun K hK=>?_) AllReadyH.nil)
     ·rw[if_pos (by first|rfl|go_simp)]
      go_simp
      refine hK.out _ _ HP.out.fil (fun hS=>?_)
      try simp only[sput]
      clear hK K
      refine rdS (i:=6) rfl (fun K hK=>?_)
      refine wp_bsN rfl rfl ?_
      rw[<-HWB.out]
      refine hK.out _ _ PB.out.fil (fun hS=>?_)
      try simp only[sput]
      clear hK K
      refine rdS (i:=7) rfl (fun K hK=>?_)
      refine wp_appN _ _ rfl B0 (.slice a n c) n L rfl PB.out.own (.slice (some ⟨wr.heap.size,0,none⟩) 1 1) [filN] rfl NB.out (by simp;omega) (by have:=PB.out.lt;omega) ?_
      intro v6 w6 ho6 hg6 ha6
      obtain⟨N6,hN6⟩:=exq (n+[filN].length)
      rw[<-hN6] at ho6
      clear hN6
      obtain⟨u6,d6,rfl⟩:=ownG_shape ho6
      have Q6:Hid (PI w (w6.setCell ⟨S,2,none⟩ (.slice u6 N6 d6)) S G A F lv fi la na al v u6 N6 d6 (L++[filN]) B0):=hideP (PB.out.put hg6 ho6 ha6)
      have q2:w6.cell? ⟨S,2,none⟩=some (.slice a n c):=PB.out.keep hg6
      have qf:w6.frozen? ⟨S,2,none⟩=false:=PB.out.keepF hg6
      have qs:S<w6.heap.size:=Nat.lt_of_lt_of_le PB.out.lt.1 hg6.size
      have T6:=hideP (PB.out.keepS hg6)
      clear ho6 hg6 ha6
      refine hK.out _ _ T6.out.1 (fun hS=>?_)
      try simp only[sput]
      clear hK K
      refine tkS (i:=8) (v:= .pointer (some ⟨S,0,none⟩)) rfl hS ?_
      try simp only[sput]
      refine tkS (i:=9) (v:= .pointer (some ⟨S,2,none⟩)) rfl hS ?_
      try simp only[sput]
      refine rdS (i:=10) rfl (fun K hK=>?_)
      go_simp
      refine hK.out _ _ (T6.out.2 _) (fun hS=>?_)
      try simp only[sput]
      clear hK K
      refine wpAnyH_done (by kernel_rfl) ?_ _
      obtain⟨W7,hW7⟩:=exq (w6.setCell ⟨S,2,none⟩ (.slice u6 N6 d6))
      rw[<-hW7] at Q6 ⊢
      clear hW7 q2 qf qs T6 hS
      go_wp2
      go_meet
      case rel=>exact⟨u6,N6,d6,by rw[HLN.out];exact Q6⟩
     ·rw[if_pos (by first|rfl|go_simp)]
      refine wp_bsN rfl rfl ?_
      rw[<-HWB.out]
      refine hK.out _ _ PB.out.fil (fun hS=>?_)
      try simp only[sput]
      clear hK K
      refine rdS (i:=4) rfl (fun K hK=>?_)
      go_simp
      refine hK.out _ _ PB.out.fil (fun hS=>?_)
      try simp only[sput]
      clear hK K
      refine rdS (i:=7) rfl (fun K hK=>?_)
      refine wp_appN _ _ rfl B0 (.slice a n c) n L rfl PB.out.own (.slice (some ⟨wr.heap.size,0,none⟩) 1 1) [filN] rfl NB.out (by simp;omega) (by have:=PB.out.lt;omega) ?_
      intro v6 w6 ho6 hg6 ha6
      obtain⟨N6,hN6⟩:=exq (n+[filN].length)
      rw[<-hN6] at ho6
      clear hN6
      obtain⟨u6,d6,rfl⟩:=ownG_shape ho6
      have Q6:Hid (PI w (w6.setCell ⟨S,2,none⟩ (.slice u6 N6 d6)) S G A F lv fi la na al v u6 N6 d6 (L++[filN]) B0):=hideP (PB.out.put hg6 ho6 ha6)
      have q2:w6.cell? ⟨S,2,none⟩=some (.slice a n c):=PB.out.keep hg6
      have qf:w6.frozen? ⟨S,2,none⟩=false:=PB.out.keepF hg6
      have qs:S<w6.heap.size:=Nat.lt_of_lt_of_le PB.out.lt.1 hg6.size
      have T6:=hideP (PB.out.keepS hg6)
      clear ho6 hg6 ha6
      refine hK.out _ _ T6.out.1 (fun hS=>?_)
      try simp only[sput]
      clear hK K
      refine tkS (i:=8) (v:= .pointer (some ⟨S,0,none⟩)) rfl hS ?_
      try simp only[sput]
      refine tkS (i:=9) (v:= .pointer (some ⟨S,2,none⟩)) rfl hS ?_
      try simp only[sput]
      refine rdS (i:=10) rfl (fun K hK=>?_)
      go_simp
      refine hK.out _ _ (T6.out.2 _) (fun hS=>?_)
      try simp only[sput]
      clear hK K
      refine wpAnyH_done (by kernel_rfl) ?_ _
      obtain⟨W7,hW7⟩:=exq (w6.setCell ⟨S,2,none⟩ (.slice u6 N6 d6))
      rw[<-hW7] at Q6 ⊢
      clear hW7 q2 qf qs T6 hS
      go_wp2
      go_meet
      case rel=>exact⟨u6,N6,d6,by rw[HLN.out];exact Q6⟩
   case rest =>
    obtain⟨a,n,c,HT⟩:=hcut
    have hnL:n=(L1++ns++L2).length:=by have h:=HT.out.own.1;rw[flatN_len] at h;omega
    have hn3:n<=20002:=by rw[hnL,List.length_append,List.length_append];omega
    obtain⟨hG3,hA3,_⟩:=HKG.out _ HT.out.frs
    have HAC:Hid (∀W,Below wc.heap.size wc W->Calls Tryz.prog 75 #[.pointer (some ⟨G,0,none⟩),.pointer (some ⟨A,0,none⟩),.int .i64 (fi:Int),.int .i64 (la:Int)] W fun e w'=>e = .returned (.int .i64 (acr f gs fi la))/\w'=W):=hideP (fun W hW=>across_any fi la ((hW.block _ (glt hG3)).trans hG3) (hA3.below hW) HF2.out h2 h3 HGS.out)
    have HHP:Hid (∀W,Below wc.heap.size wc W->Calls Tryz.prog 10 #[.slice a n c,.int .i64 1,.int .i64 (acr f gs fi la)] W fun e w'=>∃a c s,e = .returned (packV (.slice a R.length c) s)/\w'.ownsRow W.heap.size 36 15 (.slice a R.length c) R.length (flatN R)/\Below W.heap.size W w'):=hideP (fun W hW=>by
     have e:R=hpR (L1++ns++L2) 1 (acr f gs fi la):=by rw[HR.out,HL1.out,HL2.out];rfl
     rw[e]
     refine(implH 1 (acr f gs fi la) (ownG_below HT.out.own hW) hnL.symm (by omega)).mono (fun e w' ⟨u,q1,q2,q3⟩=>?_)
     obtain⟨a9,c9,rfl⟩:=ownG_shape q2
     exact⟨a9,c9,_,q1,q2,q3⟩)
    obtain⟨X,hX⟩:=exq (acr f gs fi la)
    rw[<-hX] at HAC HHP
    have HQ2:Hid (∀x:World,Below wc.heap.size wc x->(x.cell? ⟨S,0,none⟩=some (.pointer (some ⟨G,0,none⟩))/\x.cell? ⟨S,1,none⟩=some (.pointer (some ⟨A,0,none⟩))/\x.cell? ⟨S,2,none⟩=some (.slice a n c))/\x.cell? ⟨w.heap.size,0,none⟩=some (.int .i64 (fi:Int))/\x.cell? ⟨w.heap.size,1,none⟩=some (.int .i64 (la:Int))):=hideP (fun x hx=>by
     have p1:=(hx.block _ HT.out.lt.1).trans HT.out.st
     have p2:=(hx.block _ HT.out.lt.2.2.1).trans HT.out.box
     exact⟨⟨cell_of_row _ _ 0 _ 115 _ p1,cell_of_row _ _ 1 _ 115 _ p1,cell_of_row _ _ 2 _ 115 _ p1⟩,cell_of_row _ _ 0 _ 122 _ p2,cell_of_row _ _ 1 _ 122 _ p2⟩)
    have BD:Hid (Below wc.heap.size wc wc.drew):=hideP ((Below.refl _ _).drew)
    have hl:=HT.out.lt
    clear HKG hG3 hA3 hX hnL HR2
    go_wp2_with fail
    go_region_held3 (fun x=>(x.cell? ⟨S,0,none⟩=some (.pointer (some ⟨G,0,none⟩))/\x.cell? ⟨S,1,none⟩=some (.pointer (some ⟨A,0,none⟩))/\x.cell? ⟨S,2,none⟩=some (.slice a n c))/\x.cell? ⟨w.heap.size,0,none⟩=some (.int .i64 (fi:Int))/\x.cell? ⟨w.heap.size,1,none⟩=some (.int .i64 (la:Int))) (first|exact HQ2.out _ BD.out|exact HQ2.out _ ‹Hid (Below wc.heap.size wc _)›) (first|(go_at_call 75;refine(HAC.out _ BD.out).mono ?_;rintro e w7 ⟨rfl,rfl⟩)|(go_at_call 10;refine(HHP.out _ BD.out).mono ?_;rintro e w8 ⟨a8,c8,s8,rfl,ho8,hb8⟩;have B8:Hid (Below wc.heap.size wc w8):=hideP (below_more BD.out hb8 BD.out.size);have O8:=hideP ho8;have hfd:=fun W=>fld28 (.slice a8 R.length c8) s8 W;clear hb8 ho8))
    all_goals
     clear HHP HAC HQ2 HBX
     go_wp2
     go_ret
     refine⟨_,.slice a n c,n,_,rfl,ownG_base O8.out ?_,(B8.out.block _ hl.1).trans HT.out.st,ownG_below HT.out.own B8.out,HT.out.at_,HT.out.frs.below B8.out⟩
     exact Nat.le_of_lt hl.2.2.1
end Go.Proofs.YtbbehmcekbnkiaaGreat

import Derived.Test.YtbbehmcekbnkiaaGreatSrxt
namespace Go.Proofs.YtbbehmcekbnkiaaGreat
set_option maxHeartbeats 8000000
open Go.RowKit
set_option linter.unusedVariables false
set_option linter.unusedSimpArgs false
theorem own_frs {P:Nat->Prop}{W W':World}{B e s n:Nat}{v:Value}{xs:List Value}(o:W.ownsRow B e s v n xs)(hf:Frs P W W')(hP:∀b,v.ownBlock=some b->¬P b):W'.ownsRow B e s v n xs:=ownG_same o (fun b hb=>hf.block b (o.lt b hb).2 (hP b hb))
structure TJ (W0 w wr:World)(S G A:Nat)(co gs gp gpo gm gmo:Int)(F:Nat->Int)(ua:Option Addr)(m uc:Nat)(ls:List Ln)(rs:List Rw)(lv:Value)(a:Option Addr)(n c:Nat)(L:List Nd):Prop where
 bel0:Below W0.heap.size W0 wr
 bel:Below w.heap.size w wr
 grd:wr.heap[G]?=some (grO co gs gp gpo gm gmo (.slice ua m uc))
 arr:ArrAt wr A F
 own:wr.ownsRow W0.heap.size 119 2 (.slice ua m uc) m (flatL ls)
 rows:GRows W0 wr rs ls m
 st:wr.heap[S]?=some (stO G A lv)
 lst:∃n' L',wr.ownsRow W0.heap.size 36 15 lv n' L'
 acc:wr.ownsRow W0.heap.size 36 15 (.slice a n c) n (flatN L)
 aL:∀b,(Value.slice a n c).ownBlock=some b->lv.ownBlock≠some b
section
variable {W0 w wr : World} {S G A : Nat} {co gs gp gpo gm gmo : Int} {F : Nat -> Int} {ua : Option Addr} {m uc : Nat} {ls : List Ln} {rs : List Rw} {lv : Value} {a : Option Addr} {n c : Nat} {L : List Nd}
theorem TJ.lt (h:TJ W0 w wr S G A co gs gp gpo gm gmo F ua m uc ls rs lv a n c L):S<wr.heap.size/\G<wr.heap.size:=⟨(glt h.st),(glt h.grd)⟩
theorem TJ.row {w2:World}{lv':Value}{n':Nat}{L':List Value}(h:TJ W0 w wr S G A co gs gp gpo gm gmo F ua m uc ls rs lv a n c L)(hS0:W0.heap.size<=S)(hw0:w.heap.size<=W0.heap.size)(hf:Frs (fun b=>b=S\/lv.ownBlock=some b) wr w2)(hst:w2.heap[S]?=some (stO G A lv'))(ho:w2.ownsRow W0.heap.size 36 15 lv' n' L')(ha:∀b,lv'.ownBlock=some b->lv.ownBlock=some b\/wr.heap.size<=b):TJ W0 w w2 S G A co gs gp gpo gm gmo F ua m uc ls rs lv' a n c L:=by
 obtain⟨m',M',hl⟩:=h.lst
 obtain⟨l1,l2⟩:=h.lt
 obtain⟨arr,q1,_,_⟩:=id h.arr
 have hge:∀b,(b=S\/lv.ownBlock=some b)->W0.heap.size<=b:=fun b hb=>by
  rcases hb with e|e
  ·omega
  ·exact(hl.lt b e).1
 have hty:∀{B e s k:Nat} {v:Value} {xs:List Value},wr.ownsRow B e s v k xs->e≠115->e≠36->∀b,v.ownBlock=some b->¬(b=S\/lv.ownBlock=some b):=fun o e1 e2 b hb hc=>by
  rcases hc with e|e
  ·exact own_neB h.st o e1 (by rw[hb,e])
  ·rcases ownG_ne hl o (fun e=>e2 e.symm) with q|q
   ·rw[q] at e;cases e
   ·exact q (by rw[e,hb])
 refine⟨Frs.toBelow h.bel0 hf hge h.bel0.size,Frs.toBelow h.bel hf (fun b hb=>Nat.le_trans hw0 (hge b hb)) h.bel.size,(hf.block _ l2 ?_).trans h.grd,h.arr.same (hf.block _ h.arr.lt ?_),own_frs h.own hf (hty h.own (by decide) (by decide)),h.rows.keep (fun v k xs o=>own_frs o hf (hty o (by decide) (by decide))),hst,⟨n',L',ho⟩,own_frs h.acc hf ?_,?_⟩
 ·rintro (e|e)
  ·exact ty_ne h.grd h.st (by decide) e
  ·exact own_neB h.grd hl (by decide) e
 ·rintro (e|e)
  ·exact ty_ne q1 h.st (by decide) e
  ·exact own_neB q1 hl (by decide) e
 ·rintro b hb (e|e)
  ·exact own_neB h.st h.acc (by decide) (by rw[hb,e])
  ·exact h.aL b hb e
 ·intro b hb e
  rcases ha b e with q|q
  ·exact h.aL b hb q
  ·have:=(h.acc.lt b hb).2;omega
theorem TJ.app {w2:World}{a':Option Addr}{n' c':Nat}{L':List Nd}(h:TJ W0 w wr S G A co gs gp gpo gm gmo F ua m uc ls rs lv a n c L)(hw0:w.heap.size<=W0.heap.size)(hg:wr.grownBy w2 (Value.slice a n c).ownBlock)(ho:w2.ownsRow W0.heap.size 36 15 (.slice a' n' c') n' (flatN L'))(ha:(Value.slice a' n' c').ownBlock=(Value.slice a n c).ownBlock\/(Value.slice a' n' c').ownBlock=some wr.heap.size):TJ W0 w w2 S G A co gs gp gpo gm gmo F ua m uc ls rs lv a' n' c' L':=by
 obtain⟨m',M',hl⟩:=h.lst
 obtain⟨l1,l2⟩:=h.lt
 obtain⟨arr,q1,_,_⟩:=id h.arr
 have hge:∀b,(Value.slice a n c).ownBlock=some b->W0.heap.size<=b:=fun b hb=>(h.acc.lt b hb).1
 refine⟨Below.grown h.bel0 hg h.bel0.size hge,Below.grown h.bel hg h.bel.size (fun b hb=>Nat.le_trans hw0 (hge b hb)),(hg.block _ l2 (fun e=>own_neB h.grd h.acc (by decide) e.symm)).trans h.grd,h.arr.same (hg.block _ h.arr.lt (fun e=>own_neB q1 h.acc (by decide) e.symm)),World.ownsRow.kept h.own hg (ownG_ne h.own h.acc (by decide)),h.rows.keep (fun v k xs o=>World.ownsRow.kept o hg (ownG_ne o h.acc (by decide))),(hg.block _ l1 (fun e=>own_neB h.st h.acc (by decide) e.symm)).trans h.st,⟨m',M',ownG_same hl (fun b hb=>hg.block _ (hl.lt b hb).2 (fun e=>h.aL b e.symm hb))⟩,ho,?_⟩
 intro b hb
 rcases ha with e|e
 ·rw[e] at hb;exact h.aL b hb
 ·rw[e] at hb;injection hb with e3;subst e3
  intro e2
  have:=(hl.lt _ e2).2
  omega
end
set_option maxRecDepth 20000 in
theorem implSetTable_any (x:Tb){v:Value}{w:World}(h:RRowN 0 w v x.rs)(hs:SmT x) :
 Calls Tryz.prog 24 #[tbV x v] w fun e w'=>∃a c,e = .returned (.slice a (stR x).length c)/\w'.ownsRow w.heap.size 36 15 (.slice a (stR x).length c) (stR x).length (flatN (stR x))/\Below w.heap.size w w':=by
 obtain⟨va,vn,vc,rfl⟩:∃a n c,v = .slice a n c:=by obtain⟨a,c,rfl⟩:=h.shape;exact⟨_,_,_,rfl⟩
 have HC:Hid (∀W,Below w.heap.size w W->Calls Tryz.prog 47 #[tbV x (.slice va vn vc)] W fun e w'=>(∃p,e = .returned (.tuple #[.pointer p,.bool (tabB x)])/\(tabB x=true->∃G ua uc ls,p=some ⟨G,0,none⟩/\w'.heap[G]?=some (grO x.co x.gs x.gp x.gpo x.gm x.gmo (.slice ua x.rs.length uc))/\w'.ownsRow W.heap.size 119 2 (.slice ua x.rs.length uc) x.rs.length (flatL ls)/\GRows W w' x.rs ls x.rs.length/\
  Calls Tryz.prog 49 #[.pointer (some ⟨G,0,none⟩)] w' fun e w2=>(∃(arr:Array Value) (F:Nat->Int),e = .returned (.tuple #[.agg arr,.bool (colsOk x.gs x.rs x.co.toNat)])/\arr.size=20/\(∀i,i<20->arr[i]?=some (.int .i64 (F i)))/\Bd F/\(colsOk x.gs x.rs x.co.toNat=true->F=colsStep x.gs x.rs x.co.toNat))/\Below w'.heap.size w' w2))/\Below W.heap.size W w'):=hideP (fun W hW=>(gridOf_any x (h.below rwNStable hW) hs).mono (fun e w' ⟨h1,h2⟩=>by
  refine⟨?_,h2⟩
  cases hb:tabB x with
  | false =>
   rw[hb] at h1
   exact⟨none,h1,fun h=>by cases h⟩
  | true =>
   rw[hb] at h1
   obtain⟨G,rfl,u,ls,hG,hg,ho,hr⟩:=h1
   obtain⟨ua,uc,rfl⟩:=ownG_shape ho
   obtain⟨b1,b2,b3,b4,b5⟩:=tabB_parts hb
   exact⟨_,rfl,fun _=>⟨G,ua,uc,ls,rfl,hg,ho,hr,fitted_any hg rfl (lanes_read ho hr) b5 b4 b1 b2 b3⟩⟩))
 have hTP:tabB x=true->1<=x.co/\x.co<=20/\(-1073741823<=x.gs/\x.gs<=1073741823)/\x.rs.length<=200/\∀i,i<x.rs.length->RowIn (x.rs.getD i Rw.none).cs x.co:=tabB_parts
 obtain⟨R,hR⟩:=exq (stR x)
 rw[<-hR]
 unfold stR at hR
 obtain⟨T,hT⟩:=exq (tabB x)
 rw[<-hT] at HC hTP hR
 obtain⟨K,hK⟩:=exq (colsOk x.gs x.rs x.co.toNat)
 obtain⟨cst,hcst⟩:=exq (colsStep x.gs x.rs x.co.toNat)
 rw[<-hK,<-hcst] at HC hR
 have HR:=hideP hR
 clear hT hR h hs hK hcst
 obtain⟨co,gs,gp,gpo,gm,gmo,rs⟩:=x
 dsimp only at hTP HR ⊢
 simp only[tbV] at HC ⊢
 cases T with
 | false =>
  have hR0:R=[]:=by rw[HR.out];rfl
  subst hR0
  go_enter Tryz.func24,Tryz.ntmps24
  go_wp2_with fail
  refine(HC.out _ (below1 _ _)).mono ?_
  rintro e w1 ⟨⟨p,rfl,_⟩,hb1⟩
  have B1:Hid (Below w.heap.size w w1):=hideP (below_more (below1 _ _) hb1 (by simp))
  clear hb1
  go_wp2
  go_ret
  exact⟨_,0,rfl,own_mt B1.out.size (heap_alloc_new w1 _),B1.out.alloc B1.out.size _⟩
 | true =>
  obtain⟨hc1,hc2,hg,hlen,hin⟩:=hTP (by first|rfl|trivial)
  obtain⟨cols,hcols⟩:∃cols:Nat,(cols:Int)=co:=⟨co.toNat,by omega⟩
  subst hcols
  obtain⟨n,hn⟩:=exq (rs.length)
  have HN:=hideP hn
  obtain⟨gap,hgap⟩:=exq (gapN gs gp gpo gm gmo)
  rw[<-hn] at hlen hin HC HR
  rw[<-hgap] at HR
  have HGP:=hideP hgap
  have HIN:=hideP hin
  have HG:=hideP hg
  clear hin hTP hn hg hgap
  go_enter Tryz.func24,Tryz.ntmps24
  go_wp2_with fail
  refine(HC.out _ (below1 _ _)).mono ?_
  rintro e w1 ⟨⟨p,rfl,hp⟩,hb1⟩
  obtain⟨G,ua,uc,ls,rfl,hgr,hown,hrows,hfit⟩:=hp (by first|rfl|trivial)
  have B1:Hid (Below w.heap.size w w1):=hideP (below_more (below1 _ _) hb1 (by simp))
  obtain⟨W0,hW0⟩:∃W0:World,W0=w.alloc (.cells #[.int .i64 (cols:Int),.int .i64 gs,.int .i64 gp,.int .i64 gpo,.int .i64 gm,.int .i64 gmo,.slice va vn vc] 52):=⟨_,rfl⟩
  rw[<-hW0] at hown hrows hb1
  have hW0s:w.heap.size<=W0.heap.size:=by rw[hW0];simp
  have B0:=hideP hb1
  have HGR:=hideP hgr
  have HOW:=hideP hown
  have HRW:=hideP hrows
  have HFT:=hideP hfit
  clear hb1 hp hgr hown hrows hW0 HC hfit
  go_wp2_with fail
  refine HFT.out.mono ?_
  rintro e w2 ⟨⟨arr,F,rfl,ha2,ha3,hbd,hF⟩,hb2⟩
  have B2:Hid (Below w.heap.size w w2):=hideP (below_more B1.out hb2 B1.out.size)
  have B02:Hid (Below W0.heap.size W0 w2):=hideP (below_more B0.out hb2 B0.out.size)
  have GR2:=hideP ((hb2.block _ (glt HGR.out)).trans HGR.out)
  have OW2:=hideP (ownG_below HOW.out hb2)
  have RW2:=hideP (HRW.out.below hb2)
  have hone:arr.all (·.oneCell')=true:=arr_one ha2 ha3
  have HSZ:Hid ((Tryz.prog.info? 104).map (·.size)=some arr.size):=hideP (by rw[ha2];kernel_rfl)
  have HA3:=hideP ha3
  have HBD:=hideP hbd
  have HF:=hideP hF
  clear hb2 ha3 hF hbd HFT HGR HOW HRW B1 B0
  go_simp
  iterate 13 (first|go_values|go_skip|go_guarded|go_step|go_upon|go_in|go_back)
  refine wpList_store_row rfl 104 _ _ rfl w2.heap.size rfl _ arr rfl 104 (heap_alloc_new w2 _) HSZ.out (by rw[ha2];rfl) hone ?_
  obtain⟨W,hW⟩:=exq ((w2.alloc (.cells #[.int .i64 0,.int .i64 0,.int .i64 0,.int .i64 0,.int .i64 0,.int .i64 0,.int .i64 0,.int .i64 0,.int .i64 0,.int .i64 0,.int .i64 0,.int .i64 0,.int .i64 0,.int .i64 0,.int .i64 0,.int .i64 0,.int .i64 0,.int .i64 0,.int .i64 0,.int .i64 0] 104)).setRow w2.heap.size arr)
  rw[<-hW]
  have BW:Hid (Below w2.heap.size w2 W):=hideP (by rw[hW];exact below_setRow ((Below.refl _ _).alloc (Nat.le_refl _) _) (Nat.le_refl _) _)
  obtain⟨A,hA⟩:=exq (w2.heap.size)
  have AW:Hid (ArrAt W A F):=hideP ⟨arr,by rw[hW,hA];exact setRow_heap _ _ _ _ _ _ (heap_alloc_new w2 _),ha2,HA3.out⟩
  rw[<-hA]
  clear hW HSZ hone hA
  have BW2:Hid (Below w.heap.size w W):=hideP (below_more B2.out BW.out B2.out.size)
  cases K with
  | false =>
   have hR0:R=[]:=by rw[HR.out];rfl
   subst hR0
   go_wp2
   go_ret
   exact⟨_,0,rfl,own_mt BW2.out.size (heap_alloc_new W _),BW2.out.alloc BW2.out.size _⟩
  | true =>
   have hF2:=HF.out (by first|rfl|trivial)
   have HR1:Hid (R=if (rowsOk F gs gap (cols:Int) rs n&&decide ((outK F gs gap (cols:Int) rs n).length<=20000))=true then outK F gs gap (cols:Int) rs n else []):=hideP (by rw[HR.out,hF2];rfl)
   have GW:=hideP ((BW.out.block _ (glt GR2.out)).trans GR2.out)
   have OW:=hideP (ownG_below OW2.out BW.out)
   have RW:=hideP (RW2.out.below BW.out)
   have B0W:Hid (Below W0.heap.size W0 W):=hideP (below_more B02.out BW.out B02.out.size)
   clear hF2 HF HR GR2 OW2 RW2 B2 B02 BW
   have g6:W.cell? ⟨G,6,none⟩=some (.slice ua n uc):=cell_of_row _ _ 6 _ 110 _ GW.out
   have hGl:=(glt GW.out)
   go_wp2_with fail
   generalize hWZ:(W.alloc _).alloc _=wz
   obtain⟨S,hS⟩:=exq (W.heap.size)
   have HZ:Hid (TJ W0 w wz S G A cols gs gp gpo gm gmo F ua n uc ls rs (.slice none 0 0) (some ⟨S+1,0,none⟩) 0 0 (outK F gs gap (cols:Int) rs 0)):=hideP (by
    have q1:=heap_alloc_new W (.cells #[.pointer (some ⟨G,0,none⟩),.pointer (some ⟨A,0,none⟩),.slice none 0 0] 115)
    have q2:=heap_alloc_new (W.alloc (.cells #[.pointer (some ⟨G,0,none⟩),.pointer (some ⟨A,0,none⟩),.slice none 0 0] 115)) (.cells #[] 36)
    rw[World.size_alloc] at q2
    have bz:Below W.heap.size W wz:=by rw[<-hWZ];exact below2 _ _ _
    refine⟨below_more B0W.out bz B0W.out.size,below_more BW2.out bz BW2.out.size,(bz.block _ hGl).trans GW.out,AW.out.below bz,ownG_below OW.out bz,RW.out.below bz,?_,⟨0,[],World.ownsRow_nil _ _ _ _⟩,?_,fun b _ e=>by cases e⟩
    ·rw[<-hWZ,hS,Below.heap_alloc _ _ _ (by simp)];exact q1
    ·rw[<-hWZ,hS];exact own_mt (by have:=B0W.out.size;omega) q2)
   have hS0:W0.heap.size<=S:=by rw[hS];exact B0W.out.size
   rw[<-hS]
   clear hWZ hS GW OW RW AW B0W BW2 g6 hGl
   go_loopw [7,8,9,35] (fun s7 _ _ s35 wr=>∃(k:Nat) (a:Option Addr) (nn c:Nat) (lv:Value),k<=n/\s35 = .int .i64 (k:Int)/\s7 = .slice a nn c/\Hid (rowsOk F gs gap (cols:Int) rs k=true/\(outK F gs gap (cols:Int) rs k).length<=20000/\TJ W0 w wr S G A cols gs gp gpo gm gmo F ua n uc ls rs lv a nn c (outK F gs gap (cols:Int) rs k))) (fun _ _ _ s35 _=>n-(intOf s35).toNat)
   case atStart=>exact⟨0,_,0,0,_,by omega,rfl,rfl,hideP ⟨rfl,by simp[outK],HZ.out⟩⟩
   case round =>
    obtain⟨k,a,nn,c,lv,hk,rfl,rfl,HJ0⟩:=hrel
    have HJ:=hideP HJ0.out.2.2
    have HOK0:=hideP HJ0.out.1
    have HLE:=hideP HJ0.out.2.1
    have hnl:nn<=20000:=by
     have q1:=HJ.out.acc.1
     rw[flatN_len] at q1
     have:=HLE.out
     omega
    have hlt:=HJ.out.lt
    clear HZ HJ0
    have g6:wr.cell? ⟨G,6,none⟩=some (.slice ua n uc):=cell_of_row _ _ 6 _ 110 _ HJ.out.grd
    by_cases hkn:k<n
    ·have hki:(k:Int)<(n:Int):=by omega
     obtain⟨gl,rfl,hgl⟩:=ownG_addr HJ.out.own (by omega)
     obtain⟨hru,ps,ol,hp⟩:=HJ.out.rows.2 k hkn
     obtain⟨r,hr⟩:=exq (rs.getD k Rw.none)
     rw[<-hr] at hru ol hp
     have hri:=HIN.out k hkn
     rw[<-hr] at hri
     obtain⟨l,hl⟩:=exq (ls.getD k Ln.none)
     have r0:wr.cell? ⟨gl,k*2,none⟩=some (.int .i64 l.ru):=by rw[hl];exact ownG_cell HJ.out.own (flatL_get ls k (by rw[HJ.out.rows.1];exact hkn) 0 (by omega))
     have r1:wr.cell? ⟨gl,k*2+1,none⟩=some l.v:=by rw[hl];exact ownG_cell HJ.out.own (flatL_get ls k (by rw[HJ.out.rows.1];exact hkn) 1 (by omega))
     rw[<-hl] at hru ol
     obtain⟨q,hq⟩:=exq (rowR F gs gap (cols:Int) r)
     have HST:Hid (outK F gs gap (cols:Int) rs (k+1)=outK F gs gap (cols:Int) rs k++q):=hideP (by rw[hq,hr];rfl)
     have HSO:Hid (rowsOk F gs gap (cols:Int) rs (k+1)=decide (0<q.length)):=hideP (by rw[hq,hr];unfold rowsOk;rw[HOK0.out,Bool.true_and])
     have hql:q.length<=20000:=by rw[hq];exact rowR_le
     obtain⟨rcs,rru⟩:=r
     obtain⟨lru,lv2⟩:=l
     dsimp only at hru ol hp hri r0 r1
     subst hru
     obtain⟨la0,lc0,rfl⟩:=ownG_shape ol
     obtain⟨n3,L3,hl3⟩:=HJ.out.lst
     have HRO:Hid (Calls Tryz.prog 52 #[.pointer (some ⟨S,0,none⟩),.agg #[.int .i64 lru,.slice la0 rcs.length lc0]] wr fun e w2=>∃ra rc lv,e = .returned (.slice ra q.length rc)/\w2.ownsRow wr.heap.size 36 15 (.slice ra q.length rc) q.length (flatN q)/\TJ W0 w w2 S G A cols gs gp gpo gm gmo F (some ⟨gl,0,none⟩) n uc ls rs lv a nn c (outK F gs gap (cols:Int) rs k)):=hideP (by
      rw[hq]
      have h:=rowSet_any (ru:=lru) HJ.out.bel0 hS0 HJ.out.st HJ.out.grd HJ.out.arr HBD.out (by omega) (by omega) HG.out hl3 ol hp hri
      rw[<-HGP.out] at h
      exact h.mono (fun e w' ⟨a,c,lv',n',L',q1,q2,q3,q4,q5,q6⟩=>⟨a,c,lv',q1,q2,HJ.out.row hS0 hW0s q6 q3 q4 q5⟩))
     clear hp hri hr hl ol hl3 hq
     go_wp2_with fail
     refine HRO.out.mono ?_
     rintro e w2 ⟨ra,rc,lv3,rfl,ho2,hj2⟩
     have J2:=hideP hj2
     have NR:Hid (NN 0 w2 (.slice ra q.length rc) q):=hideP (own_NN ho2 rfl)
     obtain⟨qn,hqn⟩:=exq (q.length)
     rw[<-hqn] at NR hql ⊢
     have HQN:=hideP hqn
     clear HRO ho2 hj2 HJ r0 r1 g6 hlt hgl hqn
     have hb2:W0.heap.size<=w2.heap.size:=J2.out.bel0.size
     go_upto_region 14 with (at_builtin;refine wpList_appN rfl _ _ rfl W0.heap.size (.slice a nn c) nn (outK F gs gap (cols:Int) rs k) rfl J2.out.acc (.slice ra qn rc) q rfl NR.out (by rw[<-HQN.out];omega) (by omega) ?_;intro v7 w7 ho hg ha;rw[<-HQN.out,<-HST.out] at ho;obtain⟨N7,hN7⟩:=exq (nn+qn);rw[<-hN7] at ho;obtain⟨u7,d7,rfl⟩:=ownG_shape ho;have J7:Hid (TJ W0 w w7 S G A cols gs gp gpo gm gmo F (some ⟨gl,0,none⟩) n uc ls rs lv3 u7 N7 d7 (outK F gs gap (cols:Int) rs (k+1))):=hideP (J2.out.app hW0s hg ho ha);clear ho hg ha hN7)
     clear J2 NR
     have HN7:Hid ((outK F gs gap (cols:Int) rs (k+1)).length=N7):=hideP (by have q1:=J7.out.acc.1;rw[flatN_len] at q1;omega)
     by_cases hq0:qn=0
     ·have hR0:R=[]:=by
       rw[HR1.out,rowsOk_down (show k+1<=n by omega) (by rw[HSO.out,<-HQN.out,hq0];rfl)]
       rfl
      subst hR0
      subst hq0
      go_wp2
      go_ret
      exact⟨_,0,rfl,own_mt J7.out.bel.size (heap_alloc_new w7 _),J7.out.bel.alloc J7.out.bel.size _⟩
     ·have hq1:((qn:Int) == 0)=false:=by simp;omega
      by_cases hbig:20000<N7
      ·have hR0:R=[]:=by
        have q1:=outK_mono F gs gap (cols:Int) rs (show k+1<=n by omega)
        rw[HR1.out,decide_eq_false (show ¬(outK F gs gap (cols:Int) rs n).length<=20000 by have:=HN7.out;omega),Bool.and_false]
        rfl
       subst hR0
       have hbi:(20000:Int)<(N7:Int):=by omega
       go_wp2
       go_ret
       exact⟨_,0,rfl,own_mt J7.out.bel.size (heap_alloc_new w7 _),J7.out.bel.alloc J7.out.bel.size _⟩
      ·have hbi:¬(20000:Int)<(N7:Int):=by omega
       have HSO2:Hid (rowsOk F gs gap (cols:Int) rs (k+1)=true):=hideP (by rw[HSO.out,<-HQN.out];simp;omega)
       go_wp2
       go_roundw
       case rel=>exact⟨k+1,u7,N7,d7,lv3,by omega,by go_num,rfl,hideP ⟨HSO2.out,by rw[HN7.out];omega,J7.out⟩⟩
       case measure=>simp[intOf];omega
    ·have hki:¬(k:Int)<(n:Int):=by omega
     obtain rfl:k=n:=by omega
     have hR0:R=outK F gs gap (cols:Int) rs k:=by rw[HR1.out,HOK0.out,decide_eq_true HLE.out];rfl
     have hRn:R.length=nn:=by rw[hR0];have q1:=HJ.out.acc.1;rw[flatN_len] at q1;omega
     have HOA:Hid (wr.ownsRow w.heap.size 36 15 (.slice a R.length c) R.length (flatN R)):=hideP (by rw[hRn,hR0];exact ownG_base HJ.out.acc hW0s)
     have HBL:=hideP HJ.out.bel
     subst hRn
     clear hR0 HJ
     go_wp2
     go_ret
     exact⟨a,c,rfl,HOA.out,HBL.out⟩
theorem implTableOk_any (x:Tb){v:Value}{w:World}(h:RRowN 0 w v x.rs)(hs:SmT x) :
 Calls Tryz.prog 20 #[tbV x v] w fun e w'=>e = .returned (.bool (tabB x))/\Below w.heap.size w w':=by
 obtain⟨va,vn,vc,rfl⟩:∃a n c,v = .slice a n c:=by obtain⟨a,c,rfl⟩:=h.shape;exact⟨_,_,_,rfl⟩
 obtain⟨R,hR⟩:=exq (tabB x)
 have HC:Hid (∀W,Below w.heap.size w W->Calls Tryz.prog 47 #[tbV x (.slice va vn vc)] W fun e w'=>∃p,e = .returned (.tuple #[.pointer p,.bool R])/\Below W.heap.size W w'):=hideP (fun W hW=>(gridOf_any x (h.below rwNStable hW) hs).mono (fun e w' ⟨h1,h2⟩=>by
  rw[<-hR] at h1
  cases R with
  | false=>exact⟨_,h1,h2⟩
  | true =>
   obtain⟨G,h3,_⟩:=h1
   exact⟨_,h3,h2⟩))
 rw[<-hR]
 clear h hs hR
 obtain⟨co,gs,gp,gpo,gm,gmo,rs⟩:=x
 simp only[tbV] at HC ⊢
 go_enter Tryz.func20,Tryz.ntmps20
 go_wp2_with fail
 refine(HC.out _ (below1 _ _)).mono ?_
 rintro e w1 ⟨p,rfl,hb1⟩
 have B1:Hid (Below w.heap.size w w1):=hideP (below_more (below1 _ _) hb1 (by simp))
 clear hb1
 go_wp2
 go_ret
 exact⟨rfl,B1.out⟩
def CF (w wr wi:World)(ao:Option Addr)(len cap:Nat):Prop:=Cur w wi ao len cap/\Fram w wr wi
theorem big_any (ao:Option Addr)(len cap:Nat)(w:World)(hl:len<=9223372036854775807):Calls Tryz.prog 8 #[.slice ao len cap] w fun e w'=>e = .returned (.bool (decide (1048576<len)))/\w'=w:=by
 by_cases h:1048576<len
 ·have hi:(1048576:Int)<(len:Int):=by omega
  go_enter Tryz.func8,Tryz.ntmps8
  go_wp2
  go_ret
  exact⟨by simp[h],rfl⟩
 ·have hi:¬(1048576:Int)<(len:Int):=by omega
  go_enter Tryz.func8,Tryz.ntmps8
  go_wp2
  go_ret
  exact⟨by simp[h],rfl⟩
end Go.Proofs.YtbbehmcekbnkiaaGreat
namespace Go.Proofs.YtbbehmcekbnkiaaGreat.Shr
open Go.RowKit
set_option linter.unusedVariables false
set_option linter.unusedSimpArgs false
structure ShareFacts (gs:List Gl)(q:Int):Prop where
 len:(shareL gs q).length=gs.length
 zero:q=0->(shareS gs q).sign=0/\(shareL gs q).sum=siz gs
 up:0<q->(shareS gs q).sign=1/\(shareS gs q).want=q/\(shareS gs q).order=ordOf Gl.p Gl.po gs/\(shareS gs q).have_=hvOf Gl.p Gl.po gs/\(0<hvOf Gl.p Gl.po gs->(shareL gs q).sum=siz gs+q)/\(¬0<hvOf Gl.p Gl.po gs->(shareL gs q).sum=siz gs)
 down:q<0->(shareS gs q).sign = -1/\(shareS gs q).want = -q/\(shareS gs q).order=ordOf Gl.m Gl.mo gs/\(shareS gs q).have_=hvOf Gl.m Gl.mo gs/\(shareL gs q).sum=siz gs+q+(shareS gs q).over/\0<=(shareS gs q).over/\(shareS gs q).over<= -q
 keep:∀i,i<gs.length->((shareS gs q).sign=0\/(0<=(shareS gs q).sign/\(gs.getD i Gl.none).po≠(shareS gs q).order)\/((shareS gs q).sign<0/\(gs.getD i Gl.none).mo≠(shareS gs q).order))->(shareL gs q).getD i 0=(gs.getD i Gl.none).s
end Go.Proofs.YtbbehmcekbnkiaaGreat.Shr
namespace Go.Proofs.YtbbehmcekbnkiaaGreat
open Go.RowKit
set_option linter.unusedVariables false
set_option linter.unusedSimpArgs false
def al (x:Nd):Int:=if pileB x then x.ht+x.dp else if x.k=2\/x.k=3 then x.wd else 0
def aw (x:Nd):Int:=if pileB x then x.ht+x.dp else if x.k=2 then x.wd else 0
def hdN (ys:List Nd)(i:Nat):Nd:=ys.getD ((begins ys).getD i 0) Nd.none
end Go.Proofs.YtbbehmcekbnkiaaGreat
namespace Go.Proofs.YtbbehmcekbnkiaaGreat
open Go.RowKit Go.Shelf
set_option linter.unusedVariables false
set_option linter.unusedSimpArgs false
def ItQ (S:World)(a:Option Addr)(m:Nat)(f:Nat->List Nd):Prop :=
 ∀i,i<m->∃g u base,a=some ⟨g,0,none⟩/\g<S.heap.size/\∀X,Below S.heap.size S X->X.cell? ⟨g,i,none⟩=some u/\X.ownsRow base 36 15 u (f i).length (flatN (f i))
theorem ItQ.of {base m c:Nat}{S:World}{a:Option Addr}{vs:List Value}{f:Nat->List Nd}(h:S.ownsRow base 24 1 (.slice a m c) m vs)(hl:Lsts base S vs f):ItQ S a m f:=by
 intro i hi
 have hlen:=own25_len h
 obtain⟨ao,cap,he,hg⟩:=own25_shape h
 cases he
 obtain⟨g,rfl,hg0,hgl⟩:=hg (by omega)
 have hvi:vs[i]?=some vs[i]:=List.getElem?_eq_getElem (by omega)
 refine⟨g,vs[i],base,rfl,hgl,fun X hX=>⟨(hX.cell (p:=⟨g,i,none⟩) hgl).trans (own25_cell h hvi).1,own_below (hl.own i _ hvi) hX⟩⟩
end Go.Proofs.YtbbehmcekbnkiaaGreat

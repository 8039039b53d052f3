import Derived.Test.YtbbehmcekbnkiaaGreatApnt
import Derived.Lib.AppendZerosOnto
namespace Go.Proofs.YtbbehmcekbnkiaaGreat
set_option maxHeartbeats 8000000
open Go.RowKit
set_option linter.unusedVariables false
set_option linter.unusedSimpArgs false
set_option maxRecDepth 100000 in
theorem grow_any (n:Nat)(hn:n<=40000)(h0:0<n)(w:World):Calls Tryz.prog 83 #[.slice none 0 0,.int .i64 (n:Int)] w fun e w'=>∃v',e = .returned v'/\w'.ownsRow w.heap.size 36 15 v' 0 []/\Below w.heap.size w w':=by
 obtain⟨i0,hi,hz0,hz1,hz2⟩:=info_parts Tryz.info57c
 have hneg:¬(n:Int)<0:=by omega
 have hpos:(0:Int)<(n:Int):=by omega
 obtain⟨G,hG⟩:=exq (grownCap w n 0 36)
 obtain⟨C,hC⟩:=exq ((([]:List Value).toArray++Builtin.zeroCells (Value.cells (ndV Nd.none)) n++Builtin.zeroCells (Value.cells (ndV Nd.none)) (G-n)))
 have hrz:∀ty,(Builtin.append_ #[24,3] ty #[.slice none 0 0,.int .i64 (n:Int)]).run Tryz.prog w = .ok (.slice (some ⟨w.heap.size,0,none⟩) n G) (w.drew.alloc (.cells C 36)):=fun ty=>by
  have h:=Lib.run_append_grow_zeros w 24 3 ty 36 i0 _ .i64 .i64 Tryz.underlying24 Tryz.underlying3 hi hz0 none 0 0 [] (run_firstCells_none w.drew i0.size 0 0 0) n (by omega) (by rw[hz1];decide) (by omega) (by omega) (by rw[hz2];omega) (by rw[hz2];exact growslice_fits (by omega) (by omega))
  rw[Nat.zero_add,<-hG,<-hC] at h
  exact h
 have hGn:n<=G:=by rw[hG];exact grownCap_ge w _ _ _
 have hG63:G<=maxLen:=by rw[hG];exact grownCap_le_maxLen w n 0 36 (by unfold maxLen;omega)
 have hCs:C.size=G*15:=by rw[hC];simp[Builtin.zeroCells,Value.cells];omega
 have HF:Hid (G<=maxLen/\C.size=G*15):=⟨hG63,hCs⟩
 have hG2:G<=9223372036854775807:=by unfold maxLen at hG63;omega
 clear hG hC hCs hG63
 go_enter Tryz.func83,Tryz.ntmps83
 go_wp2_with (at_builtin;refine Lib.wpList_append_run _ rfl _ _ _ _ rfl _ _ rfl rfl _ _ (hrz _) ?_)
 go_ret
 refine⟨_,rfl,?_,?_⟩
 ·exact World.ownsRow_made w.drew C G (Nat.le_refl _) HF.1 HF.2
 ·exact((Below.refl _ w).drew).alloc (Nat.le_refl _) _
def Put (w:World)(v:Value)(m:Nat)(L:List Value):Prop:=∃ao cap,v = .slice ao m cap/\L.length=m*15/\(∀u∈L,u.oneCell'=true)/\((ao=none/\m=0/\cap=0)\/∃b off,ao=some ⟨b,off,none⟩/\b<w.heap.size/\∀j u,L[j]?=some u->w.cell? ⟨b,off+j,none⟩=some u)
set_option maxRecDepth 100000 in
theorem concat_two {w:World}{A:Nat}{v1 v2:Value}{m1 m2:Nat}{L1 L2:List Value}(c0:w.cell? ⟨A,0,none⟩=some v1)(c1:w.cell? ⟨A,1,none⟩=some v2)(h1:Put w v1 m1 L1)(h2:Put w v2 m2 L2)(hm:0<m1)(hm1:m1<=20000)(hm2:m2<=20000) :
 Calls Tryz.prog 60 #[.slice (some ⟨A,0,none⟩) 2 2] w fun e w'=>∃v',e = .returned v'/\w'.ownsRow w.heap.size 36 15 v' (m1+m2) (L1++L2)/\Below w.heap.size w w':=by
 obtain⟨i0,hi,hz0,hz1,hz2⟩:=info_parts Tryz.info57c
 have hAw:A<w.heap.size:=World.block_lt_of_cell? w _ c0
 obtain⟨a1,cap1,rfl,hl1,hq1,hr1⟩:=h1
 obtain⟨a2,cap2,rfl,hl2,hq2,hr2⟩:=h2
 obtain⟨b1,o1,rfl,hb1,hc1⟩:∃b off,a1=some ⟨b,off,none⟩/\b<w.heap.size/\∀j u,L1[j]?=some u->w.cell? ⟨b,off+j,none⟩=some u:=by
  rcases hr1 with ⟨_,h,_⟩|h
  ·omega
  ·exact h
 have HL1:=hideP hl1
 have HL2:=hideP hl2
 have HO1:=hideP hq1
 have HO2':=hideP hq2
 have HC1:=hideP hc1
 have HR2:=hideP hr2
 have hs0:¬(m1:Int)<0:=by omega
 have hs1:¬(m1:Int)+(m2:Int)<0:=by omega
 clear hl1 hl2 hq1 hq2 hr1 hr2 hc1
 go_enter Tryz.func60,Tryz.ntmps60
 go_wp2_with fail
 go_loopw [3,11] (fun sz i wr=>wr=w/\((i = .int .i64 0/\sz = .int .i64 0)\/(i = .int .i64 1/\sz = .int .i64 (m1:Int))\/(i = .int .i64 2/\sz = .int .i64 ((m1+m2:Nat):Int)))) (fun _ i _=>2-(intOf i).toNat)
 case atStart=>exact⟨rfl,.inl ⟨rfl,rfl⟩⟩
 case round =>
  obtain⟨hww,hrel⟩:=hrel
  have hww':=hww.symm
  subst hww'
  clear hww
  rcases hrel with ⟨rfl,rfl⟩ | ⟨rfl,rfl⟩ | ⟨rfl,rfl⟩
  ·go_wp2
   go_roundw
   case rel=>exact⟨by trivial,.inr (.inl ⟨by rfl,by go_num⟩)⟩
   case measure=>simp[intOf]
  ·go_wp2
   go_roundw
   case rel=>exact⟨by trivial,.inr (.inr ⟨by rfl,by push_cast;go_num⟩)⟩
   case measure=>simp[intOf]
  ·go_wp2_with (go_at_call 83;refine(grow_any (m1+m2) (by omega) (by omega) _).mono ?_;rintro e w1 ⟨vg,rfl,ho1,hb1'⟩;obtain⟨na,ncap,rfl⟩:=ownG_shape ho1;have HG1:Hid (w1.ownsRow w.heap.size 36 15 (.slice na 0 ncap) 0 []/\Below w.heap.size w w1):=hideP ⟨ho1,hb1'⟩;clear ho1 hb1')
   go_loopw [6,27] (fun nv i wr=>Below w.heap.size w wr/\((i = .int .i64 0/\wr.ownsRow w.heap.size 36 15 nv 0 [])\/(i = .int .i64 1/\wr.ownsRow w.heap.size 36 15 nv m1 L1)\/(i = .int .i64 2/\wr.ownsRow w.heap.size 36 15 nv (m1+m2) (L1++L2)))) (fun _ i _=>2-(intOf i).toNat)
   case atStart=>exact⟨HG1.out.2,.inl ⟨rfl,HG1.out.1⟩⟩
   case round =>
    obtain⟨hbel,hrel⟩:=hrel
    have k0:wr.cell? ⟨A,0,none⟩=some (.slice (some ⟨b1,o1,none⟩) m1 cap1):=(hbel.cell (p:=⟨A,0,none⟩) hAw).trans c0
    have k1:wr.cell? ⟨A,1,none⟩=some (.slice a2 m2 cap2):=(hbel.cell (p:=⟨A,1,none⟩) hAw).trans c1
    have HBEL:=hideP hbel
    clear hbel
    rcases hrel with ⟨rfl,hown⟩ | ⟨rfl,hown⟩ | ⟨rfl,hown⟩
    ·obtain⟨na2,ncap2,rfl⟩:=ownG_shape hown
     have HOWN:=hideP hown
     clear hown
     go_wp2_with (at_builtin;refine wpList_append_own _ rfl _ _ 24 rfl w.heap.size 36 i0 _ 15 128 Tryz.underlying24 hi hz0 hz1 hz2 rfl (by decide) _ _ _ rfl HOWN.out ⟨b1,o1,none⟩ m1 cap1 L1 rfl ?c1 ?c2 ?c3 ?c4 ?c5 ?c6 ?_)
     case c1=>exact HL1.out
     case c2 =>
      intro j u hj
      rw[Addr.add_lit]
      exact(Below.cell HBEL.out (p:=⟨b1,o1+j,none⟩) hb1).trans (HC1.out j u hj)
     case c3=>exact HO1.out
     case c4=>unfold maxLen;omega
     case c5=>omega
     case c6=>exact Below.size HBEL.out
     intro v' w2 hown' hgrow hnil'
     have HB2:Hid (Below w.heap.size w w2):=hideP (Below.grown HBEL.out hgrow (Below.size HBEL.out) (fun r hr=>(World.ownsRow.lt HOWN.out r hr).1))
     obtain⟨na3,ncap3,rfl⟩:=ownG_shape hown'
     have HO2:=hideP hown'
     clear hown' hgrow hnil'
     go_wp2
     go_roundw
     case rel=>exact⟨HB2.out,.inr (.inl ⟨by rfl,HO2.out⟩)⟩
     case measure=>simp[intOf]
    ·obtain⟨na2,ncap2,rfl⟩:=ownG_shape hown
     have HOWN:=hideP hown
     clear hown
     rcases HR2.out with ⟨rfl,hm0,hc0⟩ | ⟨b2,o2,rfl,hb2,hc2⟩
     ·subst hm0 hc0
      go_wp2_with (at_builtin;refine wpList_append_own_none rfl _ _ 24 rfl w.heap.size 36 i0 15 Tryz.underlying24 hi _ _ _ rfl HOWN.out rfl ?_)
      go_roundw
      case rel=>exact⟨_,_,_,⟨HBEL.out,.inr (.inr ⟨rfl,by have h0:L2=[]:=List.eq_nil_of_length_eq_zero (by rw[HL2.out]);rw[h0,List.append_nil];exact HOWN.out⟩)⟩,rfl,rfl,rfl⟩
      case measure=>simp[intOf]
     ·have HC2:=hideP hc2
      clear hc2
      go_wp2_with (at_builtin;refine wpList_append_own _ rfl _ _ 24 rfl w.heap.size 36 i0 _ 15 128 Tryz.underlying24 hi hz0 hz1 hz2 rfl (by decide) _ _ _ rfl HOWN.out ⟨b2,o2,none⟩ m2 cap2 L2 rfl ?d1 ?d2 ?d3 ?d4 ?d5 ?d6 ?_)
      case d1=>exact HL2.out
      case d2 =>
       intro j u hj
       rw[Addr.add_lit]
       exact(Below.cell HBEL.out (p:=⟨b2,o2+j,none⟩) hb2).trans (HC2.out j u hj)
      case d3=>exact HO2'.out
      case d4=>unfold maxLen;omega
      case d5=>omega
      case d6=>exact Below.size HBEL.out
      intro v' w2 hown' hgrow hnil'
      have HB2:Hid (Below w.heap.size w w2):=hideP (Below.grown HBEL.out hgrow (Below.size HBEL.out) (fun r hr=>(World.ownsRow.lt HOWN.out r hr).1))
      obtain⟨na3,ncap3,rfl⟩:=ownG_shape hown'
      have HO2:=hideP hown'
      clear hown' hgrow hnil'
      go_wp2
      go_roundw
      case rel=>exact⟨HB2.out,.inr (.inr ⟨by rfl,HO2.out⟩)⟩
      case measure=>simp[intOf]
    ·have HOWN:=hideP hown
     clear hown
     go_wp2
     go_ret
     exact⟨_,rfl,HOWN.out,HBEL.out⟩
theorem own_made1 (w:World){base:Nat}(hb:base<=w.heap.size)(cs:Array Value)(hs:cs.size=15):(w.alloc (.cells cs 36)).ownsRow base 36 15 (.slice (some ⟨w.heap.size,0,none⟩) 1 1) 1 cs.toList :=
 ⟨by simpa using hs,.inr ⟨_,1,cs,rfl,hb,heap_alloc_new w _,Nat.le_refl _,by decide,by simpa using hs,by rw[List.take_of_length_le];simp[hs]⟩⟩
theorem own_sev {w w10:World}{v:Value}{n:Nat}{ys:List Value}(hP:PB w w10)(ho:w10.ownsRow w.heap.size 36 15 v n ys)(u:Value)(a b c d e f:Int):(sev w10 w.heap.size u a b c d e f).ownsRow w.heap.size 36 15 v n ys:=by
 refine ownG_same ho (fun g hg=>?_)
 have hne:g≠w.heap.size:=by
  rcases ho.2 with ⟨rfl,_⟩ | ⟨g',cap,cur,rfl,_,hh,_⟩
  ·cases hg
  ·simp only[Value.ownBlock,Option.some.injEq] at hg
   subst hg
   intro e
   rw[e,hP.box] at hh
   cases hh
 exact(Below.heap_setCell _ _ _ _ hne).trans ((Below.heap_setCell _ _ _ _ hne).trans ((Below.heap_setCell _ _ _ _ hne).trans ((Below.heap_setCell _ _ _ _ hne).trans ((Below.heap_setCell _ _ _ _ hne).trans ((Below.heap_setCell _ _ _ _ hne).trans (Below.heap_setCell _ _ _ _ hne))))))
theorem owns_drewG {w:World}{base e s n:Nat}{v:Value}{xs:List Value}(h:w.ownsRow base e s v n xs):w.drew.ownsRow base e s v n xs:=h
theorem sev_other {w:World}{R b:Nat}(h:b≠R){u:Value}{a0 a1 a2 a3 a4 a5:Int}:(sev w R u a0 a1 a2 a3 a4 a5).heap[b]?=w.heap[b]? :=
 (Below.heap_setCell _ _ _ _ h).trans ((Below.heap_setCell _ _ _ _ h).trans ((Below.heap_setCell _ _ _ _ h).trans ((Below.heap_setCell _ _ _ _ h).trans ((Below.heap_setCell _ _ _ _ h).trans ((Below.heap_setCell _ _ _ _ h).trans (Below.heap_setCell _ _ _ _ h))))))
set_option maxRecDepth 20000 in
theorem specHPack_ok {v:Value}{xs:List Nd}{w:World}(mode size:Int)(h:NRow 0 w v xs)(hNN:NN 0 w v xs)(hs:xs.length<=1048576)(hyes:hpOk xs mode size=true) :
 Calls Tryz.prog 68 #[v,.int .i64 mode,.int .i64 size] w fun e w'=>∃u,e = .returned (packV u (Shr.shareS (hpS xs).gs (hpQ xs mode size)))/\w'.ownsRow w.heap.size 36 15 u (xs.length+1) (flatN (hpN xs mode size))/\Below w.heap.size w w':=by
 have hall:=hyes
 unfold hpOk at hall
 simp only[Bool.and_eq_true] at hall
 obtain⟨⟨⟨⟨⟨hpk,hgl⟩,hft,hfw⟩,hfh⟩,hfd⟩,hfl⟩:=hall
 have HC:Hid (∀W,Below w.heap.size w W->Calls Tryz.prog 86 #[v,.int .i64 mode,.int .i64 size] W fun e w'=>e = .returned (.bool true)/\Below W.heap.size W w'):=hideP (fun W hW=>hpk ▸ specCan_any mode size (h.below ndStable hW) hs)
 have hcan:canB xs=true:=by unfold packB at hpk;simp only[Bool.and_eq_true] at hpk;exact hpk.1.1
 have hfs:fitsB size=true:=by unfold packB at hpk;simp only[Bool.and_eq_true] at hpk;exact hpk.2
 have HN:=hideP h
 have HNN:=hideP hNN
 obtain⟨ao,n,cap,rfl,hl,-⟩:=h
 have HL:=hideP hl
 have HFS:Hid (Shr.fitsB size=true):=hideP hfs
 have hin:RIn (hpS xs) (begins xs).length:=rowTo_in xs (can_in hcan) _ (fun p hp=>starts_lt xs _ _ p hp)
 have hcnt:(begins xs).length<=20000:=by
  have h1:=starts_count (xs:=xs) (xs.length+1) 0
  have h2:=(allOk (can_list hcan)).len
  unfold begins
  omega
 have HWB:Hid (-1152921504606846976<=(hpS xs).w/\(hpS xs).w<=1152921504606846976):=hideP ⟨by have:=hin.w1;omega,by have:=hin.w2;omega⟩
 have HGN:Hid ((hpS xs).gs.length<=1048576):=hideP (by have:=hin.n;omega)
 have HROW:Hid (∀W,Below w.heap.size w W->Calls Tryz.prog 87 #[.slice ao n cap] W fun e w'=>(∃u,e = .returned (.tuple #[.int .i64 (hpS xs).w,u,.int .i64 (hpS xs).h,.int .i64 (hpS xs).d])/\w'.ownsRow W.heap.size 34 5 u (hpS xs).gs.length (f5 (hpS xs).gs))/\Below W.heap.size W w'):=hideP (fun W hW=>specRow_any (HN.out.below ndStable hW) (allOk (can_list hcan)) (can_in hcan))
 have HLLEN:Hid ((hpL xs mode size).length=(gluesAt xs (starts xs (xs.length+1) 0)).length):=hideP (by
  unfold hpL
  rw[Shr.shareL_length]
  unfold hpS begins
  rw[rowTo_gs,List.length_map])
 have HSET:Hid (∀W vl,Below w.heap.size w W->Shr.Row W vl (hpL xs mode size)->Calls Tryz.prog 92 #[.slice ao n cap,vl] W fun e w'=>∃g c,e = .returned (.slice (some ⟨g,0,none⟩) n c)/\w'.ownsRow W.heap.size 36 15 (.slice (some ⟨g,0,none⟩) n c) n (flatN (setL (gluesAt xs (begins xs)) (hpL xs mode size) xs))/\Below W.heap.size W w'):=hideP (fun W vl hW hR=>by
  rcases HNN.out with ⟨hv,hx⟩ | ⟨b,off,cap',hv,hcap,_,hb,hc⟩
  ·cases hv
   subst hx
   have h0:(hpL ([]:List Nd) mode size)=[]:=by
    have h1:=HLLEN.out
    exact List.eq_nil_of_length_eq_zero h1
   have h1:=specSet_nil (lv:=vl) (HN.out.below ndStable hW)
   exact h1
  ·have hn2:n=xs.length:=HL.out.symm
   subst hn2
   cases hv
   exact specSet_some (HN.out.below ndStable hW) hcap (allOk (can_list hcan)) (fun hp=>Nat.lt_of_lt_of_le (hb hp) hW.size) (fun j u hj=>by
    have hlt:j<(flatN xs).length:=(List.getElem?_eq_some_iff.1 hj).1
    rw[flatN_len] at hlt
    exact(hW.cell (p:=⟨b,off+j,none⟩) (hb (by omega))).trans (hc j u hj)) hR HLLEN.out)
 have hn:n<=20000:=by rw[<-hl];exact(allOk (can_list hcan)).len
 have HGL:=hideP hgl
 have HFW:Hid (Shr.fitsB (hpTo xs mode size)=true/\Shr.fitsB (hpS xs).w=true):=hideP ⟨hft,hfw⟩
 have HFH:=hideP hfh
 have HFD:=hideP hfd
 have HFL:=hideP hfl
 have HLN:Hid ((hpL xs mode size).length<=1048576):=hideP (by unfold hpL;rw[Shr.shareL_length];exact HGN.out)
 obtain⟨S,hS⟩:=exq (Shr.shareS (hpS xs).gs (hpQ xs mode size))
 rw[<-hS]
 obtain⟨z0,z1,z2,z3,z4,z5⟩:=S
 have HSV:Hid ((Shr.shareS (hpS xs).gs (hpQ xs mode size)).v=Shr.setV z0 z1 z2 z3 z4 z5):=hideP (by rw[<-hS])
 obtain⟨L,hLd⟩:=exq (setL (gluesAt xs (begins xs)) (hpL xs mode size) xs)
 rw[<-hLd] at HSET
 have HLD:=hideP hLd
 obtain⟨i0,hi,hy0,hy1,hy2⟩:=info_parts Tryz.info57c
 obtain⟨tt,htt⟩:=exq (hpTo xs mode size)
 have HTT:=hideP htt
 clear hpk hcan hfs hin hcnt hgl hft hfw hfh hfd hfl hl hNN hyes htt hS hLd
 go_enter Tryz.func68,Tryz.ntmps68
 go_wp2_with fail
 refine(HC.out _ (below1 _ _)).mono ?_
 rintro e w1 ⟨rfl,hb1⟩
 have HP1:Hid (PB w w1):=hideP ((PB.start w).below hb1)
 clear hb1 HC
 go_wp2_with fail
 refine(HROW.out _ HP1.out.bel).mono ?_
 rintro e w2 ⟨⟨u,rfl,hown⟩,hb2⟩
 have HP2:Hid (PB w w2):=hideP (HP1.out.below hb2)
 have HGR:Hid (Shr.GRow w2 u (hpS xs).gs):=hideP (own_GRow hown rfl)
 clear hown hb2 HROW HP1
 go_wp2_with fail
 refine(Shr.along_ok _ mode size HGR.out HGL.out HWB.out HFS.out).mono ?_
 rintro e w3 ⟨rfl,hb3⟩
 have HP3:Hid (PB w w3):=hideP (HP2.out.below hb3)
 have HGR3:Hid (Shr.GRow w3 u (hpS xs).gs):=hideP (HGR.out.below hb3)
 clear hb3 HP2 HGR
 rw[show Shr.alongI (hpS xs).w (hpS xs).gs mode size=hpTo xs mode size from rfl,HFW.out.1,HFW.out.2,<-HTT.out,Bool.and_true]
 go_wp2_with fail
 refine(specFits_any (hpS xs).h _).mono ?_
 rintro e w4 ⟨rfl,rfl⟩
 rw[HFH.out]
 go_wp2_with fail
 refine(specFits_any (hpS xs).d _).mono ?_
 rintro e w5 ⟨rfl,rfl⟩
 rw[HFD.out]
 go_wp2_with fail
 refine(Shr.specShare_ok (hpS xs).w tt (hpQ xs mode size) HGR3.out HGL.out HFW.out.2 (by rw[HTT.out];exact HFW.out.1) (by unfold hpQ;rw[<-HTT.out])).mono ?_
 rintro e w6 ⟨⟨vl,rfl,hrow⟩,hb6⟩
 rw[HSV.out]
 have HP6:Hid (PB w w6):=hideP (HP3.out.below hb6)
 have HRL:Hid (Shr.Row w6 vl (hpL xs mode size)):=hideP hrow
 clear hb6 hrow HP3 HGR3
 go_wp2_with fail
 refine(Shr.fitsAll_any (HRL.out.below (below1 _ _)) HLN.out).mono ?_
 rintro e w7 ⟨rfl,hw7⟩
 rw[HFL.out]
 go_wp2_with fail
 obtain⟨W8,hW8⟩:=exq ((w6.alloc (.cells #[.int .i64 z0,.int .i64 z1,.int .i64 z2,.int .i64 z3,.int .i64 z4,.int .i64 z5] 28)).alloc (.cells #[.int .i64 6,.int .i64 tt,.int .i64 (hpS xs).h,.int .i64 (hpS xs).d,.int .i64 0,.int .i64 0,.int .i64 0,.int .i64 0,.int .i64 0,.int .i64 0,.int .i64 0,.int .i64 0,.int .i64 0,.string ⟨#[]⟩,.int .i64 (n:Int)] 36))
 rw[<-hW8]
 have B68:Below w6.heap.size w6 W8:=by rw[hW8];exact below_more (below1 _ _) (below1 _ _) (by simp)
 have HS9:Hid (∀x:World,x.heap[w6.heap.size+1]?=W8.heap[w6.heap.size+1]?->x.heap[w6.heap.size]?=W8.heap[w6.heap.size]?->x.cell? ⟨w6.heap.size+1,0,none⟩=some (.int .i64 6)/\x.cell? ⟨w6.heap.size+1,1,none⟩=some (.int .i64 tt)/\x.cell? ⟨w6.heap.size+1,2,none⟩=some (.int .i64 (hpS xs).h)/\x.cell? ⟨w6.heap.size+1,3,none⟩=some (.int .i64 (hpS xs).d)/\x.cell? ⟨w6.heap.size+1,4,none⟩=some (.int .i64 0)/\x.cell? ⟨w6.heap.size+1,5,none⟩=some (.int .i64 0)/\x.cell? ⟨w6.heap.size+1,6,none⟩=some (.int .i64 0)/\x.cell? ⟨w6.heap.size+1,7,none⟩=some (.int .i64 0)/\x.cell? ⟨w6.heap.size+1,8,none⟩=some (.int .i64 0)/\x.cell? ⟨w6.heap.size+1,9,none⟩=some (.int .i64 0)/\x.cell? ⟨w6.heap.size+1,10,none⟩=some (.int .i64 0)/\x.cell? ⟨w6.heap.size+1,11,none⟩=some (.int .i64 0)/\x.cell? ⟨w6.heap.size+1,12,none⟩=some (.int .i64 0)/\x.cell? ⟨w6.heap.size+1,13,none⟩=some (.string ⟨#[]⟩)/\x.cell? ⟨w6.heap.size+1,14,none⟩=some (.int .i64 (n:Int))/\x.cell? ⟨w6.heap.size,0,none⟩=some (.int .i64 z0)/\x.cell? ⟨w6.heap.size,1,none⟩=some (.int .i64 z1)/\x.cell? ⟨w6.heap.size,2,none⟩=some (.int .i64 z2)/\x.cell? ⟨w6.heap.size,3,none⟩=some (.int .i64 z3)/\x.cell? ⟨w6.heap.size,4,none⟩=some (.int .i64 z4)/\x.cell? ⟨w6.heap.size,5,none⟩=some (.int .i64 z5)):=hideP (fun x hx1 hx2=>by
  have h1:W8.heap[w6.heap.size+1]?=some (.cells #[.int .i64 6,.int .i64 tt,.int .i64 (hpS xs).h,.int .i64 (hpS xs).d,.int .i64 0,.int .i64 0,.int .i64 0,.int .i64 0,.int .i64 0,.int .i64 0,.int .i64 0,.int .i64 0,.int .i64 0,.string ⟨#[]⟩,.int .i64 (n:Int)] 36 (0,0)):=by rw[hW8];simpa using heap_alloc_new (w6.alloc (.cells #[.int .i64 z0,.int .i64 z1,.int .i64 z2,.int .i64 z3,.int .i64 z4,.int .i64 z5] 28)) (.cells #[.int .i64 6,.int .i64 tt,.int .i64 (hpS xs).h,.int .i64 (hpS xs).d,.int .i64 0,.int .i64 0,.int .i64 0,.int .i64 0,.int .i64 0,.int .i64 0,.int .i64 0,.int .i64 0,.int .i64 0,.string ⟨#[]⟩,.int .i64 (n:Int)] 36)
  have h2:W8.heap[w6.heap.size]?=some (.cells #[.int .i64 z0,.int .i64 z1,.int .i64 z2,.int .i64 z3,.int .i64 z4,.int .i64 z5] 28 (0,0)):=by rw[hW8];exact((below1 _ _).block _ (by simp)).trans (heap_alloc_new w6 _)
  have k1:=hx1.trans h1
  have k2:=hx2.trans h2
  refine⟨?_,?_,?_,?_,?_,?_,?_,?_,?_,?_,?_,?_,?_,?_,?_,?_,?_,?_,?_,?_,?_⟩<;>first|exact cell_of_row x _ _ _ 36 _ k1|exact cell_of_row x _ _ _ 28 _ k2)
 have HS8:Hid (∀x,Below W8.heap.size W8 x->x.cell? ⟨w6.heap.size+1,0,none⟩=some (.int .i64 6)/\x.cell? ⟨w6.heap.size+1,1,none⟩=some (.int .i64 tt)/\x.cell? ⟨w6.heap.size+1,2,none⟩=some (.int .i64 (hpS xs).h)/\x.cell? ⟨w6.heap.size+1,3,none⟩=some (.int .i64 (hpS xs).d)/\x.cell? ⟨w6.heap.size+1,4,none⟩=some (.int .i64 0)/\x.cell? ⟨w6.heap.size+1,5,none⟩=some (.int .i64 0)/\x.cell? ⟨w6.heap.size+1,6,none⟩=some (.int .i64 0)/\x.cell? ⟨w6.heap.size+1,7,none⟩=some (.int .i64 0)/\x.cell? ⟨w6.heap.size+1,8,none⟩=some (.int .i64 0)/\x.cell? ⟨w6.heap.size+1,9,none⟩=some (.int .i64 0)/\x.cell? ⟨w6.heap.size+1,10,none⟩=some (.int .i64 0)/\x.cell? ⟨w6.heap.size+1,11,none⟩=some (.int .i64 0)/\x.cell? ⟨w6.heap.size+1,12,none⟩=some (.int .i64 0)/\x.cell? ⟨w6.heap.size+1,13,none⟩=some (.string ⟨#[]⟩)/\x.cell? ⟨w6.heap.size+1,14,none⟩=some (.int .i64 (n:Int))/\x.cell? ⟨w6.heap.size,0,none⟩=some (.int .i64 z0)/\x.cell? ⟨w6.heap.size,1,none⟩=some (.int .i64 z1)/\x.cell? ⟨w6.heap.size,2,none⟩=some (.int .i64 z2)/\x.cell? ⟨w6.heap.size,3,none⟩=some (.int .i64 z3)/\x.cell? ⟨w6.heap.size,4,none⟩=some (.int .i64 z4)/\x.cell? ⟨w6.heap.size,5,none⟩=some (.int .i64 z5)):=hideP (fun x hx=>by
  have h1:W8.heap[w6.heap.size+1]?=some (.cells #[.int .i64 6,.int .i64 tt,.int .i64 (hpS xs).h,.int .i64 (hpS xs).d,.int .i64 0,.int .i64 0,.int .i64 0,.int .i64 0,.int .i64 0,.int .i64 0,.int .i64 0,.int .i64 0,.int .i64 0,.string ⟨#[]⟩,.int .i64 (n:Int)] 36 (0,0)):=by rw[hW8];simpa using heap_alloc_new (w6.alloc (.cells #[.int .i64 z0,.int .i64 z1,.int .i64 z2,.int .i64 z3,.int .i64 z4,.int .i64 z5] 28)) (.cells #[.int .i64 6,.int .i64 tt,.int .i64 (hpS xs).h,.int .i64 (hpS xs).d,.int .i64 0,.int .i64 0,.int .i64 0,.int .i64 0,.int .i64 0,.int .i64 0,.int .i64 0,.int .i64 0,.int .i64 0,.string ⟨#[]⟩,.int .i64 (n:Int)] 36)
  have h2:W8.heap[w6.heap.size]?=some (.cells #[.int .i64 z0,.int .i64 z1,.int .i64 z2,.int .i64 z3,.int .i64 z4,.int .i64 z5] 28 (0,0)):=by rw[hW8];exact((below1 _ _).block _ (by simp)).trans (heap_alloc_new w6 _)
  have k1:=(hx.block _ (glt h1)).trans h1
  have k2:=(hx.block _ (glt h2)).trans h2
  refine⟨?_,?_,?_,?_,?_,?_,?_,?_,?_,?_,?_,?_,?_,?_,?_,?_,?_,?_,?_,?_,?_⟩<;>first|exact cell_of_row x _ _ _ 36 _ k1|exact cell_of_row x _ _ _ 28 _ k2)
 have HB8:Hid (∀x,Below W8.heap.size W8 x->Below w.heap.size w x/\PB w x/\w.heap.size<=W8.heap.size):=hideP (fun x hx=>by
  have h1:=(HP6.out.below B68).below hx
  exact⟨h1.bel,h1,(HP6.out.below B68).bel.size⟩)
 have HC8:Hid (∀x,Below W8.heap.size W8 x->Calls Tryz.prog 92 #[.slice ao n cap,vl] x fun e w'=>∃g c,e = .returned (.slice (some ⟨g,0,none⟩) n c)/\w'.ownsRow x.heap.size 36 15 (.slice (some ⟨g,0,none⟩) n c) n (flatN L)/\Below x.heap.size x w'):=hideP (fun x hx=>HSET.out x vl (HB8.out x hx).1 ((HRL.out.below B68).below hx))
 have HLL:Hid ((flatN L).length=n*15):=hideP (by rw[flatN_len,HLD.out,setL_len,HL.out])
 have hW8le:w.heap.size<=W8.heap.size:=(HB8.out W8 (Below.refl _ _)).2.2
 have HEND:Hid (∀w10 a c,Below W8.heap.size W8 w10->w10.ownsRow w.heap.size 36 15 (.slice a (1+n) c) (1+n) ([.int .i64 6,.int .i64 tt,.int .i64 (hpS xs).h,.int .i64 (hpS xs).d,.int .i64 0,.int .i64 0,.int .i64 0,.int .i64 0,.int .i64 0,.int .i64 0,.int .i64 0,.int .i64 0,.int .i64 0,.string ⟨#[]⟩,.int .i64 (n:Int)]++flatN L)->(sev w10 w.heap.size (.slice a (1+n) c) z0 z1 z2 z3 z4 z5).ownsRow w.heap.size 36 15 (.slice a (1+n) c) (xs.length+1) (flatN (hpN xs mode size))/\(sev w10 w.heap.size (.slice a (1+n) c) z0 z1 z2 z3 z4 z5).heap[w.heap.size]?=some (packO (.slice a (1+n) c) z0 z1 z2 z3 z4 z5)/\Below w.heap.size w (sev w10 w.heap.size (.slice a (1+n) c) z0 z1 z2 z3 z4 z5)):=hideP (fun w10 a c hb ho=>by
  have hP:=(HB8.out w10 hb).2.1
  refine⟨?_,sev_heap hP.box _ _ _ _ _ _ _,sev_below hP.bel (Nat.le_refl _) _ _ _ _ _ _ _⟩
  have h1:=own_sev hP ho (.slice a (1+n) c) z0 z1 z2 z3 z4 z5
  rw[show xs.length+1=1+n by rw[HL.out];omega]
  unfold hpN
  rw[<-HLD.out,<-HTT.out,HL.out]
  exact h1)
 have hw6:w.heap.size<w6.heap.size:=(glt HP6.out.box)
 have hlt8:w6.heap.size+1<W8.heap.size:=by
  have h1:=(HS8.out W8 (Below.refl _ _)).1
  exact World.block_lt_of_cell? _ _ h1
 clear hW8 hw7 HRL HSET HP6
 refine wp_region_held_drew (S:=fun x=>x.cell? ⟨w6.heap.size+1,0,none⟩=some (.int .i64 6)/\x.cell? ⟨w6.heap.size+1,1,none⟩=some (.int .i64 tt)/\x.cell? ⟨w6.heap.size+1,2,none⟩=some (.int .i64 (hpS xs).h)/\x.cell? ⟨w6.heap.size+1,3,none⟩=some (.int .i64 (hpS xs).d)/\x.cell? ⟨w6.heap.size+1,4,none⟩=some (.int .i64 0)/\x.cell? ⟨w6.heap.size+1,5,none⟩=some (.int .i64 0)/\x.cell? ⟨w6.heap.size+1,6,none⟩=some (.int .i64 0)/\x.cell? ⟨w6.heap.size+1,7,none⟩=some (.int .i64 0)/\x.cell? ⟨w6.heap.size+1,8,none⟩=some (.int .i64 0)/\x.cell? ⟨w6.heap.size+1,9,none⟩=some (.int .i64 0)/\x.cell? ⟨w6.heap.size+1,10,none⟩=some (.int .i64 0)/\x.cell? ⟨w6.heap.size+1,11,none⟩=some (.int .i64 0)/\x.cell? ⟨w6.heap.size+1,12,none⟩=some (.int .i64 0)/\x.cell? ⟨w6.heap.size+1,13,none⟩=some (.string ⟨#[]⟩)/\x.cell? ⟨w6.heap.size+1,14,none⟩=some (.int .i64 (n:Int))/\x.cell? ⟨w6.heap.size,0,none⟩=some (.int .i64 z0)/\x.cell? ⟨w6.heap.size,1,none⟩=some (.int .i64 z1)/\x.cell? ⟨w6.heap.size,2,none⟩=some (.int .i64 z2)/\x.cell? ⟨w6.heap.size,3,none⟩=some (.int .i64 z3)/\x.cell? ⟨w6.heap.size,4,none⟩=some (.int .i64 z4)/\x.cell? ⟨w6.heap.size,5,none⟩=some (.int .i64 z5)) (by kernel_rfl) (HS8.out _ ((Below.refl _ _).drew)) (fun hS=>?_)
 refine tkS (i:=0) (v:= .agg #[.int .i64 6,.int .i64 tt,.int .i64 (hpS xs).h,.int .i64 (hpS xs).d,.int .i64 0,.int .i64 0,.int .i64 0,.int .i64 0,.int .i64 0,.int .i64 0,.int .i64 0,.int .i64 0,.int .i64 0,.string ⟨#[]⟩,.int .i64 (n:Int)]) rfl hS ?_
 try simp only[sput]
 refine tkS (i:=2) (v:= .slice ao n cap) rfl hS ?_
 try simp only[sput]
 refine tkS (i:=3) (v:=vl) rfl hS ?_
 try simp only[sput]
 refine tkS (i:=6) (v:= .agg #[.int .i64 z0,.int .i64 z1,.int .i64 z2,.int .i64 z3,.int .i64 z4,.int .i64 z5]) rfl hS ?_
 try simp only[sput]
 refine wpAnyH_ready (rs:=[1,4]) (by kernel_rfl) (by simp) ?_
 refine AllReadyH.cons rfl (fun K hK=>?_) (AllReadyH.cons rfl (fun K hK=>?_) AllReadyH.nil)
 ·rw[if_pos (by first|rfl|go_simp)]
  go_simp
  have HBA:Below W8.heap.size W8 (W8.alloc (.cells #[.int .i64 6,.int .i64 tt,.int .i64 (hpS xs).h,.int .i64 (hpS xs).d,.int .i64 0,.int .i64 0,.int .i64 0,.int .i64 0,.int .i64 0,.int .i64 0,.int .i64 0,.int .i64 0,.int .i64 0,.string ⟨#[]⟩,.int .i64 (n:Int)] 36)).drew:=((Below.refl _ _).alloc (Nat.le_refl _) _).drew
  refine hK.out _ _ (HS8.out _ HBA) (fun hS=>?_)
  try simp only[sput]
  clear hK K
  refine rdS (i:=4) rfl (fun K hK=>?_)
  go_simp
  go_at_call 92
  refine(HC8.out _ HBA).mono ?_
  rintro e w9 ⟨g9,c9,rfl,hown9,hb9⟩
  have HB9:Below W8.heap.size W8 w9:=below_more HBA hb9 (by simp)
  have N9:Hid (∀j u,(flatN L)[j]?=some u->w9.cell? ⟨g9,0+j,none⟩=some u):=hideP (fun j u hj=>by rw[Nat.zero_add];exact(own_cell hown9 hj).1)
  have hsz9:w.heap.size<=w9.heap.size:=Nat.le_trans hW8le HB9.size
  have OWA:Hid (w9.ownsRow w.heap.size 36 15 (.slice (some ⟨W8.heap.size,0,none⟩) 1 1) 1 [.int .i64 6,.int .i64 tt,.int .i64 (hpS xs).h,.int .i64 (hpS xs).d,.int .i64 0,.int .i64 0,.int .i64 0,.int .i64 0,.int .i64 0,.int .i64 0,.int .i64 0,.int .i64 0,.int .i64 0,.string ⟨#[]⟩,.int .i64 (n:Int)]):=hideP (ownG_below (w:=(W8.alloc (.cells #[.int .i64 6,.int .i64 tt,.int .i64 (hpS xs).h,.int .i64 (hpS xs).d,.int .i64 0,.int .i64 0,.int .i64 0,.int .i64 0,.int .i64 0,.int .i64 0,.int .i64 0,.int .i64 0,.int .i64 0,.string ⟨#[]⟩,.int .i64 (n:Int)] 36)).drew) (owns_drewG (own_made1 W8 hW8le #[.int .i64 6,.int .i64 tt,.int .i64 (hpS xs).h,.int .i64 (hpS xs).d,.int .i64 0,.int .i64 0,.int .i64 0,.int .i64 0,.int .i64 0,.int .i64 0,.int .i64 0,.int .i64 0,.int .i64 0,.string ⟨#[]⟩,.int .i64 (n:Int)] rfl)) hb9)
  clear hown9 hb9 HBA
  refine hK.out _ _ (HS8.out _ HB9) (fun hS=>?_)
  try simp only[sput]
  clear hK K
  refine rdS (i:=5) rfl (fun K hK=>?_)
  refine wp_append_own _ (.tmp 68) (.tmp 71) 24 rfl w.heap.size 36 i0 (ndV Nd.none) 15 128 Tryz.underlying24 hi hy0 hy1 hy2 rfl (by decide) (.slice (some ⟨W8.heap.size,0,none⟩) 1 1) 1 [.int .i64 6,.int .i64 tt,.int .i64 (hpS xs).h,.int .i64 (hpS xs).d,.int .i64 0,.int .i64 0,.int .i64 0,.int .i64 0,.int .i64 0,.int .i64 0,.int .i64 0,.int .i64 0,.int .i64 0,.string ⟨#[]⟩,.int .i64 (n:Int)] rfl OWA.out ⟨g9,0,none⟩ n c9 (flatN L) rfl HLL.out (by intro j u hj;rw[Addr.add_lit];exact N9.out j u hj) (flatN_one L) (by unfold maxLen;omega) (by omega) hsz9 ?_
  intro v10 w10 hown10 hgrow10 hnil10
  obtain⟨a10,c10,rfl⟩:=ownG_shape hown10
  have HB10:Below W8.heap.size W8 w10:=Below.grown HB9 hgrow10 HB9.size (fun k hk=>by simp[Value.ownBlock] at hk;have:=HB9.size;omega)
  have HE10:=hideP (HEND.out w10 a10 c10 HB10 hown10)
  obtain⟨r0,r1,r2,r3,r4,r5,r6⟩:=pack_cells (HB8.out w10 HB10).2.1.box
  have fR:∀j,w10.frozen? ⟨w.heap.size,j,none⟩=false:=fun j=>frozen_of_row w10 w.heap.size j _ _ (HB8.out w10 HB10).2.1.box
  have HS10:=hideP (HS9.out (sev w10 w.heap.size (.slice a10 (1+n) c10) z0 z1 z2 z3 z4 z5) (by rw[sev_other (by omega)];exact HB10.block _ hlt8) (by rw[sev_other (by omega)];exact HB10.block _ (by omega)))
  clear hown10 hgrow10 hnil10
  refine hK.out _ _ (HS8.out _ HB10) (fun hS=>?_)
  try simp only[sput]
  clear hK K
  refine tkS (i:=7) (v:=packV (.slice a10 (1+n) c10) ⟨z0,z1,z2,z3,z4,z5⟩) rfl hS ?_
  try simp only[sput]
  refine rdS (i:=8) rfl (fun K hK=>?_)
  go_simp
  refine hK.out _ _ HS10.out (fun hS=>?_)
  try simp only[sput]
  clear hK K
  refine wpAnyH_done (by kernel_rfl) ?_ _
  go_wp2
  exact bodyPost_ret (v:=packV (.slice a10 (1+n) c10) ⟨z0,z1,z2,z3,z4,z5⟩) (results_one_cell rfl _ _ w.heap.size _ rfl (loadPack HE10.out.2.1)) rfl ⟨_,rfl,HE10.out.1,HE10.out.2.2⟩
 ·rw[if_pos (by first|rfl|go_simp)]
  go_simp
  go_at_call 92
  refine(HC8.out _ ((Below.refl _ _).drew)).mono ?_
  rintro e w9' ⟨g9,c9,rfl,hown9,hb9⟩
  have HB9':Below W8.heap.size W8 w9':=below_more ((Below.refl _ _).drew) hb9 (by simp)
  have hsz9':w.heap.size<=w9'.heap.size:=Nat.le_trans hW8le HB9'.size
  have N9':Hid (∀j u,(flatN L)[j]?=some u->w9'.cell? ⟨g9,0+j,none⟩=some u):=hideP (fun j u hj=>by rw[Nat.zero_add];exact(own_cell hown9 hj).1)
  clear hown9 hb9
  refine hK.out _ _ (HS8.out _ HB9') (fun hS=>?_)
  try simp only[sput]
  clear hK K
  refine rdS (i:=1) rfl (fun K hK=>?_)
  go_simp
  obtain⟨w9,hw9⟩:=exq (w9'.alloc (.cells #[.int .i64 6,.int .i64 tt,.int .i64 (hpS xs).h,.int .i64 (hpS xs).d,.int .i64 0,.int .i64 0,.int .i64 0,.int .i64 0,.int .i64 0,.int .i64 0,.int .i64 0,.int .i64 0,.int .i64 0,.string ⟨#[]⟩,.int .i64 (n:Int)] 36))
  rw[<-hw9]
  have HB9:Below W8.heap.size W8 w9:=by rw[hw9];exact HB9'.alloc HB9'.size _
  have OWA:Hid (w9.ownsRow w.heap.size 36 15 (.slice (some ⟨w9'.heap.size,0,none⟩) 1 1) 1 [.int .i64 6,.int .i64 tt,.int .i64 (hpS xs).h,.int .i64 (hpS xs).d,.int .i64 0,.int .i64 0,.int .i64 0,.int .i64 0,.int .i64 0,.int .i64 0,.int .i64 0,.int .i64 0,.int .i64 0,.string ⟨#[]⟩,.int .i64 (n:Int)]):=hideP (by rw[hw9];exact own_made1 w9' hsz9' #[.int .i64 6,.int .i64 tt,.int .i64 (hpS xs).h,.int .i64 (hpS xs).d,.int .i64 0,.int .i64 0,.int .i64 0,.int .i64 0,.int .i64 0,.int .i64 0,.int .i64 0,.int .i64 0,.int .i64 0,.string ⟨#[]⟩,.int .i64 (n:Int)] rfl)
  have N9:Hid (∀j u,(flatN L)[j]?=some u->w9.cell? ⟨g9,0+j,none⟩=some u):=hideP (fun j u hj=>by rw[hw9];exact Lib.cell?_alloc_some _ (N9'.out j u hj))
  have hsz9:w.heap.size<=w9.heap.size:=Nat.le_trans hW8le HB9.size
  have hsz8:=HB9'.size
  clear hw9 HB9' N9'
  refine hK.out _ _ (HS8.out _ HB9) (fun hS=>?_)
  try simp only[sput]
  clear hK K
  refine rdS (i:=5) rfl (fun K hK=>?_)
  refine wp_append_own _ (.tmp 68) (.tmp 71) 24 rfl w.heap.size 36 i0 (ndV Nd.none) 15 128 Tryz.underlying24 hi hy0 hy1 hy2 rfl (by decide) (.slice (some ⟨w9'.heap.size,0,none⟩) 1 1) 1 [.int .i64 6,.int .i64 tt,.int .i64 (hpS xs).h,.int .i64 (hpS xs).d,.int .i64 0,.int .i64 0,.int .i64 0,.int .i64 0,.int .i64 0,.int .i64 0,.int .i64 0,.int .i64 0,.int .i64 0,.string ⟨#[]⟩,.int .i64 (n:Int)] rfl OWA.out ⟨g9,0,none⟩ n c9 (flatN L) rfl HLL.out (by intro j u hj;rw[Addr.add_lit];exact N9.out j u hj) (flatN_one L) (by unfold maxLen;omega) (by omega) hsz9 ?_
  intro v10 w10 hown10 hgrow10 hnil10
  obtain⟨a10,c10,rfl⟩:=ownG_shape hown10
  have HB10:Below W8.heap.size W8 w10:=Below.grown HB9 hgrow10 HB9.size (fun k hk=>by simp[Value.ownBlock] at hk;have:=HB9.size;omega)
  have HE10:=hideP (HEND.out w10 a10 c10 HB10 hown10)
  obtain⟨r0,r1,r2,r3,r4,r5,r6⟩:=pack_cells (HB8.out w10 HB10).2.1.box
  have fR:∀j,w10.frozen? ⟨w.heap.size,j,none⟩=false:=fun j=>frozen_of_row w10 w.heap.size j _ _ (HB8.out w10 HB10).2.1.box
  have HS10:=hideP (HS9.out (sev w10 w.heap.size (.slice a10 (1+n) c10) z0 z1 z2 z3 z4 z5) (by rw[sev_other (by omega)];exact HB10.block _ hlt8) (by rw[sev_other (by omega)];exact HB10.block _ (by omega)))
  clear hown10 hgrow10 hnil10
  refine hK.out _ _ (HS8.out _ HB10) (fun hS=>?_)
  try simp only[sput]
  clear hK K
  refine tkS (i:=7) (v:=packV (.slice a10 (1+n) c10) ⟨z0,z1,z2,z3,z4,z5⟩) rfl hS ?_
  try simp only[sput]
  refine rdS (i:=8) rfl (fun K hK=>?_)
  go_simp
  refine hK.out _ _ HS10.out (fun hS=>?_)
  try simp only[sput]
  clear hK K
  refine wpAnyH_done (by kernel_rfl) ?_ _
  go_wp2
  exact bodyPost_ret (v:=packV (.slice a10 (1+n) c10) ⟨z0,z1,z2,z3,z4,z5⟩) (results_one_cell rfl _ _ w.heap.size _ rfl (loadPack HE10.out.2.1)) rfl ⟨_,rfl,HE10.out.1,HE10.out.2.2⟩
end Go.Proofs.YtbbehmcekbnkiaaGreat

import Derived.Test.YtbbehmcekbnkiaaGreatDlpt
namespace Go.Proofs.YtbbehmcekbnkiaaGreat
open Go.RowKit
set_option linter.unusedVariables false
set_option linter.unusedSimpArgs false
def bnd:Nat->Nat
 | 0=>1
 | d+1=>1+4*bnd d
def DL (w wr w':World)(ao:Option Addr)(len cap:Nat)(e:Ending)(m:Nat):Prop:=∃u n,e = .returned u/\OwnN w' wr.heap.size u n/\n<=m/\Cur w w' ao len cap/\Fram w wr w'
def DLI (w wr wi:World)(ao:Option Addr)(len cap c i:Nat)(v:Value)(n:Nat):Prop:=Cur w wi ao len cap/\Fram w wr wi/\OwnN wi wr.heap.size v n/\n<=i*c
theorem DLI.fram {w wr wi wj:World}{ao:Option Addr}{len cap c i n:Nat}{v:Value}(h:DLI w wr wi ao len cap c i v n)(hw:w.heap.size<wr.heap.size)(hf:Fram w wi wj)(hc:Cur w wj ao len cap):DLI w wr wj ao len cap c i v n :=
 ⟨hc,h.2.1.trans hf,h.2.2.1.fram hw hf,h.2.2.2⟩
theorem DLI.other {w wr wi wj:World}{ao:Option Addr}{len cap c i n:Nat}{v:Value}(h:DLI w wr wi ao len cap c i v n)(hw:w.heap.size<wr.heap.size)(ho:Other w wi wj)(hc:Cur w wj ao len cap):DLI w wr wj ao len cap c i v n :=
 h.fram hw ⟨Other.size ho hc.lt,fun n _ hne=>ho n hne⟩ hc
theorem OwnN.shape {w:World}{base n:Nat}{v:Value}(h:OwnN w base v n):∃a c,v = .slice a n c:=by
 obtain⟨xs,_,h⟩:=h
 exact own_shp h
theorem step_le {i c n m:Nat}(h:n<=i*c)(hm:m<=c):n+m<=(i+1)*c:=by
 rw[Nat.succ_mul];omega
theorem DLI.app {w wr wi wj:World}{ao:Option Addr}{len cap c i n m:Nat}{v v':Value}{xs:List Nd}(hc:Cur w wi ao len cap)(hf:Fram w wr wi)(hb:∀g,v.ownBlock=some g->wr.heap.size<=g)(hw:w.heap.size<wr.heap.size)(hg:wi.grownBy wj v.ownBlock)(ho:wj.ownsRow wr.heap.size 36 15 v' (n+m) (flatN xs))(hx:xs.length=n+m)(hn:n<=i*c)(hm:m<=c):DLI w wr wj ao len cap c (i+1) v' (n+m):=by
 obtain⟨j,x,h1,h2,h3,h4⟩:=hc
 have hl:=(glt h3)
 refine⟨⟨j,x,h1,h2,(hg.block _ hl (fun e=>by have:=hb _ e.symm;omega)).trans h3,Below.grown h4 hg h4.size fun g hg'=>by have:=hb g hg';omega⟩,⟨Nat.le_trans hf.1 hg.size,fun b hb' hne=>?_⟩,⟨xs,hx,ho⟩,step_le hn hm⟩
 exact(hg.block b (Nat.lt_of_lt_of_le hb' hf.1) (fun e=>by have:=hb _ e.symm;omega)).trans (hf.2 b hb' hne)
set_option maxRecDepth 20000 in
set_option maxHeartbeats 16000000 in
theorem drawList_step (ao:Option Addr)(len cap:Nat)(w w0:World)(hB:Bytes w ao len cap)(hC:Cur w w0 ao len cap)(N d:Nat)(hN:N<=10)(hd:d<=3)
 (IH:∀d',d=d'+1->∀(N':Nat) (wx:World),N'<=4->Cur w wx ao len cap->Calls Tryz.prog 54 #[curP w,.int .i64 (N':Int),.int .i64 (d':Int)] wx fun e w'=>DL w wx w' ao len cap e (N'*bnd d')) :
 Calls Tryz.prog 54 #[curP w,.int .i64 (N:Int),.int .i64 (d:Int)] w0 fun e w'=>DL w w0 w' ao len cap e (N*bnd d):=by
 have HB:=hideD hB
 have hw:w.heap.size<w0.heap.size:=hC.lt
 obtain⟨c,hcb⟩:=exq (bnd d)
 have hc85:c<=85:=by
  rw[hcb]
  rcases (show d=0\/d=1\/d=2\/d=3 by omega) with rfl|rfl|rfl|rfl<;>decide
 have hc1:1<=c:=by
  rw[hcb]
  cases d<;>simp[bnd]
 have HCB:=hideP hcb
 have HI:=hideP IH
 have D0:Hid (DLI w w0 (w0.alloc (.cells #[] 36)) ao len cap c 0 (.slice (some ⟨w0.heap.size,0,none⟩) 0 0) 0) :=
  hideP ⟨hC.alloc _,(Fram.refl w w0).alloc _,⟨[],rfl,⟨rfl,.inr ⟨_,_,_,rfl,Nat.le_refl _,heap_alloc_new w0 _,Nat.le_refl _,by unfold maxLen;omega,rfl,rfl⟩⟩⟩,Nat.zero_le _⟩
 rw[<-hcb]
 clear hB hC hcb IH
 go_enter Tryz.func54,Tryz.ntmps54
 go_wp2_with fail
 go_loopw [7,8,9,10] (fun s7 s8 _ _ wi=>∃(i n:Nat),i<=N/\s8 = .int .i64 (i:Int)/\Hid (DLI w w0 wi ao len cap c i s7 n)) (fun _ s8 _ _ _=>N-(intOf s8).toNat)
 case atStart=>exact⟨0,0,Nat.zero_le _,rfl,D0⟩
 case round =>
  obtain⟨i,n,hi,rfl,DI⟩:=hrel
  clear D0
  by_cases hlt:i<N
  ·have hli:(i:Int)<(N:Int):=by omega
   obtain⟨va,vc,hve⟩:=DI.out.2.2.1.shape
   subst hve
   obtain⟨wo,rfl⟩:∃wo:World,wo=wr:=⟨_,rfl⟩
   have hn8:n<=10*85:=Nat.le_trans DI.out.2.2.2 (Nat.mul_le_mul (by omega) hc85)
   have HN:=hideP DI.out.2.2.2
   go_upto_region 5 with fail
   go_cut [22] (fun s22 wc=>(∃t:Bool,s22 = .bool t/\(t=true->0<d))/\Hid (DLI w w0 wc ao len cap c i (.slice va n vc) n))
   case first =>
    by_cases h0:0<d
    ·have h0i:(0:Int)<(d:Int):=by omega
     have h0d:decide ((0:Int)<(d:Int))=true:=by simp;omega
     go_wp2_with fail
     refine(once_any 4 ao len cap w _ HB.out DI.out.1 (by omega) (by omega)).mono ?_
     rintro e' w2 ⟨bb,rfl,c2,o2⟩
     have D2:=hideP (DLI.other DI.out hw o2 c2)
     clear c2 o2
     go_wp2
     go_meet
     case rel=>exact⟨⟨_,rfl,fun _=>h0⟩,D2⟩
    ·have h0i:¬(0:Int)<(d:Int):=by omega
     have h0d:decide ((0:Int)<(d:Int))=false:=by simp;omega
     go_wp2
     go_meet
     case rel=>exact⟨⟨_,rfl,fun h=>by cases h⟩,DI⟩
   case rest =>
    clear DI
    obtain⟨⟨t,rfl,htd⟩,DI⟩:=hcut
    cases t with
    | false =>
     go_wp2_with fail
     refine(drawNode_any ao len cap w _ HB.out DI.out.1).mono ?_
     rintro e' w2 ⟨x,⟨rfl,_⟩,c2,f2⟩
     have D2:=hideP (DLI.fram DI.out hw f2 c2)
     clear DI c2 f2 htd
     obtain⟨xs,hxl,hox0⟩:=D2.out.2.2.1
     have hox:=own_below hox0 (below1 w2 (.cells (ndA x) 36))
     have hcA:Cur w (w2.alloc (.cells (ndA x) 36)) ao len cap:=D2.out.1.alloc _
     have hfA:Fram w w0 (w2.alloc (.cells (ndA x) 36)):=D2.out.2.1.alloc _
     have NB:=hideP (nn_one (heap_alloc_new w2 (ndO x)))
     have hwA:w0.heap.size<=(w2.alloc (.cells (ndA x) 36)).heap.size:=hfA.1
     clear hox0 D2
     go_wp2_with (at_builtin;refine wpList_appN rfl _ _ rfl w0.heap.size (.slice va n vc) n xs rfl hox _ [x] rfl NB.out (by first|omega|(simp;omega)) hwA ?_;intro v5 w5 ho5 hg5 hat5;have D5:Hid (DLI w w0 w5 ao len cap c (i+1) v5 (n+1)):=hideP (DLI.app hcA hfA (fun g hg=>(own_lt hox hg).1) hw hg5 ho5 (by simp[hxl]) HN.out hc1);obtain⟨a5,c5,h5⟩:=D5.out.2.2.1.shape;subst h5;clear ho5 hg5 hat5)
     go_roundw
     case rel=>exact⟨i+1,n+1,by omega,by go_num,D5⟩
     case measure=>simp[intOf];omega
    | true =>
     have hd0:=htd rfl
     clear htd
     obtain⟨d',hdd⟩:∃d',d=d'+1:=⟨d-1,by omega⟩
     have hdi:(d:Int)-1=(d':Int):=by omega
     have HIH:=hideP (HI.out d' hdd)
     have hcd:c=1+4*bnd d':=by rw[HCB.out,hdd];rfl
     obtain⟨c',hc'⟩:∃c',c'=bnd d':=⟨_,rfl⟩
     rw[<-hc'] at hcd HIH
     have HCD:=hideP hcd
     clear hdd hd0 hc' hcd
     go_wp2_with fail
     refine(belowN_any 5 ao len cap w _ HB.out DI.out.1 (by omega) (by omega)).mono ?_
     rintro e' w2 ⟨mi,rfl,m0,m1,c2,o2⟩
     have D2:=hideP (DLI.other DI.out hw o2 c2)
     clear DI c2 o2
     obtain⟨m,rfl⟩:=Int.eq_ofNat_of_zero_le m0
     have hm4:m<=4:=by omega
     go_wp2_with fail
     refine(HIH.out m w2 hm4 D2.out.1).mono ?_
     rintro e' w3 ⟨u,k,rfl,hou,hkm,c3,f3⟩
     have hk85:k+1<=c:=by
      have h1:m*c'<=4*c':=Nat.mul_le_mul_right _ hm4
      have:=HCD.out
      omega
     have hwz2:w0.heap.size<=w2.heap.size:=D2.out.2.1.1
     have hlv:∀g,Value.ownBlock (.slice va n vc)=some g->g<w2.heap.size:=fun g hg=>by
      obtain⟨xs,_,h⟩:=D2.out.2.2.1
      exact(own_lt h hg).2.1
     have D3:=hideP (DLI.fram D2.out hw f3 c3)
     obtain⟨ys,hyl,hoy⟩:=hou
     obtain⟨ua,uc,hue⟩:=own_shp hoy
     subst hue
     have hz23:w2.heap.size<=w3.heap.size:=f3.1
     have HOY:=hideP hoy
     clear D2 c3 f3 hoy HIH hkm m0 m1 hm4
     go_wp2_with fail
     refine(specH 0 0 HOY.out hyl (by omega)).mono ?_
     rintro e' w4 ⟨u2,rfl,hou2,hb4⟩
     obtain⟨k2,hk2⟩:=exq ((hpR ys 0 0).length)
     have hk2c:k2<=c:=by
      have:(hpR ys 0 0).length<=ys.length+1:=by
       unfold hpR
       split
       ·rw[hpN_len];exact Nat.le_refl _
       ·exact Nat.zero_le _
      omega
     obtain⟨⟨z0,z1,z2,z3,z4,z5⟩,hz⟩:∃z:Shr.Sett,z=hpT ys 0 0:=⟨_,rfl⟩
     rw[<-hk2] at hou2
     rw[<-hz]
     obtain⟨ua2,uc2,hue2⟩:=own_shp hou2
     subst hue2
     have hap2:∀g,Value.ownBlock (.slice va n vc)=some g->Value.ownBlock (.slice ua2 k2 uc2)≠some g:=fun g hg e=>by
      have h1:=hlv g hg
      have h2:=(own_lt hou2 e).1
      omega
     have D4:=hideP (DLI.fram D3.out hw (Fram.ofBel hb4) (D3.out.1.bel hb4))
     have hz34:w3.heap.size<=w4.heap.size:=hb4.size
     have HOY4:=hideP (own_below HOY.out hb4)
     have hbA:=below1 w4 (packO (.slice ua2 k2 uc2) z0 z1 z2 z3 z4 z5)
     have DD:Hid (DP w w0 (w4.alloc (packO (.slice ua2 k2 uc2) z0 z1 z2 z3 z4 z5)) ao len cap w4.heap.size (.slice va n vc) (.slice ua2 k2 uc2) n k2):=hideP
      ⟨D4.out.1.alloc _,D4.out.2.1.alloc _,D4.out.2.2.1.fram hw (Fram.ofBel hbA),⟨_,_,_,_,_,_,heap_alloc_new w4 _⟩,⟨hpR ys 0 0,hk2.symm,own_mon (own_below hou2 hbA) (by omega)⟩,hap2,by omega⟩
     have HIN:Hid ((w4.alloc (packO (.slice ua2 k2 uc2) z0 z1 z2 z3 z4 z5)).ownsRow w2.heap.size 36 15 (.slice ua k uc) k (flatN ys)):=hideP (own_below HOY4.out hbA)
     obtain⟨P,hP⟩:=exq (w4.heap.size)
     have hzP:w2.heap.size<=P:=by omega
     rw[<-hP] at DD
     clear D3 D4 HOY HOY4 hou2 hb4 hk2 hz hbA hz34 hz23
     go_upto_region 8 with fail
     rw[<-hP]
     clear hP
     generalize World.alloc _ _=W4 at DD HIN ⊢
     go_wp2_with fail
     refine(once_any 3 ao len cap w _ HB.out DD.out.cur (by omega) (by omega)).mono ?_
     rintro e' w5 ⟨bb,rfl,c5,o5⟩
     have D5:=hideP (DP.other DD.out hw o5 c5)
     have hF5:Fram w W4 w5:=⟨Other.size o5 c5.lt,fun n _ hne=>o5 n hne⟩
     have HI5:=hideP (own_fram (w:=w) HIN.out (by omega) hF5)
     clear DD HIN c5 o5 hF5
     go_upto_if 32 with fail
     go_cut [] (fun wc=>∃pv k,k<=c/\Hid (DP w w0 wc ao len cap P (.slice va n vc) pv n k))
     case first =>
      cases bb with
      | false =>
       go_wp2
       go_meet
       case rel=>exact⟨_,k2,hk2c,D5⟩
      | true =>
       go_wp2_with fail
       refine(drawSize_any ao len cap w _ HB.out D5.out.cur).mono ?_
       rintro e' w6 ⟨y,rfl,⟨ya,yb⟩,c6,f6⟩
       have D6:=hideP (DP.fram D5.out hw f6 c6)
       have HI6:=hideP (own_fram (w:=w) HI5.out (by omega) f6)
       have hlv6:w2.heap.size<=w6.heap.size:=by
        have:=D6.out.ltP
        omega
       clear D5 HI5 c6 f6
       go_wp2_with fail
       refine(specV y 0 0 HI6.out hyl (by omega)).mono ?_
       rintro e' w7 ⟨u3,rfl,hou3,hb7⟩
       obtain⟨k3,hk3⟩:=exq ((vpR ys y 0 0).length)
       have hk3c:k3<=c:=by
        have:(vpR ys y 0 0).length<=ys.length+1:=by
         unfold vpR
         split
         ·rw[vpN_len];exact Nat.le_refl _
         ·exact Nat.zero_le _
        omega
       obtain⟨⟨z0,z1,z2,z3,z4,z5⟩,hz⟩:∃z:Shr.Sett,z=vpT ys y 0 0:=⟨_,rfl⟩
       rw[<-hk3] at hou3
       rw[<-hz]
       obtain⟨ua3,uc3,hue3⟩:=own_shp hou3
       subst hue3
       have hap3:∀g,Value.ownBlock (.slice va n vc)=some g->Value.ownBlock (.slice ua3 k3 uc3)≠some g:=fun g hg e=>by
        have h1:=hlv g hg
        have h2:=(own_lt hou3 e).1
        omega
       have D7:=hideP (DP.fram D6.out hw (Fram.ofBel hb7) (D6.out.cur.bel hb7))
       have D8:=hideP (DP.sev7 D7.out hw ⟨vpR ys y 0 0,hk3.symm,own_mon hou3 (by have:=D6.out.fr.1;omega)⟩ hap3 z0 z1 z2 z3 z4 z5)
       obtain⟨q0,q1,q2,q3,q4,q5,hpk⟩:=D7.out.pk
       obtain⟨r0,r1,r2,r3,r4,r5,r6⟩:=pack_cells hpk
       have fR:∀j,w7.frozen? ⟨P,j,none⟩=false:=fun j=>frozen_of_row w7 P j _ _ hpk
       clear D6 HI6 hou3 hb7 hk3 hz hpk D7 hap3
       go_wp2
       go_meet
       case rel=>exact⟨_,k3,hk3c,D8⟩
     case rest =>
      obtain⟨pv,kp,hkp,DD⟩:=hcut
      clear D5 HI5 hk2c hap2
      obtain⟨pa,pc,hpe⟩:=DD.out.pown.shape
      subst hpe
      have cP:=DD.out.cell
      have lP:=DD.out.ltP
      by_cases hk0:0<kp
      ·have hk0i:(0:Int)<(kp:Int):=by omega
       go_upto_region 11 with fail
       go_wp2_with fail
       refine(once_any 4 ao len cap w _ HB.out DD.out.cur (by omega) (by omega)).mono ?_
       rintro e' w8 ⟨bb1,rfl,c8,o8⟩
       have D8:=hideP (DP.other DD.out hw o8 c8)
       clear DD c8 o8 cP lP
       obtain⟨g,gc,hge⟩:∃g c,(Value.slice pa kp pc) = .slice (some ⟨g,0,none⟩) kp c:=by
        obtain⟨_,_,h⟩:=D8.out.pown
        exact own_some h hk0
       cases hge
       go_upto_if 42 with fail
       go_cut [] (fun wc=>Hid (DP w w0 wc ao len cap P (.slice va n vc) (.slice (some ⟨g,0,none⟩) kp pc) n kp))
       case first =>
        cases bb1 with
        | false =>
         go_wp2
         go_meet
         case rel=>exact D8
        | true =>
         go_upto_region 12 with fail
         have DA:=hideP (D8.out.drew hw)
         have hS:w8.drew.cell? ⟨P,0,none⟩=some (.slice (some ⟨g,0,none⟩) kp pc):=DA.out.cell
         refine wp_region_held_drew (S:=fun X=>X.cell? ⟨P,0,none⟩=some (.slice (some ⟨g,0,none⟩) kp pc)) (by kernel_rfl) hS (fun hS=>?_)
         refine tkS (i:=0) (v:= .pointer (some ⟨P,0,none⟩)) rfl hS ?_
         try simp only[sput]
         refine tkS (i:=1) (v:=(.slice (some ⟨g,0,none⟩) kp pc)) rfl hS ?_
         try simp only[sput]
         refine tkS (i:=2) (v:= .pointer (some ⟨w.heap.size,0,none⟩)) rfl hS ?_
         try simp only[sput]
         refine rdS (i:=3) rfl (fun K hK=>?_)
         go_simp
         go_at_call 37
         refine(drawSize_any ao len cap w _ HB.out DA.out.cur).mono ?_
         rintro e' w9 ⟨y,rfl,⟨ya,yb⟩,c9,f9⟩
         have DB:=hideP (DP.fram DA.out hw f9 c9)
         have hS2:=DB.out.cell
         have wy:IntKind.i64.wrap (y-393216)=y-393216:=by rw[IntKind.wrap_i64];omega
         clear DA D8 c9 f9
         refine hK.out _ _ hS2 (fun _=>?_)
         try simp only[sput]
         clear hK K
         refine tkS (i:=4) (v:= .int .i64 (y-393216)) rfl hS2 ?_
         try simp only[sput]
         refine tkS (i:=5) (v:= .pointer (some ⟨g,0,none⟩)) rfl hS2 ?_
         try simp only[sput]
         refine tkS (i:=6) (v:= .pointer (some ⟨g,4,none⟩)) rfl hS2 ?_
         try simp only[sput]
         obtain⟨zs,hzl,hoz⟩:=DB.out.pown
         obtain⟨z,zs,rfl⟩:∃z zs',zs=z :: zs':=by
          cases zs with
          | nil=>simp at hzl;omega
          | cons z zs=>exact⟨z,zs,rfl⟩
         obtain⟨hzc,hzf⟩:=own_cells0 hoz
         have hc4:=hzc 4 (by omega)
         have hf4:=hzf 4 (by omega)
         simp only[Nd.cells,List.getElem?_cons_zero,List.getElem?_cons_succ] at hc4
         have DC:=hideP (DB.out.stored hw (g:=g) rfl (wj:=w9.setCell ⟨g,4,none⟩ (.int .i64 (y-393216))) (by simp) (fun b hb=>Below.heap_setCell _ _ _ _ (Ne.symm hb)) ⟨rfl,rfl,rfl⟩ (ownN_of (own_sh0 hoz (y-393216)) (by simpa using hzl)))
         have hS3:=DC.out.cell
         clear hzc hzf hoz hzl DB
         refine rdS (i:=7) rfl (fun K hK=>?_)
         go_simp
         refine hK.out _ _ hS3 (fun _=>?_)
         try simp only[sput]
         clear hK K
         refine wpAnyH_done (by kernel_rfl) ?_ _
         go_wp2
         go_meet
         case rel=>exact DC
       case rest =>
        clear D8
        have D8:=hcut
        clear hcut
        have cP:=D8.out.cell
        have lP:=D8.out.ltP
        go_wp2_with fail
        refine(once_any 12 ao len cap w _ HB.out D8.out.cur (by omega) (by omega)).mono ?_
        rintro e' w10 ⟨bb2,rfl,c8,o8⟩
        have D9:=hideP (DP.other D8.out hw o8 c8)
        clear D8 c8 o8 cP lP
        go_upto_if 51 with fail
        go_cut [] (fun wc=>Hid (DP w w0 wc ao len cap P (.slice va n vc) (.slice (some ⟨g,0,none⟩) kp pc) n kp))
        case first =>
         cases bb2 with
         | false =>
          go_wp2
          go_meet
          case rel=>exact D9
         | true =>
          go_upto_region 14 with fail
          have DA:=hideP (D9.out.drew hw)
          obtain⟨zs,hzl,hoz⟩:=DA.out.pown
          obtain⟨z,zs,rfl⟩:∃z zs',zs=z :: zs':=by
           cases zs with
           | nil=>simp at hzl;omega
           | cons z zs=>exact⟨z,zs,rfl⟩
          obtain⟨hzc,hzf⟩:=own_cells0 hoz
          have hS:(fun X:World=>X.cell? ⟨P,0,none⟩=some (.slice (some ⟨g,0,none⟩) kp pc)/\X.cell? ⟨g,2,none⟩=some (.int .i64 z.ht)/\X.cell? ⟨g,14,none⟩=some (.int .i64 z.kids)) w10.drew:=⟨DA.out.cell,hzc 2 (by omega),hzc 14 (by omega)⟩
          have HOZ:=hideP hoz
          clear hzc hzf hoz
          refine wp_region_held_drew (S:=fun X=>X.cell? ⟨P,0,none⟩=some (.slice (some ⟨g,0,none⟩) kp pc)/\X.cell? ⟨g,2,none⟩=some (.int .i64 z.ht)/\X.cell? ⟨g,14,none⟩=some (.int .i64 z.kids)) (by kernel_rfl) hS (fun hS=>?_)
          refine tkS (i:=0) (v:= .pointer (some ⟨P,0,none⟩)) rfl hS ?_
          try simp only[sput]
          refine tkS (i:=1) (v:=(.slice (some ⟨g,0,none⟩) kp pc)) rfl hS ?_
          try simp only[sput]
          refine tkS (i:=2) (v:= .pointer (some ⟨w.heap.size,0,none⟩)) rfl hS ?_
          try simp only[sput]
          refine tkS (i:=4) (v:= .pointer (some ⟨P,0,none⟩)) rfl hS ?_
          try simp only[sput]
          refine tkS (i:=5) (v:=(.slice (some ⟨g,0,none⟩) kp pc)) rfl hS ?_
          try simp only[sput]
          refine tkS (i:=6) (v:= .pointer (some ⟨g,0,none⟩)) rfl hS ?_
          try simp only[sput]
          refine tkS (i:=7) (v:= .pointer (some ⟨g,2,none⟩)) rfl hS ?_
          try simp only[sput]
          refine tkS (i:=8) (v:= .int .i64 z.ht) rfl hS ?_
          try simp only[sput]
          refine tkS (i:=9) (v:= .pointer (some ⟨P,0,none⟩)) rfl hS ?_
          try simp only[sput]
          refine tkS (i:=10) (v:=(.slice (some ⟨g,0,none⟩) kp pc)) rfl hS ?_
          try simp only[sput]
          refine tkS (i:=11) (v:= .pointer (some ⟨g,0,none⟩)) rfl hS ?_
          try simp only[sput]
          refine tkS (i:=12) (v:= .pointer (some ⟨g,14,none⟩)) rfl hS ?_
          try simp only[sput]
          refine tkS (i:=13) (v:= .int .i64 z.kids) rfl hS ?_
          try simp only[sput]
          refine rdS (i:=3) rfl (fun K hK=>?_)
          go_simp
          go_at_call 39
          refine(belowN_any 16 ao len cap w _ HB.out DA.out.cur (by omega) (by omega)).mono ?_
          rintro e' w11 ⟨y,rfl,ya,yb,c9,o9⟩
          have DB:=hideP (DP.other DA.out hw o9 c9)
          have hf9:Fram w w10.drew w11:=⟨Other.size o9 c9.lt,fun n _ hne=>o9 n hne⟩
          have hoz:=own_fram (w:=w) HOZ.out (by omega) hf9
          obtain⟨hzc,hzf⟩:=own_cells0 hoz
          have hS2:(fun X:World=>X.cell? ⟨P,0,none⟩=some (.slice (some ⟨g,0,none⟩) kp pc)/\X.cell? ⟨g,2,none⟩=some (.int .i64 z.ht)/\X.cell? ⟨g,14,none⟩=some (.int .i64 z.kids)) w11:=⟨DB.out.cell,hzc 2 (by omega),hzc 14 (by omega)⟩
          have HD:=hideP (DP.node0 DB.out hw hoz hzl 11 0 z.ht 0 0 0 0 y 0 0 0 0 0 ⟨#[]⟩ z.kids)
          have DC:=hideP HD.out.1
          have hS3:(fun X:World=>X.cell? ⟨P,0,none⟩=some (.slice (some ⟨g,0,none⟩) kp pc)/\X.cell? ⟨g,2,none⟩=some (.int .i64 z.ht)/\X.cell? ⟨g,14,none⟩=some (.int .i64 z.kids)) (fif w11 g 11 0 z.ht 0 0 0 0 y 0 0 0 0 0 ⟨#[]⟩ z.kids):=HD.out.2
          have e0:=hzc 0 (by omega)
          have e1:=hzc 1 (by omega)
          have e2:=hzc 2 (by omega)
          have e3:=hzc 3 (by omega)
          have e4:=hzc 4 (by omega)
          have e5:=hzc 5 (by omega)
          have e6:=hzc 6 (by omega)
          have e7:=hzc 7 (by omega)
          have e8:=hzc 8 (by omega)
          have e9:=hzc 9 (by omega)
          have e10:=hzc 10 (by omega)
          have e11:=hzc 11 (by omega)
          have e12:=hzc 12 (by omega)
          have e13:=hzc 13 (by omega)
          have e14:=hzc 14 (by omega)
          have f0:=hzf 0 (by omega)
          have f1:=hzf 1 (by omega)
          have f2:=hzf 2 (by omega)
          have f3:=hzf 3 (by omega)
          have f4:=hzf 4 (by omega)
          have f5:=hzf 5 (by omega)
          have f6:=hzf 6 (by omega)
          have f7:=hzf 7 (by omega)
          have f8:=hzf 8 (by omega)
          have f9:=hzf 9 (by omega)
          have f10:=hzf 10 (by omega)
          have f11:=hzf 11 (by omega)
          have f12:=hzf 12 (by omega)
          have f13:=hzf 13 (by omega)
          have f14:=hzf 14 (by omega)
          simp only[Nd.cells,List.getElem?_cons_zero,List.getElem?_cons_succ] at e0 e1 e2 e3 e4 e5 e6 e7 e8 e9 e10 e11 e12 e13 e14
          clear DA D9 c9 o9 hf9 hoz HOZ DB hzl hzc hzf HD
          refine hK.out _ _ hS2 (fun _=>?_)
          try simp only[sput]
          clear hK K
          refine tkS (i:=14) (v:=ndV ⟨11,0,z.ht,0,0,0,0,y,0,0,0,0,0,⟨#[]⟩,z.kids⟩) rfl hS2 ?_
          try simp only[sput]
          refine tkS (i:=15) (v:= .pointer (some ⟨g,0,none⟩)) rfl hS2 ?_
          try simp only[sput]
          refine rdS (i:=16) rfl (fun K hK=>?_)
          go_simp
          refine hK.out _ _ hS3 (fun _=>?_)
          try simp only[sput]
          clear hK K
          refine wpAnyH_done (by kernel_rfl) ?_ _
          go_wp2
          go_meet
          case rel=>exact DC
        case rest =>
         clear D9
         have D9:=hcut
         clear hcut
         obtain⟨zs,hzl,hoz⟩:=D9.out.pown
         subst hzl
         obtain⟨xs,hxl,hox⟩:=D9.out.own
         have cP:=D9.out.cell
         have lP:=D9.out.ltP
         have hcA:=D9.out.cur
         have hfA:=D9.out.fr
         have hwA:w0.heap.size<=wc.heap.size:=hfA.1
         have NB:=hideP (own_NN hoz rfl)
         clear D9 hoz
         go_wp2_with (at_builtin;refine wpList_appN rfl _ _ rfl w0.heap.size (.slice va n vc) n xs rfl hox _ zs rfl NB.out (by first|omega|(simp;omega)) hwA ?_;intro v5 w5 ho5 hg5 hat5;have D5:Hid (DLI w w0 w5 ao len cap c (i+1) v5 (n+zs.length)):=hideP (DLI.app hcA hfA (fun g hg=>(own_lt hox hg).1) hw hg5 ho5 (by simp[hxl]) HN.out hkp);obtain⟨a5,c5,h5⟩:=D5.out.2.2.1.shape;subst h5;clear ho5 hg5 hat5)
         go_roundw
         case rel=>exact⟨i+1,n+zs.length,by omega,by go_num,D5⟩
         case measure=>simp[intOf];omega
      ·have hk0i:¬(0:Int)<(kp:Int):=by omega
       obtain rfl:kp=0:=by omega
       have D9:Hid (DLI w w0 wc ao len cap c (i+1) (.slice va n vc) n):=hideP ⟨DD.out.cur,DD.out.fr,DD.out.own,Nat.le_trans HN.out (Nat.mul_le_mul_right _ (Nat.le_succ _))⟩
       clear DD
       go_wp2
       go_roundw
       case rel=>exact⟨i+1,n,by omega,by go_num,D9⟩
       case measure=>simp[intOf];omega
  ·have hli:¬(i:Int)<(N:Int):=by omega
   obtain⟨va,vc,hve⟩:=DI.out.2.2.1.shape
   subst hve
   go_wp2
   go_ret
   have hle:n<=N*c:=Nat.le_trans DI.out.2.2.2 (Nat.mul_le_mul_right _ hi)
   exact⟨_,n,rfl,DI.out.2.2.1,hle,DI.out.1,DI.out.2.1⟩
theorem drawList_any (ao:Option Addr)(len cap:Nat)(w:World)(hB:Bytes w ao len cap):∀(d N:Nat) (w0:World),d<=3->N<=10->Cur w w0 ao len cap->
 Calls Tryz.prog 54 #[curP w,.int .i64 (N:Int),.int .i64 (d:Int)] w0 fun e w'=>DL w w0 w' ao len cap e (N*bnd d)
 | 0,N,w0,hd,hN,hC=>drawList_step ao len cap w w0 hB hC N 0 hN hd (fun d' h=>by omega)
 | d+1,N,w0,hd,hN,hC=>drawList_step ao len cap w w0 hB hC N (d+1) hN hd (fun d' h N' wx hN' hC'=>by
  obtain rfl:d=d':=by omega
  exact drawList_any ao len cap w hB d N' wx (by omega) (by omega) hC')
end Go.Proofs.YtbbehmcekbnkiaaGreat

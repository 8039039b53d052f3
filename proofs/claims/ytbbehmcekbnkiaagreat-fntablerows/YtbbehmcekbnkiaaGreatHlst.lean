import Derived.Test.YtbbehmcekbnkiaaGreatSndt
import Derived.Test.YtbbehmcekbnkiaaGreatLokt
namespace Go.Proofs.YtbbehmcekbnkiaaGreat
set_option maxHeartbeats 8000000
open Go.RowKit
set_option linter.unusedVariables false
set_option linter.unusedSimpArgs false
def modeB (mode:Int):Bool:=decide (0<=mode)&&decide (mode<=2)
def packB (xs:List Nd)(mode size:Int):Bool:=canB xs&&modeB mode&&fitsB size
def askB (xs:List Nd)(mode size:Int):Bool:=modeB mode&&fitsB size&&listB xs
theorem canB_okD (xs:List Nd):canB xs=(decide (xs.length<20000)&&okD 39 xs.length 0 [] xs):=by
 unfold canB
 rw[okD_split,Bool.and_assoc]
set_option maxRecDepth 20000 in
theorem nest_big {ao:Option Addr}{n cap:Nat}{w:World}(h:20000<n)(h2:n<=1048576) :
 Calls Tryz.prog 107 #[.slice ao n cap] w fun e w'=>e = .returned (.int .i64 (-1))/\w'=w:=by
 have hni:(20000:Int)<(n:Int):=by omega
 go_enter Tryz.func107,Tryz.ntmps107
 go_wp2
 go_ret
 exact⟨rfl,rfl⟩
theorem nest_all {v:Value}{xs:List Nd}{w:World}(h:NRow 0 w v xs)(hs:xs.length<=1048576) :
 Calls Tryz.prog 107 #[v] w fun e w'=>∃m:Int,e = .returned (.int .i64 m)/\(decide (xs.length<20000)&&(decide (0<=m)&&decide (m<=40)))=canB xs/\Below w.heap.size w w':=by
 by_cases hb:xs.length<=20000
 ·refine(nestD_any h hb).mono ?_
  rintro e w1 ⟨m,rfl,hm,hw⟩
  refine⟨m,rfl,?_,hw⟩
  have h1:=hm 39
  rw[canB_okD,<-h1]
  rfl
 ·obtain⟨ao,n,cap,rfl,hl,hr⟩:=h
  refine(nest_big (by omega) (by omega)).mono ?_
  rintro e w1 ⟨rfl,rfl⟩
  refine⟨-1,rfl,?_,Below.refl _ _⟩
  rw[canB_okD,decide_eq_false (by omega)]
  rfl
set_option maxRecDepth 20000 in
theorem specCan_any {v:Value}{xs:List Nd}{w:World}(mode size:Int)(h:NRow 0 w v xs)(hs:xs.length<=1048576) :
 Calls Tryz.prog 86 #[v,.int .i64 mode,.int .i64 size] w fun e w'=>e = .returned (.bool (packB xs mode size))/\Below w.heap.size w w':=by
 have hcall:=nest_all h hs
 obtain⟨ao,n,cap,rfl,hl,hr⟩:=h
 have hn:n<=1048576:=by omega
 obtain⟨R,hR⟩:=exq (packB xs mode size)
 rw[<-hR]
 have HR:=hideP hR
 have HL:=hideP hl
 have HC:=hideP hcall
 clear hR hl hcall hr
 go_enter Tryz.func86,Tryz.ntmps86
 go_wp2_with fail
 refine HC.out.mono ?_
 rintro e w1 ⟨m,rfl,hm,hb⟩
 have HM:=hideP hm
 have HB:=hideP hb
 clear hm hb
 by_cases h1:0<=m
 ·have Hh1:=hideP h1
  have dh1:decide (0<=m)=true:=decide_eq_true h1
  clear h1
  by_cases h2:m<=40
  ·have Hh2:=hideP h2
   have dh2:decide (m<=40)=true:=decide_eq_true h2
   clear h2
   by_cases h3:(n:Int)<20000
   ·have Hh3:=hideP h3
    have dh3:decide ((n:Int)<20000)=true:=decide_eq_true h3
    clear h3
    have HCB:Hid (canB xs=true):=hideP (by rw[<-HM.out,decide_eq_true Hh1.out,decide_eq_true Hh2.out,decide_eq_true (by rw[HL.out];have:=Hh3.out;omega)];rfl)
    by_cases h4:0<=mode
    ·have Hh4:=hideP h4
     have dh4:decide (0<=mode)=true:=decide_eq_true h4
     clear h4
     by_cases h5:mode<=2
     ·have Hh5:=hideP h5
      have dh5:decide (mode<=2)=true:=decide_eq_true h5
      clear h5
      go_wp2_with fail
      refine(specFits_any size _).mono ?_
      rintro e w2 ⟨rfl,rfl⟩
      go_wp2
      go_ret
      refine⟨?_,HB.out⟩
      have e:R=fitsB size:=by rw[HR.out];unfold packB modeB;rw[HCB.out,decide_eq_true Hh4.out,decide_eq_true Hh5.out];rfl
      rw[e]
      rfl
     ·have Hh5:=hideP h5
      have dh5:decide (mode<=2)=false:=decide_eq_false h5
      clear h5
      go_wp2
      go_ret
      refine⟨?_,HB.out⟩
      have e:R=false:=by rw[HR.out];unfold packB modeB;rw[decide_eq_false (p:=mode<=2) (by have:=Hh5.out;omega)];simp
      rw[e]
      rfl
    ·have Hh4:=hideP h4
     have dh4:decide (0<=mode)=false:=decide_eq_false h4
     clear h4
     go_wp2
     go_ret
     refine⟨?_,HB.out⟩
     have e:R=false:=by rw[HR.out];unfold packB modeB;rw[decide_eq_false (p:=0<=mode) (by have:=Hh4.out;omega)];simp
     rw[e]
     rfl
   ·have Hh3:=hideP h3
    have dh3:decide ((n:Int)<20000)=false:=decide_eq_false h3
    clear h3
    go_wp2
    go_ret
    refine⟨?_,HB.out⟩
    have e:R=false:=by rw[HR.out];unfold packB;rw[<-HM.out,decide_eq_false (by rw[HL.out];have:=Hh3.out;omega)];simp
    rw[e]
    rfl
  ·have Hh2:=hideP h2
   have dh2:decide (m<=40)=false:=decide_eq_false h2
   clear h2
   go_wp2
   go_ret
   refine⟨?_,HB.out⟩
   have e:R=false:=by rw[HR.out];unfold packB;rw[<-HM.out,decide_eq_false (p:=m<=40) (by have:=Hh2.out;omega)];simp
   rw[e]
   rfl
 ·have Hh1:=hideP h1
  have dh1:decide (0<=m)=false:=decide_eq_false h1
  clear h1
  go_wp2
  go_ret
  refine⟨?_,HB.out⟩
  have e:R=false:=by rw[HR.out];unfold packB;rw[<-HM.out,decide_eq_false (p:=0<=m) (by have:=Hh1.out;omega)];simp
  rw[e]
  rfl
set_option maxRecDepth 20000 in
theorem implCan_any {v:Value}{xs:List Nd}{w:World}(mode size:Int)(h:NRow 0 w v xs)(hs:xs.length<=1048576) :
 Calls Tryz.prog 30 #[v,.int .i64 mode,.int .i64 size] w fun e w'=>e = .returned (.bool (askB xs mode size))/\Below w.heap.size w w':=by
 have hcall:=fun W (hW:W=w)=>hW ▸ implListOk_any h hs
 obtain⟨ao,n,cap,rfl,hl,hr⟩:=h
 obtain⟨R,hR⟩:=exq (askB xs mode size)
 rw[<-hR]
 have HR:=hideP hR
 have HC:Hid (Calls Tryz.prog 36 #[.slice ao n cap] w fun e w'=>e = .returned (.bool (listB xs))/\Below w.heap.size w w'):=hideP (hcall w rfl)
 obtain⟨L,hL⟩:=exq (listB xs)
 rw[<-hL] at HC
 have HL:=hideP hL
 clear hR hl hcall hr hL
 go_enter Tryz.func30,Tryz.ntmps30
 by_cases h4:0<=mode
 ·have Hh4:=hideP h4
  have dh4:decide (0<=mode)=true:=decide_eq_true h4
  clear h4
  by_cases h5:mode<=2
  ·have Hh5:=hideP h5
   have dh5:decide (mode<=2)=true:=decide_eq_true h5
   clear h5
   go_wp2_with fail
   refine(implFits_any size _).mono ?_
   rintro e w2 ⟨rfl,rfl⟩
   cases hf:fitsB size with
   | false =>
    have HF:=hideP hf
    clear hf
    go_wp2
    go_ret
    refine⟨?_,Below.refl _ _⟩
    have e:R=false:=by rw[HR.out];unfold askB;rw[HF.out];simp
    rw[e]
    rfl
   | true =>
    have HF:=hideP hf
    clear hf
    go_wp2_with fail
    refine HC.out.mono ?_
    rintro e w2 ⟨rfl,hb⟩
    have HB:=hideP hb
    clear hb
    go_wp2
    go_ret
    refine⟨?_,HB.out⟩
    have e:R=L:=by rw[HR.out,HL.out];unfold askB modeB;rw[HF.out,decide_eq_true Hh4.out,decide_eq_true Hh5.out];rfl
    rw[e]
    rfl
  ·have Hh5:=hideP h5
   have dh5:decide (mode<=2)=false:=decide_eq_false h5
   clear h5
   go_wp2
   go_ret
   refine⟨?_,Below.refl _ _⟩
   have e:R=false:=by rw[HR.out];unfold askB modeB;rw[decide_eq_false (p:=mode<=2) (by have:=Hh5.out;omega)];simp
   rw[e]
   rfl
 ·have Hh4:=hideP h4
  have dh4:decide (0<=mode)=false:=decide_eq_false h4
  clear h4
  go_wp2
  go_ret
  refine⟨?_,Below.refl _ _⟩
  have e:R=false:=by rw[HR.out];unfold askB modeB;rw[decide_eq_false (p:=0<=mode) (by have:=Hh4.out;omega)];simp
  rw[e]
  rfl
set_option maxRecDepth 20000 in
theorem specRow_any {v:Value}{xs:List Nd}{w:World}(h:NRow 0 w v xs)(hok:AllOk xs)(hg:∀i,i<xs.length->NdIn (xs.getD i Nd.none)) :
 Calls Tryz.prog 87 #[v] w fun e w'=>(∃u,e = .returned (.tuple #[.int .i64 (rowTo xs (starts xs (xs.length+1) 0)).w,u,.int .i64 (rowTo xs (starts xs (xs.length+1) 0)).h,.int .i64 (rowTo xs (starts xs (xs.length+1) 0)).d])/\w'.ownsRow w.heap.size 34 5 u (rowTo xs (starts xs (xs.length+1) 0)).gs.length (f5 (rowTo xs (starts xs (xs.length+1) 0)).gs))/\Below w.heap.size w w':=by
 have HC:Hid (∀W,Below w.heap.size w W->Calls Tryz.prog 108 #[v] W fun e w'=>(∃u,e = .returned u/\IR w' W.heap.size u (starts xs (xs.length+1) 0).length (natI (starts xs (xs.length+1) 0)))/\Below W.heap.size W w'):=hideP (fun W hW=>starts_any (h.below ndStable hW) hok.len hok.weak)
 obtain⟨ao,n,cap,rfl,hl,hr⟩:=h
 have hn:n<=20000:=by rw[<-hl];exact hok.len
 have HR:Hid (0<n->∃b off,ao=some ⟨b,off,none⟩/\0<=b/\b<w.heap.size/\∀i,i<n->∃cs:List Value,cs.length=15/\NdR 0 w cs (xs.getD i Nd.none)/\∀j,j<15->w.cell? ⟨b,off+i*15+j,none⟩=cs[j]?):=hideP hr
 obtain⟨Z,hZ⟩:=exq (starts xs (xs.length+1) 0)
 rw[<-hZ] at HC
 rw[<-hZ]
 have HZP:Hid (∀p∈Z,p<xs.length):=hideP (fun p hp=>starts_lt xs _ _ p (by rw[<-hZ];exact hp))
 have HRI:Hid (∀k,k<=Z.length->RIn (rowTo xs (Z.take k)) k):=hideP (fun k hk=>by
  have h1:=rowTo_in xs hg (Z.take k) (fun p hp=>HZP.out p (List.mem_of_mem_take hp))
  rw[List.length_take,Nat.min_eq_left hk] at h1
  exact h1)
 have HG:=hideP hg
 have HL:=hideP hl
 obtain⟨r,hrz⟩:=exq (Z.length)
 have HRZ:=hideP hrz
 have hr20:r<=20000:=by
  rw[hrz,hZ]
  have:=starts_count (xs:=xs) (xs.length+1) 0
  omega
 clear hr hl hZ hrz hg hok
 obtain⟨i0,hi,hz0,hz1,hz2⟩:=info_parts Shr.Tryz.info34
 go_enter Tryz.func87,Tryz.ntmps87
 go_wp2_with fail
 refine(HC.out _ (below1 _ _)).mono ?_
 rintro e w1 ⟨⟨va,rfl,hI⟩,hb1⟩
 have J0:Hid (RInv w w1 va Z (.slice (some ⟨w.heap.size,0,none⟩) 0 0) []):=hideP ⟨ownG_below (w:=w.alloc (.cells #[] 34)) ⟨rfl,.inr ⟨_,_,_,rfl,Nat.le_refl _,heap_alloc_new w _,by simp,by decide,rfl,rfl⟩⟩ hb1,ownG_mono hI (by simp),below_more (below1 _ _) hb1 (by simp)⟩
 obtain⟨aa,ca,rfl⟩:=ownG_shape hI
 rw[<-HRZ.out]
 clear hI hb1 HC
 go_wp2
 go_loopw [6,7,8,9,11] (fun sw sh sd su i wr=>∃(k:Nat) (u:Value) (m:Nat) (s:RS),k<=r/\i = .int .i64 k/\Hid (s=rowTo xs (Z.take k))/\sw = .int .i64 s.w/\sh = .int .i64 s.h/\sd = .int .i64 s.d/\su=u/\Hid (m=s.gs.length)/\Hid (RInv w wr (.slice aa r ca) Z u s.gs)) (fun _ _ _ _ i _=>r-(intOf i).toNat)
 case atStart=>exact⟨0,_,0,RS.nil,by omega,rfl,hideP rfl,rfl,rfl,rfl,rfl,hideP rfl,by rw[HRZ.out];exact J0⟩
 case round =>
  obtain⟨k,u,m,s,hk,rfl,HS,rfl,rfl,rfl,rfl,HM,HJ⟩:=hrel
  by_cases hkr:k<r
  ·have hki:(k:Int)<(r:Int):=by omega
   obtain⟨p,hp⟩:=exq (Z.getD k 0)
   have hpn:p<n:=by
    rw[<-HL.out,hp]
    refine HZP.out _ ?_
    rw[List.getD_eq_getElem?_getD,List.getElem?_eq_getElem (by rw[<-HRZ.out];exact hkr)]
    exact List.getElem_mem _
   have hpi:(p:Int)<(n:Int):=by omega
   have HTK:Hid (Z.take (k+1)=Z.take k++[p]):=hideP (by rw[hp];exact take_snoc Z k 0 (by rw[<-HRZ.out];exact hkr))
   obtain⟨b,off,rfl,_,hb,hc⟩:=HR.out (by omega)
   obtain⟨cs,hcl,hRel,hcj⟩:=hc p hpn
   obtain⟨t,ht⟩:=exq (xs.getD p Nd.none)
   rw[<-ht] at hRel
   have HNI:Hid (NdIn t):=hideP (by rw[ht];exact HG.out p (by rw[HL.out];exact hpn))
   have HST:Hid (rowStep s t=rowTo xs (Z.take (k+1))):=hideP (by rw[HTK.out,rowTo_snoc,<-ht,<-HS.out])
   have hIn:RIn s k:=by rw[HS.out];exact HRI.out k (by rw[<-HRZ.out];exact hk)
   have HIn:=hideP hIn
   obtain⟨qw1,qw2,qh1,qh2,qd1,qd2,qn,-⟩:=hIn
   obtain⟨⟨nw1,nw2⟩,⟨nh1,nh2⟩,⟨nd1,nd2⟩,⟨ns1,ns2⟩,-⟩:=HNI.out
   have hm:m<=20000:=by rw[HM.out];omega
   obtain⟨GZ,rfl⟩:∃GZ,aa=some ⟨GZ,0,none⟩:=by
    rcases HJ.out.row.2 with ⟨_,h0⟩ | ⟨g,c,cur,he,_⟩
    ·rw[<-HRZ.out] at h0;omega
    ·cases he;exact⟨g,rfl⟩
   have hcz:wr.cell? ⟨GZ,k,none⟩=some (.int .i64 (p:Int)):=by
    have h0:=HJ.out.row
    rw[<-HRZ.out] at h0
    have h1:=natI_at (j:=k) h0 HRZ.out.symm hkr
    rw[<-hp] at h1
    exact h1
   obtain⟨kd,wd,hh,dp,sh,fo,ch,nn,gs,gp,gpo,gm,gmo,tx,kids⟩:=t
   simp only at nw1 nw2 nh1 nh2 nd1 nd2 ns1 ns2
   rw[show cs=_ from hRel] at hcj
   simp only[Nd.cells] at hcj
   have g0:wr.cell? ⟨b,off+p*15,none⟩=some (.int .i64 kd):=(HJ.out.bel.cell (p:=⟨b,off+p*15,none⟩) hb).trans (hcj 0 (by omega))
   have g1:wr.cell? ⟨b,off+p*15+1,none⟩=some (.int .i64 wd):=(HJ.out.bel.cell (p:=⟨b,off+p*15+1,none⟩) hb).trans (hcj 1 (by omega))
   have g2:wr.cell? ⟨b,off+p*15+2,none⟩=some (.int .i64 hh):=(HJ.out.bel.cell (p:=⟨b,off+p*15+2,none⟩) hb).trans (hcj 2 (by omega))
   have g3:wr.cell? ⟨b,off+p*15+3,none⟩=some (.int .i64 dp):=(HJ.out.bel.cell (p:=⟨b,off+p*15+3,none⟩) hb).trans (hcj 3 (by omega))
   have g4:wr.cell? ⟨b,off+p*15+4,none⟩=some (.int .i64 sh):=(HJ.out.bel.cell (p:=⟨b,off+p*15+4,none⟩) hb).trans (hcj 4 (by omega))
   have g5:wr.cell? ⟨b,off+p*15+5,none⟩=some (.int .i64 fo):=(HJ.out.bel.cell (p:=⟨b,off+p*15+5,none⟩) hb).trans (hcj 5 (by omega))
   have g6:wr.cell? ⟨b,off+p*15+6,none⟩=some (.int .i64 ch):=(HJ.out.bel.cell (p:=⟨b,off+p*15+6,none⟩) hb).trans (hcj 6 (by omega))
   have g7:wr.cell? ⟨b,off+p*15+7,none⟩=some (.int .i64 nn):=(HJ.out.bel.cell (p:=⟨b,off+p*15+7,none⟩) hb).trans (hcj 7 (by omega))
   have g8:wr.cell? ⟨b,off+p*15+8,none⟩=some (.int .i64 gs):=(HJ.out.bel.cell (p:=⟨b,off+p*15+8,none⟩) hb).trans (hcj 8 (by omega))
   have g9:wr.cell? ⟨b,off+p*15+9,none⟩=some (.int .i64 gp):=(HJ.out.bel.cell (p:=⟨b,off+p*15+9,none⟩) hb).trans (hcj 9 (by omega))
   have g10:wr.cell? ⟨b,off+p*15+10,none⟩=some (.int .i64 gpo):=(HJ.out.bel.cell (p:=⟨b,off+p*15+10,none⟩) hb).trans (hcj 10 (by omega))
   have g11:wr.cell? ⟨b,off+p*15+11,none⟩=some (.int .i64 gm):=(HJ.out.bel.cell (p:=⟨b,off+p*15+11,none⟩) hb).trans (hcj 11 (by omega))
   have g12:wr.cell? ⟨b,off+p*15+12,none⟩=some (.int .i64 gmo):=(HJ.out.bel.cell (p:=⟨b,off+p*15+12,none⟩) hb).trans (hcj 12 (by omega))
   have g13:wr.cell? ⟨b,off+p*15+13,none⟩=some (.string tx):=(HJ.out.bel.cell (p:=⟨b,off+p*15+13,none⟩) hb).trans (hcj 13 (by omega))
   have g14:wr.cell? ⟨b,off+p*15+14,none⟩=some (.int .i64 kids):=(HJ.out.bel.cell (p:=⟨b,off+p*15+14,none⟩) hb).trans (hcj 14 (by omega))
   clear hc hcj hcl hRel ht hp
   obtain⟨aw,sh0,sd0,sgs⟩:=s
   simp only at qw1 qw2 qh1 qh2 qd1 qd2 qn
   have N5:Hid (∀j u,[Value.int .i64 gs,.int .i64 gp,.int .i64 gpo,.int .i64 gm,.int .i64 gmo][j]?=some u->((wr.alloc (.cells #[.int .i64 kd,.int .i64 wd,.int .i64 hh,.int .i64 dp,.int .i64 sh,.int .i64 fo,.int .i64 ch,.int .i64 nn,.int .i64 gs,.int .i64 gp,.int .i64 gpo,.int .i64 gm,.int .i64 gmo,.string tx,.int .i64 kids] 36)).alloc (.cells #[.int .i64 gs,.int .i64 gp,.int .i64 gpo,.int .i64 gm,.int .i64 gmo] 34)).cell? ((⟨wr.heap.size+1,0,none⟩:Addr).add j)=some u):=hideP (by
    have h:=new5 (wr.alloc (.cells #[.int .i64 kd,.int .i64 wd,.int .i64 hh,.int .i64 dp,.int .i64 sh,.int .i64 fo,.int .i64 ch,.int .i64 nn,.int .i64 gs,.int .i64 gp,.int .i64 gpo,.int .i64 gm,.int .i64 gmo,.string tx,.int .i64 kids] 36)) (.int .i64 gs) (.int .i64 gp) (.int .i64 gpo) (.int .i64 gm) (.int .i64 gmo) 34
    rw[show (wr.alloc (.cells #[.int .i64 kd,.int .i64 wd,.int .i64 hh,.int .i64 dp,.int .i64 sh,.int .i64 fo,.int .i64 ch,.int .i64 nn,.int .i64 gs,.int .i64 gp,.int .i64 gpo,.int .i64 gm,.int .i64 gmo,.string tx,.int .i64 kids] 36)).heap.size=wr.heap.size+1 by simp] at h
    exact h)
   have HJ1:Hid (RInv w (wr.alloc (.cells #[.int .i64 kd,.int .i64 wd,.int .i64 hh,.int .i64 dp,.int .i64 sh,.int .i64 fo,.int .i64 ch,.int .i64 nn,.int .i64 gs,.int .i64 gp,.int .i64 gpo,.int .i64 gm,.int .i64 gmo,.string tx,.int .i64 kids] 36)) (.slice (some ⟨GZ,0,none⟩) r ca) Z u9 sgs):=hideP (HJ.out.below (below1 _ _))
   have hsz:w.heap.size<=wr.heap.size:=HJ.out.bel.size
   have TALL:Hid (tallB ⟨kd,wd,hh,dp,sh,fo,ch,nn,gs,gp,gpo,gm,gmo,tx,kids⟩=true->RS.tall ⟨aw,sh0,sd0,sgs⟩ ⟨kd,wd,hh,dp,sh,fo,ch,nn,gs,gp,gpo,gm,gmo,tx,kids⟩=rowTo xs (Z.take (k+1))):=hideP (fun h=>by rw[<-HST.out];unfold rowStep;rw[if_pos h])
   have KERN:Hid (kd=2->RS.kern ⟨aw,sh0,sd0,sgs⟩ ⟨kd,wd,hh,dp,sh,fo,ch,nn,gs,gp,gpo,gm,gmo,tx,kids⟩=rowTo xs (Z.take (k+1))):=hideP (fun h=>by rw[<-HST.out];exact(rowStep_2 h).symm)
   have GLUE:Hid (kd=3->RS.glue ⟨aw,sh0,sd0,sgs⟩ ⟨kd,wd,hh,dp,sh,fo,ch,nn,gs,gp,gpo,gm,gmo,tx,kids⟩=rowTo xs (Z.take (k+1))):=hideP (fun h=>by rw[<-HST.out];exact(rowStep_3 h).symm)
   have NONE:Hid (kd≠1->kd≠5->kd≠6->kd≠7->kd≠2->kd≠3->(⟨aw,sh0,sd0,sgs⟩:RS)=rowTo xs (Z.take (k+1))):=hideP (fun h1 h5 h6 h7 h2 h3=>by rw[<-HST.out];exact(rowStep_0 h1 h2 h3 h5 h6 h7).symm)
   clear HS HNI HST HIn HTK HRI HZP HG HR HL
   go_wp2_with (first
    | (go_at_call 109;refine(Shr.mostI_any _ _ _).mono ?_;rintro e w2 ⟨rfl,rfl⟩)
    | (at_builtin;refine wpList_append_own_at _ rfl _ _ 127 rfl w.heap.size 34 i0 (.agg #[.int .i64 0,.int .i64 0,.int .i64 0,.int .i64 0,.int .i64 0]) 5 40 Tryz.underlying127 hi hz0 hz1 hz2 rfl (by decide) u9 m (f5 sgs) rfl (World.ownsRow.alloc (RInv.own' HJ1.out HM.out) _) ⟨wr.heap.size+1,0,none⟩ 1 1 [.int .i64 gs,.int .i64 gp,.int .i64 gpo,.int .i64 gm,.int .i64 gmo] rfl rfl N5.out (one5 _ _ _ _ _) (by unfold maxLen;omega) (by omega) (by simp;omega) ?_;intro v6 w6 hown6 hgrow6 hnil6 hlies6;have J6:Hid (RInv w w6 (.slice (some ⟨GZ,0,none⟩) r ca) Z v6 (sgs++[⟨gs,gp,gpo,gm,gmo⟩])):=hideP (RInv.put HJ1.out (by rw[<-HM.out];exact hown6) hgrow6);clear hown6 hgrow6 hnil6 hlies6))
   ·exact⟨⟨k+1,_,m,RS.tall ⟨aw,sh0,sd0,sgs⟩ ⟨kd,wd,hh,dp,sh,fo,ch,nn,gs,gp,gpo,gm,gmo,tx,kids⟩,by omega,by go_num,hideP (TALL.out (by unfold tallB;simp only[‹(kd == 1)=true›,Bool.or_true,Bool.true_or])),rfl,rfl,rfl,rfl,HM,HJ1⟩,by simp[intOf];omega⟩
   ·exact⟨⟨k+1,_,m,RS.tall ⟨aw,sh0,sd0,sgs⟩ ⟨kd,wd,hh,dp,sh,fo,ch,nn,gs,gp,gpo,gm,gmo,tx,kids⟩,by omega,by go_num,hideP (TALL.out (by unfold tallB;simp only[‹(kd == 5)=true›,Bool.or_true,Bool.true_or])),rfl,rfl,rfl,rfl,HM,HJ1⟩,by simp[intOf];omega⟩
   ·exact⟨⟨k+1,_,m,RS.tall ⟨aw,sh0,sd0,sgs⟩ ⟨kd,wd,hh,dp,sh,fo,ch,nn,gs,gp,gpo,gm,gmo,tx,kids⟩,by omega,by go_num,hideP (TALL.out (by unfold tallB;simp only[‹(kd == 6)=true›,Bool.or_true,Bool.true_or])),rfl,rfl,rfl,rfl,HM,HJ1⟩,by simp[intOf];omega⟩
   ·exact⟨⟨k+1,_,m,RS.tall ⟨aw,sh0,sd0,sgs⟩ ⟨kd,wd,hh,dp,sh,fo,ch,nn,gs,gp,gpo,gm,gmo,tx,kids⟩,by omega,by go_num,hideP (TALL.out (by unfold tallB;simp only[‹(kd == 7)=true›,Bool.or_true,Bool.true_or])),rfl,rfl,rfl,rfl,HM,HJ1⟩,by simp[intOf];omega⟩
   ·exact⟨⟨k+1,_,m,RS.kern ⟨aw,sh0,sd0,sgs⟩ ⟨kd,wd,hh,dp,sh,fo,ch,nn,gs,gp,gpo,gm,gmo,tx,kids⟩,by omega,by go_num,hideP (KERN.out (beq_iff_eq.1 ‹(kd == 2)=true›)),rfl,rfl,rfl,rfl,HM,HJ1⟩,by simp[intOf];omega⟩
   ·exact⟨⟨k+1,_,m+1,RS.glue ⟨aw,sh0,sd0,sgs⟩ ⟨kd,wd,hh,dp,sh,fo,ch,nn,gs,gp,gpo,gm,gmo,tx,kids⟩,by omega,by go_num,hideP (GLUE.out (beq_iff_eq.1 ‹(kd == 3)=true›)),rfl,rfl,rfl,rfl,hideP (by rw[HM.out];simp[RS.glue]),‹Hid (RInv w _ _ Z _ (sgs++[_]))›⟩,by simp[intOf];omega⟩
   ·exact⟨⟨k+1,_,m,⟨aw,sh0,sd0,sgs⟩,by omega,by go_num,hideP (NONE.out (fun e=>by subst e;exact absurd ‹((1:Int) == 1)=false› (by decide)) (fun e=>by subst e;exact absurd ‹((5:Int) == 5)=false› (by decide)) (fun e=>by subst e;exact absurd ‹((6:Int) == 6)=false› (by decide)) (fun e=>by subst e;exact absurd ‹((7:Int) == 7)=false› (by decide)) (fun e=>by subst e;exact absurd ‹((2:Int) == 2)=false› (by decide)) (fun e=>by subst e;exact absurd ‹((3:Int) == 3)=false› (by decide))),rfl,rfl,rfl,rfl,HM,HJ1⟩,by simp[intOf];omega⟩
  ·have hki:¬(k:Int)<(r:Int):=by omega
   have hE:s=rowTo xs Z:=by rw[HS.out,show k=Z.length by rw[<-HRZ.out];omega,List.take_length]
   subst hE
   go_wp2
   refine bodyPost_ret (by simp[results,Tryz.results87,go_sem];try rfl) rfl ?_
   exact⟨⟨_,rfl,HJ.out.own⟩,HJ.out.bel⟩
end Go.Proofs.YtbbehmcekbnkiaaGreat

import Derived.Test.YtbbehmcekbnkiaaGreatVlst
namespace Go.Proofs.YtbbehmcekbnkiaaGreat
set_option maxHeartbeats 8000000
open Go.RowKit
set_option linter.unusedVariables false
set_option linter.unusedSimpArgs false
set_option maxRecDepth 20000 in
theorem specVPack_no {v:Value}{xs:List Nd}{w:World}(deep mode size:Int)(hdp:0<=deep/\deep<=1073741823)(h:NRow 0 w v xs)(hs:xs.length<=1048576)(hno:vpOk xs deep mode size=false) :
 Calls Tryz.prog 69 #[v,.int .i64 mode,.int .i64 size,.int .i64 deep] w fun e w'=>e = .returned (packV (.slice none 0 0) ⟨0,0,0,0,0,0⟩)/\Below w.heap.size w w':=by
 have HC:Hid (∀W,Below w.heap.size w W->Calls Tryz.prog 86 #[v,.int .i64 mode,.int .i64 size] W fun e w'=>e = .returned (.bool (packB xs mode size))/\Below W.heap.size W w'):=hideP (fun W hW=>specCan_any mode size (h.below ndStable hW) hs)
 obtain⟨ok,hok⟩:=exq (packB xs mode size)
 rw[<-hok] at HC
 have HOK:=hideP hok
 have HN:=hideP h
 have HNO:=hideP hno
 obtain⟨ao,n,cap,rfl,hl,-⟩:=h
 have HL:=hideP hl
 clear hok hl hno
 have hdd1:decide (deep<0)=false:=by simp;omega
 have hdd2:decide ((1073741823:Int)<deep)=false:=by simp;omega
 have hdd3:¬deep<0:=by omega
 have hdd4:¬(1073741823:Int)<deep:=by omega
 have HDP:=hideP hdp
 clear hdp
 go_enter Tryz.func69,Tryz.ntmps69
 go_wp2_with fail
 refine(HC.out _ (below1 _ _)).mono ?_
 rintro e w1 ⟨rfl,hb1⟩
 have HP1:Hid (PB w w1):=hideP ((PB.start w).below hb1)
 clear hb1 HC
 cases ok with
 | false =>
  obtain⟨r0,r1,r2,r3,r4,r5,r6⟩:=pack_cells HP1.out.box
  have fR:∀j,w1.frozen? ⟨w.heap.size,j,none⟩=false:=fun j=>frozen_of_row w1 w.heap.size j _ _ HP1.out.box
  have HF:Hid ((sev w1 w.heap.size (.slice none 0 0) 0 0 0 0 0 0).heap[w.heap.size]?=some (packO (.slice none 0 0) 0 0 0 0 0 0)/\Below w.heap.size w (sev w1 w.heap.size (.slice none 0 0) 0 0 0 0 0 0)):=hideP ⟨sev_heap HP1.out.box _ _ _ _ _ _ _,sev_below HP1.out.bel (Nat.le_refl _) _ _ _ _ _ _ _⟩
  go_wp2
  exact bodyPost_ret (v:=packV (.slice none 0 0) ⟨0,0,0,0,0,0⟩) (results_one_cell rfl _ _ w.heap.size _ rfl (loadPack HF.out.1)) rfl ⟨rfl,HF.out.2⟩
 | true =>
  have hpk:packB xs mode size=true:=HOK.out.symm
  have hcan:canB xs=true:=by unfold packB at hpk;simp only[Bool.and_eq_true] at hpk;exact hpk.1.1
  have hfs:fitsB size=true:=by unfold packB at hpk;simp only[Bool.and_eq_true] at hpk;exact hpk.2
  have HFS:Hid (Shr.fitsB size=true):=hideP hfs
  have hin:SIn (vpS xs deep) (begins xs).length:=vpS_in (can_list hcan) HDP.out.1
  have hcnt:(begins xs).length<=20000:=by
   have h1:=starts_count (xs:=xs) (xs.length+1) 0
   have h2:=(allOk (can_list hcan)).len
   unfold begins
   omega
  have HWB:Hid (-1152921504606846976<=(vpS xs deep).w/\(vpS xs deep).w<=1152921504606846976):=hideP ⟨by have:=hin.w1;omega,by have:=hin.w2;omega⟩
  have HGN:Hid ((vpS xs deep).gs.length<=1048576):=hideP (by have:=hin.n;omega)
  have HROW:Hid (∀W,Below w.heap.size w W->Calls Tryz.prog 93 #[.slice ao n cap,.int .i64 deep] W fun e w'=>(∃u,e = .returned (.tuple #[.int .i64 (vpS xs deep).w,u,.int .i64 (vpS xs deep).h,.int .i64 (vpS xs deep).d])/\w'.ownsRow W.heap.size 34 5 u (vpS xs deep).gs.length (f5 (vpS xs deep).gs))/\Below W.heap.size W w'):=hideP (fun W hW=>(by have h:=specStack_any deep HDP.out (HN.out.below ndStable hW) (allOk (can_list hcan)) (can_in hcan);rw[show spk xs (starts xs (xs.length+1) 0) deep (starts xs (xs.length+1) 0).length=vpS xs deep from spk_all xs deep] at h;exact h))
  have HALL:Hid (vpOk xs deep mode size=(Shr.glsOk (vpS xs deep).gs&&(Shr.fitsB (vpTo xs deep mode size)&&Shr.fitsB (vpS xs deep).w)&&fitsB (vpS xs deep).h&&fitsB (vpS xs deep).d&&(vpL xs deep mode size).all Shr.fitsB)):=hideP (by unfold vpOk;rw[hpk];rfl)
  clear hpk hcan hfs hin hcnt
  go_wp2_with fail
  refine(HROW.out _ HP1.out.bel).mono ?_
  rintro e w2 ⟨⟨u,rfl,hown⟩,hb2⟩
  have HP2:Hid (PB w w2):=hideP (HP1.out.below hb2)
  have HGR:Hid (Shr.GRow w2 u (vpS xs deep).gs):=hideP (own_GRow hown rfl)
  clear hown hb2 HROW HP1
  cases hgl:Shr.glsOk (vpS xs deep).gs with
  | false =>
   have HGL:=hideP hgl
   clear hgl
   go_wp2_with fail
   refine(Shr.along_no _ mode size HGR.out HGN.out HGL.out).mono ?_
   rintro e w3 ⟨rfl,hb3⟩
   have HP3:Hid (PB w w3):=hideP (HP2.out.below hb3)
   clear hb3 HP2
   obtain⟨r0,r1,r2,r3,r4,r5,r6⟩:=pack_cells HP3.out.box
   have fR:∀j,w3.frozen? ⟨w.heap.size,j,none⟩=false:=fun j=>frozen_of_row w3 w.heap.size j _ _ HP3.out.box
   have HF:Hid ((sev w3 w.heap.size (.slice none 0 0) 0 0 0 0 0 0).heap[w.heap.size]?=some (packO (.slice none 0 0) 0 0 0 0 0 0)/\Below w.heap.size w (sev w3 w.heap.size (.slice none 0 0) 0 0 0 0 0 0)):=hideP ⟨sev_heap HP3.out.box _ _ _ _ _ _ _,sev_below HP3.out.bel (Nat.le_refl _) _ _ _ _ _ _ _⟩
   go_wp2
   exact bodyPost_ret (v:=packV (.slice none 0 0) ⟨0,0,0,0,0,0⟩) (results_one_cell rfl _ _ w.heap.size _ rfl (loadPack HF.out.1)) rfl ⟨rfl,HF.out.2⟩
  | true =>
   have HGL:=hideP hgl
   clear hgl
   go_wp2_with fail
   refine(Shr.along_ok _ mode size HGR.out HGL.out HWB.out HFS.out).mono ?_
   rintro e w3 ⟨rfl,hb3⟩
   have HP3:Hid (PB w w3):=hideP (HP2.out.below hb3)
   have HGR3:Hid (Shr.GRow w3 u (vpS xs deep).gs):=hideP (HGR.out.below hb3)
   clear hb3 HP2 HGR
   rw[show Shr.alongI (vpS xs deep).w (vpS xs deep).gs mode size=vpTo xs deep mode size from rfl]
   obtain⟨tt,htt⟩:=exq (vpTo xs deep mode size)
   rw[<-htt]
   have HTT:=hideP htt
   clear htt
   obtain⟨fo,hfo⟩:=exq ((Shr.fitsB tt&&Shr.fitsB (vpS xs deep).w))
   rw[<-hfo]
   have HFO:=hideP hfo
   clear hfo
   cases fo with
   | false =>
    obtain⟨r0,r1,r2,r3,r4,r5,r6⟩:=pack_cells HP3.out.box
    have fR:∀j,w3.frozen? ⟨w.heap.size,j,none⟩=false:=fun j=>frozen_of_row w3 w.heap.size j _ _ HP3.out.box
    have HF:Hid ((sev w3 w.heap.size (.slice none 0 0) 0 0 0 0 0 0).heap[w.heap.size]?=some (packO (.slice none 0 0) 0 0 0 0 0 0)/\Below w.heap.size w (sev w3 w.heap.size (.slice none 0 0) 0 0 0 0 0 0)):=hideP ⟨sev_heap HP3.out.box _ _ _ _ _ _ _,sev_below HP3.out.bel (Nat.le_refl _) _ _ _ _ _ _ _⟩
    go_wp2
    exact bodyPost_ret (v:=packV (.slice none 0 0) ⟨0,0,0,0,0,0⟩) (results_one_cell rfl _ _ w.heap.size _ rfl (loadPack HF.out.1)) rfl ⟨rfl,HF.out.2⟩
   | true =>
    go_wp2_with fail
    refine(specFits_any (vpS xs deep).h _).mono ?_
    rintro e w4 ⟨rfl,rfl⟩
    obtain⟨fh,hfh⟩:=exq (fitsB (vpS xs deep).h)
    rw[<-hfh]
    have HFH:=hideP hfh
    clear hfh
    cases fh with
    | false =>
     obtain⟨r0,r1,r2,r3,r4,r5,r6⟩:=pack_cells HP3.out.box
     have fR:∀j,w4.frozen? ⟨w.heap.size,j,none⟩=false:=fun j=>frozen_of_row w4 w.heap.size j _ _ HP3.out.box
     have HF:Hid ((sev w4 w.heap.size (.slice none 0 0) 0 0 0 0 0 0).heap[w.heap.size]?=some (packO (.slice none 0 0) 0 0 0 0 0 0)/\Below w.heap.size w (sev w4 w.heap.size (.slice none 0 0) 0 0 0 0 0 0)):=hideP ⟨sev_heap HP3.out.box _ _ _ _ _ _ _,sev_below HP3.out.bel (Nat.le_refl _) _ _ _ _ _ _ _⟩
     go_wp2
     exact bodyPost_ret (v:=packV (.slice none 0 0) ⟨0,0,0,0,0,0⟩) (results_one_cell rfl _ _ w.heap.size _ rfl (loadPack HF.out.1)) rfl ⟨rfl,HF.out.2⟩
    | true =>
     go_wp2_with fail
     refine(specFits_any (vpS xs deep).d _).mono ?_
     rintro e w5 ⟨rfl,rfl⟩
     obtain⟨fd,hfd⟩:=exq (fitsB (vpS xs deep).d)
     rw[<-hfd]
     have HFD:=hideP hfd
     clear hfd
     cases fd with
     | false =>
      obtain⟨r0,r1,r2,r3,r4,r5,r6⟩:=pack_cells HP3.out.box
      have fR:∀j,w5.frozen? ⟨w.heap.size,j,none⟩=false:=fun j=>frozen_of_row w5 w.heap.size j _ _ HP3.out.box
      have HF:Hid ((sev w5 w.heap.size (.slice none 0 0) 0 0 0 0 0 0).heap[w.heap.size]?=some (packO (.slice none 0 0) 0 0 0 0 0 0)/\Below w.heap.size w (sev w5 w.heap.size (.slice none 0 0) 0 0 0 0 0 0)):=hideP ⟨sev_heap HP3.out.box _ _ _ _ _ _ _,sev_below HP3.out.bel (Nat.le_refl _) _ _ _ _ _ _ _⟩
      go_wp2
      exact bodyPost_ret (v:=packV (.slice none 0 0) ⟨0,0,0,0,0,0⟩) (results_one_cell rfl _ _ w.heap.size _ rfl (loadPack HF.out.1)) rfl ⟨rfl,HF.out.2⟩
     | true =>
      have HFW:Hid (Shr.fitsB tt=true/\Shr.fitsB (vpS xs deep).w=true):=hideP (by have h:=HFO.out.symm;simpa only[Bool.and_eq_true] using h)
      go_wp2_with fail
      refine(Shr.specShare_ok (vpS xs deep).w tt (vpQ xs deep mode size) HGR3.out HGL.out HFW.out.2 HFW.out.1 (by unfold vpQ;rw[<-HTT.out])).mono ?_
      rintro e w6 ⟨⟨vl,rfl,hrow⟩,hb6⟩
      have HP6:Hid (PB w w6):=hideP (HP3.out.below hb6)
      have HRL:Hid (Shr.Row w6 vl (vpL xs deep mode size)):=hideP hrow
      have HLN:Hid ((vpL xs deep mode size).length<=1048576):=hideP (by unfold vpL;rw[Shr.shareL_length];exact HGN.out)
      clear hb6 hrow HP3
      go_wp2_with fail
      refine(Shr.fitsAll_any (HRL.out.below (below1 _ _)) HLN.out).mono ?_
      rintro e w7 ⟨rfl,hw7⟩
      have HP7:Hid (PB w w7):=hideP (by rw[hw7];exact HP6.out.below (below1 _ _))
      clear hw7 HP6
      obtain⟨fl,hfl⟩:=exq ((vpL xs deep mode size).all Shr.fitsB)
      rw[<-hfl]
      have HFL:=hideP hfl
      clear hfl
      cases fl with
      | false =>
       obtain⟨r0,r1,r2,r3,r4,r5,r6⟩:=pack_cells HP7.out.box
       have fR:∀j,w7.frozen? ⟨w.heap.size,j,none⟩=false:=fun j=>frozen_of_row w7 w.heap.size j _ _ HP7.out.box
       have HF:Hid ((sev w7 w.heap.size (.slice none 0 0) 0 0 0 0 0 0).heap[w.heap.size]?=some (packO (.slice none 0 0) 0 0 0 0 0 0)/\Below w.heap.size w (sev w7 w.heap.size (.slice none 0 0) 0 0 0 0 0 0)):=hideP ⟨sev_heap HP7.out.box _ _ _ _ _ _ _,sev_below HP7.out.bel (Nat.le_refl _) _ _ _ _ _ _ _⟩
       go_wp2
       exact bodyPost_ret (v:=packV (.slice none 0 0) ⟨0,0,0,0,0,0⟩) (results_one_cell rfl _ _ w.heap.size _ rfl (loadPack HF.out.1)) rfl ⟨rfl,HF.out.2⟩
      | true =>
       exfalso
       have h1:=HNO.out
       rw[HALL.out,HGL.out,<-HTT.out,<-HFO.out,<-HFH.out,<-HFD.out,<-HFL.out] at h1
       exact absurd h1 (by decide)
set_option maxRecDepth 20000 in
theorem specVPack_ok {v:Value}{xs:List Nd}{w:World}(deep mode size:Int)(hdp:0<=deep/\deep<=1073741823)(h:NRow 0 w v xs)(hNN:NN 0 w v xs)(hs:xs.length<=1048576)(hyes:vpOk xs deep mode size=true) :
 Calls Tryz.prog 69 #[v,.int .i64 mode,.int .i64 size,.int .i64 deep] w fun e w'=>∃u,e = .returned (packV u (Shr.shareS (vpS xs deep).gs (vpQ xs deep mode size)))/\w'.ownsRow w.heap.size 36 15 u (xs.length+1) (flatN (vpN xs deep mode size))/\Below w.heap.size w w':=by
 have hall:=hyes
 unfold vpOk at hall
 simp only[Bool.and_eq_true] at hall
 obtain⟨⟨⟨⟨⟨hpk,hgl⟩,hft,hfw⟩,hfh⟩,hfd⟩,hfl⟩:=hall
 have HC:Hid (∀W,Below w.heap.size w W->Calls Tryz.prog 86 #[v,.int .i64 mode,.int .i64 size] W fun e w'=>e = .returned (.bool true)/\Below W.heap.size W w'):=hideP (fun W hW=>hpk ▸ specCan_any mode size (h.below ndStable hW) hs)
 have hcan:canB xs=true:=by unfold packB at hpk;simp only[Bool.and_eq_true] at hpk;exact hpk.1.1
 have hfs:fitsB size=true:=by unfold packB at hpk;simp only[Bool.and_eq_true] at hpk;exact hpk.2
 have HN:=hideP h
 have HNN:=hideP hNN
 obtain⟨ao,n,cap,rfl,hl,-⟩:=h
 have HL:=hideP hl
 have HFS:Hid (Shr.fitsB size=true):=hideP hfs
 have hin:SIn (vpS xs deep) (begins xs).length:=vpS_in (can_list hcan) hdp.1
 have hcnt:(begins xs).length<=20000:=by
  have h1:=starts_count (xs:=xs) (xs.length+1) 0
  have h2:=(allOk (can_list hcan)).len
  unfold begins
  omega
 have HWB:Hid (-1152921504606846976<=(vpS xs deep).w/\(vpS xs deep).w<=1152921504606846976):=hideP ⟨by have:=hin.w1;omega,by have:=hin.w2;omega⟩
 have HGN:Hid ((vpS xs deep).gs.length<=1048576):=hideP (by have:=hin.n;omega)
 have HROW:Hid (∀W,Below w.heap.size w W->Calls Tryz.prog 93 #[.slice ao n cap,.int .i64 deep] W fun e w'=>(∃u,e = .returned (.tuple #[.int .i64 (vpS xs deep).w,u,.int .i64 (vpS xs deep).h,.int .i64 (vpS xs deep).d])/\w'.ownsRow W.heap.size 34 5 u (vpS xs deep).gs.length (f5 (vpS xs deep).gs))/\Below W.heap.size W w'):=hideP (fun W hW=>(by have h:=specStack_any deep hdp (HN.out.below ndStable hW) (allOk (can_list hcan)) (can_in hcan);rw[show spk xs (starts xs (xs.length+1) 0) deep (starts xs (xs.length+1) 0).length=vpS xs deep from spk_all xs deep] at h;exact h))
 have HLLEN:Hid ((vpL xs deep mode size).length=(gluesAt xs (starts xs (xs.length+1) 0)).length):=hideP (by
  unfold vpL
  rw[Shr.shareL_length]
  rw[vpS_n];rfl)
 have HSET:Hid (∀W vl,Below w.heap.size w W->Shr.Row W vl (vpL xs deep mode size)->Calls Tryz.prog 92 #[.slice ao n cap,vl] W fun e w'=>∃g c,e = .returned (.slice (some ⟨g,0,none⟩) n c)/\w'.ownsRow W.heap.size 36 15 (.slice (some ⟨g,0,none⟩) n c) n (flatN (setL (gluesAt xs (begins xs)) (vpL xs deep mode size) xs))/\Below W.heap.size W w'):=hideP (fun W vl hW hR=>by
  rcases HNN.out with ⟨hv,hx⟩ | ⟨b,off,cap',hv,hcap,_,hb,hc⟩
  ·cases hv
   subst hx
   have h0:(vpL ([]:List Nd) deep mode size)=[]:=by
    have h1:=HLLEN.out
    exact List.eq_nil_of_length_eq_zero h1
   have h1:=specSet_nil (lv:=vl) (HN.out.below ndStable hW)
   exact h1
  ·have hn2:n=xs.length:=HL.out.symm
   subst hn2
   cases hv
   exact specSet_some (HN.out.below ndStable hW) hcap (allOk (can_list hcan)) (fun hp=>Nat.lt_of_lt_of_le (hb hp) hW.size) (fun j u hj=>by
    have hlt:j<(flatN xs).length:=(List.getElem?_eq_some_iff.1 hj).1
    rw[flatN_len] at hlt
    exact(hW.cell (p:=⟨b,off+j,none⟩) (hb (by omega))).trans (hc j u hj)) hR HLLEN.out)
 have hn:n<=20000:=by rw[<-hl];exact(allOk (can_list hcan)).len
 have HGL:=hideP hgl
 have HFW:Hid (Shr.fitsB (vpTo xs deep mode size)=true/\Shr.fitsB (vpS xs deep).w=true):=hideP ⟨hft,hfw⟩
 have HFH:=hideP hfh
 have HFD:=hideP hfd
 have HFL:=hideP hfl
 have HLN:Hid ((vpL xs deep mode size).length<=1048576):=hideP (by unfold vpL;rw[Shr.shareL_length];exact HGN.out)
 obtain⟨S,hS⟩:=exq (Shr.shareS (vpS xs deep).gs (vpQ xs deep mode size))
 rw[<-hS]
 obtain⟨z0,z1,z2,z3,z4,z5⟩:=S
 have HSV:Hid ((Shr.shareS (vpS xs deep).gs (vpQ xs deep mode size)).v=Shr.setV z0 z1 z2 z3 z4 z5):=hideP (by rw[<-hS])
 obtain⟨L,hLd⟩:=exq (setL (gluesAt xs (begins xs)) (vpL xs deep mode size) xs)
 rw[<-hLd] at HSET
 have HLD:=hideP hLd
 obtain⟨i0,hi,hy0,hy1,hy2⟩:=info_parts Tryz.info57c
 obtain⟨tt,htt⟩:=exq (vpTo xs deep mode size)
 have HTT:=hideP htt
 clear hpk hcan hfs hin hcnt hgl hft hfw hfh hfd hfl hl hNN hyes htt hS hLd
 have hdd1:decide (deep<0)=false:=by simp;omega
 have hdd2:decide ((1073741823:Int)<deep)=false:=by simp;omega
 have hdd3:¬deep<0:=by omega
 have hdd4:¬(1073741823:Int)<deep:=by omega
 clear hdp
 go_enter Tryz.func69,Tryz.ntmps69
 go_wp2_with fail
 refine(HC.out _ (below1 _ _)).mono ?_
 rintro e w1 ⟨rfl,hb1⟩
 have HP1:Hid (PB w w1):=hideP ((PB.start w).below hb1)
 clear hb1 HC
 go_wp2_with fail
 refine(HROW.out _ HP1.out.bel).mono ?_
 rintro e w2 ⟨⟨u,rfl,hown⟩,hb2⟩
 have HP2:Hid (PB w w2):=hideP (HP1.out.below hb2)
 have HGR:Hid (Shr.GRow w2 u (vpS xs deep).gs):=hideP (own_GRow hown rfl)
 clear hown hb2 HROW HP1
 go_wp2_with fail
 refine(Shr.along_ok _ mode size HGR.out HGL.out HWB.out HFS.out).mono ?_
 rintro e w3 ⟨rfl,hb3⟩
 have HP3:Hid (PB w w3):=hideP (HP2.out.below hb3)
 have HGR3:Hid (Shr.GRow w3 u (vpS xs deep).gs):=hideP (HGR.out.below hb3)
 clear hb3 HP2 HGR
 rw[show Shr.alongI (vpS xs deep).w (vpS xs deep).gs mode size=vpTo xs deep mode size from rfl,HFW.out.1,HFW.out.2,<-HTT.out,Bool.and_true]
 go_wp2_with fail
 refine(specFits_any (vpS xs deep).h _).mono ?_
 rintro e w4 ⟨rfl,rfl⟩
 rw[HFH.out]
 go_wp2_with fail
 refine(specFits_any (vpS xs deep).d _).mono ?_
 rintro e w5 ⟨rfl,rfl⟩
 rw[HFD.out]
 go_wp2_with fail
 refine(Shr.specShare_ok (vpS xs deep).w tt (vpQ xs deep mode size) HGR3.out HGL.out HFW.out.2 (by rw[HTT.out];exact HFW.out.1) (by unfold vpQ;rw[<-HTT.out])).mono ?_
 rintro e w6 ⟨⟨vl,rfl,hrow⟩,hb6⟩
 rw[HSV.out]
 have HP6:Hid (PB w w6):=hideP (HP3.out.below hb6)
 have HRL:Hid (Shr.Row w6 vl (vpL xs deep mode size)):=hideP hrow
 clear hb6 hrow HP3 HGR3
 go_wp2_with fail
 refine(Shr.fitsAll_any (HRL.out.below (below1 _ _)) HLN.out).mono ?_
 rintro e w7 ⟨rfl,hw7⟩
 rw[HFL.out]
 go_wp2_with fail
 obtain⟨W8,hW8⟩:=exq ((w6.alloc (.cells #[.int .i64 z0,.int .i64 z1,.int .i64 z2,.int .i64 z3,.int .i64 z4,.int .i64 z5] 28)).alloc (.cells #[.int .i64 7,.int .i64 (vpS xs deep).h,.int .i64 tt,.int .i64 (vpS xs deep).d,.int .i64 0,.int .i64 0,.int .i64 0,.int .i64 0,.int .i64 0,.int .i64 0,.int .i64 0,.int .i64 0,.int .i64 0,.string ⟨#[]⟩,.int .i64 (n:Int)] 36))
 rw[<-hW8]
 have B68:Below w6.heap.size w6 W8:=by rw[hW8];exact below_more (below1 _ _) (below1 _ _) (by simp)
 have HS9:Hid (∀x:World,x.heap[w6.heap.size+1]?=W8.heap[w6.heap.size+1]?->x.heap[w6.heap.size]?=W8.heap[w6.heap.size]?->x.cell? ⟨w6.heap.size+1,0,none⟩=some (.int .i64 7)/\x.cell? ⟨w6.heap.size+1,1,none⟩=some (.int .i64 (vpS xs deep).h)/\x.cell? ⟨w6.heap.size+1,2,none⟩=some (.int .i64 tt)/\x.cell? ⟨w6.heap.size+1,3,none⟩=some (.int .i64 (vpS xs deep).d)/\x.cell? ⟨w6.heap.size+1,4,none⟩=some (.int .i64 0)/\x.cell? ⟨w6.heap.size+1,5,none⟩=some (.int .i64 0)/\x.cell? ⟨w6.heap.size+1,6,none⟩=some (.int .i64 0)/\x.cell? ⟨w6.heap.size+1,7,none⟩=some (.int .i64 0)/\x.cell? ⟨w6.heap.size+1,8,none⟩=some (.int .i64 0)/\x.cell? ⟨w6.heap.size+1,9,none⟩=some (.int .i64 0)/\x.cell? ⟨w6.heap.size+1,10,none⟩=some (.int .i64 0)/\x.cell? ⟨w6.heap.size+1,11,none⟩=some (.int .i64 0)/\x.cell? ⟨w6.heap.size+1,12,none⟩=some (.int .i64 0)/\x.cell? ⟨w6.heap.size+1,13,none⟩=some (.string ⟨#[]⟩)/\x.cell? ⟨w6.heap.size+1,14,none⟩=some (.int .i64 (n:Int))/\x.cell? ⟨w6.heap.size,0,none⟩=some (.int .i64 z0)/\x.cell? ⟨w6.heap.size,1,none⟩=some (.int .i64 z1)/\x.cell? ⟨w6.heap.size,2,none⟩=some (.int .i64 z2)/\x.cell? ⟨w6.heap.size,3,none⟩=some (.int .i64 z3)/\x.cell? ⟨w6.heap.size,4,none⟩=some (.int .i64 z4)/\x.cell? ⟨w6.heap.size,5,none⟩=some (.int .i64 z5)):=hideP (fun x hx1 hx2=>by
  have h1:W8.heap[w6.heap.size+1]?=some (.cells #[.int .i64 7,.int .i64 (vpS xs deep).h,.int .i64 tt,.int .i64 (vpS xs deep).d,.int .i64 0,.int .i64 0,.int .i64 0,.int .i64 0,.int .i64 0,.int .i64 0,.int .i64 0,.int .i64 0,.int .i64 0,.string ⟨#[]⟩,.int .i64 (n:Int)] 36 (0,0)):=by rw[hW8];simpa using heap_alloc_new (w6.alloc (.cells #[.int .i64 z0,.int .i64 z1,.int .i64 z2,.int .i64 z3,.int .i64 z4,.int .i64 z5] 28)) (.cells #[.int .i64 7,.int .i64 (vpS xs deep).h,.int .i64 tt,.int .i64 (vpS xs deep).d,.int .i64 0,.int .i64 0,.int .i64 0,.int .i64 0,.int .i64 0,.int .i64 0,.int .i64 0,.int .i64 0,.int .i64 0,.string ⟨#[]⟩,.int .i64 (n:Int)] 36)
  have h2:W8.heap[w6.heap.size]?=some (.cells #[.int .i64 z0,.int .i64 z1,.int .i64 z2,.int .i64 z3,.int .i64 z4,.int .i64 z5] 28 (0,0)):=by rw[hW8];exact((below1 _ _).block _ (by simp)).trans (heap_alloc_new w6 _)
  have k1:=hx1.trans h1
  have k2:=hx2.trans h2
  refine⟨?_,?_,?_,?_,?_,?_,?_,?_,?_,?_,?_,?_,?_,?_,?_,?_,?_,?_,?_,?_,?_⟩<;>first|exact cell_of_row x _ _ _ 36 _ k1|exact cell_of_row x _ _ _ 28 _ k2)
 have HS8:Hid (∀x,Below W8.heap.size W8 x->x.cell? ⟨w6.heap.size+1,0,none⟩=some (.int .i64 7)/\x.cell? ⟨w6.heap.size+1,1,none⟩=some (.int .i64 (vpS xs deep).h)/\x.cell? ⟨w6.heap.size+1,2,none⟩=some (.int .i64 tt)/\x.cell? ⟨w6.heap.size+1,3,none⟩=some (.int .i64 (vpS xs deep).d)/\x.cell? ⟨w6.heap.size+1,4,none⟩=some (.int .i64 0)/\x.cell? ⟨w6.heap.size+1,5,none⟩=some (.int .i64 0)/\x.cell? ⟨w6.heap.size+1,6,none⟩=some (.int .i64 0)/\x.cell? ⟨w6.heap.size+1,7,none⟩=some (.int .i64 0)/\x.cell? ⟨w6.heap.size+1,8,none⟩=some (.int .i64 0)/\x.cell? ⟨w6.heap.size+1,9,none⟩=some (.int .i64 0)/\x.cell? ⟨w6.heap.size+1,10,none⟩=some (.int .i64 0)/\x.cell? ⟨w6.heap.size+1,11,none⟩=some (.int .i64 0)/\x.cell? ⟨w6.heap.size+1,12,none⟩=some (.int .i64 0)/\x.cell? ⟨w6.heap.size+1,13,none⟩=some (.string ⟨#[]⟩)/\x.cell? ⟨w6.heap.size+1,14,none⟩=some (.int .i64 (n:Int))/\x.cell? ⟨w6.heap.size,0,none⟩=some (.int .i64 z0)/\x.cell? ⟨w6.heap.size,1,none⟩=some (.int .i64 z1)/\x.cell? ⟨w6.heap.size,2,none⟩=some (.int .i64 z2)/\x.cell? ⟨w6.heap.size,3,none⟩=some (.int .i64 z3)/\x.cell? ⟨w6.heap.size,4,none⟩=some (.int .i64 z4)/\x.cell? ⟨w6.heap.size,5,none⟩=some (.int .i64 z5)):=hideP (fun x hx=>by
  have h1:W8.heap[w6.heap.size+1]?=some (.cells #[.int .i64 7,.int .i64 (vpS xs deep).h,.int .i64 tt,.int .i64 (vpS xs deep).d,.int .i64 0,.int .i64 0,.int .i64 0,.int .i64 0,.int .i64 0,.int .i64 0,.int .i64 0,.int .i64 0,.int .i64 0,.string ⟨#[]⟩,.int .i64 (n:Int)] 36 (0,0)):=by rw[hW8];simpa using heap_alloc_new (w6.alloc (.cells #[.int .i64 z0,.int .i64 z1,.int .i64 z2,.int .i64 z3,.int .i64 z4,.int .i64 z5] 28)) (.cells #[.int .i64 7,.int .i64 (vpS xs deep).h,.int .i64 tt,.int .i64 (vpS xs deep).d,.int .i64 0,.int .i64 0,.int .i64 0,.int .i64 0,.int .i64 0,.int .i64 0,.int .i64 0,.int .i64 0,.int .i64 0,.string ⟨#[]⟩,.int .i64 (n:Int)] 36)
  have h2:W8.heap[w6.heap.size]?=some (.cells #[.int .i64 z0,.int .i64 z1,.int .i64 z2,.int .i64 z3,.int .i64 z4,.int .i64 z5] 28 (0,0)):=by rw[hW8];exact((below1 _ _).block _ (by simp)).trans (heap_alloc_new w6 _)
  have k1:=(hx.block _ (glt h1)).trans h1
  have k2:=(hx.block _ (glt h2)).trans h2
  refine⟨?_,?_,?_,?_,?_,?_,?_,?_,?_,?_,?_,?_,?_,?_,?_,?_,?_,?_,?_,?_,?_⟩<;>first|exact cell_of_row x _ _ _ 36 _ k1|exact cell_of_row x _ _ _ 28 _ k2)
 have HB8:Hid (∀x,Below W8.heap.size W8 x->Below w.heap.size w x/\PB w x/\w.heap.size<=W8.heap.size):=hideP (fun x hx=>by
  have h1:=(HP6.out.below B68).below hx
  exact⟨h1.bel,h1,(HP6.out.below B68).bel.size⟩)
 have HC8:Hid (∀x,Below W8.heap.size W8 x->Calls Tryz.prog 92 #[.slice ao n cap,vl] x fun e w'=>∃g c,e = .returned (.slice (some ⟨g,0,none⟩) n c)/\w'.ownsRow x.heap.size 36 15 (.slice (some ⟨g,0,none⟩) n c) n (flatN L)/\Below x.heap.size x w'):=hideP (fun x hx=>HSET.out x vl (HB8.out x hx).1 ((HRL.out.below B68).below hx))
 have HLL:Hid ((flatN L).length=n*15):=hideP (by rw[flatN_len,HLD.out,setL_len,HL.out])
 have hW8le:w.heap.size<=W8.heap.size:=(HB8.out W8 (Below.refl _ _)).2.2
 have HEND:Hid (∀w10 a c,Below W8.heap.size W8 w10->w10.ownsRow w.heap.size 36 15 (.slice a (1+n) c) (1+n) ([.int .i64 7,.int .i64 (vpS xs deep).h,.int .i64 tt,.int .i64 (vpS xs deep).d,.int .i64 0,.int .i64 0,.int .i64 0,.int .i64 0,.int .i64 0,.int .i64 0,.int .i64 0,.int .i64 0,.int .i64 0,.string ⟨#[]⟩,.int .i64 (n:Int)]++flatN L)->(sev w10 w.heap.size (.slice a (1+n) c) z0 z1 z2 z3 z4 z5).ownsRow w.heap.size 36 15 (.slice a (1+n) c) (xs.length+1) (flatN (vpN xs deep mode size))/\(sev w10 w.heap.size (.slice a (1+n) c) z0 z1 z2 z3 z4 z5).heap[w.heap.size]?=some (packO (.slice a (1+n) c) z0 z1 z2 z3 z4 z5)/\Below w.heap.size w (sev w10 w.heap.size (.slice a (1+n) c) z0 z1 z2 z3 z4 z5)):=hideP (fun w10 a c hb ho=>by
  have hP:=(HB8.out w10 hb).2.1
  refine⟨?_,sev_heap hP.box _ _ _ _ _ _ _,sev_below hP.bel (Nat.le_refl _) _ _ _ _ _ _ _⟩
  have h1:=own_sev hP ho (.slice a (1+n) c) z0 z1 z2 z3 z4 z5
  rw[show xs.length+1=1+n by rw[HL.out];omega]
  unfold vpN
  rw[<-HLD.out,<-HTT.out,HL.out]
  exact h1)
 have hw6:w.heap.size<w6.heap.size:=(glt HP6.out.box)
 have hlt8:w6.heap.size+1<W8.heap.size:=by
  have h1:=(HS8.out W8 (Below.refl _ _)).1
  exact World.block_lt_of_cell? _ _ h1
 clear hW8 hw7 HRL HSET HP6
 refine wp_region_held_drew (S:=fun x=>x.cell? ⟨w6.heap.size+1,0,none⟩=some (.int .i64 7)/\x.cell? ⟨w6.heap.size+1,1,none⟩=some (.int .i64 (vpS xs deep).h)/\x.cell? ⟨w6.heap.size+1,2,none⟩=some (.int .i64 tt)/\x.cell? ⟨w6.heap.size+1,3,none⟩=some (.int .i64 (vpS xs deep).d)/\x.cell? ⟨w6.heap.size+1,4,none⟩=some (.int .i64 0)/\x.cell? ⟨w6.heap.size+1,5,none⟩=some (.int .i64 0)/\x.cell? ⟨w6.heap.size+1,6,none⟩=some (.int .i64 0)/\x.cell? ⟨w6.heap.size+1,7,none⟩=some (.int .i64 0)/\x.cell? ⟨w6.heap.size+1,8,none⟩=some (.int .i64 0)/\x.cell? ⟨w6.heap.size+1,9,none⟩=some (.int .i64 0)/\x.cell? ⟨w6.heap.size+1,10,none⟩=some (.int .i64 0)/\x.cell? ⟨w6.heap.size+1,11,none⟩=some (.int .i64 0)/\x.cell? ⟨w6.heap.size+1,12,none⟩=some (.int .i64 0)/\x.cell? ⟨w6.heap.size+1,13,none⟩=some (.string ⟨#[]⟩)/\x.cell? ⟨w6.heap.size+1,14,none⟩=some (.int .i64 (n:Int))/\x.cell? ⟨w6.heap.size,0,none⟩=some (.int .i64 z0)/\x.cell? ⟨w6.heap.size,1,none⟩=some (.int .i64 z1)/\x.cell? ⟨w6.heap.size,2,none⟩=some (.int .i64 z2)/\x.cell? ⟨w6.heap.size,3,none⟩=some (.int .i64 z3)/\x.cell? ⟨w6.heap.size,4,none⟩=some (.int .i64 z4)/\x.cell? ⟨w6.heap.size,5,none⟩=some (.int .i64 z5)) (by kernel_rfl) (HS8.out _ ((Below.refl _ _).drew)) (fun hS=>?_)
 refine tkS (i:=0) (v:= .agg #[.int .i64 7,.int .i64 (vpS xs deep).h,.int .i64 tt,.int .i64 (vpS xs deep).d,.int .i64 0,.int .i64 0,.int .i64 0,.int .i64 0,.int .i64 0,.int .i64 0,.int .i64 0,.int .i64 0,.int .i64 0,.string ⟨#[]⟩,.int .i64 (n:Int)]) rfl hS ?_
 try simp only[sput]
 refine tkS (i:=2) (v:= .slice ao n cap) rfl hS ?_
 try simp only[sput]
 refine tkS (i:=3) (v:=vl) rfl hS ?_
 try simp only[sput]
 refine tkS (i:=6) (v:= .agg #[.int .i64 z0,.int .i64 z1,.int .i64 z2,.int .i64 z3,.int .i64 z4,.int .i64 z5]) rfl hS ?_
 try simp only[sput]
 refine wpAnyH_ready (rs:=[1,4]) (by kernel_rfl) (by simp) ?_
 refine AllReadyH.cons rfl (fun K hK=>?_) (AllReadyH.cons rfl (fun K hK=>?_) AllReadyH.nil)
 ·rw[if_pos (by first|rfl|go_simp)]
  go_simp
  have HBA:Below W8.heap.size W8 (W8.alloc (.cells #[.int .i64 7,.int .i64 (vpS xs deep).h,.int .i64 tt,.int .i64 (vpS xs deep).d,.int .i64 0,.int .i64 0,.int .i64 0,.int .i64 0,.int .i64 0,.int .i64 0,.int .i64 0,.int .i64 0,.int .i64 0,.string ⟨#[]⟩,.int .i64 (n:Int)] 36)).drew:=((Below.refl _ _).alloc (Nat.le_refl _) _).drew
  refine hK.out _ _ (HS8.out _ HBA) (fun hS=>?_)
  try simp only[sput]
  clear hK K
  refine rdS (i:=4) rfl (fun K hK=>?_)
  go_simp
  go_at_call 92
  refine(HC8.out _ HBA).mono ?_
  rintro e w9 ⟨g9,c9,rfl,hown9,hb9⟩
  have HB9:Below W8.heap.size W8 w9:=below_more HBA hb9 (by simp)
  have N9:Hid (∀j u,(flatN L)[j]?=some u->w9.cell? ⟨g9,0+j,none⟩=some u):=hideP (fun j u hj=>by rw[Nat.zero_add];exact(own_cell hown9 hj).1)
  have hsz9:w.heap.size<=w9.heap.size:=Nat.le_trans hW8le HB9.size
  have OWA:Hid (w9.ownsRow w.heap.size 36 15 (.slice (some ⟨W8.heap.size,0,none⟩) 1 1) 1 [.int .i64 7,.int .i64 (vpS xs deep).h,.int .i64 tt,.int .i64 (vpS xs deep).d,.int .i64 0,.int .i64 0,.int .i64 0,.int .i64 0,.int .i64 0,.int .i64 0,.int .i64 0,.int .i64 0,.int .i64 0,.string ⟨#[]⟩,.int .i64 (n:Int)]):=hideP (ownG_below (w:=(W8.alloc (.cells #[.int .i64 7,.int .i64 (vpS xs deep).h,.int .i64 tt,.int .i64 (vpS xs deep).d,.int .i64 0,.int .i64 0,.int .i64 0,.int .i64 0,.int .i64 0,.int .i64 0,.int .i64 0,.int .i64 0,.int .i64 0,.string ⟨#[]⟩,.int .i64 (n:Int)] 36)).drew) (owns_drewG (own_made1 W8 hW8le #[.int .i64 7,.int .i64 (vpS xs deep).h,.int .i64 tt,.int .i64 (vpS xs deep).d,.int .i64 0,.int .i64 0,.int .i64 0,.int .i64 0,.int .i64 0,.int .i64 0,.int .i64 0,.int .i64 0,.int .i64 0,.string ⟨#[]⟩,.int .i64 (n:Int)] rfl)) hb9)
  clear hown9 hb9 HBA
  refine hK.out _ _ (HS8.out _ HB9) (fun hS=>?_)
  try simp only[sput]
  clear hK K
  refine rdS (i:=5) rfl (fun K hK=>?_)
  refine wp_append_own _ _ _ 24 rfl w.heap.size 36 i0 (ndV Nd.none) 15 128 Tryz.underlying24 hi hy0 hy1 hy2 rfl (by decide) (.slice (some ⟨W8.heap.size,0,none⟩) 1 1) 1 [.int .i64 7,.int .i64 (vpS xs deep).h,.int .i64 tt,.int .i64 (vpS xs deep).d,.int .i64 0,.int .i64 0,.int .i64 0,.int .i64 0,.int .i64 0,.int .i64 0,.int .i64 0,.int .i64 0,.int .i64 0,.string ⟨#[]⟩,.int .i64 (n:Int)] rfl OWA.out ⟨g9,0,none⟩ n c9 (flatN L) rfl HLL.out (by intro j u hj;rw[Addr.add_lit];exact N9.out j u hj) (flatN_one L) (by unfold maxLen;omega) (by omega) hsz9 ?_
  intro v10 w10 hown10 hgrow10 hnil10
  obtain⟨a10,c10,rfl⟩:=ownG_shape hown10
  have HB10:Below W8.heap.size W8 w10:=Below.grown HB9 hgrow10 HB9.size (fun k hk=>by simp[Value.ownBlock] at hk;have:=HB9.size;omega)
  have HE10:=hideP (HEND.out w10 a10 c10 HB10 hown10)
  obtain⟨r0,r1,r2,r3,r4,r5,r6⟩:=pack_cells (HB8.out w10 HB10).2.1.box
  have fR:∀j,w10.frozen? ⟨w.heap.size,j,none⟩=false:=fun j=>frozen_of_row w10 w.heap.size j _ _ (HB8.out w10 HB10).2.1.box
  have HS10:=hideP (HS9.out (sev w10 w.heap.size (.slice a10 (1+n) c10) z0 z1 z2 z3 z4 z5) (by rw[sev_other (by omega)];exact HB10.block _ hlt8) (by rw[sev_other (by omega)];exact HB10.block _ (by omega)))
  clear hown10 hgrow10 hnil10
  refine hK.out _ _ (HS8.out _ HB10) (fun hS=>?_)
  try simp only[sput]
  clear hK K
  refine tkS (i:=7) (v:=packV (.slice a10 (1+n) c10) ⟨z0,z1,z2,z3,z4,z5⟩) rfl hS ?_
  try simp only[sput]
  refine rdS (i:=8) rfl (fun K hK=>?_)
  go_simp
  refine hK.out _ _ HS10.out (fun hS=>?_)
  try simp only[sput]
  clear hK K
  refine wpAnyH_done (by kernel_rfl) ?_ _
  go_wp2
  exact bodyPost_ret (v:=packV (.slice a10 (1+n) c10) ⟨z0,z1,z2,z3,z4,z5⟩) (results_one_cell rfl _ _ w.heap.size _ rfl (loadPack HE10.out.2.1)) rfl ⟨_,rfl,HE10.out.1,HE10.out.2.2⟩
 ·rw[if_pos (by first|rfl|go_simp)]
  go_simp
  go_at_call 92
  refine(HC8.out _ ((Below.refl _ _).drew)).mono ?_
  rintro e w9' ⟨g9,c9,rfl,hown9,hb9⟩
  have HB9':Below W8.heap.size W8 w9':=below_more ((Below.refl _ _).drew) hb9 (by simp)
  have hsz9':w.heap.size<=w9'.heap.size:=Nat.le_trans hW8le HB9'.size
  have N9':Hid (∀j u,(flatN L)[j]?=some u->w9'.cell? ⟨g9,0+j,none⟩=some u):=hideP (fun j u hj=>by rw[Nat.zero_add];exact(own_cell hown9 hj).1)
  clear hown9 hb9
  refine hK.out _ _ (HS8.out _ HB9') (fun hS=>?_)
  try simp only[sput]
  clear hK K
  refine rdS (i:=1) rfl (fun K hK=>?_)
  go_simp
  obtain⟨w9,hw9⟩:=exq (w9'.alloc (.cells #[.int .i64 7,.int .i64 (vpS xs deep).h,.int .i64 tt,.int .i64 (vpS xs deep).d,.int .i64 0,.int .i64 0,.int .i64 0,.int .i64 0,.int .i64 0,.int .i64 0,.int .i64 0,.int .i64 0,.int .i64 0,.string ⟨#[]⟩,.int .i64 (n:Int)] 36))
  rw[<-hw9]
  have HB9:Below W8.heap.size W8 w9:=by rw[hw9];exact HB9'.alloc HB9'.size _
  have OWA:Hid (w9.ownsRow w.heap.size 36 15 (.slice (some ⟨w9'.heap.size,0,none⟩) 1 1) 1 [.int .i64 7,.int .i64 (vpS xs deep).h,.int .i64 tt,.int .i64 (vpS xs deep).d,.int .i64 0,.int .i64 0,.int .i64 0,.int .i64 0,.int .i64 0,.int .i64 0,.int .i64 0,.int .i64 0,.int .i64 0,.string ⟨#[]⟩,.int .i64 (n:Int)]):=hideP (by rw[hw9];exact own_made1 w9' hsz9' #[.int .i64 7,.int .i64 (vpS xs deep).h,.int .i64 tt,.int .i64 (vpS xs deep).d,.int .i64 0,.int .i64 0,.int .i64 0,.int .i64 0,.int .i64 0,.int .i64 0,.int .i64 0,.int .i64 0,.int .i64 0,.string ⟨#[]⟩,.int .i64 (n:Int)] rfl)
  have N9:Hid (∀j u,(flatN L)[j]?=some u->w9.cell? ⟨g9,0+j,none⟩=some u):=hideP (fun j u hj=>by rw[hw9];exact Lib.cell?_alloc_some _ (N9'.out j u hj))
  have hsz9:w.heap.size<=w9.heap.size:=Nat.le_trans hW8le HB9.size
  have hsz8:=HB9'.size
  clear hw9 HB9' N9'
  refine hK.out _ _ (HS8.out _ HB9) (fun hS=>?_)
  try simp only[sput]
  clear hK K
  refine rdS (i:=5) rfl (fun K hK=>?_)
  refine wp_append_own _ _ _ 24 rfl w.heap.size 36 i0 (ndV Nd.none) 15 128 Tryz.underlying24 hi hy0 hy1 hy2 rfl (by decide) (.slice (some ⟨w9'.heap.size,0,none⟩) 1 1) 1 [.int .i64 7,.int .i64 (vpS xs deep).h,.int .i64 tt,.int .i64 (vpS xs deep).d,.int .i64 0,.int .i64 0,.int .i64 0,.int .i64 0,.int .i64 0,.int .i64 0,.int .i64 0,.int .i64 0,.int .i64 0,.string ⟨#[]⟩,.int .i64 (n:Int)] rfl OWA.out ⟨g9,0,none⟩ n c9 (flatN L) rfl HLL.out (by intro j u hj;rw[Addr.add_lit];exact N9.out j u hj) (flatN_one L) (by unfold maxLen;omega) (by omega) hsz9 ?_
  intro v10 w10 hown10 hgrow10 hnil10
  obtain⟨a10,c10,rfl⟩:=ownG_shape hown10
  have HB10:Below W8.heap.size W8 w10:=Below.grown HB9 hgrow10 HB9.size (fun k hk=>by simp[Value.ownBlock] at hk;have:=HB9.size;omega)
  have HE10:=hideP (HEND.out w10 a10 c10 HB10 hown10)
  obtain⟨r0,r1,r2,r3,r4,r5,r6⟩:=pack_cells (HB8.out w10 HB10).2.1.box
  have fR:∀j,w10.frozen? ⟨w.heap.size,j,none⟩=false:=fun j=>frozen_of_row w10 w.heap.size j _ _ (HB8.out w10 HB10).2.1.box
  have HS10:=hideP (HS9.out (sev w10 w.heap.size (.slice a10 (1+n) c10) z0 z1 z2 z3 z4 z5) (by rw[sev_other (by omega)];exact HB10.block _ hlt8) (by rw[sev_other (by omega)];exact HB10.block _ (by omega)))
  clear hown10 hgrow10 hnil10
  refine hK.out _ _ (HS8.out _ HB10) (fun hS=>?_)
  try simp only[sput]
  clear hK K
  refine tkS (i:=7) (v:=packV (.slice a10 (1+n) c10) ⟨z0,z1,z2,z3,z4,z5⟩) rfl hS ?_
  try simp only[sput]
  refine rdS (i:=8) rfl (fun K hK=>?_)
  go_simp
  refine hK.out _ _ HS10.out (fun hS=>?_)
  try simp only[sput]
  clear hK K
  refine wpAnyH_done (by kernel_rfl) ?_ _
  go_wp2
  exact bodyPost_ret (v:=packV (.slice a10 (1+n) c10) ⟨z0,z1,z2,z3,z4,z5⟩) (results_one_cell rfl _ _ w.heap.size _ rfl (loadPack HE10.out.2.1)) rfl ⟨_,rfl,HE10.out.1,HE10.out.2.2⟩
end Go.Proofs.YtbbehmcekbnkiaaGreat

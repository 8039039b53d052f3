import Derived.Test.YtbbehmcekbnkiaaGreatVblt
namespace Go.Proofs.YtbbehmcekbnkiaaGreat
set_option maxHeartbeats 8000000
open Go.RowKit
set_option linter.unusedVariables false
set_option linter.unusedSimpArgs false
theorem pack_any {v:Value}{xs:List Nd}{w:World}{R B0:Nat}{g p:Value}(mode size:Int)(B:Bun w R 6 0 (hpS xs).h (hpS xs).d (hpS xs).w g p)(og:w.ownsRow B0 34 5 g (hpS xs).gs.length (f5 (hpS xs).gs))(op:w.ownsRow B0 3 1 p (gluesAt xs (begins xs)).length ((natI (gluesAt xs (begins xs))).map (Value.int .i64)))(hN:NN 0 w v xs)(hl:listB xs=true)(hfs:fitsB size=true) :
 Calls Tryz.prog 32 #[.pointer (some ⟨R,0,none⟩),v,.int .i64 mode,.int .i64 size] w fun e w'=>Below w.heap.size w w'/\PakP xs mode size w.heap.size (prgB xs mode size) e w':=by
 cases h:(decide ((hpS xs).gs.length<=10000)&&fitsB (hpS xs).w&&fitsB (hpTo xs mode size))
 ·exact pack_no mode size B og op hN hl hfs h
 ·exact pack_yes mode size B og op hN hl hfs h
theorem ask_no {xs:List Nd}{mode size:Int}(h:askB xs mode size=false):hpOk xs mode size=false:=by
 have h2:packB xs mode size=false:=by
  cases hp:packB xs mode size with
  | false=>rfl
  | true =>
   unfold packB at hp
   simp only[Bool.and_eq_true] at hp
   unfold askB at h
   rw[hp.1.2,hp.2,can_list hp.1.1] at h
   exact absurd h (by decide)
 unfold hpOk
 rw[h2]
 rfl
set_option maxRecDepth 20000 in
theorem implHPack_any {v:Value}{xs:List Nd}{w:World}(mode size:Int)(hN:NRow 0 w v xs)(hNN:NN 0 w v xs)(hs:xs.length<=1048576) :
 Calls Tryz.prog 10 #[v,.int .i64 mode,.int .i64 size] w fun e w'=>Below w.heap.size w w'/\PakP xs mode size w.heap.size (hpOk xs mode size) e w':=by
 have HC:Hid (∀W,Below w.heap.size w W->Calls Tryz.prog 30 #[v,.int .i64 mode,.int .i64 size] W fun e w'=>e = .returned (.bool (askB xs mode size))/\Below W.heap.size W w'):=hideP (fun W hW=>implCan_any mode size (hN.below ndStable hW) hs)
 have HN:=hideP hN
 have HNN:=hideP hNN
 obtain⟨ok,hok⟩:=exq (askB xs mode size)
 rw[<-hok] at HC
 obtain⟨va,n,vc,rfl,hl,-⟩:=hN
 cases ok with
 | false =>
  have HNO:Hid (hpOk xs mode size=false):=hideP (ask_no hok.symm)
  clear hok hNN
  go_enter Tryz.func10,Tryz.ntmps10
  go_wp2_with fail
  refine(HC.out _ (below1 _ _)).mono ?_
  rintro e w1 ⟨rfl,hb1⟩
  have HP1:Hid (PB w w1):=hideP ((PB.start w).below hb1)
  clear hb1 HC
  obtain⟨r0,r1,r2,r3,r4,r5,r6⟩:=pack_cells HP1.out.box
  have fR:∀j,w1.frozen? ⟨w.heap.size,j,none⟩=false:=fun j=>frozen_of_row w1 w.heap.size j _ _ HP1.out.box
  have HF:Hid ((sev w1 w.heap.size (.slice none 0 0) 0 0 0 0 0 0).heap[w.heap.size]?=some (packO (.slice none 0 0) 0 0 0 0 0 0)/\Below w.heap.size w (sev w1 w.heap.size (.slice none 0 0) 0 0 0 0 0 0)):=hideP ⟨sev_heap HP1.out.box _ _ _ _ _ _ _,sev_below HP1.out.bel (Nat.le_refl _) _ _ _ _ _ _ _⟩
  go_wp2
  exact bodyPost_ret (v:=packV (.slice none 0 0) ⟨0,0,0,0,0,0⟩) (results_one_cell rfl _ _ w.heap.size _ rfl (loadPack HF.out.1)) rfl ⟨HF.out.2,by rw[HNO.out];exact rfl⟩
 | true =>
  have hask:=hok.symm
  have hlist:listB xs=true:=by unfold askB at hask;simp only[Bool.and_eq_true] at hask;exact hask.2
  have hfs:fitsB size=true:=by unfold askB at hask;simp only[Bool.and_eq_true] at hask;exact hask.1.2
  have HPR:Hid (prgB xs mode size=hpOk xs mode size):=hideP (prg_ok hask)
  have HRO:Hid (∀W,Below w.heap.size w W->Calls Tryz.prog 31 #[.slice va n vc] W fun e W'=>(∃g p,e = .returned (.pointer (some ⟨W.heap.size,0,none⟩))/\Bun W' W.heap.size 6 0 (hpS xs).h (hpS xs).d (hpS xs).w g p/\W'.ownsRow W.heap.size 34 5 g (hpS xs).gs.length (f5 (hpS xs).gs)/\W'.ownsRow W.heap.size 3 1 p (gluesAt xs (begins xs)).length ((natI (gluesAt xs (begins xs))).map (Value.int .i64)))/\Below W.heap.size W W'):=hideP (fun W hW=>callsIn_wide.1 (rowOf_in (HN.out.below ndStable hW) (allOk hlist) (list_in hlist) (list_sh hlist)))
  have HPA:Hid (∀(W:World) (R B0:Nat) (g p:Value),Below w.heap.size w W->Bun W R 6 0 (hpS xs).h (hpS xs).d (hpS xs).w g p->W.ownsRow B0 34 5 g (hpS xs).gs.length (f5 (hpS xs).gs)->W.ownsRow B0 3 1 p (gluesAt xs (begins xs)).length ((natI (gluesAt xs (begins xs))).map (Value.int .i64))->Calls Tryz.prog 32 #[.pointer (some ⟨R,0,none⟩),.slice va n vc,.int .i64 mode,.int .i64 size] W fun e w'=>Below W.heap.size W w'/\PakP xs mode size W.heap.size (prgB xs mode size) e w'):=hideP (fun W R B0 g p hW h1 h2 h3=>pack_any mode size h1 h2 h3 (nn_below HNN.out hW) hlist hfs)
  clear hok hNN hask hlist hfs
  go_enter Tryz.func10,Tryz.ntmps10
  go_wp2_with fail
  refine(HC.out _ (below1 _ _)).mono ?_
  rintro e w1 ⟨rfl,hb1⟩
  have HP1:Hid (PB w w1):=hideP ((PB.start w).below hb1)
  clear hb1 HC
  go_wp2_with fail
  refine(HRO.out _ HP1.out.bel).mono ?_
  rintro e w2 ⟨⟨g,p,rfl,hbun,hg,hp⟩,hb2⟩
  have HP2:Hid (PB w w2):=hideP (HP1.out.below hb2)
  have HPK:=hideP (HPA.out w2 _ _ g p HP2.out.bel hbun hg hp)
  obtain⟨R,hR⟩:=exq (w1.heap.size)
  rw[<-hR] at HPK ⊢
  clear hbun hg hp hb2 hR HP1 HRO HPA
  go_wp2_with fail
  refine HPK.out.mono ?_
  rintro e w3 ⟨hb3,hpk⟩
  have HP3:Hid (PB w w3):=hideP (HP2.out.below hb3)
  obtain⟨r0,r1,r2,r3,r4,r5,r6⟩:=pack_cells HP3.out.box
  have fR:∀j,w3.frozen? ⟨w.heap.size,j,none⟩=false:=fun j=>frozen_of_row w3 w.heap.size j _ _ HP3.out.box
  rw[HPR.out] at hpk
  obtain⟨yes,hyes⟩:=exq (hpOk xs mode size)
  rw[<-hyes] at hpk
  have HYE:=hideP hyes
  clear hyes HPR
  cases yes with
  | false =>
   have hpk2:e = .returned (packV (.slice none 0 0) ⟨0,0,0,0,0,0⟩):=hpk
   subst hpk2
   have HF:Hid ((sev w3 w.heap.size (.slice none 0 0) 0 0 0 0 0 0).heap[w.heap.size]?=some (packO (.slice none 0 0) 0 0 0 0 0 0)/\Below w.heap.size w (sev w3 w.heap.size (.slice none 0 0) 0 0 0 0 0 0)):=hideP ⟨sev_heap HP3.out.box _ _ _ _ _ _ _,sev_below HP3.out.bel (Nat.le_refl _) _ _ _ _ _ _ _⟩
   clear hpk hb3 HPK
   go_wp2
   exact bodyPost_ret (v:=packV (.slice none 0 0) ⟨0,0,0,0,0,0⟩) (results_one_cell rfl _ _ w.heap.size _ rfl (loadPack HF.out.1)) rfl ⟨HF.out.2,by rw[<-HYE.out];exact rfl⟩
  | true =>
   obtain⟨u,he,hu⟩:=hpk
   obtain⟨Z,hZ⟩:∃Z,Shr.shareS (hpS xs).gs (hpQ xs mode size)=Z:=⟨_,rfl⟩
   obtain⟨z0,z1,z2,z3,z4,z5⟩:=Z
   rw[hZ] at he
   subst he
   obtain⟨ua,uc,rfl⟩:=ownG_shape hu
   have HF:Hid ((sev w3 w.heap.size (.slice ua (xs.length+1) uc) z0 z1 z2 z3 z4 z5).heap[w.heap.size]?=some (packO (.slice ua (xs.length+1) uc) z0 z1 z2 z3 z4 z5)/\Below w.heap.size w (sev w3 w.heap.size (.slice ua (xs.length+1) uc) z0 z1 z2 z3 z4 z5)/\(sev w3 w.heap.size (.slice ua (xs.length+1) uc) z0 z1 z2 z3 z4 z5).ownsRow w.heap.size 36 15 (.slice ua (xs.length+1) uc) (xs.length+1) (flatN (hpN xs mode size))):=hideP ⟨sev_heap HP3.out.box _ _ _ _ _ _ _,sev_below HP3.out.bel (Nat.le_refl _) _ _ _ _ _ _ _,own_sev HP3.out (ownG_mono hu HP2.out.bel.size) _ _ _ _ _ _ _⟩
   have HZ:=hideP hZ
   obtain⟨N1,hN1⟩:=exq (xs.length+1)
   rw[<-hN1] at HF ⊢
   have HN1:=hideP hN1
   clear hu hb3 HPK hZ hN1
   go_wp2
   exact bodyPost_ret (v:=packV (.slice ua N1 uc) ⟨z0,z1,z2,z3,z4,z5⟩) (results_one_cell rfl _ _ w.heap.size _ rfl (loadPack HF.out.1)) rfl ⟨HF.out.2.1,by rw[<-HYE.out];exact⟨_,by rw[HZ.out],by rw[<-HN1.out];exact HF.out.2.2⟩⟩
set_option maxRecDepth 20000 in
theorem specVPack_out {v:Value}{xs:List Nd}{w:World}(deep mode size:Int)(hdp:¬(0<=deep/\deep<=1073741823))(hN:NRow 0 w v xs)(hs:xs.length<=1048576) :
 Calls Tryz.prog 69 #[v,.int .i64 mode,.int .i64 size,.int .i64 deep] w fun e w'=>e = .returned (packV (.slice none 0 0) ⟨0,0,0,0,0,0⟩)/\Below w.heap.size w w':=by
 have HC:Hid (∀W,Below w.heap.size w W->Calls Tryz.prog 86 #[v,.int .i64 mode,.int .i64 size] W fun e w'=>e = .returned (.bool (packB xs mode size))/\Below W.heap.size W w'):=hideP (fun W hW=>specCan_any mode size (hN.below ndStable hW) hs)
 obtain⟨ok,hok⟩:=exq (packB xs mode size)
 rw[<-hok] at HC
 obtain⟨va,n,vc,rfl,hl,-⟩:=hN
 clear hok
 go_enter Tryz.func69,Tryz.ntmps69
 go_wp2_with fail
 refine(HC.out _ (below1 _ _)).mono ?_
 rintro e w1 ⟨rfl,hb1⟩
 have HP1:Hid (PB w w1):=hideP ((PB.start w).below hb1)
 clear hb1 HC
 have HF:Hid ((sev w1 w.heap.size (.slice none 0 0) 0 0 0 0 0 0).heap[w.heap.size]?=some (packO (.slice none 0 0) 0 0 0 0 0 0)/\Below w.heap.size w (sev w1 w.heap.size (.slice none 0 0) 0 0 0 0 0 0)):=hideP ⟨sev_heap HP1.out.box _ _ _ _ _ _ _,sev_below HP1.out.bel (Nat.le_refl _) _ _ _ _ _ _ _⟩
 obtain⟨r0,r1,r2,r3,r4,r5,r6⟩:=pack_cells HP1.out.box
 have fR:∀j,w1.frozen? ⟨w.heap.size,j,none⟩=false:=fun j=>frozen_of_row w1 w.heap.size j _ _ HP1.out.box
 cases ok with
 | false =>
  clear hdp
  go_wp2
  exact bodyPost_ret (v:=packV (.slice none 0 0) ⟨0,0,0,0,0,0⟩) (results_one_cell rfl _ _ w.heap.size _ rfl (loadPack HF.out.1)) rfl ⟨rfl,HF.out.2⟩
 | true =>
  by_cases h0:deep<0
  ·have hdd1:decide (deep<0)=true:=by simp;omega
   clear hdp
   go_wp2
   exact bodyPost_ret (v:=packV (.slice none 0 0) ⟨0,0,0,0,0,0⟩) (results_one_cell rfl _ _ w.heap.size _ rfl (loadPack HF.out.1)) rfl ⟨rfl,HF.out.2⟩
  ·have hdd1:decide (deep<0)=false:=by simp;omega
   have h1:(1073741823:Int)<deep:=by omega
   have hdd2:decide ((1073741823:Int)<deep)=true:=by simp;omega
   clear hdp
   go_wp2
   exact bodyPost_ret (v:=packV (.slice none 0 0) ⟨0,0,0,0,0,0⟩) (results_one_cell rfl _ _ w.heap.size _ rfl (loadPack HF.out.1)) rfl ⟨rfl,HF.out.2⟩
end Go.Proofs.YtbbehmcekbnkiaaGreat

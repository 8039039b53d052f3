import Derived.Test.YtbbehmcekbnkiaaGreatSsnt
namespace Go.Proofs.YtbbehmcekbnkiaaGreat
open Go.RowKit Go.Shelf
set_option linter.unusedVariables false
set_option linter.unusedSimpArgs false
theorem ItQ.box {S X:World}{a:Option Addr}{m:Nat}{f:Nat->List Nd}(hq:ItQ S a m f){i:Nat}(hi:i<m){b:Nd}{t:List Nd}(he:f i=b :: t)(hX:Below S.heap.size S X) :
 ∃g gu L c,a=some ⟨g,0,none⟩/\g<X.heap.size/\gu<X.heap.size/\X.cell? ⟨g,i,none⟩=some (.slice (some ⟨gu,0,none⟩) (L+1) c)/\L+1<=c/\c<=9223372036854775807/\∀j,j<15->X.cell? ⟨gu,j,none⟩=b.cells[j]?:=by
 obtain⟨g,u,base,h1,h2,h3⟩:=hq i hi
 obtain⟨hc,ho⟩:=h3 X hX
 rw[he] at ho
 obtain⟨gu,c,rfl⟩:=own_some ho (by simp)
 have hcp:=own_cap ho _ _ _ rfl
 exact⟨g,gu,t.length,c,h1,Nat.lt_of_lt_of_le h2 hX.size,(own_lt ho rfl).2.1,hc,hcp.1,hcp.2,(own_cells0 ho).1⟩
theorem twI_one:twI ⟨1,0,0,0,0,0,[⟨[],1⟩]⟩=0:=by kernel_rfl
set_option maxRecDepth 20000 in
set_option maxHeartbeats 16000000 in
theorem tableRows_any (ao:Option Addr)(len cap:Nat)(w:World)(hB:len<=1048576->Bytes w ao len cap)(hl:len<=9223372036854775807) :
 Calls Tryz.prog 7 #[.slice ao len cap] w fun e w'=>e = .returned (.bool true)/\Below w.heap.size w w':=by
 by_cases h0:1048576<len
 ·have hd0:decide (1048576<len)=true:=by simp[h0]
  go_enter Tryz.func7,Tryz.ntmps7
  go_wp2_with fail
  refine(big_any ao len cap w hl).mono ?_
  rintro e w1 ⟨rfl,h1⟩
  have h1:=h1.symm
  subst h1
  rw[hd0]
  go_wp2
  go_ret
  exact⟨rfl,Below.refl _ _⟩
 ·have hd0:decide (1048576<len)=false:=by simp[h0]
  have HB:=hideP (hB (by omega))
  clear hB
  go_enter Tryz.func7,Tryz.ntmps7
  go_wp2_with fail
  refine(big_any ao len cap w hl).mono ?_
  rintro e w1 ⟨rfl,h1⟩
  have h1:=h1.symm
  subst h1
  rw[hd0]
  clear hd0 h0
  go_wp2_with fail
  refine(drawWidths_any ao len cap w HB.out).mono ?_
  rintro e w2 ⟨⟨x,va,vc,rfl,hr,hsm,hl5⟩,hb2⟩
  have B2:Hid (Below w.heap.size w w2):=hideP hb2
  have HR:=hideP hr
  have HSM:=hideP hsm
  clear hb2 hr hsm HB
  obtain⟨q,hq⟩:=exq (x.rs.length)
  rw[<-hq] at hl5 HR
  have HQ:=hideP hq
  have BA:=hideP (below1 w2 (tbO x.co x.gs x.gp x.gpo x.gm x.gmo (.slice va q vc)))
  have hTT:=heap_alloc_new w2 (tbO x.co x.gs x.gp x.gpo x.gm x.gmo (.slice va q vc))
  have HRA:Hid (RRowN 0 (w2.alloc (tbO x.co x.gs x.gp x.gpo x.gm x.gmo (.slice va q vc))) (.slice va q vc) x.rs):=hideP (HR.out.below rwNStable BA.out)
  have B3:Hid (Below w.heap.size w (w2.alloc (tbO x.co x.gs x.gp x.gpo x.gm x.gmo (.slice va q vc)))):=hideP (B2.out.alloc B2.out.size _)
  rw[<-hq]
  clear hq
  go_wp2_with fail
  obtain⟨T,hT⟩:=exq (w2.heap.size)
  rw[<-hT] at hTT
  rw[<-hT]
  generalize World.alloc _ _=W at hTT HRA B3 BA ⊢
  clear hT BA HR B2
  have HTT:=hideP hTT
  clear hTT
  refine(implSetTable_any x HRA.out HSM.out).mono ?_
  rintro e w3 ⟨sa,sc,rfl,hso,hb3⟩
  have B4:Hid (Below w.heap.size w w3):=hideP (below_more B3.out hb3 B3.out.size)
  have HR3:Hid (RRowN 0 w3 (.slice va q vc) x.rs):=hideP (HRA.out.below rwNStable hb3)
  have HT3:=hideP ((hb3.block T (glt HTT.out)).trans HTT.out)
  obtain⟨m,hm⟩:=exq ((stR x).length)
  rw[<-hm] at hso
  rw[<-hm]
  have HM:=hideP hm
  have HSO:=hideP hso
  have hm2:m<=20000:=by rw[hm];exact stR_len x
  clear hb3 B3 HRA HTT hso hm
  go_wp2_with fail
  refine(itemsN (SRow.mono ndStable (own_NRow HSO.out HM.out.symm) (Nat.zero_le _)) (by rw[<-HM.out];omega) (own_cap HSO.out)).mono ?_
  rintro e w5 ⟨⟨ia,ic,rfl,hit⟩,hb5⟩
  have B5:Hid (Below w.heap.size w w5):=hideP (below_more B4.out hb5 B4.out.size)
  have HR5:Hid (RRowN 0 w5 (.slice va q vc) x.rs):=hideP (HR3.out.below rwNStable hb5)
  have HT5:=hideP ((hb5.block T (glt HT3.out)).trans HT3.out)
  have RS:=hideP (rows_set (x:=x))
  obtain⟨k,hk⟩:=exq ((itemsOf (stR x)).length)
  rw[<-hk] at hit RS
  rw[<-hk]
  have HIT:=hideP hit
  clear hb5 B4 HR3 HT3 HSO hit hk hm2
  rcases Nat.eq_zero_or_pos k with hk0|hk0
  ·subst hk0
   go_wp2_with fail
   have RR1:Hid (RRowN 0 (w5.alloc (.cells #[.slice none 0 0,.int .i64 1] 59)) (.slice (some ⟨w5.heap.size,0,none⟩) 1 1) [⟨[],1⟩]):=hideP ⟨_,1,1,rfl,rfl,fun _=>⟨w5.heap.size,0,rfl,Nat.zero_le _,by simp,fun i hi=>by
    obtain rfl:i=0:=by omega
    refine⟨[.slice none 0 0,.int .i64 1],rfl,⟨.slice none 0 0,rfl,⟨none,0,0,rfl,rfl,fun h=>by omega⟩⟩,fun j hj=>?_⟩
    rw[show 0+0*2+j=j by omega,cell_of_row _ _ j _ 59 _ (heap_alloc_new w5 _)]
    simp⟩⟩
   have B6:Hid (Below w.heap.size w (w5.alloc (.cells #[.slice none 0 0,.int .i64 1] 59))):=hideP (below_more B5.out (below1 _ _) B5.out.size)
   refine(implTableWidth_any ⟨1,0,0,0,0,0,[⟨[],1⟩]⟩ RR1.out ⟨by simp,fun i hi=>by
    obtain rfl:i=0:=by simpa using hi
    exact⟨by simp,fun j hj=>by simp at hj⟩⟩).mono ?_
   rintro e w7 ⟨rfl,hb7⟩
   rw[twI_one]
   have B7:Hid (Below w.heap.size w w7):=hideP (below_more B6.out hb7 B6.out.size)
   clear hb7 B6 RR1
   go_wp2_with fail
   refine(implTableOk_any ⟨1,0,0,0,0,0,[]⟩ ⟨none,0,0,rfl,rfl,fun h=>absurd h (by omega)⟩ ⟨by simp,fun i hi=>by simp at hi⟩).mono ?_
   rintro e w8 ⟨rfl,hb8⟩
   have B8:Hid (Below w.heap.size w w8):=hideP (below_more B7.out hb8 B7.out.size)
   clear hb8
   go_wp2
   go_ret
   exact⟨rfl,B8.out⟩
  ·obtain⟨htab,hkq,hrows⟩:=RS.out hk0
   rw[<-HQ.out] at hkq hrows
   subst hkq
   have HTAB:=hideP htab
   have HROWS:=hideP hrows
   have HLE:Hid (∀i,i<k->(x.rs.getD i Rw.none).cs.length<=20):=hideP (fun i hi=>(tab_row htab (by rw[<-HQ.out];exact hi)).le (tabB_parts htab).2.1)
   have HNC:Hid (∀i,i<=k->nCs x.rs i<=20*i):=hideP (fun i hi=>by rw[<-rT_cnt];exact rT_len fun j hj=>HLE.out j (by omega))
   have HWI:Hid (∀W,Below w5.heap.size w5 W->Calls Tryz.prog 25 #[tbV x (.slice va k vc)] W fun e w'=>e = .returned (.int .i64 (twI x))/\Below W.heap.size W w'):=hideP (fun W hW=>implTableWidth_any x (HR5.out.below rwNStable hW) HSM.out)
   have HCI:Hid (∀W,Below w5.heap.size w5 W->Calls Tryz.prog 26 #[tbV x (.slice va k vc)] W fun e w'=>∃a c gs,e = .returned (.slice a gs.length c)/\SSO W.heap.size w' (.slice a gs.length c) (celL x) gs/\Below W.heap.size W w'):=hideP (fun W hW=>implCells_any x (HR5.out.below rwNStable hW) HSM.out)
   have HCL:Hid (celL x=rT x.rs k):=hideP (by unfold celL;rw[if_pos htab,<-HQ.out])
   clear htab hrows RS
   obtain⟨TW,hTW⟩:=exq (twI x)
   rw[<-hTW] at HROWS HWI
   clear hTW
   have t6:=cell_of_row w5 T 6 _ 52 _ HT5.out
   have lT:=(glt HT5.out)
   have hkb:k<=5:=hl5
   have hkz:¬(k:Int)=0:=by omega
   have hkz2:((k:Int) == 0)=false:=by simpa using hkz
   have hkz3:((k:Int) != (k:Int))=false:=by simp
   go_upto_region 9 with fail
   clear t6
   go_wp2_with fail
   go_loopw [5,6] (fun s5 s6 wi=>∃i:Nat,i<=k/\s6 = .int .i64 (i:Int)/\s5 = .int .i64 (nCs x.rs i:Int)/\Hid (Below w5.heap.size w5 wi)) (fun _ s6 _=>k-(intOf s6).toNat)
   case atStart=>exact⟨0,Nat.zero_le _,rfl,rfl,hideP (Below.refl _ _)⟩
   case round =>
    obtain⟨i,hi,rfl,rfl,BI⟩:=hrel
    by_cases hlt:i<k
    ·as_aux_lemma =>
      have hli:(i:Int)<(k:Int):=by omega
      obtain⟨b,t,he,hbk,hbw⟩:=HROWS.out i hlt
      obtain⟨g,gu,L,c,hia,hg,hgu,hc1,hcc,hcd,hcl⟩:=HIT.out.box hlt he BI.out
      subst hia
      have e0:=hcl 0 (by omega)
      have e1:=hcl 1 (by omega)
      simp only[Nd.cells,List.getElem?_cons_zero,List.getElem?_cons_succ] at e0 e1
      rw[hbk] at e0
      rw[hbw] at e1
      have HNI:=HNC.out i hi
      have HLI:=HLE.out i hlt
      obtain⟨ln,hln⟩:=exq ((x.rs.getD i Rw.none).cs.length)
      obtain⟨nc,hnc⟩:=exq (nCs x.rs i)
      have HNX:Hid (nCs x.rs (i+1)=nc+ln):=hideP (by rw[hln,hnc];rfl)
      have HLN:=hideP hln
      rw[<-hln] at HLI
      rw[<-hnc] at HNI ⊢
      clear hln hnc
      have hTT:=(BI.out.block T lT).trans HT5.out
      have s0:=cell_of_row wr T 0 _ 52 _ hTT
      have s1:=cell_of_row wr T 1 _ 52 _ hTT
      have s2:=cell_of_row wr T 2 _ 52 _ hTT
      have s3:=cell_of_row wr T 3 _ 52 _ hTT
      have s4:=cell_of_row wr T 4 _ 52 _ hTT
      have s5:=cell_of_row wr T 5 _ 52 _ hTT
      have s6:=cell_of_row wr T 6 _ 52 _ hTT
      have hL0:(0:Int)<(L:Int)+1:=by omega
      have hS:(fun y:World=>y.cell? ⟨g,i,none⟩=some (.slice (some ⟨gu,0,none⟩) (L+1) c)/\y.cell? ⟨gu,0,none⟩=some (.int .i64 6)/\y.cell? ⟨gu,1,none⟩=some (.int .i64 TW)/\y.cell? ⟨T,0,none⟩=some (.int .i64 x.co)/\y.cell? ⟨T,1,none⟩=some (.int .i64 x.gs)/\y.cell? ⟨T,2,none⟩=some (.int .i64 x.gp)/\y.cell? ⟨T,3,none⟩=some (.int .i64 x.gpo)/\y.cell? ⟨T,4,none⟩=some (.int .i64 x.gm)/\y.cell? ⟨T,5,none⟩=some (.int .i64 x.gmo)/\y.cell? ⟨T,6,none⟩=some (.slice va k vc)/\Below w5.heap.size w5 y) wr.drew:=⟨hc1,e0,e1,s0,s1,s2,s3,s4,s5,s6,Below.drew BI.out⟩
      clear hcl hbk hbw he
      go_upto_region 13 with fail
      refine wp_region_held_drew (S:=fun y=>y.cell? ⟨g,i,none⟩=some (.slice (some ⟨gu,0,none⟩) (L+1) c)/\y.cell? ⟨gu,0,none⟩=some (.int .i64 6)/\y.cell? ⟨gu,1,none⟩=some (.int .i64 TW)/\y.cell? ⟨T,0,none⟩=some (.int .i64 x.co)/\y.cell? ⟨T,1,none⟩=some (.int .i64 x.gs)/\y.cell? ⟨T,2,none⟩=some (.int .i64 x.gp)/\y.cell? ⟨T,3,none⟩=some (.int .i64 x.gpo)/\y.cell? ⟨T,4,none⟩=some (.int .i64 x.gm)/\y.cell? ⟨T,5,none⟩=some (.int .i64 x.gmo)/\y.cell? ⟨T,6,none⟩=some (.slice va k vc)/\Below w5.heap.size w5 y) (by kernel_rfl) hS (fun hS=>?_)
      refine tkS (i:=0) (v:= .slice (some ⟨g,0,none⟩) k ic) rfl hS ?_
      try simp only[sput]
      refine tkS (i:=1) (v:= .int .i64 (i:Int)) rfl hS ?_
      try simp only[sput]
      refine tkS (i:=2) (v:= .pointer (some ⟨g,i,none⟩)) rfl hS ?_
      try simp only[sput]
      refine tkS (i:=3) (v:= .slice (some ⟨gu,0,none⟩) (L+1) c) rfl hS ?_
      try simp only[sput]
      refine tkS (i:=4) (v:= .pointer (some ⟨gu,0,none⟩)) rfl hS ?_
      try simp only[sput]
      refine tkS (i:=5) (v:= .pointer (some ⟨gu,1,none⟩)) rfl hS ?_
      try simp only[sput]
      refine tkS (i:=6) (v:= .int .i64 TW) rfl hS ?_
      try simp only[sput]
      refine tkS (i:=7) (v:= .agg #[.int .i64 x.co,.int .i64 x.gs,.int .i64 x.gp,.int .i64 x.gpo,.int .i64 x.gm,.int .i64 x.gmo,.slice va k vc]) rfl hS ?_
      try simp only[sput]
      refine rdS (i:=8) rfl (fun K hK=>?_)
      go_simp
      go_at_call 25
      refine(HWI.out _ (Below.drew BI.out)).mono ?_
      rintro e w7 ⟨rfl,hb7⟩
      have BI7:Hid (Below w5.heap.size w5 w7):=hideP (below_more (Below.drew BI.out) hb7 (Below.drew BI.out).size)
      have hlw:wr.drew.heap.size=wr.heap.size:=rfl
      refine hK.out _ _ ⟨(hb7.cell (p:=⟨g,i,none⟩) hg).trans hc1,(hb7.cell (p:=⟨gu,0,none⟩) hgu).trans e0,(hb7.cell (p:=⟨gu,1,none⟩) hgu).trans e1,cell_of_row w7 T 0 _ 52 _ ((BI7.out.block T lT).trans HT5.out),cell_of_row w7 T 1 _ 52 _ ((BI7.out.block T lT).trans HT5.out),cell_of_row w7 T 2 _ 52 _ ((BI7.out.block T lT).trans HT5.out),cell_of_row w7 T 3 _ 52 _ ((BI7.out.block T lT).trans HT5.out),cell_of_row w7 T 4 _ 52 _ ((BI7.out.block T lT).trans HT5.out),cell_of_row w7 T 5 _ 52 _ ((BI7.out.block T lT).trans HT5.out),cell_of_row w7 T 6 _ 52 _ ((BI7.out.block T lT).trans HT5.out),BI7.out⟩ (fun hS7=>?_)
      try simp only[sput]
      clear hK K
      refine tkS (i:=9) (v:= .bool false) rfl hS7 ?_
      try simp only[sput]
      refine tkS (i:=10) (v:= .bool false) rfl hS7 ?_
      try simp only[sput]
      refine tkS (i:=11) (v:= .slice (some ⟨g,0,none⟩) k ic) rfl hS7 ?_
      try simp only[sput]
      refine tkS (i:=12) (v:= .int .i64 (i:Int)) rfl hS7 ?_
      try simp only[sput]
      refine tkS (i:=13) (v:= .pointer (some ⟨g,i,none⟩)) rfl hS7 ?_
      try simp only[sput]
      refine tkS (i:=14) (v:= .slice (some ⟨gu,0,none⟩) (L+1) c) rfl hS7 ?_
      try simp only[sput]
      refine tkS (i:=15) (v:= .pointer (some ⟨gu,0,none⟩)) rfl hS7 ?_
      try simp only[sput]
      refine tkS (i:=16) (v:= .pointer (some ⟨gu,0,none⟩)) rfl hS7 ?_
      try simp only[sput]
      refine tkS (i:=17) (v:= .int .i64 6) rfl hS7 ?_
      try simp only[sput]
      refine tkS (i:=18) (v:= .bool false) rfl hS7 ?_
      try simp only[sput]
      refine tkS (i:=19) (v:= .bool false) rfl hS7 ?_
      try simp only[sput]
      refine wpAnyH_done (by kernel_rfl) ?_ _
      have q6:=cell_of_row w7 T 6 _ 52 _ ((BI7.out.block T lT).trans HT5.out)
      obtain⟨rb,ro,ra,rc,rfl,hrb,hrc⟩:=row_at (HR5.out.below rwNStable BI7.out) (i:=i) (by rw[<-HQ.out];exact hlt)
      rw[<-HLN.out] at hrc
      clear hS hS7 hc1 e0 e1 s0 s1 s2 s3 s4 s5 s6 hTT hb7 BI hg hgu
      go_wp2
      go_roundw
      case rel=>exact⟨i+1,by omega,by go_num,by rw[HNX.out];go_num,BI7⟩
      case measure=>simp[intOf];omega
    ·as_aux_lemma =>
      have hli:¬(i:Int)<(k:Int):=by omega
      obtain rfl:k=i:=by omega
      have hTT:=(BI.out.block T lT).trans HT5.out
      have s0:=cell_of_row wr T 0 _ 52 _ hTT
      have s1:=cell_of_row wr T 1 _ 52 _ hTT
      have s2:=cell_of_row wr T 2 _ 52 _ hTT
      have s3:=cell_of_row wr T 3 _ 52 _ hTT
      have s4:=cell_of_row wr T 4 _ 52 _ hTT
      have s5:=cell_of_row wr T 5 _ 52 _ hTT
      have s6:=cell_of_row wr T 6 _ 52 _ hTT
      clear hTT
      go_wp2_with fail
      refine(HCI.out _ BI.out).mono ?_
      rintro e w8 ⟨ca,cc,gs,rfl,hso,hb8⟩
      rw[HCL.out] at hso
      have HSS:=hideP hso
      have B8:Hid (Below w.heap.size w w8):=hideP (below_more B5.out (below_more BI.out hb8 BI.out.size) B5.out.size)
      obtain⟨N,hN⟩:=exq (gs.length)
      rw[<-hN]
      have HN:=hideP hN
      have HNN:Hid (N=nCs x.rs k):=hideP (by rw[hN,hso.len,rT_cnt])
      clear s0 s1 s2 s3 s4 s5 s6 hb8 hso hN BI
      have hNb:N<=100:=by have:=HNC.out k (Nat.le_refl _);have:=HNN.out;omega
      have HAT:Hid (∀j,j<N->∃B G,ca=some ⟨B,0,none⟩/\B<w8.heap.size/\G<w8.heap.size/\w8.cell? ⟨B,j,none⟩=some (.slice (some ⟨G,0,none⟩) 3 3)/\w8.heap[G]?=some (t3O ((rT x.rs k).getD j T3.none))):=hideP (fun j hj=>by
       have h1:=HSS.out.at_ j (by rw[<-HN.out];exact hj)
       obtain⟨hl9,⟨h9,_⟩ | ⟨B,cap9,cur9,h9,hB9,hg9,hn9,hm9,hs9,ht9⟩⟩:=HSS.out.own
       ·simp only[Value.slice.injEq] at h9
        have:=HN.out
        omega
       ·cases h9
        have h2:=World.ownsRow.cellAt (w:=w8) (g:=B) HSS.out.own j (by rw[<-HN.out];omega)
        refine⟨B,gs.getD j 0,rfl,(glt hg9),(glt h1.2),h2.trans ?_,h1.2⟩
        have hj2:j<gs.length:=by rw[<-HN.out];exact hj
        simp[List.getD,List.getElem?_eq_getElem hj2])
      have HRN:Hid (∀j,j<N->_):=hideP (fun j hj=>rT_next x.rs k j (by rw[rT_cnt,<-HNN.out];exact hj))
      have HSP:Hid (∀j,j<N-> -1000<=((rT x.rs k).getD j T3.none).b/\((rT x.rs k).getD j T3.none).b<=1000/\ -1000<=((rT x.rs k).getD j T3.none).c/\((rT x.rs k).getD j T3.none).c<=1000):=hideP (fun j hj=>by
       have h:=rT_bd x.rs (tabB_parts HTAB.out).2.1 k (fun k' hk'=>tab_row HTAB.out (by rw[<-HQ.out];exact hk')) j (by rw[rT_cnt,<-HNN.out];exact hj)
       omega)
      clear HSS HN HCI HWI
      go_wp2_with fail
      go_loopw [8] (fun s8 wi=>∃i:Nat,i<=N/\s8 = .int .i64 (i:Int)/\Hid (Below w8.heap.size w8 wi)) (fun s8 _=>N-(intOf s8).toNat)
      case atStart=>exact⟨0,Nat.zero_le _,rfl,hideP (Below.refl _ _)⟩
      case round =>
       obtain⟨i,hi,rfl,BI⟩:=hrel
       by_cases hlt:i<N
       ·as_aux_lemma =>
         have hli:(i:Int)<(N:Int):=by omega
         obtain⟨B,G,hca,hB,hG,hc,hgb⟩:=HAT.out i hlt
         subst hca
         obtain⟨r1,r2⟩:=HRN.out i hlt
         obtain⟨⟨ta,tb,tc⟩,ht⟩:∃t,t=(rT x.rs k).getD i T3.none:=⟨_,rfl⟩
         rw[<-ht] at r1 r2 hgb
         have c0:=(BI.out.cell (p:=⟨B,i,none⟩) hB).trans hc
         have a0:=cell_of_row wr G 0 _ 2 _ ((BI.out.block G hG).trans hgb)
         have a1:=cell_of_row wr G 1 _ 2 _ ((BI.out.block G hG).trans hgb)
         have a2:=cell_of_row wr G 2 _ 2 _ ((BI.out.block G hG).trans hgb)
         simp only[List.getElem?_toArray,List.getElem?_cons_zero,List.getElem?_cons_succ] at a0 a1 a2
         clear hc hgb
         obtain⟨n1,n2,n3,n4⟩:=HSP.out i hlt
         rw[<-ht] at n1 n2 n3 n4
         have HTE:=hideP ht
         clear ht
         dsimp only at r1 r2 n1 n2 n3 n4 a0 a1 a2
         rcases Nat.eq_zero_or_pos i with hi0|hi0
         ·subst hi0
          obtain rfl:tb=0:=r2 (.inl rfl)
          clear r1 r2
          have hN0:(0:Int)<(N:Int):=by omega
          go_upto_region 20 with fail
          simp only[List.append_eq,List.cons_append,List.nil_append]
          go_quiet (fail)
          go_wp2
          go_roundw
          case rel=>exact⟨1,by omega,by go_num,hideP (below_drewN BI.out _)⟩
          case measure=>simp[intOf];omega
         ·obtain⟨B',G',hca',hB',hG',hc',hgb'⟩:=HAT.out (i-1) (by omega)
          cases hca'
          obtain⟨m1,m2,m3,m4⟩:=HSP.out (i-1) (by omega)
          obtain⟨⟨pa,pb,pc⟩,hp⟩:∃t,t=(rT x.rs k).getD (i-1) T3.none:=⟨_,rfl⟩
          rw[<-hp] at r1 r2 hgb' m1 m2 m3 m4
          obtain⟨p,hpi⟩:=exq (i-1)
          rw[<-hpi] at hc'
          have d0:=(BI.out.cell (p:=⟨B,p,none⟩) hB).trans hc'
          have b0:=cell_of_row wr G' 0 _ 2 _ ((BI.out.block G' hG').trans hgb')
          have b1:=cell_of_row wr G' 1 _ 2 _ ((BI.out.block G' hG').trans hgb')
          have b2:=cell_of_row wr G' 2 _ 2 _ ((BI.out.block G' hG').trans hgb')
          simp only[List.getElem?_toArray,List.getElem?_cons_zero,List.getElem?_cons_succ] at b0 b1 b2
          dsimp only at r1 r2 m1 m2 m3 m4 b0 b1 b2
          have hpN:(p:Int)<(N:Int):=by omega
          have hw1:IntKind.i64.wrap ((i:Int)-1)=(p:Int):=by rw[IntKind.wrap_i64];omega
          have hw2:wrap64 ((i:Int)-1)=(p:Int):=by simp only[wrap64];omega
          have hii:(0:Int)<(i:Int):=by omega
          have hid:decide ((0:Int)<(i:Int))=true:=by simp;omega
          have hiz:((i:Int) == 0)=false:=by simp;omega
          have hw3:IntKind.i64.wrap (pb+pc)=pb+pc:=by rw[IntKind.wrap_i64];omega
          clear hc' hgb' hp hpi HTE
          by_cases hab:ta=pa
          ·obtain rfl:tb=pb+pc:=r1 hi0 hab
           subst hab
           have hbb:(pb+pc != pb+pc)=false:=by simp
           clear r1 r2
           go_upto_region 20 with fail
           simp only[List.append_eq,List.cons_append,List.nil_append]
           go_quiet (fail)
           go_wp2
           go_roundw
           case rel=>exact⟨i+1,by omega,by go_num,hideP (below_drewN BI.out _)⟩
           case measure=>simp[intOf];omega
          ·obtain rfl:tb=0:=r2 (.inr hab)
           have hab1:(ta == pa)=false:=by simpa using hab
           have hab2:(ta != pa)=true:=by simpa using hab
           clear r1 r2
           go_upto_region 20 with fail
           simp only[List.append_eq,List.cons_append,List.nil_append]
           go_quiet (fail)
           go_wp2
           go_roundw
           case rel=>exact⟨i+1,by omega,by go_num,hideP (below_drewN BI.out _)⟩
           case measure=>simp[intOf];omega
       ·as_aux_lemma =>
         have hli:¬(i:Int)<(N:Int):=by omega
         obtain rfl:N=i:=by omega
         have hNe:((N:Int) == (nCs x.rs k:Int))=true:=by rw[HNN.out];simp
         have BW:Hid (Below w.heap.size w wr):=hideP (below_more B8.out BI.out B8.out.size)
         clear BI
         go_wp2
         go_ret
         exact⟨by rw[HNN.out];simp,BW.out⟩
end Go.Proofs.YtbbehmcekbnkiaaGreat

import Derived.Test.YtbbehmcekbnkiaaGreatSumt
import Derived.Test.YtbbehmcekbnkiaaGreatFngt
namespace Go.Proofs.YtbbehmcekbnkiaaGreat.Shr
set_option maxHeartbeats 4000000
set_option maxRecDepth 20000
open Go.RowKit
set_option linter.unusedVariables false
set_option linter.unusedSimpArgs false
theorem specGlues_any {v:Value}{gs:List Gl}{w:World}(h:GRow w v gs)(hn:gs.length<=1048576) :
 Calls Tryz.prog 111 #[v] w fun e w'=>e = .returned (.bool (glsOk gs))/\Below w.heap.size w w':=by
 obtain⟨ao,n,cap,rfl,hl,hr⟩:=h
 rw[hl] at hn
 by_cases hbig:10000<n
 ·have hbi:(10000:Int)<(n:Int):=by omega
  go_enter Tryz.func111,Tryz.ntmps111
  go_wp2
  go_ret
  exact⟨retB (glsOk_long (by omega)).symm,Below.refl _ _⟩
 ·have hbi:¬(10000:Int)<(n:Int):=by omega
  have HR:Hid (0<n->∃b off,ao=some ⟨b,off,none⟩/\b<w.heap.size/\∀i,i<n->w.cell? ⟨b,off+i*5,none⟩=some (.int .i64 (gs.getD i Gl.none).s)/\w.cell? ⟨b,off+i*5+1,none⟩=some (.int .i64 (gs.getD i Gl.none).p)/\w.cell? ⟨b,off+i*5+2,none⟩=some (.int .i64 (gs.getD i Gl.none).po)/\w.cell? ⟨b,off+i*5+3,none⟩=some (.int .i64 (gs.getD i Gl.none).m)/\w.cell? ⟨b,off+i*5+4,none⟩=some (.int .i64 (gs.getD i Gl.none).mo)):=hr
  have HL:Hid (gs.length=n):=hl
  clear hr hl
  go_enter Tryz.func111,Tryz.ntmps111
  go_wp2
  go_loopw [3] (fun s wr=>∃k:Nat,k<=n/\s = .int .i64 k/\(∀j,j<k->(gs.getD j Gl.none).ok=true)/\Below w.heap.size w wr) (fun s _=>n-(intOf s).toNat)
  case atStart=>exact⟨0,by omega,rfl,fun j hj=>by omega,Below.refl _ _⟩
  case round =>
   obtain⟨k,hk,rfl,hok,hbel⟩:=hrel
   have HK:Hid (∀j,j<k->(gs.getD j Gl.none).ok=true):=hok
   have HB:Hid (Below w.heap.size w wr):=hbel
   clear hok hbel
   by_cases hkn:k<n
   ·have hki:(k:Int)<(n:Int):=by omega
    obtain⟨b,off,rfl,hb,hc⟩:=HR (by omega)
    obtain⟨t,ht⟩:=exq (gs.getD k Gl.none)
    obtain⟨hc0,hc1,hc2,hc3,hc4⟩:=hc k hkn
    rw[<-ht] at hc0 hc1 hc2 hc3 hc4
    have g0:=(HB.cell (p:=⟨b,off+k*5,none⟩) hb).trans hc0
    have g1:=(HB.cell (p:=⟨b,off+k*5+1,none⟩) hb).trans hc1
    have g2:=(HB.cell (p:=⟨b,off+k*5+2,none⟩) hb).trans hc2
    have g3:=(HB.cell (p:=⟨b,off+k*5+3,none⟩) hb).trans hc3
    have g4:=(HB.cell (p:=⟨b,off+k*5+4,none⟩) hb).trans hc4
    have HT:Hid (t=gs.getD k Gl.none):=ht
    clear hc hc0 hc1 hc2 hc3 hc4 ht
    go_wp2_with fail
    refine(specGlueOk_any _ _ _ _ _ _).mono ?_
    rintro e w2 ⟨rfl,hb2⟩
    have HB2:Hid (Below w.heap.size w w2):=Below.trans HB (hb2.mono (Below.size HB))
    clear hb2 g0 g1 g2 g3 g4 HB
    obtain⟨ok,hok⟩:=exq (okB t.s t.p t.po t.m t.mo)
    rw[<-hok]
    have HOK:Hid (ok=okB t.s t.p t.po t.m t.mo):=hok
    clear hok
    cases ok
    ·go_wp2
     go_ret
     refine⟨retB (glsOk_no (k:=k) (by rw[show gs.length=n from HL];exact hkn) ?_).symm,HB2⟩
     rw[<-show t=gs.getD k Gl.none from HT]
     exact Eq.symm (show false=okB t.s t.p t.po t.m t.mo from HOK)
    ·go_wp2
     go_roundw
     case rel =>
      refine⟨k+1,by omega,by go_num,fun j hj=>?_,HB2⟩
      by_cases hjk:j=k
      ·subst hjk;rw[<-show t=gs.getD j Gl.none from HT];exact Eq.symm (show true=okB t.s t.p t.po t.m t.mo from HOK)
      ·exact HK j (by omega)
     case measure=>simp[intOf];omega
   ·have hki:¬(k:Int)<(n:Int):=by omega
    go_wp2
    go_ret
    exact⟨retB (glsOk_yes (by rw[show gs.length=n from HL];omega) (fun j hj=>HK j (by have:=(show gs.length=n from HL);omega))).symm,HB⟩
theorem implGlues_any {v:Value}{gs:List Gl}{w:World}(h:GRow w v gs)(hn:gs.length<=1048576) :
 Calls Tryz.prog 81 #[v] w fun e w'=>e = .returned (.bool (glsOk gs))/\Below w.heap.size w w':=by
 obtain⟨ao,n,cap,rfl,hl,hr⟩:=h
 rw[hl] at hn
 by_cases hbig:10000<n
 ·have hbi:(10000:Int)<(n:Int):=by omega
  go_enter Tryz.func81,Tryz.ntmps81
  go_wp2
  go_ret
  exact⟨retB (glsOk_long (by omega)).symm,Below.refl _ _⟩
 ·have hbi:¬(10000:Int)<(n:Int):=by omega
  have HR:Hid (0<n->∃b off,ao=some ⟨b,off,none⟩/\b<w.heap.size/\∀i,i<n->w.cell? ⟨b,off+i*5,none⟩=some (.int .i64 (gs.getD i Gl.none).s)/\w.cell? ⟨b,off+i*5+1,none⟩=some (.int .i64 (gs.getD i Gl.none).p)/\w.cell? ⟨b,off+i*5+2,none⟩=some (.int .i64 (gs.getD i Gl.none).po)/\w.cell? ⟨b,off+i*5+3,none⟩=some (.int .i64 (gs.getD i Gl.none).m)/\w.cell? ⟨b,off+i*5+4,none⟩=some (.int .i64 (gs.getD i Gl.none).mo)):=hr
  have HL:Hid (gs.length=n):=hl
  clear hr hl
  go_enter Tryz.func81,Tryz.ntmps81
  go_wp2
  go_loopw [10] (fun s wr=>∃k:Nat,k<=n/\s = .int .i64 k/\(∀j,j<k->(gs.getD j Gl.none).ok=true)/\Below w.heap.size w wr) (fun s _=>n-(intOf s).toNat)
  case atStart=>exact⟨0,by omega,rfl,fun j hj=>by omega,Below.refl _ _⟩
  case round =>
   obtain⟨k,hk,rfl,hok,hbel⟩:=hrel
   have HK:Hid (∀j,j<k->(gs.getD j Gl.none).ok=true):=hok
   have HB:Hid (Below w.heap.size w wr):=hbel
   clear hok hbel
   by_cases hkn:k<n
   ·have hki:(k:Int)<(n:Int):=by omega
    obtain⟨b,off,rfl,hb,hc⟩:=HR (by omega)
    obtain⟨t,ht⟩:=exq (gs.getD k Gl.none)
    obtain⟨hc0,hc1,hc2,hc3,hc4⟩:=hc k hkn
    rw[<-ht] at hc0 hc1 hc2 hc3 hc4
    have g0:=(HB.cell (p:=⟨b,off+k*5,none⟩) hb).trans hc0
    have g1:=(HB.cell (p:=⟨b,off+k*5+1,none⟩) hb).trans hc1
    have g2:=(HB.cell (p:=⟨b,off+k*5+2,none⟩) hb).trans hc2
    have g3:=(HB.cell (p:=⟨b,off+k*5+3,none⟩) hb).trans hc3
    have g4:=(HB.cell (p:=⟨b,off+k*5+4,none⟩) hb).trans hc4
    have HT:Hid (t=gs.getD k Gl.none):=ht
    clear hc hc0 hc1 hc2 hc3 hc4 ht
    go_wp2_with fail
    refine(implGlueOk_any _ _ _ _ _ _).mono ?_
    rintro e w2 ⟨rfl,hb2⟩
    have HB2:Hid (Below w.heap.size w w2):=Below.trans (Below.alloc HB (Below.size HB) _) (hb2.mono (by have:=Below.size HB;simp;omega))
    clear hb2 g0 g1 g2 g3 g4 HB
    obtain⟨ok,hok⟩:=exq (okB t.s t.p t.po t.m t.mo)
    rw[<-hok]
    have HOK:Hid (ok=okB t.s t.p t.po t.m t.mo):=hok
    clear hok
    cases ok
    ·go_wp2
     go_ret
     refine⟨retB (glsOk_no (k:=k) (by rw[show gs.length=n from HL];exact hkn) ?_).symm,HB2⟩
     rw[<-show t=gs.getD k Gl.none from HT]
     exact Eq.symm (show false=okB t.s t.p t.po t.m t.mo from HOK)
    ·go_wp2
     go_roundw
     case rel =>
      refine⟨k+1,by omega,by go_num,fun j hj=>?_,HB2⟩
      by_cases hjk:j=k
      ·subst hjk;rw[<-show t=gs.getD j Gl.none from HT];exact Eq.symm (show true=okB t.s t.p t.po t.m t.mo from HOK)
      ·exact HK j (by omega)
     case measure=>simp[intOf];omega
   ·have hki:¬(k:Int)<(n:Int):=by omega
    go_wp2
    go_ret
    exact⟨retB (glsOk_yes (by rw[show gs.length=n from HL];omega) (fun j hj=>HK j (by have:=(show gs.length=n from HL);omega))).symm,HB⟩
def sumN (gs:List Gl):Int:=if glsOk gs then siz gs else 0
def sumP (gs:List Gl):List Int:=if glsOk gs then tot Gl.p Gl.po gs else []
def sumM (gs:List Gl):List Int:=if glsOk gs then tot Gl.m Gl.mo gs else []
theorem Tryz.info2:(Tryz.prog.info? 2).map (fun i=>(i.zero,i.size,i.bytes))=some (some (.int .i64 0),1,8):=by kernel_rfl
def Four (w:World)(e g:Nat)(xs:List Int):Prop:=w.heap[g]?=some (.cells (xs.map (Value.int .i64)).toArray e (0,0))/\xs.length=4
theorem Four.cell {w:World}{e g:Nat}{xs:List Int}(h:Four w e g xs)(j:Nat)(hj:j<4):w.cell? ⟨g,j,none⟩=some (.int .i64 (xs.getD j 0)):=by
 rw[cell_of_row w g j _ _ _ h.1]
 simp[List.getElem?_map,List.getD,List.getElem?_eq_getElem (show j<xs.length by have:=h.2;omega)]
theorem Four.free {w:World}{e g:Nat}{xs:List Int}(h:Four w e g xs)(j:Nat):w.frozen? ⟨g,j,none⟩=false:=frozen_of_row w g j _ _ h.1
theorem Four.set {w:World}{e g:Nat}{xs:List Int}(h:Four w e g xs)(j:Nat)(z:Int):Four (w.setCell ⟨g,j,none⟩ (.int .i64 z)) e g (xs.set j z):=by
 refine⟨?_,by rw[List.length_set];exact h.2⟩
 have e1:((xs.set j z).map (Value.int .i64)).toArray=((xs.map (Value.int .i64)).toArray).setIfInBounds j (.int .i64 z):=by
  apply Array.ext'
  simp[Array.toList_setIfInBounds,List.map_set]
 rw[e1]
 exact heap_setCell_same w g j _ _ _ h.1
theorem Four.other {w:World}{e g g':Nat}{xs:List Int}(h:Four w e g xs)(hne:g≠g')(j:Nat)(v:Value):Four (w.setCell ⟨g',j,none⟩ v) e g xs:=⟨(Below.heap_setCell w ⟨g',j,none⟩ v g hne).trans h.1,h.2⟩
theorem Four.lt {w:World}{e g:Nat}{xs:List Int}(h:Four w e g xs):g<w.heap.size:=(glt h.1)
theorem Four.alloc {w:World}{e g:Nat}{xs:List Int}(h:Four w e g xs)(o:Obj):Four (w.alloc o) e g xs:=⟨(Below.heap_alloc w o g h.lt).trans h.1,h.2⟩
theorem Four.drew {w:World}{e g:Nat}{xs:List Int}(h:Four w e g xs):Four w.drew e g xs:=h
theorem Four.below {w w':World}{e g:Nat}{xs:List Int}(h:Four w e g xs)(hb:Below w.heap.size w w'):Four w' e g xs:=⟨(hb.block g h.lt).trans h.1,h.2⟩
theorem Four.row {w:World}{e g cap:Nat}{xs:List Int}(h:Four w e g xs):Row w (.slice (some ⟨g,0,none⟩) 4 cap) xs :=
 ⟨_,4,cap,rfl,h.2,fun _=>⟨g,0,rfl,h.lt,fun i hi=>by rw[Nat.zero_add];exact h.cell i hi⟩⟩
theorem Four.of_own {w:World}{base g:Nat}{xs:List Int}(h:w.ownsRow base 2 1 (.slice (some ⟨g,0,none⟩) 4 4) 4 (xs.map (Value.int .i64))):Four w 2 g xs:=by
 have hl:xs.length=4:=by simpa using h.1
 rcases h.2 with ⟨h',_⟩ | ⟨g',cap',cur,h',_,hg,_,_,hcs,htake⟩
 ·simp at h'
 ·simp only[Value.slice.injEq,Option.some.injEq,Addr.mk.injEq,and_true,true_and] at h'
  obtain⟨rfl,rfl⟩:=h'
  refine⟨?_,hl⟩
  rw[hg,<-htake,List.take_of_length_le (by rw[Array.length_toList];omega)]
theorem Four.of_grown {w w1:World}{e g:Nat}{xs:List Int}{r:Option Nat}(h:Four w e g xs)(hg:w.grownBy w1 r)(hr:∀k,r=some k->g≠k):Four w1 e g xs :=
 ⟨(hg.block g h.lt (fun he=>hr g he.symm rfl)).trans h.1,h.2⟩
theorem made4:(madeCells (Value.cells (.int .i64 0)) (4*1)).toList=([0,0,0,0]:List Int).map (Value.int .i64):=by
 show (madeCells #[Value.int .i64 0] 4).toList=_
 rw[toList_madeCells_one]
 rfl
theorem specSum_any {v:Value}{gs:List Gl}{w:World}(h:GRow w v gs)(hn:gs.length<=1048576) :
 Calls Tryz.prog 110 #[v] w fun e w'=>(∃v1 v2,e = .returned (.tuple #[.int .i64 (sumN gs),v1,v2])/\Row w' v1 (sumP gs)/\Row w' v2 (sumM gs))/\Below w.heap.size w w':=by
 have HG:Hid (GRow w v gs):=h
 obtain⟨ao,n,cap,rfl,hl,hr⟩:=h
 rw[hl] at hn
 have HR:Hid (0<n->∃b off,ao=some ⟨b,off,none⟩/\b<w.heap.size/\∀i,i<n->w.cell? ⟨b,off+i*5,none⟩=some (.int .i64 (gs.getD i Gl.none).s)/\w.cell? ⟨b,off+i*5+1,none⟩=some (.int .i64 (gs.getD i Gl.none).p)/\w.cell? ⟨b,off+i*5+2,none⟩=some (.int .i64 (gs.getD i Gl.none).po)/\w.cell? ⟨b,off+i*5+3,none⟩=some (.int .i64 (gs.getD i Gl.none).m)/\w.cell? ⟨b,off+i*5+4,none⟩=some (.int .i64 (gs.getD i Gl.none).mo)):=hr
 have HL:Hid (gs.length=n):=hl
 clear hr hl
 obtain⟨i0,hi,hz0,hz1,hz2⟩:=info_parts Tryz.info2
 have HI:Hid (i0.bytes=8):=hz2
 clear hz2
 go_enter Tryz.func110,Tryz.ntmps110
 go_wp2_with fail
 refine(specGlues_any HG (by rw[show gs.length=n from HL];exact hn)).mono ?_
 rintro e w1 ⟨rfl,hb1⟩
 have HB1:Hid (Below w.heap.size w w1):=hb1
 clear hb1 HG
 obtain⟨ok,hok⟩:=exq (glsOk gs)
 rw[<-hok]
 have HOK:Hid (ok=glsOk gs):=hok
 clear hok
 cases ok
 ·go_wp2
  go_ret3
  have hf:glsOk gs=false:=Eq.symm (show false=glsOk gs from HOK)
  have e1:sumN gs=0:=by simp[sumN,hf]
  have e2:sumP gs=[]:=by simp[sumP,hf]
  have e3:sumM gs=[]:=by simp[sumM,hf]
  rw[e1,e2,e3]
  refine⟨⟨_,_,rfl,⟨_,0,0,rfl,rfl,fun h=>by omega⟩,⟨_,0,0,rfl,rfl,fun h=>by omega⟩⟩,?_⟩
  exact Below.alloc (Below.alloc HB1 (Below.size HB1) _) (by have:=Below.size HB1;simp;omega) _
 ·have hz:w.heap.size<=w1.heap.size:=Below.size HB1
  go_wp2_with (first
   | (refine wpList_make_full _ rfl _ _ 54 rfl w1.heap.size 2 i0 (.int .i64 0) 1 Tryz.underlying54 hi hz0 hz1 _ _ _ _ 4 rfl rfl rfl rfl (by rw[show i0.bytes=8 from HI];omega) (by unfold maxLen;omega) (Nat.le_refl _) ?_;intro w2 hown2 hgrow2;have f2:Four w2 2 w1.heap.size [0,0,0,0]:=Four.of_own (by rw[<-made4];exact hown2);have B2:Below w.heap.size w w2:=(Below.grown HB1 hgrow2 hz (by simp));have F2:Hid (Four w2 2 w1.heap.size [0,0,0,0]/\Below w.heap.size w w2):=⟨f2,B2⟩;have hz2:w.heap.size<=w2.heap.size:=B2.size;clear f2 B2 hown2 hgrow2)
   | (refine wpList_make_full _ rfl _ _ 54 rfl w2.heap.size 2 i0 (.int .i64 0) 1 Tryz.underlying54 hi hz0 hz1 _ _ _ _ 4 rfl rfl rfl rfl (by rw[show i0.bytes=8 from HI];omega) (by unfold maxLen;omega) (Nat.le_refl _) ?_;intro w3 hown3 hgrow3;have F3:Hid (Four w3 2 w1.heap.size [0,0,0,0]/\Four w3 2 w2.heap.size [0,0,0,0]/\Below w.heap.size w w3):=⟨Four.of_grown F2.1 hgrow3 (by simp),Four.of_own (by rw[<-made4];exact hown3),Below.grown F2.2 hgrow3 hz2 (by simp)⟩;clear hown3 hgrow3))
  obtain⟨P,hP⟩:=exq (w1.heap.size)
  obtain⟨Q,hQ⟩:=exq (w2.heap.size)
  have hPQ:P≠Q:=by have:=F2.1.lt;omega
  have hPw:w.heap.size<=P:=by omega
  have hQw:w.heap.size<=Q:=by omega
  have F0:Hid (Four w3 2 P [0,0,0,0]/\Four w3 2 Q [0,0,0,0]/\Below w.heap.size w w3):=by rw[hP,hQ];exact F3
  rw[<-hP,<-hQ]
  clear hP hQ F2 F3 HB1
  have hgo:glsOk gs=true:=Eq.symm (show true=glsOk gs from HOK)
  have heach:=glsOk_each hgo
  have hn2:n<=10000:=by have:=heach.1;have:=(show gs.length=n from HL);omega
  have HE:Hid (∀k,k<gs.length->(gs.getD k Gl.none).ok=true):=heach.2
  have HBS:Hid (∀k,k<=gs.length-> -(1073741823*(k:Int))<=siz (gs.take k)/\siz (gs.take k)<=1073741823*(k:Int)):=siz_bound gs (fun k hk=>(ok_bounds (HE k hk)).1)
  have HBP:Hid (∀k,k<=gs.length->∀j,-(1073741823*(k:Int))<=(tot Gl.p Gl.po (gs.take k)).getD j 0/\(tot Gl.p Gl.po (gs.take k)).getD j 0<=1073741823*(k:Int)):=tot_bound Gl.p Gl.po gs (fun k hk=>(ok_bounds (HE k hk)).2.1)
  have HBM:Hid (∀k,k<=gs.length->∀j,-(1073741823*(k:Int))<=(tot Gl.m Gl.mo (gs.take k)).getD j 0/\(tot Gl.m Gl.mo (gs.take k)).getD j 0<=1073741823*(k:Int)):=tot_bound Gl.m Gl.mo gs (fun k hk=>(ok_bounds (HE k hk)).2.2.1)
  clear hgo heach
  go_loopw [5,8] (fun s5 s8 wr=>∃k:Nat,k<=n/\s8 = .int .i64 k/\s5 = .int .i64 (siz (gs.take k))/\Four wr 2 P (tot Gl.p Gl.po (gs.take k))/\Four wr 2 Q (tot Gl.m Gl.mo (gs.take k))/\Below w.heap.size w wr) (fun _ s _=>n-(intOf s).toNat)
  case atStart=>exact⟨0,by omega,rfl,rfl,F0.1,F0.2.1,F0.2.2⟩
  case round =>
   obtain⟨k,hk,rfl,rfl,hfp,hfq,hbel⟩:=hrel
   have hlen:gs.length=n:=HL
   by_cases hkn:k<n
   ·have hki:(k:Int)<(n:Int):=by omega
    obtain⟨b,off,rfl,hb,hc⟩:=HR (by omega)
    obtain⟨t,ht⟩:=exq (gs.getD k Gl.none)
    obtain⟨hc0,hc1,hc2,hc3,hc4⟩:=hc k hkn
    rw[<-ht] at hc0 hc1 hc2 hc3 hc4
    have HB:Hid (Below w.heap.size w wr/\True):=⟨hbel,trivial⟩
    have hob:=ok_bounds (HE k (by omega))
    rw[<-ht] at hob
    obtain⟨⟨b1,b2⟩,⟨b3,b4⟩,⟨b5,b6⟩,⟨b7,b8⟩,⟨b9,b10⟩⟩:=hob
    have es:siz (gs.take (k+1))=siz (gs.take k)+t.s:=by rw[take_snoc (by omega),siz_snoc,<-ht]
    have ep:tot Gl.p Gl.po (gs.take (k+1))=(tot Gl.p Gl.po (gs.take k)).set t.po.toNat ((tot Gl.p Gl.po (gs.take k)).getD t.po.toNat 0+t.p):=by rw[take_snoc (by omega),tot_snoc,<-ht]
    have em:tot Gl.m Gl.mo (gs.take (k+1))=(tot Gl.m Gl.mo (gs.take k)).set t.mo.toNat ((tot Gl.m Gl.mo (gs.take k)).getD t.mo.toNat 0+t.m):=by rw[take_snoc (by omega),tot_snoc,<-ht]
    have bs:=HBS k (by omega)
    have bp:=HBP k (by omega) t.po.toNat
    have bm:=HBM k (by omega) t.mo.toNat
    have g0:=(HB.1.cell (p:=⟨b,off+k*5,none⟩) hb).trans hc0
    have g1:=(HB.1.cell (p:=⟨b,off+k*5+1,none⟩) hb).trans hc1
    have g2:=(HB.1.cell (p:=⟨b,off+k*5+2,none⟩) hb).trans hc2
    have g3:=(HB.1.cell (p:=⟨b,off+k*5+3,none⟩) hb).trans hc3
    have g4:=(HB.1.cell (p:=⟨b,off+k*5+4,none⟩) hb).trans hc4
    obtain⟨ts,tp,tpo,tm,tmo⟩:=t
    simp only at *
    obtain⟨o,ho⟩:∃o:Nat,tpo=(o:Int):=⟨tpo.toNat,by omega⟩
    obtain⟨q,hq⟩:∃q:Nat,tmo=(q:Int):=⟨tmo.toNat,by omega⟩
    subst ho
    subst hq
    simp only[Int.toNat_natCast] at ep em bp bm
    obtain⟨S,hS⟩:=exq (siz (gs.take k))
    obtain⟨X,hX⟩:=exq ((tot Gl.p Gl.po (gs.take k)).getD o 0)
    obtain⟨Y,hY⟩:=exq ((tot Gl.m Gl.mo (gs.take k)).getD q 0)
    have ho4:o<4:=by omega
    have hq4:q<4:=by omega
    have cp:=hfp.cell o ho4
    have cq:=hfq.cell q hq4
    rw[<-hX] at cp bp ep
    rw[<-hY] at cq bm em
    rw[<-hS] at bs es ⊢
    have fp:=hfp.free
    have fq:=hfq.free
    have hPl:=hfp.lt
    have hQl:=hfq.lt
    have cpa:(wr.alloc (.cells #[.int .i64 ts,.int .i64 tp,.int .i64 (o:Int),.int .i64 tm,.int .i64 (q:Int)] 34)).cell? ⟨P,o,none⟩=some (.int .i64 X):=(World.cell?_alloc_lt _ _ _ hPl).trans cp
    have cqa:((wr.alloc (.cells #[.int .i64 ts,.int .i64 tp,.int .i64 (o:Int),.int .i64 tm,.int .i64 (q:Int)] 34)).setCell ⟨P,o,none⟩ (.int .i64 (X+tp))).cell? ⟨Q,q,none⟩=some (.int .i64 Y):=(((hfq.alloc _).other (Ne.symm hPQ) o _).cell q hq4).trans (by rw[<-hY])
    have fpa:=(hfp.alloc (.cells #[.int .i64 ts,.int .i64 tp,.int .i64 (o:Int),.int .i64 tm,.int .i64 (q:Int)] 34)).free
    have hw1:IntKind.i64.wrap (S+ts)=S+ts:=by rw[IntKind.wrap_i64];omega
    have hw2:IntKind.i64.wrap (X+tp)=X+tp:=by rw[IntKind.wrap_i64];omega
    have hw3:IntKind.i64.wrap (Y+tm)=Y+tm:=by rw[IntKind.wrap_i64];omega
    have hoi:(o:Int)<4:=by omega
    have hqi:(q:Int)<4:=by omega
    have H1:Hid (siz (gs.take (k+1))=S+ts/\tot Gl.p Gl.po (gs.take (k+1))=(tot Gl.p Gl.po (gs.take k)).set o (X+tp)/\tot Gl.m Gl.mo (gs.take (k+1))=(tot Gl.m Gl.mo (gs.take k)).set q (Y+tm)):=⟨es,ep,em⟩
    have H2:Hid (Four wr 2 P (tot Gl.p Gl.po (gs.take k))/\Four wr 2 Q (tot Gl.m Gl.mo (gs.take k))/\Below w.heap.size w wr):=⟨hfp,hfq,hbel⟩
    clear hc hc0 hc1 hc2 hc3 hc4 ht hbel hfp hfq es ep em hS hX hY bs bp bm HB b1 b2 b3 b4 b5 b6 b7 b8 b9 b10
    go_wp2
    go_region
    all_goals go_wp2
    all_goals go_region
    all_goals go_wp2
    all_goals
     go_roundw
     case rel =>
      refine⟨k+1,by omega,by go_num,by rw[H1.1],?_,?_,?_⟩
      ·rw[H1.2.1];exact(((H2.1.set o (X+tp)).other hPQ q _).alloc _).drew.drew
      ·rw[H1.2.2];exact(((H2.2.1.other (Ne.symm hPQ) o _).set q (Y+tm)).alloc _).drew.drew
      ·exact(((H2.2.2.setCell (p:=⟨P,o,none⟩) hPw _).setCell (p:=⟨Q,q,none⟩) hQw _).alloc (by simp;exact H2.2.2.size) _).drew.drew
     case measure=>simp[intOf];omega
   ·have hki:¬(k:Int)<(n:Int):=by omega
    obtain rfl:k=n:=by omega
    rw[<-hlen,List.take_length] at hfp hfq
    have et:gs.take k=gs:=by rw[<-hlen,List.take_length]
    rw[et]
    have hgo:glsOk gs=true:=Eq.symm (show true=glsOk gs from HOK)
    have e1:sumN gs=siz gs:=by simp[sumN,hgo]
    have e2:sumP gs=tot Gl.p Gl.po gs:=by simp[sumP,hgo]
    have e3:sumM gs=tot Gl.m Gl.mo gs:=by simp[sumM,hgo]
    have H2:Hid ((sumN gs=siz gs/\sumP gs=tot Gl.p Gl.po gs/\sumM gs=tot Gl.m Gl.mo gs)/\Four wr 2 P (tot Gl.p Gl.po gs)/\Four wr 2 Q (tot Gl.m Gl.mo gs)/\Below w.heap.size w wr):=⟨⟨e1,e2,e3⟩,hfp,hfq,hbel⟩
    clear hfp hfq hbel hgo e1 e2 e3 et hlen
    go_wp2
    go_ret3
    rw[H2.1.1,H2.1.2.1,H2.1.2.2]
    exact⟨⟨_,_,rfl,H2.2.1.row,H2.2.2.1.row⟩,H2.2.2.2⟩
theorem four_parts {xs:List Int}(h:xs.length=4):∃a b c d,xs=[a,b,c,d]:=by
 match xs,h with
 | [a,b,c,d],_=>exact⟨a,b,c,d,rfl⟩
theorem plusOf_ex (s p po m mo:Int)(w:World):Calls Tryz.prog 104 #[glueV s p po m mo] w fun e w'=>e = .returned (.agg #[.int .i64 p,.int .i64 po])/\∃c1 c2:Array Value,w'=(w.alloc (.cells c1 34)).alloc (.cells c2 218):=by
 go_enter Tryz.func104,Tryz.ntmps104
 go_wp2
 exact bodyPost_ret (v:= .agg #[.int .i64 p,.int .i64 po]) (by simp[results,Tryz.results104,go_sem]) rfl ⟨rfl,_,_,rfl⟩
theorem plusOf_any (s p po m mo:Int)(w:World):Calls Tryz.prog 104 #[glueV s p po m mo] w fun e w'=>e = .returned (.agg #[.int .i64 p,.int .i64 po])/\Below w.heap.size w w':=by
 refine(plusOf_ex s p po m mo w).mono ?_
 rintro e w' ⟨rfl,c1,c2,rfl⟩
 exact⟨rfl,((Below.refl _ _).alloc (Nat.le_refl _) _).alloc (by simp) _⟩
theorem totalsP_any {v:Value}{gs:List Gl}{w:World}(h:GRow w v gs)(hok:glsOk gs=true) :
 Calls Tryz.prog 103 #[v,.func (.func 104) #[] #[]] w fun e w'=>e = .returned (.agg ((tot Gl.p Gl.po gs).map (Value.int .i64)).toArray)/\Below w.heap.size w w':=by
 obtain⟨ao,n,cap,rfl,hl,hr⟩:=h
 have heach:=glsOk_each hok
 have hn2:n<=10000:=by have:=heach.1;omega
 have HE:Hid (∀k,k<gs.length->(gs.getD k Gl.none).ok=true):=heach.2
 have HBP:Hid (∀k,k<=gs.length->∀j,-(1073741823*(k:Int))<=(tot Gl.p Gl.po (gs.take k)).getD j 0/\(tot Gl.p Gl.po (gs.take k)).getD j 0<=1073741823*(k:Int)):=tot_bound Gl.p Gl.po gs (fun k hk=>(ok_bounds (HE k hk)).2.1)
 have HR:Hid (0<n->∃b off,ao=some ⟨b,off,none⟩/\b<w.heap.size/\∀i,i<n->w.cell? ⟨b,off+i*5,none⟩=some (.int .i64 (gs.getD i Gl.none).s)/\w.cell? ⟨b,off+i*5+1,none⟩=some (.int .i64 (gs.getD i Gl.none).p)/\w.cell? ⟨b,off+i*5+2,none⟩=some (.int .i64 (gs.getD i Gl.none).po)/\w.cell? ⟨b,off+i*5+3,none⟩=some (.int .i64 (gs.getD i Gl.none).m)/\w.cell? ⟨b,off+i*5+4,none⟩=some (.int .i64 (gs.getD i Gl.none).mo)):=hr
 have HL:Hid (gs.length=n):=hl
 clear hr hl hok heach
 go_enter Tryz.func103,Tryz.ntmps103
 go_wp2
 obtain⟨P,hP⟩:=exq (w.heap.size+1)
 obtain⟨R,hR⟩:=exq (w.heap.size)
 have hPR:R≠P:=by omega
 have hPw:w.heap.size<=P:=by omega
 have hRw:w.heap.size<=R:=by omega
 have F0:Hid (Four ((w.alloc (.cells #[.int .i64 0,.int .i64 0,.int .i64 0,.int .i64 0] 197)).alloc (.cells #[.int .i64 0,.int .i64 0,.int .i64 0,.int .i64 0] 197)) 197 R [0,0,0,0]/\Four ((w.alloc (.cells #[.int .i64 0,.int .i64 0,.int .i64 0,.int .i64 0] 197)).alloc (.cells #[.int .i64 0,.int .i64 0,.int .i64 0,.int .i64 0] 197)) 197 P [0,0,0,0]/\Below w.heap.size w ((w.alloc (.cells #[.int .i64 0,.int .i64 0,.int .i64 0,.int .i64 0] 197)).alloc (.cells #[.int .i64 0,.int .i64 0,.int .i64 0,.int .i64 0] 197))):=by
  rw[hP,hR]
  refine⟨Four.alloc (show Four (w.alloc (.cells #[.int .i64 0,.int .i64 0,.int .i64 0,.int .i64 0] 197)) 197 w.heap.size [0,0,0,0] from⟨heap_alloc_new w _,rfl⟩) _,⟨?_,rfl⟩,((Below.refl _ _).alloc (Nat.le_refl _) _).alloc (by simp) _⟩
  simpa using heap_alloc_new (w.alloc (.cells #[.int .i64 0,.int .i64 0,.int .i64 0,.int .i64 0] 197)) (.cells #[.int .i64 0,.int .i64 0,.int .i64 0,.int .i64 0] 197)
 rw[<-hP,<-hR]
 clear hP hR
 go_loopw [11] (fun s wr=>∃k:Nat,k<=n/\s = .int .i64 k/\Four wr 197 R [0,0,0,0]/\Four wr 197 P (tot Gl.p Gl.po (gs.take k))/\Below w.heap.size w wr) (fun s _=>n-(intOf s).toNat)
 case atStart=>exact⟨0,by omega,rfl,F0.1,F0.2.1,F0.2.2⟩
 case round =>
  obtain⟨k,hk,rfl,hfr,hfp,hbel⟩:=hrel
  have hlen:gs.length=n:=HL
  by_cases hkn:k<n
  ·have hki:(k:Int)<(n:Int):=by omega
   obtain⟨b,off,rfl,hb,hc⟩:=HR (by omega)
   obtain⟨t,ht⟩:=exq (gs.getD k Gl.none)
   obtain⟨hc0,hc1,hc2,hc3,hc4⟩:=hc k hkn
   rw[<-ht] at hc0 hc1 hc2 hc3 hc4
   have hob:=ok_bounds (HE k (by omega))
   rw[<-ht] at hob
   obtain⟨⟨b1,b2⟩,⟨b3,b4⟩,⟨b5,b6⟩,⟨b7,b8⟩,⟨b9,b10⟩⟩:=hob
   have ep:tot Gl.p Gl.po (gs.take (k+1))=(tot Gl.p Gl.po (gs.take k)).set t.po.toNat ((tot Gl.p Gl.po (gs.take k)).getD t.po.toNat 0+t.p):=by rw[take_snoc (by omega),tot_snoc,<-ht]
   have bp:=HBP k (by omega) t.po.toNat
   have g0:=(hbel.cell (p:=⟨b,off+k*5,none⟩) hb).trans hc0
   have g1:=(hbel.cell (p:=⟨b,off+k*5+1,none⟩) hb).trans hc1
   have g2:=(hbel.cell (p:=⟨b,off+k*5+2,none⟩) hb).trans hc2
   have g3:=(hbel.cell (p:=⟨b,off+k*5+3,none⟩) hb).trans hc3
   have g4:=(hbel.cell (p:=⟨b,off+k*5+4,none⟩) hb).trans hc4
   obtain⟨ts,tp,tpo,tm,tmo⟩:=t
   simp only at *
   obtain⟨o,ho⟩:∃o:Nat,tpo=(o:Int):=⟨tpo.toNat,by omega⟩
   subst ho
   simp only[Int.toNat_natCast] at ep bp
   obtain⟨X,hX⟩:=exq ((tot Gl.p Gl.po (gs.take k)).getD o 0)
   rw[<-hX] at bp ep
   have ho4:o<4:=by omega
   have hoi:(o:Int)<4:=by omega
   have hw2:IntKind.i64.wrap (X+tp)=X+tp:=by rw[IntKind.wrap_i64];omega
   have H1:Hid (tot Gl.p Gl.po (gs.take (k+1))=(tot Gl.p Gl.po (gs.take k)).set o (X+tp)/\X=(tot Gl.p Gl.po (gs.take k)).getD o 0):=⟨ep,hX⟩
   have H2:Hid (Four wr 197 R [0,0,0,0]/\Four wr 197 P (tot Gl.p Gl.po (gs.take k))/\Below w.heap.size w wr):=⟨hfr,hfp,hbel⟩
   clear hc hc0 hc1 hc2 hc3 hc4 ht hbel hfp hfr ep hX bp b1 b2 b3 b4 b5 b6 b7 b8 b9 b10
   go_wp2_with fail
   refine(plusOf_any _ _ _ _ _ _).mono ?_
   rintro e w2 ⟨rfl,hb2⟩
   have r2:=Four.below (H2.1.alloc _) hb2
   have p2:=Four.below (H2.2.1.alloc _) hb2
   have B2:Below w.heap.size w w2:=(H2.2.2.alloc H2.2.2.size _).trans (hb2.mono (by have:=H2.2.2.size;simp;omega))
   have cp:=p2.cell o ho4
   rw[<-H1.2] at cp
   have fp:=p2.free
   have hPl:=p2.lt
   have H3:Hid (Four w2 197 R [0,0,0,0]/\Four w2 197 P (tot Gl.p Gl.po (gs.take k))/\Below w.heap.size w w2):=⟨r2,p2,B2⟩
   clear r2 p2 B2 hb2 H2 g0 g1 g2 g3 g4
   go_wp2
   go_region
   all_goals go_wp2
   all_goals
    go_roundw
    case rel =>
     refine⟨k+1,by omega,by go_num,?_,?_,?_⟩
     ·exact((H3.1.other hPR o _).alloc _).drew
     ·rw[H1.1];exact((H3.2.1.set o (X+tp)).alloc _).drew
     ·exact((H3.2.2.setCell (p:=⟨P,o,none⟩) hPw _).alloc (by simp;exact H3.2.2.size) _).drew
    case measure=>simp[intOf];omega
  ·have hki:¬(k:Int)<(n:Int):=by omega
   obtain rfl:k=n:=by omega
   rw[<-hlen,List.take_length] at hfp
   obtain⟨x0,x1,x2,x3,hx⟩:=four_parts (tot_length Gl.p Gl.po gs)
   rw[hx] at hfp
   have HX:Hid (tot Gl.p Gl.po gs=[x0,x1,x2,x3]):=hx
   have p0:wr.cell? ⟨P,0,none⟩=some (.int .i64 x0):=hfp.cell 0 (by omega)
   have p1:wr.cell? ⟨P,1,none⟩=some (.int .i64 x1):=hfp.cell 1 (by omega)
   have p2:wr.cell? ⟨P,2,none⟩=some (.int .i64 x2):=hfp.cell 2 (by omega)
   have p3:wr.cell? ⟨P,3,none⟩=some (.int .i64 x3):=hfp.cell 3 (by omega)
   have q0:wr.cell? ⟨R,0,none⟩=some (.int .i64 0):=hfr.cell 0 (by omega)
   have q1:wr.cell? ⟨R,1,none⟩=some (.int .i64 0):=hfr.cell 1 (by omega)
   have q2:wr.cell? ⟨R,2,none⟩=some (.int .i64 0):=hfr.cell 2 (by omega)
   have q3:wr.cell? ⟨R,3,none⟩=some (.int .i64 0):=hfr.cell 3 (by omega)
   have fr:=hfr.free
   have s1:=(((hfr.set 0 x0).set 1 x1).set 2 x2).set 3 x3
   have c0:=s1.cell 0 (by omega)
   have c1:=s1.cell 1 (by omega)
   have c2:=s1.cell 2 (by omega)
   have c3:=s1.cell 3 (by omega)
   have HF:Hid (Below w.heap.size w ((((wr.setCell ⟨R,0,none⟩ (.int .i64 x0)).setCell ⟨R,1,none⟩ (.int .i64 x1)).setCell ⟨R,2,none⟩ (.int .i64 x2)).setCell ⟨R,3,none⟩ (.int .i64 x3))/\True):=⟨(((hbel.setCell (p:=⟨R,0,none⟩) hRw _).setCell (p:=⟨R,1,none⟩) hRw _).setCell (p:=⟨R,2,none⟩) hRw _).setCell (p:=⟨R,3,none⟩) hRw _,trivial⟩
   clear hfp hfr hbel s1 hx
   go_wp2
   refine bodyPost_ret (v:= .agg #[.int .i64 x0,.int .i64 x1,.int .i64 x2,.int .i64 x3]) ?_ rfl ⟨by rw[show tot Gl.p Gl.po gs=[x0,x1,x2,x3] from HX];rfl,HF.1⟩
   simp[results,Tryz.results103,go_sem,c0,c1,c2,c3] at *
   try simp[c0,c1,c2,c3]
theorem minusOf_ex (s p po m mo:Int)(w:World):Calls Tryz.prog 105 #[glueV s p po m mo] w fun e w'=>e = .returned (.agg #[.int .i64 m,.int .i64 mo])/\∃c1 c2:Array Value,w'=(w.alloc (.cells c1 34)).alloc (.cells c2 218):=by
 go_enter Tryz.func105,Tryz.ntmps105
 go_wp2
 exact bodyPost_ret (v:= .agg #[.int .i64 m,.int .i64 mo]) (by simp[results,Tryz.results105,go_sem]) rfl ⟨rfl,_,_,rfl⟩
theorem minusOf_any (s p po m mo:Int)(w:World):Calls Tryz.prog 105 #[glueV s p po m mo] w fun e w'=>e = .returned (.agg #[.int .i64 m,.int .i64 mo])/\Below w.heap.size w w':=by
 refine(minusOf_ex s p po m mo w).mono ?_
 rintro e w' ⟨rfl,c1,c2,rfl⟩
 exact⟨rfl,((Below.refl _ _).alloc (Nat.le_refl _) _).alloc (by simp) _⟩
theorem totalsM_any {v:Value}{gs:List Gl}{w:World}(h:GRow w v gs)(hok:glsOk gs=true) :
 Calls Tryz.prog 103 #[v,.func (.func 105) #[] #[]] w fun e w'=>e = .returned (.agg ((tot Gl.m Gl.mo gs).map (Value.int .i64)).toArray)/\Below w.heap.size w w':=by
 obtain⟨ao,n,cap,rfl,hl,hr⟩:=h
 have heach:=glsOk_each hok
 have hn2:n<=10000:=by have:=heach.1;omega
 have HE:Hid (∀k,k<gs.length->(gs.getD k Gl.none).ok=true):=heach.2
 have HBP:Hid (∀k,k<=gs.length->∀j,-(1073741823*(k:Int))<=(tot Gl.m Gl.mo (gs.take k)).getD j 0/\(tot Gl.m Gl.mo (gs.take k)).getD j 0<=1073741823*(k:Int)):=tot_bound Gl.m Gl.mo gs (fun k hk=>(ok_bounds (HE k hk)).2.2.1)
 have HR:Hid (0<n->∃b off,ao=some ⟨b,off,none⟩/\b<w.heap.size/\∀i,i<n->w.cell? ⟨b,off+i*5,none⟩=some (.int .i64 (gs.getD i Gl.none).s)/\w.cell? ⟨b,off+i*5+1,none⟩=some (.int .i64 (gs.getD i Gl.none).p)/\w.cell? ⟨b,off+i*5+2,none⟩=some (.int .i64 (gs.getD i Gl.none).po)/\w.cell? ⟨b,off+i*5+3,none⟩=some (.int .i64 (gs.getD i Gl.none).m)/\w.cell? ⟨b,off+i*5+4,none⟩=some (.int .i64 (gs.getD i Gl.none).mo)):=hr
 have HL:Hid (gs.length=n):=hl
 clear hr hl hok heach
 go_enter Tryz.func103,Tryz.ntmps103
 go_wp2
 obtain⟨P,hP⟩:=exq (w.heap.size+1)
 obtain⟨R,hR⟩:=exq (w.heap.size)
 have hPR:R≠P:=by omega
 have hPw:w.heap.size<=P:=by omega
 have hRw:w.heap.size<=R:=by omega
 have F0:Hid (Four ((w.alloc (.cells #[.int .i64 0,.int .i64 0,.int .i64 0,.int .i64 0] 197)).alloc (.cells #[.int .i64 0,.int .i64 0,.int .i64 0,.int .i64 0] 197)) 197 R [0,0,0,0]/\Four ((w.alloc (.cells #[.int .i64 0,.int .i64 0,.int .i64 0,.int .i64 0] 197)).alloc (.cells #[.int .i64 0,.int .i64 0,.int .i64 0,.int .i64 0] 197)) 197 P [0,0,0,0]/\Below w.heap.size w ((w.alloc (.cells #[.int .i64 0,.int .i64 0,.int .i64 0,.int .i64 0] 197)).alloc (.cells #[.int .i64 0,.int .i64 0,.int .i64 0,.int .i64 0] 197))):=by
  rw[hP,hR]
  refine⟨Four.alloc (show Four (w.alloc (.cells #[.int .i64 0,.int .i64 0,.int .i64 0,.int .i64 0] 197)) 197 w.heap.size [0,0,0,0] from⟨heap_alloc_new w _,rfl⟩) _,⟨?_,rfl⟩,((Below.refl _ _).alloc (Nat.le_refl _) _).alloc (by simp) _⟩
  simpa using heap_alloc_new (w.alloc (.cells #[.int .i64 0,.int .i64 0,.int .i64 0,.int .i64 0] 197)) (.cells #[.int .i64 0,.int .i64 0,.int .i64 0,.int .i64 0] 197)
 rw[<-hP,<-hR]
 clear hP hR
 go_loopw [11] (fun s wr=>∃k:Nat,k<=n/\s = .int .i64 k/\Four wr 197 R [0,0,0,0]/\Four wr 197 P (tot Gl.m Gl.mo (gs.take k))/\Below w.heap.size w wr) (fun s _=>n-(intOf s).toNat)
 case atStart=>exact⟨0,by omega,rfl,F0.1,F0.2.1,F0.2.2⟩
 case round =>
  obtain⟨k,hk,rfl,hfr,hfp,hbel⟩:=hrel
  have hlen:gs.length=n:=HL
  by_cases hkn:k<n
  ·have hki:(k:Int)<(n:Int):=by omega
   obtain⟨b,off,rfl,hb,hc⟩:=HR (by omega)
   obtain⟨t,ht⟩:=exq (gs.getD k Gl.none)
   obtain⟨hc0,hc1,hc2,hc3,hc4⟩:=hc k hkn
   rw[<-ht] at hc0 hc1 hc2 hc3 hc4
   have hob:=ok_bounds (HE k (by omega))
   rw[<-ht] at hob
   obtain⟨⟨b1,b2⟩,⟨b3,b4⟩,⟨b5,b6⟩,⟨b7,b8⟩,⟨b9,b10⟩⟩:=hob
   have ep:tot Gl.m Gl.mo (gs.take (k+1))=(tot Gl.m Gl.mo (gs.take k)).set t.mo.toNat ((tot Gl.m Gl.mo (gs.take k)).getD t.mo.toNat 0+t.m):=by rw[take_snoc (by omega),tot_snoc,<-ht]
   have bp:=HBP k (by omega) t.mo.toNat
   have g0:=(hbel.cell (p:=⟨b,off+k*5,none⟩) hb).trans hc0
   have g1:=(hbel.cell (p:=⟨b,off+k*5+1,none⟩) hb).trans hc1
   have g2:=(hbel.cell (p:=⟨b,off+k*5+2,none⟩) hb).trans hc2
   have g3:=(hbel.cell (p:=⟨b,off+k*5+3,none⟩) hb).trans hc3
   have g4:=(hbel.cell (p:=⟨b,off+k*5+4,none⟩) hb).trans hc4
   obtain⟨ts,tp,tpo,tm,tmo⟩:=t
   simp only at *
   obtain⟨o,ho⟩:∃o:Nat,tmo=(o:Int):=⟨tmo.toNat,by omega⟩
   subst ho
   simp only[Int.toNat_natCast] at ep bp
   obtain⟨X,hX⟩:=exq ((tot Gl.m Gl.mo (gs.take k)).getD o 0)
   rw[<-hX] at bp ep
   have ho4:o<4:=by omega
   have hoi:(o:Int)<4:=by omega
   have hw2:IntKind.i64.wrap (X+tm)=X+tm:=by rw[IntKind.wrap_i64];omega
   have H1:Hid (tot Gl.m Gl.mo (gs.take (k+1))=(tot Gl.m Gl.mo (gs.take k)).set o (X+tm)/\X=(tot Gl.m Gl.mo (gs.take k)).getD o 0):=⟨ep,hX⟩
   have H2:Hid (Four wr 197 R [0,0,0,0]/\Four wr 197 P (tot Gl.m Gl.mo (gs.take k))/\Below w.heap.size w wr):=⟨hfr,hfp,hbel⟩
   clear hc hc0 hc1 hc2 hc3 hc4 ht hbel hfp hfr ep hX bp b1 b2 b3 b4 b5 b6 b7 b8 b9 b10
   go_wp2_with fail
   refine(minusOf_any _ _ _ _ _ _).mono ?_
   rintro e w2 ⟨rfl,hb2⟩
   have r2:=Four.below (H2.1.alloc _) hb2
   have p2:=Four.below (H2.2.1.alloc _) hb2
   have B2:Below w.heap.size w w2:=(H2.2.2.alloc H2.2.2.size _).trans (hb2.mono (by have:=H2.2.2.size;simp;omega))
   have cp:=p2.cell o ho4
   rw[<-H1.2] at cp
   have fp:=p2.free
   have hPl:=p2.lt
   have H3:Hid (Four w2 197 R [0,0,0,0]/\Four w2 197 P (tot Gl.m Gl.mo (gs.take k))/\Below w.heap.size w w2):=⟨r2,p2,B2⟩
   clear r2 p2 B2 hb2 H2 g0 g1 g2 g3 g4
   go_wp2
   go_region
   all_goals go_wp2
   all_goals
    go_roundw
    case rel =>
     refine⟨k+1,by omega,by go_num,?_,?_,?_⟩
     ·exact((H3.1.other hPR o _).alloc _).drew
     ·rw[H1.1];exact((H3.2.1.set o (X+tm)).alloc _).drew
     ·exact((H3.2.2.setCell (p:=⟨P,o,none⟩) hPw _).alloc (by simp;exact H3.2.2.size) _).drew
    case measure=>simp[intOf];omega
  ·have hki:¬(k:Int)<(n:Int):=by omega
   obtain rfl:k=n:=by omega
   rw[<-hlen,List.take_length] at hfp
   obtain⟨x0,x1,x2,x3,hx⟩:=four_parts (tot_length Gl.m Gl.mo gs)
   rw[hx] at hfp
   have HX:Hid (tot Gl.m Gl.mo gs=[x0,x1,x2,x3]):=hx
   have p0:wr.cell? ⟨P,0,none⟩=some (.int .i64 x0):=hfp.cell 0 (by omega)
   have p1:wr.cell? ⟨P,1,none⟩=some (.int .i64 x1):=hfp.cell 1 (by omega)
   have p2:wr.cell? ⟨P,2,none⟩=some (.int .i64 x2):=hfp.cell 2 (by omega)
   have p3:wr.cell? ⟨P,3,none⟩=some (.int .i64 x3):=hfp.cell 3 (by omega)
   have q0:wr.cell? ⟨R,0,none⟩=some (.int .i64 0):=hfr.cell 0 (by omega)
   have q1:wr.cell? ⟨R,1,none⟩=some (.int .i64 0):=hfr.cell 1 (by omega)
   have q2:wr.cell? ⟨R,2,none⟩=some (.int .i64 0):=hfr.cell 2 (by omega)
   have q3:wr.cell? ⟨R,3,none⟩=some (.int .i64 0):=hfr.cell 3 (by omega)
   have fr:=hfr.free
   have s1:=(((hfr.set 0 x0).set 1 x1).set 2 x2).set 3 x3
   have c0:=s1.cell 0 (by omega)
   have c1:=s1.cell 1 (by omega)
   have c2:=s1.cell 2 (by omega)
   have c3:=s1.cell 3 (by omega)
   have HF:Hid (Below w.heap.size w ((((wr.setCell ⟨R,0,none⟩ (.int .i64 x0)).setCell ⟨R,1,none⟩ (.int .i64 x1)).setCell ⟨R,2,none⟩ (.int .i64 x2)).setCell ⟨R,3,none⟩ (.int .i64 x3))/\True):=⟨(((hbel.setCell (p:=⟨R,0,none⟩) hRw _).setCell (p:=⟨R,1,none⟩) hRw _).setCell (p:=⟨R,2,none⟩) hRw _).setCell (p:=⟨R,3,none⟩) hRw _,trivial⟩
   clear hfp hfr hbel s1 hx
   go_wp2
   refine bodyPost_ret (v:= .agg #[.int .i64 x0,.int .i64 x1,.int .i64 x2,.int .i64 x3]) ?_ rfl ⟨by rw[show tot Gl.m Gl.mo gs=[x0,x1,x2,x3] from HX];rfl,HF.1⟩
   simp[results,Tryz.results103,go_sem,c0,c1,c2,c3] at *
   try simp[c0,c1,c2,c3]
end Go.Proofs.YtbbehmcekbnkiaaGreat.Shr
namespace Go.Proofs.YtbbehmcekbnkiaaGreat.BigN
def val:List Nat->Nat
 | []=>0
 | d :: ds=>d+16777216*val ds
def Digits (xs:List Nat):Prop:=∀d∈xs,d<16777216
def Trim (xs:List Nat):Prop:=xs≠[]->xs.getD (xs.length-1) 0≠0
theorem getD_lt' (xs:List Nat)(n:Nat)(h:n<xs.length):xs.getD n 0=xs[n]:=by simp[List.getD,h]
theorem getD_ge' (xs:List Nat)(n:Nat)(h:xs.length<=n):xs.getD n 0=0:=by simp[List.getD,h]
theorem pow_pos' (n:Nat):0<16777216 ^ n:=Nat.pow_pos (by decide)
theorem val_append (xs ys:List Nat):val (xs++ys)=val xs+16777216 ^ xs.length*val ys:=by
 induction xs with
 | nil=>simp[val]
 | cons d ds ih =>
  simp only[List.cons_append,val,ih,List.length_cons,Nat.pow_succ,Nat.mul_add]
  rw[Nat.mul_comm (16777216 ^ ds.length) 16777216,Nat.mul_assoc]
  omega
theorem val_snoc (xs:List Nat)(d:Nat):val (xs++[d])=val xs+16777216 ^ xs.length*d:=by
 rw[val_append];simp[val]
theorem val_lt (xs:List Nat)(h:Digits xs):val xs<16777216 ^ xs.length:=by
 induction xs with
 | nil=>simp[val]
 | cons d ds ih =>
  have h1:=ih (fun x hx=>h x (List.mem_cons_of_mem _ hx))
  have h2:=h d (List.mem_cons_self)
  simp only[val,List.length_cons,Nat.pow_succ]
  omega
theorem Digits.take {xs:List Nat}(h:Digits xs)(n:Nat):Digits (xs.take n):=fun d hd=>h d (List.mem_of_mem_take hd)
theorem Digits.getD {xs:List Nat}(h:Digits xs)(n:Nat):xs.getD n 0<16777216:=by
 by_cases hn:n<xs.length
 ·rw[getD_lt' _ _ hn];exact h _ (List.getElem_mem hn)
 ·rw[getD_ge' _ _ (by omega)];decide
theorem Digits.snoc {xs:List Nat}(h:Digits xs){d:Nat}(hd:d<16777216):Digits (xs++[d]):=by
 intro x hx
 rcases List.mem_append.1 hx with hx|hx
 ·exact h x hx
 ·rw[List.mem_singleton.1 hx];exact hd
theorem Digits.set {xs:List Nat}(h:Digits xs)(j:Nat){d:Nat}(hd:d<16777216):Digits (xs.set j d):=by
 intro x hx
 rcases List.mem_or_eq_of_mem_set hx with hx|hx
 ·exact h x hx
 ·rw[hx];exact hd
theorem Digits.nil:Digits []:=fun _ h=>by cases h
theorem Digits.zeros (n:Nat):Digits (List.replicate n 0):=fun d hd=>by rw[List.eq_of_mem_replicate hd];decide
theorem val_zeros (n:Nat):val (List.replicate n 0)=0:=by
 induction n with
 | zero=>rfl
 | succ n ih=>simp[List.replicate_succ,val,ih]
theorem take_succ_getD (xs:List Nat)(k:Nat)(h:k<xs.length):xs.take (k+1)=xs.take k++[xs.getD k 0]:=by
 rw[List.take_succ_eq_append_getElem h,getD_lt' _ _ h]
theorem val_take_succ (xs:List Nat)(k:Nat)(h:k<xs.length):val (xs.take (k+1))=val (xs.take k)+16777216 ^ k*xs.getD k 0:=by
 rw[take_succ_getD xs k h,val_snoc,List.length_take,Nat.min_eq_left (Nat.le_of_lt h)]
theorem val_set (xs:List Nat)(j d:Nat)(h:j<xs.length):val (xs.set j d)+16777216 ^ j*xs.getD j 0=val xs+16777216 ^ j*d:=by
 induction xs generalizing j with
 | nil=>simp at h
 | cons x xs ih =>
  cases j with
  | zero=>simp[val];omega
  | succ j =>
   have:=ih j (by simpa using h)
   simp only[List.set_cons_succ,val,List.getD_cons_succ,Nat.pow_succ]
   rw[Nat.mul_comm (16777216 ^ j) 16777216,Nat.mul_assoc,Nat.mul_assoc]
   omega
theorem val_ge (xs:List Nat)(ht:Trim xs)(hne:xs≠[]):16777216 ^ (xs.length-1)<=val xs:=by
 have hl:0<xs.length:=by cases xs with|nil=>exact absurd rfl hne|cons a b=>simp
 have h1:=val_take_succ xs (xs.length-1) (by omega)
 rw[show xs.length-1+1=xs.length by omega,List.take_length] at h1
 have h2:=ht hne
 have h3:16777216 ^ (xs.length-1)*1<=16777216 ^ (xs.length-1)*xs.getD (xs.length-1) 0:=Nat.mul_le_mul_left _ (by omega)
 omega
theorem len_le_of_val (xs:List Nat)(ht:Trim xs)(n:Nat)(h:val xs<16777216 ^ n):xs.length<=n:=by
 by_cases hne:xs=[]
 ·simp[hne]
 ·have h1:=val_ge xs ht hne
  have h2:16777216 ^ (xs.length-1)<16777216 ^ n:=Nat.lt_of_le_of_lt h1 h
  have h3:=(Nat.pow_lt_pow_iff_right (by decide:1<16777216)).1 h2
  omega
theorem val_lt_of_len (xs ys:List Nat)(hx:Digits xs)(ty:Trim ys)(h:xs.length<ys.length):val xs<val ys:=by
 have hne:ys≠[]:=by intro e;simp[e] at h
 have h1:=val_lt xs hx
 have h2:=val_ge ys ty hne
 have h3:16777216 ^ xs.length<=16777216 ^ (ys.length-1):=Nat.pow_le_pow_right (by decide) (by omega)
 omega
theorem val_split (xs:List Nat)(k:Nat)(h:k<xs.length):val xs=val (xs.take k)+16777216 ^ k*(xs.getD k 0+16777216*val (xs.drop (k+1))):=by
 have e:xs=xs.take (k+1)++xs.drop (k+1):=(List.take_append_drop _ _).symm
 have h1:val xs=val (xs.take (k+1))+16777216 ^ (k+1)*val (xs.drop (k+1)):=by
  have:=val_append (xs.take (k+1)) (xs.drop (k+1))
  rw[List.take_append_drop,List.length_take,Nat.min_eq_left (by omega)] at this
  exact this
 rw[h1,val_take_succ xs k h,Nat.mul_add,Nat.pow_succ,Nat.mul_assoc]
 omega
theorem val_decides (xs ys:List Nat)(k:Nat)(hx:Digits xs)(hk:k<xs.length)(hl:xs.length=ys.length)
 (hd:xs.drop (k+1)=ys.drop (k+1)) (h:xs.getD k 0<ys.getD k 0):val xs<val ys:=by
 rw[val_split xs k hk,val_split ys k (by omega),<-hd]
 have h1:val (xs.take k)<16777216 ^ k:=by
  have:=val_lt _ (hx.take k)
  rwa [List.length_take,Nat.min_eq_left (by omega)] at this
 have h2:16777216 ^ k*(xs.getD k 0+16777216*val (xs.drop (k+1))+1)<=16777216 ^ k*(ys.getD k 0+16777216*val (xs.drop (k+1))) :=
  Nat.mul_le_mul_left _ (by omega)
 rw[Nat.mul_add,Nat.mul_one] at h2
 omega
theorem times_step (out:List Nat)(j c add:Nat)(hj:j<out.length) :
 val (out.set j ((c+out.getD j 0+add) % 16777216))+16777216 ^ (j+1)*((c+out.getD j 0+add) / 16777216)=val out+16777216 ^ j*c+16777216 ^ j*add:=by
 have h1:=val_set out j ((c+out.getD j 0+add) % 16777216) hj
 have h2:16777216 ^ j*(c+out.getD j 0+add)=16777216 ^ j*((c+out.getD j 0+add) % 16777216)+16777216 ^ (j+1)*((c+out.getD j 0+add) / 16777216):=by
  rw[Nat.pow_succ,Nat.mul_assoc,<-Nat.mul_add,Nat.mod_add_div]
 rw[Nat.mul_add,Nat.mul_add] at h2
 omega
theorem carry_room (xs ys:List Nat)(hx:Digits xs)(hy:Digits ys)(i k c v:Nat)(hi:i<xs.length)(hc:0<c)
 (h:v+16777216 ^ (i+k)*c<=val (xs.take (i+1))*val ys):k<ys.length+1:=by
 have h1:val (xs.take (i+1))<16777216 ^ (i+1):=by
  have:=val_lt _ (hx.take (i+1))
  rwa [List.length_take,Nat.min_eq_left (by omega)] at this
 have h2:=val_lt ys hy
 have h3:val (xs.take (i+1))*val ys<16777216 ^ (i+1+ys.length):=by
  rw[Nat.pow_add]
  exact Nat.mul_lt_mul_of_lt_of_le h1 (Nat.le_of_lt h2) (pow_pos' _)
 have h4:16777216 ^ (i+k)*1<=16777216 ^ (i+k)*c:=Nat.mul_le_mul_left _ hc
 have h5:16777216 ^ (i+k)<16777216 ^ (i+1+ys.length):=by omega
 have:=(Nat.pow_lt_pow_iff_right (by decide:1<16777216)).1 h5
 omega
theorem val_take_le (xs:List Nat)(k:Nat):val (xs.take k)<=val xs:=by
 have:=val_append (xs.take k) (xs.drop k)
 rw[List.take_append_drop] at this
 omega
theorem take_all (xs:List Nat)(k:Nat)(h:xs.length<=k):xs.take k=xs:=List.take_of_length_le h
theorem val_take_succ' (xs:List Nat)(k:Nat):val (xs.take (k+1))=val (xs.take k)+16777216 ^ k*xs.getD k 0:=by
 by_cases h:k<xs.length
 ·exact val_take_succ xs k h
 ·rw[take_all xs _ (by omega),take_all xs _ (by omega),getD_ge' xs k (by omega)];omega
theorem trim_of_val (xs:List Nat)(hx:Digits xs)(h:xs≠[]->16777216 ^ (xs.length-1)<=val xs):Trim xs:=by
 intro hne h0
 have hl:0<xs.length:=by cases xs with|nil=>exact absurd rfl hne|cons a b=>simp
 have h1:=val_take_succ xs (xs.length-1) (by omega)
 rw[show xs.length-1+1=xs.length by omega,List.take_length,h0] at h1
 have h2:=val_lt _ (hx.take (xs.length-1))
 rw[List.length_take,Nat.min_eq_left (by omega)] at h2
 have:=h hne
 omega
theorem sum_step (out:List Nat)(c a b va vb:Nat)(h:val out+16777216 ^ out.length*c=va+vb) :
 val (out++[(c+a+b) % 16777216])+16777216 ^ (out.length+1)*((c+a+b) / 16777216)=(va+16777216 ^ out.length*a)+(vb+16777216 ^ out.length*b):=by
 rw[val_snoc]
 have h2:16777216 ^ out.length*(c+a+b)=16777216 ^ out.length*((c+a+b) % 16777216)+16777216 ^ (out.length+1)*((c+a+b) / 16777216):=by
  rw[Nat.pow_succ,Nat.mul_assoc,<-Nat.mul_add,Nat.mod_add_div]
 rw[Nat.mul_add,Nat.mul_add] at h2
 omega
def part (n d most:Nat):Nat:=if d=0 then most else min most (n / d)
theorem part_le (n d most:Nat):part n d most<=most:=by unfold part;split<;>omega
theorem part_iff (n d most mid:Nat)(h:mid<=most):mid*d<=n↔mid<=part n d most:=by
 unfold part
 by_cases hd:d=0
 ·simp[hd,h]
 ·rw[if_neg hd,<-Nat.le_div_iff_mul_le (by omega)];omega
def near (a b c most:Nat):Nat:=part (a*b*2+c) (c*2) most
theorem near_eq (a b c most:Nat)(hc:0<c):near a b c most=min most (a*b / c+if c<=2*(a*b % c) then 1 else 0):=by
 unfold near part
 rw[if_neg (by omega)]
 congr 1
 have h1:=Nat.div_add_mod (a*b) c
 have h2:=Nat.mod_lt (a*b) hc
 generalize a*b / c=q at *
 generalize a*b % c=r at *
 have e:a*b*2+c=(2*r+c)+c*2*q:=by
  rw[<-h1]
  have:c*q*2=c*2*q:=by rw[Nat.mul_assoc,Nat.mul_comm q 2,Nat.mul_assoc]
  omega
 rw[e,Nat.add_mul_div_left _ _ (by omega),Nat.add_comm]
 congr 1
 split
 ·exact Nat.div_eq_of_lt_le (by omega) (by omega)
 ·exact Nat.div_eq_of_lt (by omega)
end Go.Proofs.YtbbehmcekbnkiaaGreat.BigN
namespace Go.Proofs.YtbbehmcekbnkiaaGreat.Shr
open Go.RowKit
set_option linter.unusedVariables false
set_option linter.unusedSimpArgs false
theorem hideB {p:Prop}(h:p):Hid p:=h
abbrev numC (d:Nat):Value:= .int .i64 (d:Int)
def IsNum (w:World)(v:Value)(xs:List Nat):Prop :=
 ∃g cap:Nat,v = .slice (some ⟨g,0,none⟩) xs.length cap/\xs.length<=cap/\cap<=maxLen/\g<w.heap.size/\∀i,i<xs.length->w.cell? ⟨g,i,none⟩=some (numC (xs.getD i 0))
def IsBig (w:World)(v:Value)(N:Nat):Prop:=∃xs,IsNum w v xs/\BigN.Digits xs/\BigN.Trim xs/\BigN.val xs=N
theorem IsNum.kept {w w':World}{v:Value}{xs:List Nat}(h:IsNum w v xs)(hb:Below w.heap.size w w'):IsNum w' v xs:=by
 obtain⟨g,cap,rfl,h1,h2,h3,h4⟩:=h
 refine⟨g,cap,rfl,h1,h2,by have:=hb.size;omega,fun i hi=>?_⟩
 rw[hb.cell (p:=⟨g,i,none⟩) h3]
 exact h4 i hi
theorem IsBig.kept {w w':World}{v:Value}{N:Nat}(h:IsBig w v N)(hb:Below w.heap.size w w'):IsBig w' v N:=by
 obtain⟨xs,h1,h2⟩:=h
 exact⟨xs,h1.kept hb,h2⟩
theorem isNum_of_own {w:World}{base n:Nat}{v:Value}{xs:List Nat}(h:w.ownsRow base 2 1 v n (xs.map numC))(hv:v≠ .slice none 0 0)(hn:n=xs.length):IsNum w v xs:=by
 subst hn
 rcases h.2 with ⟨h1,_⟩ | ⟨g,cap,cur,rfl,_,hg,h1,h2,_,_⟩
 ·exact absurd h1 hv
 ·refine⟨g,cap,rfl,h1,h2,(glt hg),fun i hi=>?_⟩
  rw[h.cellAt i (by omega)]
  simp[List.getElem?_map,List.getD,hi]
theorem info2:(Tryz.prog.info? 2).map (fun i=>(i.zero,i.size,i.bytes))=some (some (.int .i64 0),1,8):=by kernel_rfl
def BigAt (x:Nat)(w wr:World)(s0 s3:Value)(k x':Nat)(xs:List Nat):Prop :=
 s0 = .int .u64 (x':Int)/\xs.length=k/\BigN.Digits xs/\BigN.val xs+16777216 ^ k*x'=x/\(0<k->16777216 ^ (k-1)<=x)/\k<=3/\
  wr.ownsRow w.heap.size 2 1 s3 k (xs.map numC)/\s3≠ .slice none 0 0/\Below w.heap.size w wr
theorem k_le {x k:Nat}(hx:x<18446744073709551616)(h:16777216 ^ k<=x):k<=2:=by
 by_cases hk:k<=2
 ·exact hk
 ·exfalso
  have h1:16777216 ^ 3<=16777216 ^ k:=Nat.pow_le_pow_right (by decide) (by omega)
  have h2:(16777216:Nat) ^ 3=4722366482869645213696:=by decide
  omega
theorem big_step {x k x':Nat}{xs:List Nat}(hx:x<18446744073709551616)(h0:0<x')(hl:xs.length=k)(hd:BigN.Digits xs)(hv:BigN.val xs+16777216 ^ k*x'=x) :
 (xs++[x' % 16777216]).length=k+1/\BigN.Digits (xs++[x' % 16777216])/\BigN.val (xs++[x' % 16777216])+16777216 ^ (k+1)*(x' / 16777216)=x/\(0<k+1->16777216 ^ (k+1-1)<=x)/\k+1<=3:=by
 have hp:16777216 ^ k<=x:=by
  have:16777216 ^ k*1<=16777216 ^ k*x':=Nat.mul_le_mul_left _ h0
  omega
 have hk:=k_le hx hp
 refine⟨by simp[hl],hd.snoc (by omega),?_,fun _=>by simpa using hp,by omega⟩
 rw[BigN.val_snoc,hl]
 have:16777216 ^ k*x'=16777216 ^ k*(x' % 16777216)+16777216 ^ (k+1)*(x' / 16777216):=by
  rw[Nat.pow_succ,Nat.mul_assoc,<-Nat.mul_add,Nat.mod_add_div]
 omega
theorem big_any (x:Nat)(w:World)(hx:x<18446744073709551616):Calls Tryz.prog 123 #[.int .u64 (x:Int)] w fun e w'=>∃v,e = .returned v/\IsBig w' v x/\Below w.heap.size w w':=by
 obtain⟨i0,hi,hz0,hz1,hz2⟩:=info_parts info2
 have hat:BigAt x w (w.alloc (.cells #[] 2)) (.int .u64 (x:Int)) (.slice (some ⟨w.heap.size,0,none⟩) 0 0) 0 x [] :=
  ⟨rfl,rfl,BigN.Digits.nil,by simp[BigN.val],by simp,by omega,World.ownsRow_lit w #[] 0 (Nat.le_refl _) (by decide) rfl,by simp,(Below.refl _ _).alloc (Nat.le_refl _) _⟩
 have HAT:=hideB hat
 clear hat
 go_enter Tryz.func123,Tryz.ntmps123
 go_wp2_with fail
 go_loopw [0,3] (fun s0 s3 wr=>∃k x' xs,BigAt x w wr s0 s3 k x' xs) (fun s0 _ _=>(intOf s0).toNat)
 case atStart=>exact⟨0,x,[],HAT.out⟩
 case round =>
  obtain⟨k,x',xs,rfl,hl,hd,hv,hp,hk,hown,hnil,hbel⟩:=hrel
  have hxl:x'<18446744073709551616:=by
   have:1*x'<=16777216 ^ k*x':=Nat.mul_le_mul_right _ (BigN.pow_pos' k)
   omega
  by_cases h0:0<x'
  ·have hst:=big_step hx h0 hl hd hv
   have HST:=hideB hst
   have HOWN:=hideB hown
   have HBEL:=hideB hbel
   have HNIL:=hideB hnil
   clear hst hown hbel hl hd hv hp hnil
   have hz:=HBEL.out.size
   go_wp2_with (at_builtin;refine wpList_append_own _ rfl _ _ 54 rfl w.heap.size 2 i0 (.int .i64 0) 1 8 Tryz.underlying54 hi hz0 hz1 hz2 rfl (by decide) _ _ _ rfl (HOWN.out.alloc _) ⟨wr.heap.size,0,none⟩ 1 1 [numC (x' % 16777216)] rfl rfl ?c1 ?c2 ?c3 ?c4 ?c5 ?_)
   case c1 =>
    intro j u hj
    match j,hj with
    | 0,hj=>simp at hj;subst hj;simp[Addr.add]
   case c2=>intro u hu;simp at hu;subst hu;rfl
   case c3=>unfold maxLen;omega
   case c4=>omega
   case c5=>simp;omega
   intro v' w1 hown' hgrow hnil'
   have hst:=HST.out
   have hb1:Below w.heap.size w w1:=(HBEL.out.alloc hz _).grown hgrow (by simp;omega) (fun r hr=>(HOWN.out.lt r hr).1)
   have hne:v'≠ .slice none 0 0:=hnil'
   have HR:Hid (BigAt x w w1 (.int .u64 ((x' / 16777216:Nat):Int)) v' (k+1) (x' / 16777216) (xs++[x' % 16777216])) :=
    ⟨rfl,hst.1,hst.2.1,hst.2.2.1,hst.2.2.2.1,hst.2.2.2.2,by simpa using hown',hne,hb1⟩
   clear hown' hgrow hnil' hst hb1 hne HOWN HBEL HNIL HST
   go_wp2
   go_roundw
   case rel=>exact⟨k+1,x' / 16777216,xs++[x' % 16777216],by simpa using HR.out⟩
   case measure=>simp[intOf];omega
  ·obtain rfl:x'=0:=by omega
   have hfin:IsBig wr _ x:=⟨xs,isNum_of_own hown hnil hl.symm,hd,BigN.trim_of_val xs hd (fun hne=>by rw[hl];have:=hp (by rw[<-hl];exact List.length_pos_iff.2 hne);omega),by omega⟩
   have HF:=hideB (And.intro hfin hbel)
   clear hown hbel hnil hl hd hv hp hfin
   go_wp2
   go_ret
   exact⟨_,rfl,HF.out⟩
end Go.Proofs.YtbbehmcekbnkiaaGreat.Shr

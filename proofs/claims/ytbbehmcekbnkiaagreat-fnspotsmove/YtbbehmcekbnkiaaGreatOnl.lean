import Derived.Test.YtbbehmcekbnkiaaGreatShq
import Derived.Test.YtbbehmcekbnkiaaGreatDlp
import Derived.RangeFuncNested
import Derived.RangeFuncBound
import Derived.RangeFuncCalls
import Derived.RangeFuncLeaves
import Derived.Shelf.Abstract
import Derived.Shelf.RegionOpen
import Derived.WalkKit
import Derived.OwnWalkIn
import Derived.TacticsInMore
import Derived.LoopNIn
import Derived.LoopIn
import Derived.Test.YtbbehmcekbnkiaaGreatCln
import Derived.Test.YtbbehmcekbnkiaaGreatThb
import Derived.Test.YtbbehmcekbnkiaaGreatLok
namespace Go.Proofs.YtbbehmcekbnkiaaGreat.Shr
open Go.RowKit
set_option linter.unusedVariables false
set_option linter.unusedSimpArgs false
structure ShareFacts (gs:List Gl) (q:Int):Prop where
 len:(shareL gs q).length=gs.length
 zero:q=0→(shareS gs q).sign=0∧(shareL gs q).sum=siz gs
 up:0<q→(shareS gs q).sign=1∧(shareS gs q).want=q∧(shareS gs q).order=ordOf Gl.p Gl.po gs∧(shareS gs q).have_=hvOf Gl.p Gl.po gs∧(0<hvOf Gl.p Gl.po gs→(shareL gs q).sum=siz gs+q)∧(¬0<hvOf Gl.p Gl.po gs→(shareL gs q).sum=siz gs)
 down:q<0→(shareS gs q).sign = -1∧(shareS gs q).want = -q∧(shareS gs q).order=ordOf Gl.m Gl.mo gs∧(shareS gs q).have_=hvOf Gl.m Gl.mo gs∧(shareL gs q).sum=siz gs+q+(shareS gs q).over∧0≤(shareS gs q).over∧(shareS gs q).over≤ -q
 keep:∀i,i<gs.length→((shareS gs q).sign=0∨(0≤(shareS gs q).sign∧(gs.getD i Gl.none).po≠(shareS gs q).order)∨((shareS gs q).sign<0∧(gs.getD i Gl.none).mo≠(shareS gs q).order))→(shareL gs q).getD i 0=(gs.getD i Gl.none).s
end Go.Proofs.YtbbehmcekbnkiaaGreat.Shr
namespace Go.Proofs.YtbbehmcekbnkiaaGreat
open Go.RowKit
set_option linter.unusedVariables false
set_option linter.unusedSimpArgs false
def al (x:Nd):Int:=if pileB x then x.ht+x.dp else if x.k=2∨x.k=3 then x.wd else 0
def aw (x:Nd):Int:=if pileB x then x.ht+x.dp else if x.k=2 then x.wd else 0
theorem starts_asc (xs:List Nd):∀(f i:Nat),(∀p∈starts xs f i,i≤p)∧(starts xs f i).Pairwise (· < ·)
 | 0,i=>⟨by simp[starts],by simp[starts]⟩
 | f+1,i=>by
  simp only[starts]
  split
  ·obtain⟨h1,h2⟩:=starts_asc xs f (i+1+(xs.getD i Nd.none).kids.toNat)
   refine⟨fun p hp=>?_,List.pairwise_cons.2 ⟨fun p hp=>?_,h2⟩⟩
   ·rcases List.mem_cons.1 hp with rfl | hp
    ·exact Nat.le_refl _
    ·have:=h1 p hp;omega
   ·have:=h1 p hp;omega
  ·exact⟨by simp,by simp⟩
theorem hpOk_parts {xs:List Nd} {mode size:Int} (hA:hpOk xs mode size=true):canB xs=true∧listB xs=true∧Shr.glsOk (hpS xs).gs=true∧fitsB (hpTo xs mode size)=true∧fitsB (hpS xs).w=true∧fitsB (hpS xs).h=true∧fitsB (hpS xs).d=true∧(hpL xs mode size).all fitsB=true:=by
 unfold hpOk at hA
 simp only[Bool.and_eq_true] at hA
 obtain⟨⟨⟨⟨⟨hpk,hgl⟩,hto,hw⟩,hh⟩,hd⟩,hfit⟩:=hA
 unfold packB at hpk
 simp only[Bool.and_eq_true] at hpk
 exact⟨hpk.1.1,can_list hpk.1.1,hgl,hto,hw,hh,hd,hfit⟩
end Go.Proofs.YtbbehmcekbnkiaaGreat
namespace Go.Proofs.YtbbehmcekbnkiaaGreat.Wk
open Go.RowKit Go.Shelf
set_option linter.unusedVariables false
set_option linter.unusedSimpArgs false
attribute [local go_sem] Oper.semAt_some
def kin (y x:Nd):Prop:=y.k=x.k∧y.kids=x.kids
structure Src (xs:List Nd) (ao:Option Addr) (Bs b off cap:Nat) (W:World):Prop where
 box:W.cell? ⟨Bs,0,none⟩=some (.slice ao xs.length cap)
 some_:0<xs.length→ao=some ⟨b,off,none⟩
 at_:∀i,i<xs.length→∃y:Nd,kin y (xs.getD i Nd.none)∧∀j,j<15→W.cell? ⟨b,off+i*15+j,none⟩=y.cells[j]?
theorem Src.grown {xs:List Nd} {ao:Option Addr} {Bs b off cap:Nat} {W W':World} (h:Src xs ao Bs b off cap W) (hb:Below W.heap.size W W'):Src xs ao Bs b off cap W':=by
 refine⟨(hb.cell (p:=⟨Bs,0,none⟩) (World.block_lt_of_cell? W _ h.box)).trans h.box,h.some_,fun i hi=>?_⟩
 obtain⟨y,hk,hc⟩:=h.at_ i hi
 refine⟨y,hk,fun j hj=>?_⟩
 have h1:=hc j hj
 rw[List.getElem?_eq_getElem (show j<y.cells.length by exact hj)] at h1 ⊢
 exact (hb.cell (p:=⟨b,off+i*15+j,none⟩) (World.block_lt_of_cell? W _ h1)).trans h1
def Item (xs:List Nd):Type:={ p:Nat×Value // p.1<xs.length∧∃y:Nd,kin y (xs.getD p.1 Nd.none)∧ThingQ y p.2 }
def Item.encs {xs:List Nd} (x:Item xs):Array Value:=#[.int .i64 (x.1.1:Int),x.1.2]
set_option maxRecDepth 100000 in
set_option maxHeartbeats 4000000 in
theorem each1_in (n l:Nat) (hn:1≤n) (xs:List Nd) (ao:Option Addr) (Bs b off cap:Nat) (hlen:xs.length≤20000) (hkids:∀i,i<xs.length→0≤(xs.getD i Nd.none).kids∧(xs.getD i Nd.none).kids≤20000) (J Jx:List (Item xs)→World→Prop) (W:World) (hJ:AbidesFrom W.heap.size J) (hS:Src xs ao Bs b off cap W)
 (hY:∀pre x W1,J pre W1→pre.length<xs.length+1→YieldAt Fence.wide (n - 1) Tryz.prog l (Item.encs x) W1 fun e W' =>
  (e = .returned (.bool true)∧J (pre ++ [x]) W'∧(Src xs ao Bs b off cap W1→Src xs ao Bs b off cap W'))∨(e = .returned (.bool false)∧Jx (pre ++ [x]) W')) (h0:J [] W) :
 CallsIn Fence.wide n Tryz.prog 65 #[.func (.yield l) #[] #[], .pointer (some ⟨Bs,0,none⟩)] W fun e W'=>(∃v,e = .returned v)∧
  ((∃ys:List (Item xs),ys.map (·.1.1)=starts xs (xs.length+1) 0∧J ys W')∨(∃pre,True∧Jx pre W')):=by
 refine callsIn_of_wp Tryz.func65 rfl trivial ?_ rfl
 simp only[Tryz.ntmps65,List.size_toArray,List.length_cons,List.length_nil,Nat.reduceAdd,Nat.reduceSub,Array.replicate_succ,Array.replicate_zero,List.push_toArray,List.append_toArray,List.nil_append,List.cons_append]
 gi_wp2
 gi_loopw [3] (fun a wr=>∃(i f:Nat) (pre:List (Item xs)),a = .int .i64 (i:Int)∧i≤40001∧xs.length<i+f∧Hid (pre.map (·.1.1) ++ starts xs f i=starts xs (xs.length+1) 0)∧pre.length≤i∧J pre wr∧Hid (Src xs ao Bs b off cap wr)) (fun a _=>xs.length - (intOf a).toNat)
 case atStart=>exact⟨0,xs.length+1,[],rfl,by omega,by omega,rfl,by simp,h0,hS⟩
 case round =>
  obtain⟨i,f,pre,rfl,hi,hf,HP,hpl,hJs,HS⟩:=hrel
  have hbox:=HS.out.box
  by_cases hil:i<xs.length
  ·have hii:(i:Int)<(xs.length:Int):=by omega
   obtain rfl:=HS.out.some_ (by omega)
   obtain⟨y,hy,hyc⟩:=HS.out.at_ i hil
   have TC:Hid (∀w:World,Calls Tryz.prog 62 #[ndV y] w fun r w'=>(∃v,r = .returned v∧ThingQ y v)∧Below w.heap.size w w'):=hideP (fun w=>thing_q y w)
   have HY:=hideP hy
   have hkk:=hkids i hil
   rw[← hy.2] at hkk
   obtain⟨y0,hy0⟩:∃y0,y0=y:=⟨_,rfl⟩
   rw[← hy0] at HY
   have HY0:=hideP hy0
   obtain⟨kd,wd,hh,dp,sh,fo,ch,nn,gs,gp,gpo,gm,gmo,tx,kids⟩:=y
   simp only[Nd.cells] at hyc
   have c0:wr.cell? ⟨b,off+i*15,none⟩=some (.int .i64 kd):=hyc 0 (by omega)
   have c1:wr.cell? ⟨b,off+i*15+1,none⟩=some (.int .i64 wd):=hyc 1 (by omega)
   have c2:wr.cell? ⟨b,off+i*15+2,none⟩=some (.int .i64 hh):=hyc 2 (by omega)
   have c3:wr.cell? ⟨b,off+i*15+3,none⟩=some (.int .i64 dp):=hyc 3 (by omega)
   have c4:wr.cell? ⟨b,off+i*15+4,none⟩=some (.int .i64 sh):=hyc 4 (by omega)
   have c5:wr.cell? ⟨b,off+i*15+5,none⟩=some (.int .i64 fo):=hyc 5 (by omega)
   have c6:wr.cell? ⟨b,off+i*15+6,none⟩=some (.int .i64 ch):=hyc 6 (by omega)
   have c7:wr.cell? ⟨b,off+i*15+7,none⟩=some (.int .i64 nn):=hyc 7 (by omega)
   have c8:wr.cell? ⟨b,off+i*15+8,none⟩=some (.int .i64 gs):=hyc 8 (by omega)
   have c9:wr.cell? ⟨b,off+i*15+9,none⟩=some (.int .i64 gp):=hyc 9 (by omega)
   have c10:wr.cell? ⟨b,off+i*15+10,none⟩=some (.int .i64 gpo):=hyc 10 (by omega)
   have c11:wr.cell? ⟨b,off+i*15+11,none⟩=some (.int .i64 gm):=hyc 11 (by omega)
   have c12:wr.cell? ⟨b,off+i*15+12,none⟩=some (.int .i64 gmo):=hyc 12 (by omega)
   have c13:wr.cell? ⟨b,off+i*15+13,none⟩=some (.string tx):=hyc 13 (by omega)
   have c14:wr.cell? ⟨b,off+i*15+14,none⟩=some (.int .i64 kids):=hyc 14 (by omega)
   have HJ:=hideP hJs
   dsimp only at hkk
   obtain⟨hk0,hk1⟩:=hkk
   obtain⟨f,rfl⟩:∃q,f=q+1:=⟨f - 1,by omega⟩
   have HST:Hid (pre.map (·.1.1) ++ i :: starts xs f (i+1+kids.toNat)=starts xs (xs.length+1) 0):=hideP (by
    have h:=HP.out
    rw[show starts xs (f+1) i=i :: starts xs f (i+1+(xs.getD i Nd.none).kids.toNat) by simp only[starts];rw[if_pos hil]] at h
    rw[← HY.out.2,HY0.out] at h
    exact h)
   clear hyc hJs hy hy0
   gi_wp2_with fail
   refine⟨trivial,CallsIn.mono (callsIn_wide.2 (TC.out wr)) ?_⟩
   rintro e w1 ⟨⟨v,rfl,hth⟩,hb1⟩
   have hJ1:J pre w1:=hJ pre wr w1 none HJ.out ⟨hb1.os,hb1.tape,hb1.output,hb1.size,fun k hk _=>hb1.block k hk⟩ (fun r e=>by cases e)
   have HS1:=hideP (HS.out.grown hb1)
   rw[← HY0.out] at hth
   obtain⟨x,hx⟩:∃x:Item xs,x=⟨(i,v),hil,y0,HY.out,hth⟩:=⟨_,rfl⟩
   obtain⟨fn,tmps,assign,body,hyl,hR⟩:=hY pre x w1 hJ1 (by omega)
   have HX:Hid (x.1.1=i):=hideP (by rw[hx])
   rw[show Item.encs x = #[.int .i64 (i:Int),v] by rw[hx];rfl] at hyl
   clear hb1 hJ1 hth hbox hx c0 c1 c2 c3 c4 c5 c6 c7 c8 c9 c10 c11 c12 c13 c14
   have HRR:=hideP hR
   clear hR
   gi_wp2_with fail
   refine HRR.out.mono ?_
   rintro e W3 (⟨rfl,hJ3,hk3⟩ | ⟨rfl,hJx3⟩)
   ·have HS3:=hideP (hk3 HS1.out)
    have hbox3:=HS3.out.box
    obtain⟨y3,hy3,hc3⟩:=HS3.out.at_ i hil
    have c14:W3.cell? ⟨b,off+i*15+14,none⟩=some (.int .i64 kids):=by
     rw[hc3 14 (by omega),show y3.cells[14]? = some (.int .i64 y3.kids) from rfl,hy3.2,← HY.out.2,HY0.out]
    have HJ3:=hideP hJ3
    clear hJ3 hk3 hc3 hy3
    gi_wp2_with fail
    go_roundw
    case rel =>
     refine⟨i+1+kids.toNat,f,pre ++ [x],congrArg _ (by omega),by omega,by omega,hideP ?_,by simp;omega,HJ3.out,HS3⟩
     rw[List.map_append,List.append_assoc,List.map_singleton,HX.out]
     exact HST.out
    case measure=>simp[intOf];omega
   ·gi_wp2
    refine bodyPost_ret (results_none rfl _ _ _) rfl ?_
    exact⟨⟨_,rfl⟩, .inr ⟨pre ++ [x],trivial,hJx3⟩⟩
  ·have hii:¬(i:Int)<(xs.length:Int):=by omega
   have HE:Hid (pre.map (·.1.1)=starts xs (xs.length+1) 0):=hideP (by
    have h:=HP.out
    cases f with
    | zero=>simpa [starts] using h
    | succ f =>
     rw[show starts xs (f+1) i=[] by simp only[starts];rw[if_neg hil]] at h
     simpa using h)
   gi_wp2
   go_end0
   exact⟨⟨_,rfl⟩, .inl ⟨pre,HE.out,hJs⟩⟩
set_option maxHeartbeats 1000000 in
theorem eachItem_any (a:Option Addr) (len cap:Nat) (w:World) :
 Calls Tryz.prog 35 #[.slice a len cap] w fun e w'=>e = .returned (.func (.func 65) #[] #[.pointer (some ⟨w.heap.size,0,none⟩)])∧w'=w.alloc (.cells #[.slice a len cap] 24):=by
 go_enter Tryz.func35,Tryz.ntmps35
 go_wp2
 go_ret
 exact⟨rfl,rfl⟩
theorem each_stops (n:Nat) (hn:1≤n) (xs:List Nd) (ao:Option Addr) (Bs b off cap:Nat) (hlen:xs.length≤20000) (hkids:∀i,i<xs.length→0≤(xs.getD i Nd.none).kids∧(xs.getD i Nd.none).kids≤20000) (w:World) (hS:Src xs ao Bs b off cap w) :
 SeqStopsK Fence.wide n Tryz.prog 65 #[.pointer (some ⟨Bs,0,none⟩)] (Item.encs (xs:=xs)) (fun A B=>Src xs ao Bs b off cap A→Src xs ao Bs b off cap B) (fun ys=>ys.map (·.1.1)=starts xs (xs.length+1) 0) (fun _=>True) (xs.length+1) w:=fun l J Jx W hW hJ _ hY h0=>by
 refine (each1_in n l hn xs ao Bs b off cap hlen hkids J Jx W hJ (hS.grown hW) hY h0).mono ?_
 rintro e W' ⟨he,⟨ys,hys,hj⟩ | ⟨pre,_,hj⟩⟩
 ·exact⟨he, .inl ⟨ys,hys,hj⟩⟩
 ·exact⟨he, .inr ⟨pre,trivial,hj⟩⟩
end Go.Proofs.YtbbehmcekbnkiaaGreat.Wk
namespace Go.Proofs.YtbbehmcekbnkiaaGreat
open Go.RowKit
set_option linter.unusedVariables false
set_option linter.unusedSimpArgs false
def oneB (xs:List Nd):Bool:=listB xs && decide (0<xs.length) && decide ((xs.getD 0 Nd.none).kids=(xs.length:Int) - 1) && boxB (xs.getD 0 Nd.none)
end Go.Proofs.YtbbehmcekbnkiaaGreat

import Derived.Test.YtbbehmcekbnkiaaGreatThgt
import Derived.Shelf.RegionOpen
import Derived.OwnWalkIn
import Derived.LoopNIn
import Derived.LoopIn
import Derived.Shelf.Strconv.Clone
namespace Go.Proofs.YtbbehmcekbnkiaaGreat
set_option maxHeartbeats 4000000
set_option maxRecDepth 100000
open Go.RowKit
set_option linter.unusedVariables false
set_option linter.unusedSimpArgs false
def boxB (x:Nd):Bool:=x.k == 6||x.k == 7
def glueB (x:Nd):Bool:=x.k == 3
structure Ask (x:Nd)(v:Value):Prop where
 bx:∃a b c d e f:Int,∀W:World,(Instr.typeAssert v 85 78 true).run Tryz.prog W = .ok (.tuple #[.agg #[.int .i64 a,.int .i64 b,.int .i64 c,.int .i64 d,.int .i64 e,.int .i64 f],.bool (boxB x)]) W
 sp:∃a b c d e f:Int,∀W:World,(Instr.typeAssert v 85 87 true).run Tryz.prog W = .ok (.tuple #[.agg #[.int .i64 a,.int .i64 b,.int .i64 c,.int .i64 d,.int .i64 e,.int .i64 f],.bool (glueB x)]) W
def thV (x:Nd):Value :=
 if x.k=1 then .iface 132 (.agg #[.int .i64 x.fo,.int .i64 x.ch,.int .i64 x.wd,.int .i64 x.ht,.int .i64 x.dp])
 else if x.k=2 then .iface 137 (.agg #[.int .i64 x.wd])
 else if x.k=3 then .iface 87 (.agg #[.int .i64 x.gs,.int .i64 x.gp,.int .i64 x.gpo,.int .i64 x.gm,.int .i64 x.gmo,.int .i64 x.wd])
 else if x.k=4 then .iface 177 (.agg #[.int .i64 x.nn])
 else if x.k=5 then .iface 135 (.agg #[.int .i64 x.wd,.int .i64 x.ht,.int .i64 x.dp])
 else if x.k=6 then .iface 78 (.agg #[.int .i64 6,.int .i64 x.wd,.int .i64 x.ht,.int .i64 x.dp,.int .i64 x.sh,.int .i64 x.kids])
 else if x.k=7 then .iface 78 (.agg #[.int .i64 7,.int .i64 x.wd,.int .i64 x.ht,.int .i64 x.dp,.int .i64 x.sh,.int .i64 x.kids])
 else if x.k=8 then .iface 179 (.agg #[.int .i64 x.fo,.int .i64 x.ch,.int .i64 x.wd,.int .i64 x.ht,.int .i64 x.dp])
 else if x.k=9 then .iface 181 (.agg #[.int .i64 9,.string x.tx])
 else if x.k=10 then .iface 181 (.agg #[.int .i64 10,.string x.tx])
 else if x.k=11 then .iface 158 (.agg #[.int .i64 x.nn,.int .i64 x.ht,.int .i64 x.kids])
 else .nilIface
def ThingQ (x:Nd)(v:Value):Prop:=ThingP x v/\Ask x v/\v=thV x
theorem ask_1 (wd ht dp sh fo ch nn gs gp gpo gm gmo kids:Int)(tx:ByteArray):Ask ⟨1,wd,ht,dp,sh,fo,ch,nn,gs,gp,gpo,gm,gmo,tx,kids⟩ (.iface 132 (.agg #[.int .i64 fo,.int .i64 ch,.int .i64 wd,.int .i64 ht,.int .i64 dp])) where
 bx:=⟨0,0,0,0,0,0,fun _=>by kernel_rfl⟩
 sp:=⟨0,0,0,0,0,0,fun _=>by kernel_rfl⟩
theorem ask_2 (wd ht dp sh fo ch nn gs gp gpo gm gmo kids:Int)(tx:ByteArray):Ask ⟨2,wd,ht,dp,sh,fo,ch,nn,gs,gp,gpo,gm,gmo,tx,kids⟩ (.iface 137 (.agg #[.int .i64 wd])) where
 bx:=⟨0,0,0,0,0,0,fun _=>by kernel_rfl⟩
 sp:=⟨0,0,0,0,0,0,fun _=>by kernel_rfl⟩
theorem ask_3 (wd ht dp sh fo ch nn gs gp gpo gm gmo kids:Int)(tx:ByteArray):Ask ⟨3,wd,ht,dp,sh,fo,ch,nn,gs,gp,gpo,gm,gmo,tx,kids⟩ (.iface 87 (.agg #[.int .i64 gs,.int .i64 gp,.int .i64 gpo,.int .i64 gm,.int .i64 gmo,.int .i64 wd])) where
 bx:=⟨0,0,0,0,0,0,fun _=>by kernel_rfl⟩
 sp:=⟨gs,gp,gpo,gm,gmo,wd,fun _=>by kernel_rfl⟩
theorem ask_4 (wd ht dp sh fo ch nn gs gp gpo gm gmo kids:Int)(tx:ByteArray):Ask ⟨4,wd,ht,dp,sh,fo,ch,nn,gs,gp,gpo,gm,gmo,tx,kids⟩ (.iface 177 (.agg #[.int .i64 nn])) where
 bx:=⟨0,0,0,0,0,0,fun _=>by kernel_rfl⟩
 sp:=⟨0,0,0,0,0,0,fun _=>by kernel_rfl⟩
theorem ask_5 (wd ht dp sh fo ch nn gs gp gpo gm gmo kids:Int)(tx:ByteArray):Ask ⟨5,wd,ht,dp,sh,fo,ch,nn,gs,gp,gpo,gm,gmo,tx,kids⟩ (.iface 135 (.agg #[.int .i64 wd,.int .i64 ht,.int .i64 dp])) where
 bx:=⟨0,0,0,0,0,0,fun _=>by kernel_rfl⟩
 sp:=⟨0,0,0,0,0,0,fun _=>by kernel_rfl⟩
theorem ask_6 (wd ht dp sh fo ch nn gs gp gpo gm gmo kids:Int)(tx:ByteArray):Ask ⟨6,wd,ht,dp,sh,fo,ch,nn,gs,gp,gpo,gm,gmo,tx,kids⟩ (.iface 78 (.agg #[.int .i64 6,.int .i64 wd,.int .i64 ht,.int .i64 dp,.int .i64 sh,.int .i64 kids])) where
 bx:=⟨6,wd,ht,dp,sh,kids,fun _=>by kernel_rfl⟩
 sp:=⟨0,0,0,0,0,0,fun _=>by kernel_rfl⟩
theorem ask_7 (wd ht dp sh fo ch nn gs gp gpo gm gmo kids:Int)(tx:ByteArray):Ask ⟨7,wd,ht,dp,sh,fo,ch,nn,gs,gp,gpo,gm,gmo,tx,kids⟩ (.iface 78 (.agg #[.int .i64 7,.int .i64 wd,.int .i64 ht,.int .i64 dp,.int .i64 sh,.int .i64 kids])) where
 bx:=⟨7,wd,ht,dp,sh,kids,fun _=>by kernel_rfl⟩
 sp:=⟨0,0,0,0,0,0,fun _=>by kernel_rfl⟩
theorem ask_8 (wd ht dp sh fo ch nn gs gp gpo gm gmo kids:Int)(tx:ByteArray):Ask ⟨8,wd,ht,dp,sh,fo,ch,nn,gs,gp,gpo,gm,gmo,tx,kids⟩ (.iface 179 (.agg #[.int .i64 fo,.int .i64 ch,.int .i64 wd,.int .i64 ht,.int .i64 dp])) where
 bx:=⟨0,0,0,0,0,0,fun _=>by kernel_rfl⟩
 sp:=⟨0,0,0,0,0,0,fun _=>by kernel_rfl⟩
theorem ask_9 (wd ht dp sh fo ch nn gs gp gpo gm gmo kids:Int)(tx:ByteArray):Ask ⟨9,wd,ht,dp,sh,fo,ch,nn,gs,gp,gpo,gm,gmo,tx,kids⟩ (.iface 181 (.agg #[.int .i64 9,.string tx])) where
 bx:=⟨0,0,0,0,0,0,fun _=>by kernel_rfl⟩
 sp:=⟨0,0,0,0,0,0,fun _=>by kernel_rfl⟩
theorem ask_10 (wd ht dp sh fo ch nn gs gp gpo gm gmo kids:Int)(tx:ByteArray):Ask ⟨10,wd,ht,dp,sh,fo,ch,nn,gs,gp,gpo,gm,gmo,tx,kids⟩ (.iface 181 (.agg #[.int .i64 10,.string tx])) where
 bx:=⟨0,0,0,0,0,0,fun _=>by kernel_rfl⟩
 sp:=⟨0,0,0,0,0,0,fun _=>by kernel_rfl⟩
theorem ask_11 (wd ht dp sh fo ch nn gs gp gpo gm gmo kids:Int)(tx:ByteArray):Ask ⟨11,wd,ht,dp,sh,fo,ch,nn,gs,gp,gpo,gm,gmo,tx,kids⟩ (.iface 158 (.agg #[.int .i64 nn,.int .i64 ht,.int .i64 kids])) where
 bx:=⟨0,0,0,0,0,0,fun _=>by kernel_rfl⟩
 sp:=⟨0,0,0,0,0,0,fun _=>by kernel_rfl⟩
theorem ask_0 (x:Nd)(h:¬(1<=x.k/\x.k<=11)):Ask x .nilIface where
 bx:=⟨0,0,0,0,0,0,fun _=>by rw[show boxB x=false by simp[boxB];omega];kernel_rfl⟩
 sp:=⟨0,0,0,0,0,0,fun _=>by rw[show glueB x=false by simp[glueB];omega];kernel_rfl⟩
theorem thing_q (x:Nd)(w:World):Calls Tryz.prog 62 #[ndV x] w fun r w'=>(∃v,r = .returned v/\ThingQ x v)/\Below w.heap.size w w':=by
 obtain⟨k,wd,ht,dp,sh,fo,ch,nn,gs,gp,gpo,gm,gmo,tx,kids⟩:=x
 by_cases hk:1<=k/\k<=11
 ·rcases kinds hk.1 hk.2 with rfl|rfl|rfl|rfl|rfl|rfl|rfl|rfl|rfl|rfl|rfl
  ·refine(thing_1 wd ht dp sh fo ch nn gs gp gpo gm gmo kids tx w).mono ?_
   rintro e w' ⟨rfl,hb⟩
   exact⟨⟨_,rfl,.inr ⟨_,_,_,_,_,_,rfl,thg_1 wd ht dp sh fo ch nn gs gp gpo gm gmo kids tx,.inr (nohld_1 wd ht dp sh fo ch nn gs gp gpo gm gmo kids tx)⟩,ask_1 wd ht dp sh fo ch nn gs gp gpo gm gmo kids tx,by simp[thV]⟩,hb⟩
  ·refine(thing_2 wd ht dp sh fo ch nn gs gp gpo gm gmo kids tx w).mono ?_
   rintro e w' ⟨rfl,hb⟩
   exact⟨⟨_,rfl,.inr ⟨_,_,_,_,_,_,rfl,thg_2 wd ht dp sh fo ch nn gs gp gpo gm gmo kids tx,.inr (nohld_2 wd ht dp sh fo ch nn gs gp gpo gm gmo kids tx)⟩,ask_2 wd ht dp sh fo ch nn gs gp gpo gm gmo kids tx,by simp[thV]⟩,hb⟩
  ·refine(thing_3 wd ht dp sh fo ch nn gs gp gpo gm gmo kids tx w).mono ?_
   rintro e w' ⟨rfl,hb⟩
   exact⟨⟨_,rfl,.inr ⟨_,_,_,_,_,_,rfl,thg_3 wd ht dp sh fo ch nn gs gp gpo gm gmo kids tx,.inr (nohld_3 wd ht dp sh fo ch nn gs gp gpo gm gmo kids tx)⟩,ask_3 wd ht dp sh fo ch nn gs gp gpo gm gmo kids tx,by simp[thV]⟩,hb⟩
  ·refine(thing_4 wd ht dp sh fo ch nn gs gp gpo gm gmo kids tx w).mono ?_
   rintro e w' ⟨rfl,hb⟩
   exact⟨⟨_,rfl,.inr ⟨_,_,_,_,_,_,rfl,thg_4 wd ht dp sh fo ch nn gs gp gpo gm gmo kids tx,.inr (nohld_4 wd ht dp sh fo ch nn gs gp gpo gm gmo kids tx)⟩,ask_4 wd ht dp sh fo ch nn gs gp gpo gm gmo kids tx,by simp[thV]⟩,hb⟩
  ·refine(thing_5 wd ht dp sh fo ch nn gs gp gpo gm gmo kids tx w).mono ?_
   rintro e w' ⟨rfl,hb⟩
   exact⟨⟨_,rfl,.inr ⟨_,_,_,_,_,_,rfl,thg_5 wd ht dp sh fo ch nn gs gp gpo gm gmo kids tx,.inr (nohld_5 wd ht dp sh fo ch nn gs gp gpo gm gmo kids tx)⟩,ask_5 wd ht dp sh fo ch nn gs gp gpo gm gmo kids tx,by simp[thV]⟩,hb⟩
  ·refine(thing_6 wd ht dp sh fo ch nn gs gp gpo gm gmo kids tx w).mono ?_
   rintro e w' ⟨rfl,hb⟩
   exact⟨⟨_,rfl,.inr ⟨_,_,_,_,_,_,rfl,thg_6 wd ht dp sh fo ch nn gs gp gpo gm gmo kids tx,.inl ⟨_,hld_6 wd ht dp sh fo ch nn gs gp gpo gm gmo kids tx⟩⟩,ask_6 wd ht dp sh fo ch nn gs gp gpo gm gmo kids tx,by simp[thV]⟩,hb⟩
  ·refine(thing_7 wd ht dp sh fo ch nn gs gp gpo gm gmo kids tx w).mono ?_
   rintro e w' ⟨rfl,hb⟩
   exact⟨⟨_,rfl,.inr ⟨_,_,_,_,_,_,rfl,thg_7 wd ht dp sh fo ch nn gs gp gpo gm gmo kids tx,.inl ⟨_,hld_7 wd ht dp sh fo ch nn gs gp gpo gm gmo kids tx⟩⟩,ask_7 wd ht dp sh fo ch nn gs gp gpo gm gmo kids tx,by simp[thV]⟩,hb⟩
  ·refine(thing_8 wd ht dp sh fo ch nn gs gp gpo gm gmo kids tx w).mono ?_
   rintro e w' ⟨rfl,hb⟩
   exact⟨⟨_,rfl,.inr ⟨_,_,_,_,_,_,rfl,thg_8 wd ht dp sh fo ch nn gs gp gpo gm gmo kids tx,.inr (nohld_8 wd ht dp sh fo ch nn gs gp gpo gm gmo kids tx)⟩,ask_8 wd ht dp sh fo ch nn gs gp gpo gm gmo kids tx,by simp[thV]⟩,hb⟩
  ·refine(thing_9 wd ht dp sh fo ch nn gs gp gpo gm gmo kids tx w).mono ?_
   rintro e w' ⟨rfl,hb⟩
   exact⟨⟨_,rfl,.inr ⟨_,_,_,_,_,_,rfl,thg_9 wd ht dp sh fo ch nn gs gp gpo gm gmo kids tx,.inr (nohld_9 wd ht dp sh fo ch nn gs gp gpo gm gmo kids tx)⟩,ask_9 wd ht dp sh fo ch nn gs gp gpo gm gmo kids tx,by simp[thV]⟩,hb⟩
  ·refine(thing_10 wd ht dp sh fo ch nn gs gp gpo gm gmo kids tx w).mono ?_
   rintro e w' ⟨rfl,hb⟩
   exact⟨⟨_,rfl,.inr ⟨_,_,_,_,_,_,rfl,thg_10 wd ht dp sh fo ch nn gs gp gpo gm gmo kids tx,.inr (nohld_10 wd ht dp sh fo ch nn gs gp gpo gm gmo kids tx)⟩,ask_10 wd ht dp sh fo ch nn gs gp gpo gm gmo kids tx,by simp[thV]⟩,hb⟩
  ·refine(thing_11 wd ht dp sh fo ch nn gs gp gpo gm gmo kids tx w).mono ?_
   rintro e w' ⟨rfl,hb⟩
   exact⟨⟨_,rfl,.inr ⟨_,_,_,_,_,_,rfl,thg_11 wd ht dp sh fo ch nn gs gp gpo gm gmo kids tx,.inl ⟨_,hld_11 wd ht dp sh fo ch nn gs gp gpo gm gmo kids tx⟩⟩,ask_11 wd ht dp sh fo ch nn gs gp gpo gm gmo kids tx,by simp[thV]⟩,hb⟩
 ·refine(thing_0 k wd ht dp sh fo ch nn gs gp gpo gm gmo kids tx w hk).mono ?_
  rintro e w' ⟨rfl,hb⟩
  exact⟨⟨_,rfl,.inl ⟨rfl,bad_kind _ hk⟩,ask_0 _ hk,by unfold thV;rw[if_neg (by simp only;omega),if_neg (by simp only;omega),if_neg (by simp only;omega),if_neg (by simp only;omega),if_neg (by simp only;omega),if_neg (by simp only;omega),if_neg (by simp only;omega),if_neg (by simp only;omega),if_neg (by simp only;omega),if_neg (by simp only;omega),if_neg (by simp only;omega)]⟩,hb⟩
end Go.Proofs.YtbbehmcekbnkiaaGreat
namespace Go.Proofs.YtbbehmcekbnkiaaGreat
open Go.RowKit Go.Shelf
set_option linter.unusedVariables false
set_option linter.unusedSimpArgs false
attribute [local go_sem] Oper.semAt_some
def starts (xs:List Nd):Nat->Nat->List Nat
 | 0,_=>[]
 | f+1,i=>if i<xs.length then i :: starts xs f (i+1+(xs.getD i Nd.none).kids.toNat) else []
def kin (y x:Nd):Prop:=y=x/\y.kids=x.kids
structure Src (xs:List Nd)(ao:Option Addr)(Bs b off cap:Nat)(W:World):Prop where
 box:W.cell? ⟨Bs,0,none⟩=some (.slice ao xs.length cap)
 some_:0<xs.length->ao=some ⟨b,off,none⟩
 at_:∀i,i<xs.length->∃y:Nd,kin y (xs.getD i Nd.none)/\∀j,j<15->W.cell? ⟨b,off+i*15+j,none⟩=y.cells[j]?
theorem Src.grown {xs:List Nd}{ao:Option Addr}{Bs b off cap:Nat}{W W':World}(h:Src xs ao Bs b off cap W)(hb:Below W.heap.size W W'):Src xs ao Bs b off cap W':=by
 refine⟨(hb.cell (p:=⟨Bs,0,none⟩) (World.block_lt_of_cell? W _ h.box)).trans h.box,h.some_,fun i hi=>?_⟩
 obtain⟨y,hk,hc⟩:=h.at_ i hi
 refine⟨y,hk,fun j hj=>?_⟩
 have h1:=hc j hj
 rw[List.getElem?_eq_getElem (show j<y.cells.length by exact hj)] at h1 ⊢
 exact(hb.cell (p:=⟨b,off+i*15+j,none⟩) (World.block_lt_of_cell? W _ h1)).trans h1
def Item (xs:List Nd):Type:={ p:Nat×Value // p.1<xs.length/\∃y:Nd,kin y (xs.getD p.1 Nd.none)/\ThingQ y p.2 }
def Item.encs {xs:List Nd}(x:Item xs):Array Value:=#[.int .i64 (x.1.1:Int),x.1.2]
theorem each1_in (n l:Nat)(hn:1<=n)(xs:List Nd)(ao:Option Addr)(Bs b off cap:Nat)(hlen:xs.length<=20000)(hkids:∀i,i<xs.length->0<=(xs.getD i Nd.none).kids/\(xs.getD i Nd.none).kids<=20000)(J Jx:List (Item xs)->World->Prop)(W:World)(hJ:AbidesFrom W.heap.size J)(hS:Src xs ao Bs b off cap W)
 (hY:∀pre x W1,J pre W1->pre.length<xs.length+1->YieldAt Fence.wide (n-1) Tryz.prog l (Item.encs x) W1 fun e W' =>
  (e = .returned (.bool true)/\J (pre++[x]) W'/\(Src xs ao Bs b off cap W1->Src xs ao Bs b off cap W'))\/(e = .returned (.bool false)/\Jx (pre++[x]) W')) (h0:J [] W) :
 CallsIn Fence.wide n Tryz.prog 65 #[.func (.yield l) #[] #[],.pointer (some ⟨Bs,0,none⟩)] W fun e W'=>(∃v,e = .returned v)/\
  ((∃ys:List (Item xs),ys.map (·.1.1)=starts xs (xs.length+1) 0/\J ys W')\/(∃pre,True/\Jx pre W')):=by
 refine callsIn_of_wp Tryz.func65 rfl trivial ?_ rfl
 simp only[Tryz.ntmps65,List.size_toArray,List.length_cons,List.length_nil,Nat.reduceAdd,Nat.reduceSub,Array.replicate_succ,Array.replicate_zero,List.push_toArray,List.append_toArray,List.nil_append,List.cons_append]
 gi_wp2
 gi_loopw [3] (fun a wr=>∃(i f:Nat) (pre:List (Item xs)),a = .int .i64 (i:Int)/\i<=40001/\xs.length<i+f/\Hid (pre.map (·.1.1)++starts xs f i=starts xs (xs.length+1) 0)/\pre.length<=i/\J pre wr/\Hid (Src xs ao Bs b off cap wr)) (fun a _=>xs.length-(intOf a).toNat)
 case atStart=>exact⟨0,xs.length+1,[],rfl,by omega,by omega,rfl,by simp,h0,hS⟩
 case round =>
  obtain⟨i,f,pre,rfl,hi,hf,HP,hpl,hJs,HS⟩:=hrel
  have hbox:=HS.out.box
  by_cases hil:i<xs.length
  ·have hii:(i:Int)<(xs.length:Int):=by omega
   obtain rfl:=HS.out.some_ (by omega)
   obtain⟨y,hy,hyc⟩:=HS.out.at_ i hil
   have TC:Hid (∀w:World,Calls Tryz.prog 62 #[ndV y] w fun r w'=>(∃v,r = .returned v/\ThingQ y v)/\Below w.heap.size w w'):=hideP (fun w=>thing_q y w)
   have HY:=hideP hy
   have hkk:=hkids i hil
   rw[<-hy.2] at hkk
   obtain⟨y0,hy0⟩:=exq (y)
   rw[<-hy0] at HY
   have HY0:=hideP hy0
   obtain⟨kd,wd,hh,dp,sh,fo,ch,nn,gs,gp,gpo,gm,gmo,tx,kids⟩:=y
   simp only[Nd.cells] at hyc
   have c0:wr.cell? ⟨b,off+i*15,none⟩=some (.int .i64 kd):=hyc 0 (by omega)
   have c1:wr.cell? ⟨b,off+i*15+1,none⟩=some (.int .i64 wd):=hyc 1 (by omega)
   have c2:wr.cell? ⟨b,off+i*15+2,none⟩=some (.int .i64 hh):=hyc 2 (by omega)
   have c3:wr.cell? ⟨b,off+i*15+3,none⟩=some (.int .i64 dp):=hyc 3 (by omega)
   have c4:wr.cell? ⟨b,off+i*15+4,none⟩=some (.int .i64 sh):=hyc 4 (by omega)
   have c5:wr.cell? ⟨b,off+i*15+5,none⟩=some (.int .i64 fo):=hyc 5 (by omega)
   have c6:wr.cell? ⟨b,off+i*15+6,none⟩=some (.int .i64 ch):=hyc 6 (by omega)
   have c7:wr.cell? ⟨b,off+i*15+7,none⟩=some (.int .i64 nn):=hyc 7 (by omega)
   have c8:wr.cell? ⟨b,off+i*15+8,none⟩=some (.int .i64 gs):=hyc 8 (by omega)
   have c9:wr.cell? ⟨b,off+i*15+9,none⟩=some (.int .i64 gp):=hyc 9 (by omega)
   have c10:wr.cell? ⟨b,off+i*15+10,none⟩=some (.int .i64 gpo):=hyc 10 (by omega)
   have c11:wr.cell? ⟨b,off+i*15+11,none⟩=some (.int .i64 gm):=hyc 11 (by omega)
   have c12:wr.cell? ⟨b,off+i*15+12,none⟩=some (.int .i64 gmo):=hyc 12 (by omega)
   have c13:wr.cell? ⟨b,off+i*15+13,none⟩=some (.string tx):=hyc 13 (by omega)
   have c14:wr.cell? ⟨b,off+i*15+14,none⟩=some (.int .i64 kids):=hyc 14 (by omega)
   have HJ:=hideP hJs
   dsimp only at hkk
   obtain⟨hk0,hk1⟩:=hkk
   obtain⟨f,rfl⟩:∃q,f=q+1:=⟨f-1,by omega⟩
   have HST:Hid (pre.map (·.1.1)++i :: starts xs f (i+1+kids.toNat)=starts xs (xs.length+1) 0):=hideP (by
    have h:=HP.out
    rw[show starts xs (f+1) i=i :: starts xs f (i+1+(xs.getD i Nd.none).kids.toNat) by simp only[starts];rw[if_pos hil]] at h
    rw[<-HY.out.2,HY0.out] at h
    exact h)
   clear hyc hJs hy hy0
   gi_wp2_with fail
   refine⟨trivial,CallsIn.mono (callsIn_wide.2 (TC.out wr)) ?_⟩
   rintro e w1 ⟨⟨v,rfl,hth⟩,hb1⟩
   have hJ1:J pre w1:=hJ pre wr w1 none HJ.out ⟨hb1.os,hb1.tape,hb1.output,hb1.size,fun k hk _=>hb1.block k hk⟩ (fun r e=>by cases e)
   have HS1:=hideP (HS.out.grown hb1)
   rw[<-HY0.out] at hth
   obtain⟨x,hx⟩:∃x:Item xs,x=⟨(i,v),hil,y0,HY.out,hth⟩:=⟨_,rfl⟩
   obtain⟨fn,tmps,assign,body,hyl,hR⟩:=hY pre x w1 hJ1 (by omega)
   have HX:Hid (x.1.1=i):=hideP (by rw[hx])
   rw[show Item.encs x = #[.int .i64 (i:Int),v] by rw[hx];rfl] at hyl
   clear hb1 hJ1 hth hbox hx c0 c1 c2 c3 c4 c5 c6 c7 c8 c9 c10 c11 c12 c13 c14
   have HRR:=hideP hR
   clear hR
   gi_wp2_with fail
   refine HRR.out.mono ?_
   rintro e W3 (⟨rfl,hJ3,hk3⟩ | ⟨rfl,hJx3⟩)
   ·have HS3:=hideP (hk3 HS1.out)
    have hbox3:=HS3.out.box
    obtain⟨y3,hy3,hc3⟩:=HS3.out.at_ i hil
    have c14:W3.cell? ⟨b,off+i*15+14,none⟩=some (.int .i64 kids):=by
     rw[hc3 14 (by omega),show y3.cells[14]?=some (.int .i64 y3.kids) from rfl,hy3.2,<-HY.out.2,HY0.out]
    have HJ3:=hideP hJ3
    clear hJ3 hk3 hc3 hy3
    gi_wp2_with fail
    go_roundw
    case rel =>
     refine⟨i+1+kids.toNat,f,pre++[x],congrArg _ (by omega),by omega,by omega,hideP ?_,by simp;omega,HJ3.out,HS3⟩
     rw[List.map_append,List.append_assoc,List.map_singleton,HX.out]
     exact HST.out
    case measure=>simp[intOf];omega
   ·gi_wp2
    refine bodyPost_ret (results_none rfl _ _ _) rfl ?_
    exact⟨⟨_,rfl⟩,.inr ⟨pre++[x],trivial,hJx3⟩⟩
  ·have hii:¬(i:Int)<(xs.length:Int):=by omega
   have HE:Hid (pre.map (·.1.1)=starts xs (xs.length+1) 0):=hideP (by
    have h:=HP.out
    cases f with
    | zero=>simpa [starts] using h
    | succ f =>
     rw[show starts xs (f+1) i=[] by simp only[starts];rw[if_neg hil]] at h
     simpa using h)
   gi_wp2
   go_end0
   exact⟨⟨_,rfl⟩,.inl ⟨pre,HE.out,hJs⟩⟩
theorem eachItem_any (a:Option Addr)(len cap:Nat)(w:World) :
 Calls Tryz.prog 35 #[.slice a len cap] w fun e w'=>e = .returned (.func (.func 65) #[] #[.pointer (some ⟨w.heap.size,0,none⟩)])/\w'=w.alloc (.cells #[.slice a len cap] 24):=by
 go_enter Tryz.func35,Tryz.ntmps35
 go_wp2
 go_ret
 exact⟨rfl,rfl⟩
theorem each_stops (n:Nat)(hn:1<=n)(xs:List Nd)(ao:Option Addr)(Bs b off cap:Nat)(hlen:xs.length<=20000)(hkids:∀i,i<xs.length->0<=(xs.getD i Nd.none).kids/\(xs.getD i Nd.none).kids<=20000)(w:World)(hS:Src xs ao Bs b off cap w) :
 SeqStopsK Fence.wide n Tryz.prog 65 #[.pointer (some ⟨Bs,0,none⟩)] (Item.encs (xs:=xs)) (fun A B=>Src xs ao Bs b off cap A->Src xs ao Bs b off cap B) (fun ys=>ys.map (·.1.1)=starts xs (xs.length+1) 0) (fun _=>True) (xs.length+1) w:=fun l J Jx W hW hJ _ hY h0=>by
 refine(each1_in n l hn xs ao Bs b off cap hlen hkids J Jx W hJ (hS.grown hW) hY h0).mono ?_
 rintro e W' ⟨he,⟨ys,hys,hj⟩ | ⟨pre,_,hj⟩⟩
 ·exact⟨he,.inl ⟨ys,hys,hj⟩⟩
 ·exact⟨he,.inr ⟨pre,trivial,hj⟩⟩
end Go.Proofs.YtbbehmcekbnkiaaGreat
namespace Go.Proofs.YtbbehmcekbnkiaaGreat
open Go.Shelf
def Tryz.laysM316_ren:Go.Shelf.Ren:=⟨fun|316=>85|n=>n,fun|9=>9|3=>3|4=>4|37=>22|0=>0|127=>201|5=>5|n=>n,fun|n=>n⟩
theorem Tryz.laysM316:Go.Proofs.LaysM.n316 Tryz.prog Tryz.laysM316_ren:={
 mixed:=by kernel_rfl
 f316:=Tryz.func85.trans (congrArg some (by kernel_rfl))
 t0:=Tryz.underlying0
 a0:=Tryz.isAgg0
 z0:=Tryz.sizeOf0
 v0:=Tryz.zeroValue0
 t3:=Tryz.underlying3
 a3:=Tryz.isAgg3
 z3:=Tryz.sizeOf3
 v3:=Tryz.zeroValue3
 t4:=Tryz.underlying4
 a4:=Tryz.isAgg4
 z4:=Tryz.sizeOf4
 v4:=Tryz.zeroValue4
 t9:=Tryz.underlying9
 a9:=Tryz.isAgg9
 z9:=Tryz.sizeOf9
 v9:=Tryz.zeroValue9
 t37:=Tryz.underlying22
 a37:=Tryz.isAgg22
 z37:=Tryz.sizeOf22
 v37:=Tryz.zeroValue22
 t127:=Tryz.underlying201
 a127:=Tryz.isAgg201
 z127:=Tryz.sizeOf201
 v127:=Tryz.zeroValue201
 t5:=Tryz.underlying5
 a5:=Tryz.isAgg5
 z5:=Tryz.sizeOf5
 v5:=Tryz.zeroValue5
 i0:=by kernel_rfl
 i3:=by kernel_rfl
 i4:=by kernel_rfl
 i5:=by kernel_rfl
 i9:=by kernel_rfl
 i37:=by kernel_rfl
 i127:=by kernel_rfl }
open Go.RowKit in
theorem Tryz.stringslite_Clone (s:ByteArray)(w:World)(hlim:s.size<=281474976710656) :
 Calls Tryz.prog 85 #[.string s] w fun e w'=>e = .returned (.string s)/\Below w.heap.size w w':=Any.stringslite_Clone Tryz.laysM316 s w hlim
end Go.Proofs.YtbbehmcekbnkiaaGreat
namespace Go.Proofs.YtbbehmcekbnkiaaGreat
open Go.RowKit
set_option linter.unusedVariables false
set_option linter.unusedSimpArgs false
def flatN:List Nd->List Value
 | []=>[]
 | x :: xs=>x.cells++flatN xs
theorem cells_len (x:Nd):x.cells.length=15:=rfl
theorem flatN_len:∀xs:List Nd,(flatN xs).length=xs.length*15
 | []=>rfl
 | x :: xs=>by simp only[flatN,List.length_append,List.length_cons,flatN_len xs,cells_len];omega
theorem flatN_one:∀xs:List Nd,∀u∈flatN xs,u.oneCell'=true
 | [],u,h=>by simp[flatN] at h
 | x :: xs,u,h=>by
  simp only[flatN,List.mem_append] at h
  rcases h with h|h
  ·simp only[Nd.cells,List.mem_cons,List.not_mem_nil,or_false] at h
   rcases h with rfl|rfl|rfl|rfl|rfl|rfl|rfl|rfl|rfl|rfl|rfl|rfl|rfl|rfl|rfl<;>rfl
  ·exact flatN_one xs u h
theorem flatN_get:∀(xs:List Nd) (i:Nat),i<xs.length->∀j,j<15->(flatN xs)[i*15+j]?=(xs.getD i Nd.none).cells[j]?
 | [],i,h,_,_=>by simp at h
 | x :: xs,0,h,j,hj=>by
  simp only[flatN,List.getD_cons_zero]
  rw[Nat.zero_mul,Nat.zero_add,List.getElem?_append_left (by rw[cells_len];exact hj)]
 | x :: xs,i+1,h,j,hj=>by
  simp only[List.length_cons] at h
  simp only[flatN,List.getD_cons_succ]
  rw[List.getElem?_append_right (by rw[cells_len];omega),cells_len,show (i+1)*15+j-15=i*15+j by omega]
  exact flatN_get xs i (by omega) j hj
theorem flatN_at (xs:List Nd)(i:Nat)(h:i<xs.length)(j:Nat)(hj:j<15){u:Value}(hu:(xs.getD i Nd.none).cells[j]?=some u):(flatN xs)[i*15+j]?=some u:=(flatN_get xs i h j hj).trans hu
theorem stringsClone_any (s:ByteArray)(w:World)(hs:s.size<=281474976710656):Calls Tryz.prog 64 #[.string s] w fun e w'=>e = .returned (.string s)/\Below w.heap.size w w':=by
 go_enter Tryz.func64,Tryz.ntmps64
 go_wp2_with (go_at_call 85;refine(Tryz.stringslite_Clone s _ hs).mono ?_;rintro e w1 ⟨rfl,hb⟩)
 go_ret
 exact⟨rfl,‹Below _ _ _›⟩
theorem eqNil (w:World)(a:Option Addr)(n c n' c':Nat):(binOp .eql 24 (.slice a n c) (.slice none n' c')).run Tryz.prog w = .ok (.bool a.isNone) w:=Lib.run_eql_slice_nil w _ _ a n c n' c' Tryz.underlying24
theorem Tryz.info57c:(Tryz.prog.info? 36).map (fun i=>(i.zero,i.size,i.bytes))=some (some (ndV Nd.none),15,128):=by kernel_rfl
def NN (lo:Nat)(w:World)(v:Value)(xs:List Nd):Prop:=(v = .slice none 0 0/\xs=[])\/∃b off cap,v = .slice (some ⟨b,off,none⟩) xs.length cap/\xs.length<=cap/\lo<=b/\(0<xs.length->b<w.heap.size)/\∀j u,(flatN xs)[j]?=some u->w.cell? ⟨b,off+j,none⟩=some u
theorem clone_any {lo:Nat}{v:Value}{xs:List Nd}{w:World}(h:NN lo w v xs)(hn:xs.length<=1048576) :
 Calls Tryz.prog 63 #[v] w fun e w'=>∃v',e = .returned v'/\w'.ownsRow w.heap.size 36 15 v' xs.length (flatN xs)/\Below w.heap.size w w':=by
 obtain⟨i0,hi,hz0,hz1,hz2⟩:=info_parts Tryz.info57c
 have q33:=eqNil
 rcases h with ⟨rfl,rfl⟩ | ⟨b,off,cap,rfl,hcap,hlo,hb,hc⟩
 ·go_enter Tryz.func63,Tryz.ntmps63
  go_wp2
  go_ret
  exact⟨_,rfl,World.ownsRow_nil _ _ _ _,Below.refl _ _⟩
 ·obtain⟨n,hl⟩:=exq (xs.length)
  rw[<-hl] at hn hcap
  rw[<-hl]
  have HC:Hid (∀j u,(flatN xs)[j]?=some u->w.cell? ⟨b,off+j,none⟩=some u):=hc
  have HLEN:Hid (n=xs.length):=hl
  clear hc hl hb
  go_enter Tryz.func63,Tryz.ntmps63
  go_wp2_with (at_builtin;refine wpList_append_own _ rfl _ _ 24 rfl w.heap.size 36 i0 _ 15 128 Tryz.underlying24 hi hz0 hz1 hz2 rfl (by decide) _ _ _ rfl (World.ownsRow_made w #[] 0 (Nat.le_refl _) (Nat.zero_le _) (by simp)) ⟨b,off,none⟩ n cap (flatN xs) rfl ?c1 ?c2 ?c3 ?c4 ?c5 ?c6 ?_)
  case c1=>rw[flatN_len,<-show n=xs.length from HLEN]
  case c2 =>
   intro j u hj
   rw[Addr.add_lit]
   exact Lib.cell?_alloc_some _ (HC j u hj)
  case c3=>exact flatN_one xs
  case c4=>unfold maxLen;omega
  case c5=>omega
  case c6=>simp
  intro v' w1 hown hgrow hnil
  have HO:Hid (w1.ownsRow w.heap.size 36 15 v' n (flatN xs)/\Below w.heap.size w w1):=⟨by simpa using hown,((Below.refl _ w).alloc (Nat.le_refl _) _).grown hgrow (by simp) (by intro k hk;simp[Value.ownBlock] at hk;omega)⟩
  clear hown hgrow hnil
  go_wp2
  go_ret
  exact⟨v',rfl,HO⟩
theorem own_shape {base n:Nat}{w:World}{v:Value}{xs:List Value}(h:w.ownsRow base 36 15 v n xs):∃ao cap,v = .slice ao n cap/\(0<n->∃g,ao=some ⟨g,0,none⟩/\base<=g/\g<w.heap.size):=by
 obtain⟨hl,⟨rfl,rfl⟩ | ⟨g,cap,cur,rfl,hg,hb,_⟩⟩:=h
 ·exact⟨_,_,rfl,fun h=>absurd h (Nat.lt_irrefl 0)⟩
 ·exact⟨_,_,rfl,fun _=>⟨g,rfl,hg,(glt hb)⟩⟩
theorem own_cell {base g n cap:Nat}{w:World}{xs:List Value}(h:w.ownsRow base 36 15 (.slice (some ⟨g,0,none⟩) n cap) n xs){j:Nat}{x:Value}(hj:xs[j]?=some x):w.cell? ⟨g,j,none⟩=some x/\w.frozen? ⟨g,j,none⟩=false:=by
 obtain⟨hl,h | ⟨g',cap',cur,e,hg,hb,hn,hm,hs,hx⟩⟩:=h
 ·exact absurd h.1 (by simp)
 ·simp at e
  obtain⟨rfl,rfl⟩:=e
  refine⟨?_,frozen_of_row w g j cur 36 hb⟩
  rw[cell_of_row w g _ cur 36 _ hb,<-Array.getElem?_toList]
  rw[<-hx,List.getElem?_take] at hj
  split at hj
  ·exact hj
  ·simp at hj
theorem own_below {base n:Nat}{w w':World}{v:Value}{xs:List Value}(h:w.ownsRow base 36 15 v n xs)(hb:Below w.heap.size w w'):w'.ownsRow base 36 15 v n xs:=by
 obtain⟨hl,h | ⟨g,cap,cur,rfl,hg,hbk,hr⟩⟩:=h
 ·exact⟨hl,.inl h⟩
 ·exact⟨hl,.inr ⟨g,cap,cur,rfl,hg,(hb.block g (glt hbk)).trans hbk,hr⟩⟩
theorem own_set {base g n cap:Nat}{w:World}{xs:List Value}(h:w.ownsRow base 36 15 (.slice (some ⟨g,0,none⟩) n cap) n xs)(j:Nat)(x:Value):(w.setCell ⟨g,j,none⟩ x).ownsRow base 36 15 (.slice (some ⟨g,0,none⟩) n cap) n (xs.set j x):=by
 simpa using(World.ownsRow.stored h j x).1
theorem own_put {base g n cap:Nat}{w:World}{xs:List Value}(h:w.ownsRow base 36 15 (.slice (some ⟨g,0,none⟩) n cap) n xs){j:Nat}{x:Value}(hj:xs[j]?=some x):(w.setCell ⟨g,j,none⟩ x).ownsRow base 36 15 (.slice (some ⟨g,0,none⟩) n cap) n xs:=by
 have h2:=own_set h j x
 rw[show xs.set j x=xs from by
  apply List.ext_getElem?
  intro i
  rw[List.getElem?_set]
  split
  ·rename_i hij
   subst hij
   rw[hj]
   split
   ·rfl
   ·rename_i h3
    rw[List.getElem?_eq_none (by omega)] at hj
    exact hj
  ·rfl] at h2
 exact h2
theorem copyNodes_any {lo:Nat}{v:Value}{xs:List Nd}{w:World}(h:NN lo w v xs)(hn:xs.length<=1048576)(hs:∀i,i<xs.length->(xs.getD i Nd.none).tx.size<=281474976710656) :
 Calls Tryz.prog 34 #[v] w fun e w'=>∃v',e = .returned v'/\w'.ownsRow w.heap.size 36 15 v' xs.length (flatN xs)/\Below w.heap.size w w':=by
 obtain⟨n,hl⟩:=exq (xs.length)
 have HT:Hid (NN lo w v xs):=h
 have HLEN:Hid (n=xs.length):=hl
 have HS:Hid (∀i,i<xs.length->(xs.getD i Nd.none).tx.size<=281474976710656):=hs
 obtain⟨ao,n',cap,rfl⟩:∃a n c,v = .slice a n c:=by
  rcases h with ⟨rfl,_⟩ | ⟨b,off,cap,rfl,_⟩
  ·exact⟨_,_,_,rfl⟩
  ·exact⟨_,_,_,rfl⟩
 rw[<-hl] at hn
 rw[<-hl]
 clear hs hl h
 go_enter Tryz.func34,Tryz.ntmps34
 go_wp2_with (go_at_call 63;refine(clone_any HT (by rw[<-show n=xs.length from HLEN];exact hn)).mono ?_;rintro e w1 ⟨v1,rfl,hown,hb⟩;rw[<-show n=xs.length from HLEN] at hown;have hsh:=own_shape hown;obtain⟨a1,cap1,rfl,hg1⟩:=hsh;have HO:Hid (w1.ownsRow w.heap.size 36 15 (.slice a1 n cap1) n (flatN xs)/\Below w.heap.size w w1):=⟨hown,hb⟩;have HG:Hid (0<n->∃g,a1=some ⟨g,0,none⟩/\w.heap.size<=g/\g<w1.heap.size):=hg1;clear hown hb hg1)
 go_loopw [10] (fun i wr=>∃k:Nat,k<=n/\i = .int .i64 k/\wr.ownsRow w.heap.size 36 15 (.slice a1 n cap1) n (flatN xs)/\Below w.heap.size w wr) (fun i _=>n-(intOf i).toNat)
 case atStart=>exact⟨0,by omega,rfl,HO.1,HO.2⟩
 case round =>
  obtain⟨k,hk,rfl,hown,hbel⟩:=hrel
  by_cases hkn:k<n
  ·have hki:(k:Int)<(n:Int):=by omega
   obtain⟨g,rfl,hg0,hg1⟩:=HG (by omega)
   obtain⟨t,ht⟩:=exq (xs.getD k Nd.none)
   have hkt:k<xs.length:=by rw[<-show n=xs.length from HLEN];exact hkn
   have hts:t.tx.size<=281474976710656:=by rw[ht];exact HS k hkt
   obtain⟨kd,wd,hh,dp,sh,fo,ch,nn,gs,gp,gpo,gm,gmo,tx,kids⟩:=t
   obtain⟨c0,z0⟩:=own_cell hown (flatN_at xs k hkt 0 (by omega) (show _=some (Value.int .i64 kd) by rw[<-ht];rfl))
   obtain⟨c1,z1⟩:=own_cell hown (flatN_at xs k hkt 1 (by omega) (show _=some (Value.int .i64 wd) by rw[<-ht];rfl))
   obtain⟨c2,z2⟩:=own_cell hown (flatN_at xs k hkt 2 (by omega) (show _=some (Value.int .i64 hh) by rw[<-ht];rfl))
   obtain⟨c3,z3⟩:=own_cell hown (flatN_at xs k hkt 3 (by omega) (show _=some (Value.int .i64 dp) by rw[<-ht];rfl))
   obtain⟨c4,z4⟩:=own_cell hown (flatN_at xs k hkt 4 (by omega) (show _=some (Value.int .i64 sh) by rw[<-ht];rfl))
   obtain⟨c5,z5⟩:=own_cell hown (flatN_at xs k hkt 5 (by omega) (show _=some (Value.int .i64 fo) by rw[<-ht];rfl))
   obtain⟨c6,z6⟩:=own_cell hown (flatN_at xs k hkt 6 (by omega) (show _=some (Value.int .i64 ch) by rw[<-ht];rfl))
   obtain⟨c7,z7⟩:=own_cell hown (flatN_at xs k hkt 7 (by omega) (show _=some (Value.int .i64 nn) by rw[<-ht];rfl))
   obtain⟨c8,z8⟩:=own_cell hown (flatN_at xs k hkt 8 (by omega) (show _=some (Value.int .i64 gs) by rw[<-ht];rfl))
   obtain⟨c9,z9⟩:=own_cell hown (flatN_at xs k hkt 9 (by omega) (show _=some (Value.int .i64 gp) by rw[<-ht];rfl))
   obtain⟨c10,z10⟩:=own_cell hown (flatN_at xs k hkt 10 (by omega) (show _=some (Value.int .i64 gpo) by rw[<-ht];rfl))
   obtain⟨c11,z11⟩:=own_cell hown (flatN_at xs k hkt 11 (by omega) (show _=some (Value.int .i64 gm) by rw[<-ht];rfl))
   obtain⟨c12,z12⟩:=own_cell hown (flatN_at xs k hkt 12 (by omega) (show _=some (Value.int .i64 gmo) by rw[<-ht];rfl))
   obtain⟨c13,z13⟩:=own_cell hown (flatN_at xs k hkt 13 (by omega) (show _=some (Value.string tx) by rw[<-ht];rfl))
   obtain⟨c14,z14⟩:=own_cell hown (flatN_at xs k hkt 14 (by omega) (show _=some (Value.int .i64 kids) by rw[<-ht];rfl))
   simp only[Nat.add_zero] at c0
   have HF:Hid ((flatN xs)[k*15+13]?=some (.string tx)):=hideP (flatN_at xs k hkt 13 (by omega) (show _=some (Value.string tx) by rw[<-ht];rfl))
   have hgw:g<wr.heap.size:=(World.ownsRow.lt hown g rfl).2
   have HO2:Hid (wr.ownsRow w.heap.size 36 15 (.slice (some ⟨g,0,none⟩) n cap1) n (flatN xs)/\Below w.heap.size w wr):=⟨hown,hbel⟩
   dsimp only at hts
   clear hown hbel ht z0 z1 z2 z3 z4 z5 z6 z7 z8 z9 z10 z11 z12 z13 z14
   go_wp2_with (go_at_call 64;refine(stringsClone_any tx _ hts).mono ?_;rintro e w2 ⟨rfl,hb2⟩;have hbx:=below_more (below1 wr _) hb2 (by simp);have hown2:=own_below HO2.1 hbx;have hst:=own_cell hown2 HF.out;obtain⟨hs2,hfz⟩:=hst;have HO3:Hid (w2.ownsRow w.heap.size 36 15 (.slice (some ⟨g,0,none⟩) n cap1) n (flatN xs)/\Below w.heap.size w w2):=⟨hown2,below_more HO2.2 hbx (Below.size HO2.2)⟩;clear hown2 hb2 hbx)
   go_roundw
   case rel=>exact⟨k+1,by omega,by go_num,own_put HO3.1 HF.out,HO3.2.setCell hg0 _⟩
   case measure=>simp[intOf];omega
  ·have hki:¬(k:Int)<(n:Int):=by omega
   obtain rfl:k=n:=by omega
   have HP:Hid (wr.ownsRow w.heap.size 36 15 (.slice a1 k cap1) k (flatN xs)/\Below w.heap.size w wr):=⟨hown,hbel⟩
   clear hown hbel
   go_wp2
   go_ret
   exact⟨_,rfl,HP⟩
end Go.Proofs.YtbbehmcekbnkiaaGreat

import Derived.Test.YtbbehmcekbnkiaaGreatSrct
namespace Go.Proofs.YtbbehmcekbnkiaaGreat
set_option maxHeartbeats 16000000
open Go.RowKit
set_option linter.unusedVariables false
set_option linter.unusedSimpArgs false
theorem run_bsN2 (W:World)(x y:Nd):(Instr.buildSlice 24 2 #[(0,ndV x),(1,ndV y)]).run Tryz.prog W = .ok (.slice (some ⟨W.heap.size,0,none⟩) 2 2) (W.alloc (.cells (ndA x++ndA y) 36)):=by
 obtain⟨k,wd,ht,dp,sh,fo,ch,nn,gs,gp,gpo,gm,gmo,tx,kids⟩:=x
 obtain⟨k2,wd2,ht2,dp2,sh2,fo2,ch2,nn2,gs2,gp2,gpo2,gm2,gmo2,tx2,kids2⟩:=y
 kernel_rfl
theorem wp_bsN2 {w:World}{o:Oper}{a:Act}{K:Act->World->Prop}{Q:Exit->Act->World->Prop}{p q:Operand}{x y:Nd}(ho:o.op = .buildSlice 24 2 #[(0,p),(1,q)])(hp:a.eval p=ndV x)(hq:a.eval q=ndV y)
 (h:K (a.put o.dst (.slice (some ⟨w.heap.size,0,none⟩) 2 2)) (w.alloc (.cells (ndA x++ndA y) 36))):o.wp Tryz.prog a w K Q:=by
 have hr:=run_bsN2 w x y
 unfold Oper.wp
 simp only[execOp,ho,List.map_toArray,List.map_cons,List.map_nil,hp,hq,Sem.run_bind,hr,Result.andThen_ok,Sem.run_pure]
 exact h
theorem nn_two {w:World}{g:Nat}{x y:Nd}(h:w.heap[g]?=some (.cells (ndA x++ndA y) 36 (0,0))):NN 0 w (.slice (some ⟨g,0,none⟩) 2 2) [x,y]:=by
 refine .inr ⟨g,0,2,rfl,Nat.le_refl _,Nat.zero_le _,fun _=>(glt h),fun j u hj=>?_⟩
 rw[Nat.zero_add,cell_of_row _ _ j _ 36 _ h]
 have e:flatN [x,y]=(ndA x++ndA y).toList:=by simp[flatN,Nd.cells]
 rw[e] at hj
 simpa using hj
theorem flatN_take:∀(xs:List Nd) (k:Nat),(flatN xs).take (k*15)=flatN (xs.take k)
 | [],k=>by simp[flatN]
 | x :: xs,0=>by simp[flatN]
 | x :: xs,k+1=>by
  rw[List.take_succ_cons]
  show (x.cells++flatN xs).take ((k+1)*15)=x.cells++flatN (xs.take k)
  rw[<-flatN_take xs k,List.take_append,show x.cells.length=15 from rfl,show (k+1)*15-15=k*15 by omega,List.take_of_length_le (by rw[show x.cells.length=15 from rfl];omega)]
theorem own_begin {w:World}{B n c k:Nat}{a:Option Addr}{xs:List Nd}(h:w.ownsRow B 36 15 (.slice a n c) n (flatN xs))(hk:k<=n):w.ownsRow B 36 15 (.slice a k c) k (flatN (xs.take k)):=by
 have hl:xs.length=n:=by have:=h.1;rw[flatN_len] at this;omega
 refine⟨by rw[flatN_len,List.length_take];congr 1;omega,?_⟩
 rcases h.2 with ⟨e,h0⟩ | ⟨g,cap,cur,e,hb,hg,hn,hm,hsz,ht⟩
 ·cases e
  exact .inl ⟨by rw[show k=0 by omega],by omega⟩
 ·cases e
  refine .inr ⟨g,c,cur,rfl,hb,hg,by omega,hm,hsz,?_⟩
  rw[<-flatN_take,<-ht,List.take_take,Nat.min_eq_left (Nat.mul_le_mul_right _ hk)]
structure RoJ (w wr:World)(S G A GB:Nat)(lv0:Value)(ru:Int)(cv:Value)(gap:Nd)(B0:Nat)(lv:Value)(a:Option Addr)(n c:Nat)(L:List Nd):Prop where
 frs:Frs (fun b=>b=S\/lv0.ownBlock=some b) w wr
 box:wr.heap[w.heap.size]?=some (.cells #[.int .i64 ru,cv] 119 (0,0))
 gp:wr.heap[GB]?=some (ndO gap)
 hG:w.heap.size<GB
 st:wr.heap[S]?=some (stO G A lv)
 lst:∃n' L',wr.ownsRow B0 36 15 lv n' L'
 at_:∀b,lv.ownBlock=some b->lv0.ownBlock=some b\/w.heap.size<=b
 own:wr.ownsRow w.heap.size 36 15 (.slice a n c) n (flatN L)
 nG:lv.ownBlock≠some GB
 aG:(Value.slice a n c).ownBlock≠some GB
 aL:∀b,(Value.slice a n c).ownBlock=some b->lv.ownBlock≠some b
section
variable {w wr : World} {S G A GB : Nat} {lv0 : Value} {ru : Int} {cv : Value} {gap : Nd} {B0 : Nat} {lv : Value} {a : Option Addr} {n c : Nat} {L : List Nd}
theorem RoJ.lt (h:RoJ w wr S G A GB lv0 ru cv gap B0 lv a n c L):S<wr.heap.size/\GB<wr.heap.size/\w.heap.size<wr.heap.size:=⟨(glt h.st),(glt h.gp),(glt h.box)⟩
theorem RoJ.below {w2:World}(h:RoJ w wr S G A GB lv0 ru cv gap B0 lv a n c L)(hb:Below wr.heap.size wr w2):RoJ w w2 S G A GB lv0 ru cv gap B0 lv a n c L:=by
 obtain⟨n',L',hl⟩:=h.lst
 exact⟨h.frs.below hb,(hb.block _ h.lt.2.2).trans h.box,(hb.block _ h.lt.2.1).trans h.gp,h.hG,(hb.block _ h.lt.1).trans h.st,⟨n',L',ownG_below hl hb⟩,h.at_,ownG_below h.own hb,h.nG,h.aG,h.aL⟩
theorem RoJ.cell {w2:World}{lv':Value}{n':Nat}{L':List Value}(h:RoJ w wr S G A GB lv0 ru cv gap B0 lv a n c L)(hf:Frs (fun b=>b=S\/lv.ownBlock=some b) wr w2)(hst:w2.heap[S]?=some (stO G A lv'))(ho:w2.ownsRow B0 36 15 lv' n' L')(ha:∀b,lv'.ownBlock=some b->lv.ownBlock=some b\/wr.heap.size<=b):RoJ w w2 S G A GB lv0 ru cv gap B0 lv' a n c L:=by
 obtain⟨m',M',hl⟩:=h.lst
 obtain⟨l1,l2,l3⟩:=h.lt
 have hs:=h.frs.size
 refine⟨⟨hf.os.trans h.frs.os,hf.tape.trans h.frs.tape,hf.out.trans h.frs.out,Nat.le_trans hs hf.size,fun b hb hn=>(hf.block b (by omega) ?_).trans (h.frs.block b hb hn)⟩,(hf.block _ l3 ?_).trans h.box,(hf.block _ l2 ?_).trans h.gp,h.hG,hst,⟨n',L',ho⟩,?_,ownG_same h.own (fun b hb=>hf.block _ (h.own.lt b hb).2 ?_),?_,h.aG,?_⟩
 ·rintro (e|e)
  ·exact hn (.inl e)
  ·rcases h.at_ b e with h1|h1
   ·exact hn (.inr h1)
   ·omega
 ·rintro (e|e)
  ·exact ty_ne h.box h.st (by decide) e
  ·exact own_neB h.box hl (by decide) e
 ·rintro (e|e)
  ·exact ty_ne h.gp h.st (by decide) e
  ·exact h.nG e
 ·intro b hb
  rcases ha b hb with h1|h1
  ·exact h.at_ b h1
  ·right;omega
 ·rintro (e|e)
  ·exact own_neB h.st h.own (by decide) (by rw[hb,e])
  ·exact h.aL b hb e
 ·intro e
  rcases ha _ e with h1|h1
  ·exact h.nG h1
  ·omega
 ·intro b hb e
  rcases ha b e with h1|h1
  ·exact h.aL b hb h1
  ·have:=(h.own.lt b hb).2;omega
theorem RoJ.app {w2:World}{a':Option Addr}{n' c':Nat}{L':List Nd}(h:RoJ w wr S G A GB lv0 ru cv gap B0 lv a n c L)(hg:wr.grownBy w2 (Value.slice a n c).ownBlock)(ho:w2.ownsRow w.heap.size 36 15 (.slice a' n' c') n' (flatN L'))(ha:(Value.slice a' n' c').ownBlock=(Value.slice a n c).ownBlock\/(Value.slice a' n' c').ownBlock=some wr.heap.size):RoJ w w2 S G A GB lv0 ru cv gap B0 lv a' n' c' L':=by
 obtain⟨m',M',hl⟩:=h.lst
 obtain⟨l1,l2,l3⟩:=h.lt
 refine⟨h.frs.grown hg (fun j hj=> .inr (h.own.lt j hj).1),(hg.block _ l3 (fun e=>own_neB h.box h.own (by decide) e.symm)).trans h.box,(hg.block _ l2 (fun e=>h.aG e.symm)).trans h.gp,h.hG,(hg.block _ l1 (fun e=>own_neB h.st h.own (by decide) e.symm)).trans h.st,⟨m',M',ownG_same hl (fun b hb=>hg.block _ (hl.lt b hb).2 (fun e=>h.aL b e.symm hb))⟩,h.at_,ho,h.nG,?_,?_⟩
 ·rcases ha with e|e
  ·rw[e];exact h.aG
  ·rw[e];intro e2;injection e2 with e3;omega
 ·intro b hb
  rcases ha with e|e
  ·rw[e] at hb;exact h.aL b hb
  ·rw[e] at hb;injection hb with e3;subst e3
   intro e2
   have:=(hl.lt _ e2).2
   omega
end
set_option maxRecDepth 20000 in
theorem line_any {w:World}{S G A cols:Nat}{gs gp gpo gm gmo:Int}{u lv:Value}{f:Nat->Int}(ru:Int)(hS:w.heap[S]?=some (stO G A lv))(hG:w.heap[G]?=some (grO (cols:Int) gs gp gpo gm gmo u))(hA:ArrAt w A f)(hf:Bd f)(h1:1<=cols)(h2:cols<=20)(hgs : -1073741823<=gs/\gs<=1073741823) :
 Calls Tryz.prog 76 #[.pointer (some ⟨S,0,none⟩),.int .i64 ru] w fun e w'=>∃a c,e = .returned (.slice a (hpR [rulN (acr f gs 0 (cols-1)) ru] 0 0).length c)/\w'.ownsRow w.heap.size 36 15 (.slice a (hpR [rulN (acr f gs 0 (cols-1)) ru] 0 0).length c) (hpR [rulN (acr f gs 0 (cols-1)) ru] 0 0).length (flatN (hpR [rulN (acr f gs 0 (cols-1)) ru] 0 0))/\Below w.heap.size w w':=by
 have hSl:S<w.heap.size:=(glt hS)
 have HW:Hid (∀W,Below w.heap.size w W->Calls Tryz.prog 53 #[.pointer (some ⟨G,0,none⟩),.pointer (some ⟨A,0,none⟩)] W fun e w'=>e = .returned (.int .i64 (acr f gs 0 (cols-1)))/\w'=W):=hideP (fun W hW=>whole_any ((hW.block _ (glt hG)).trans hG) (hA.below hW) hf h1 h2 hgs)
 obtain⟨X,hX⟩:=exq (acr f gs 0 (cols-1))
 rw[<-hX] at HW ⊢
 obtain⟨R,hR⟩:=exq (hpR [rulN X ru] 0 0)
 rw[<-hR]
 have HN:Hid (∀W,Calls Tryz.prog 97 #[.agg #[.int .i64 X,.int .i64 ru,.int .i64 0]] W fun r w'=>r = .returned (ndV (rulN X ru))/\Below W.heap.size W w'):=hideP (fun W=>node_rule X ru 0 W)
 have HHP:Hid (∀W g,W.heap[g]?=some (ndO (rulN X ru))->Calls Tryz.prog 10 #[.slice (some ⟨g,0,none⟩) 1 1,.int .i64 0,.int .i64 0] W fun e w'=>∃a c s,e = .returned (packV (.slice a R.length c) s)/\w'.ownsRow W.heap.size 36 15 (.slice a R.length c) R.length (flatN R)/\Below W.heap.size W w'):=hideP (fun W g hg=>by
  rw[hR]
  refine(implH 0 0 (own_one (Nat.zero_le g) hg) rfl (by omega)).mono (fun e w' ⟨u,q1,q2,q3⟩=>?_)
  obtain⟨a9,c9,rfl⟩:=ownG_shape q2
  exact⟨a9,c9,_,q1,q2,q3⟩)
 have HQ:Hid (∀x:World,Below w.heap.size w x->x.cell? ⟨S,0,none⟩=some (.pointer (some ⟨G,0,none⟩))/\x.cell? ⟨S,1,none⟩=some (.pointer (some ⟨A,0,none⟩))):=hideP (fun x hx=>by
  have p1:=(hx.block _ hSl).trans hS
  exact⟨cell_of_row _ _ 0 _ 115 _ p1,cell_of_row _ _ 1 _ 115 _ p1⟩)
 have BD:Hid (Below w.heap.size w w.drew):=hideP ((Below.refl _ _).drew)
 clear hS hG hA hf hgs hX hR
 go_enter Tryz.func76,Tryz.ntmps76
 go_upto_region 1 with fail
 go_cut [5] (fun s5 wc=>∃g,s5 = .pointer (some ⟨g,0,none⟩)/\Hid (wc.heap[g]?=some (.cells #[.int .i64 X,.int .i64 ru,.int .i64 0] 135 (0,0)))/\Hid (Below w.heap.size w wc))
 case first =>
  go_region_held3 (fun x=>x.cell? ⟨S,0,none⟩=some (.pointer (some ⟨G,0,none⟩))/\x.cell? ⟨S,1,none⟩=some (.pointer (some ⟨A,0,none⟩))) (first|exact HQ.out _ BD.out|exact HQ.out _ ((Below.refl _ _).drew.alloc (Nat.le_refl _) _)) (first|(go_at_call 53;refine(HW.out _ BD.out).mono ?_;rintro e w7 ⟨rfl,rfl⟩)|(go_at_call 53;refine(HW.out _ ((Below.refl _ _).drew.alloc (Nat.le_refl _) _)).mono ?_;rintro e w7 ⟨rfl,rfl⟩))
  all_goals
   go_wp2
   go_meet
   case rel=>exact⟨w.heap.size,rfl,hideP (heap_alloc_new w _),hideP ((below1 _ _).drew)⟩
 case rest =>
  obtain⟨g,rfl,HG,HB⟩:=hcut
  have k0:wc.cell? ⟨g,0,none⟩=some (.int .i64 X):=cell_of_row _ _ 0 _ 135 _ HG.out
  have k1:wc.cell? ⟨g,1,none⟩=some (.int .i64 ru):=cell_of_row _ _ 1 _ 135 _ HG.out
  have k2:wc.cell? ⟨g,2,none⟩=some (.int .i64 0):=cell_of_row _ _ 2 _ 135 _ HG.out
  go_wp2_with fail
  refine(HN.out _).mono ?_
  rintro e w1 ⟨rfl,hb1⟩
  have B1:=hideP (below_more HB.out hb1 HB.out.size)
  clear hb1 k0 k1 k2 HG HB
  go_simp
  iterate 1 (first|go_values|go_skip|go_guarded|go_step|go_upon|go_in|go_back)
  refine wpList_bs1 rfl 24 1 0 _ rfl rfl (run_bsN w1 _) ?_
  have E1:Hid ((w1.alloc (.cells (ndA (rulN X ru)) 36)).heap[w1.heap.size]?=some (ndO (rulN X ru))):=hideP (heap_alloc_new w1 _)
  have B2:Hid (Below w.heap.size w (w1.alloc (.cells (ndA (rulN X ru)) 36))):=hideP (B1.out.alloc B1.out.size _)
  obtain⟨W2,hW2⟩:=exq (w1.alloc (.cells (ndA (rulN X ru)) 36))
  rw[<-hW2] at E1 B2 ⊢
  clear hW2
  go_wp2_with fail
  refine(HHP.out _ _ E1.out).mono ?_
  rintro e w3 ⟨a3,c3,s3,rfl,ho3,hb3⟩
  have hfd:=fld28 (.slice a3 R.length c3) s3 w3
  have O3:=hideP (ownG_base ho3 B2.out.size)
  have B3:=hideP (below_more B2.out hb3 B2.out.size)
  clear ho3 hb3
  go_wp2
  go_ret
  exact⟨_,_,rfl,O3.out,B3.out⟩
theorem own_mt {w:World}{g base:Nat}(hb:base<=g)(h:w.heap[g]?=some (.cells #[] 36 (0,0))):w.ownsRow base 36 15 (.slice (some ⟨g,0,none⟩) 0 0) 0 (flatN []) :=
 ⟨rfl,.inr ⟨g,0,#[],rfl,hb,h,Nat.le_refl _,by decide,rfl,rfl⟩⟩
theorem RoJ.boxc {w wr:World}{S G A GB:Nat}{lv0:Value}{ru:Int}{cv:Value}{gap:Nd}{B0:Nat}{lv:Value}{a:Option Addr}{n c:Nat}{L:List Nd}(h:RoJ w wr S G A GB lv0 ru cv gap B0 lv a n c L):wr.cell? ⟨w.heap.size,1,none⟩=some cv:=cell_of_row _ _ 1 _ 119 _ h.box
set_option maxRecDepth 20000 in
theorem rowSet_cells {w0 w:World}{S G A cols n0:Nat}{gs gp gpo gm gmo ru:Int}{u lv:Value}{f:Nat->Int}{L0:List Value}{cs:List Cl}{cv:Value}{ps:List Pl}(hru:¬0<ru)
 (hb0:Below w0.heap.size w0 w) (hS0:w0.heap.size<=S) (hS:w.heap[S]?=some (stO G A lv)) (hG:w.heap[G]?=some (grO (cols:Int) gs gp gpo gm gmo u)) (hA:ArrAt w A f) (hf:Bd f) (h1:1<=cols) (h2:cols<=20) (hgs : -1073741823<=gs/\gs<=1073741823) (o:w.ownsRow w0.heap.size 36 15 lv n0 L0) (ol:w.ownsRow w0.heap.size 122 5 cv cs.length (flatP ps)) (hp:PlOk w0 cs ps cs.length) (hin:RowIn cs (cols:Int)) :
 Calls Tryz.prog 52 #[.pointer (some ⟨S,0,none⟩),.agg #[.int .i64 ru,cv]] w fun e w'=>∃a c lv' n' L',e = .returned (.slice a (rowR f gs (gapN gs gp gpo gm gmo) (cols:Int) ⟨cs,ru⟩).length c)/\w'.ownsRow w.heap.size 36 15 (.slice a (rowR f gs (gapN gs gp gpo gm gmo) (cols:Int) ⟨cs,ru⟩).length c) (rowR f gs (gapN gs gp gpo gm gmo) (cols:Int) ⟨cs,ru⟩).length (flatN (rowR f gs (gapN gs gp gpo gm gmo) (cols:Int) ⟨cs,ru⟩))/\w'.heap[S]?=some (stO G A lv')/\w'.ownsRow w0.heap.size 36 15 lv' n' L'/\(∀b,lv'.ownBlock=some b->lv.ownBlock=some b\/w.heap.size<=b)/\Frs (fun b=>b=S\/lv.ownBlock=some b) w w':=by
 obtain⟨gap,hgap⟩:=exq (gapN gs gp gpo gm gmo)
 rw[<-hgap]
 obtain⟨R,hR⟩:=exq (rowR f gs gap (cols:Int) ⟨cs,ru⟩)
 rw[<-hR]
 unfold rowR at hR
 rw[if_neg hru] at hR
 dsimp only at hR
 obtain⟨la0,lc0,rfl⟩:=ownG_shape ol
 obtain⟨B0,hB0⟩:=exq (w0.heap.size)
 have hSl:S<w.heap.size:=(glt hS)
 have hGl:G<w.heap.size:=(glt hG)
 obtain⟨m,hm⟩:=exq (cs.length)
 have hm20:m<=20:=by rw[hm];have q1:=spK_bound (cols:=(cols:Int)) (by omega) hin.1;have q2:=hin.2;omega
 have HKG:Hid (∀wr,Frs (fun b=>b=S\/lv.ownBlock=some b) w wr->wr.heap[G]?=some (grO (cols:Int) gs gp gpo gm gmo u)/\ArrAt wr A f/\Below w0.heap.size w0 wr):=hideP (fun wr hr=>by
  obtain⟨arr,h1,_,_⟩:=id hA
  refine⟨(hr.block _ hGl ?_).trans hG,hA.same (hr.block _ hA.lt ?_),Frs.toBelow hb0 hr ?_ (by omega)⟩
  ·rintro (e|e)
   ·exact ty_ne hG hS (by decide) e
   ·exact own_neB hG o (by decide) e
  ·rintro (e|e)
   ·exact ty_ne h1 hS (by decide) e
   ·exact own_neB h1 o (by decide) e
  ·rintro b (e|e)
   ·omega
   ·exact(o.lt b e).1)
 have HPL:Hid (∀k,k<m->∃gpp,la0=some ⟨gpp,0,none⟩/\∃(fi la:Nat) (na al:Int) (va:Option Addr) (vn vc:Nat),spK cs k=fi/\spK cs (k+1)-1=la/\fi<=la/\la<20/\(cs.getD k Cl.none).ns.length<=20000/\al=(cs.getD k Cl.none).al/\NN 0 w0 (.slice va vn vc) (cs.getD k Cl.none).ns/\∀wr,Frs (fun b=>b=S\/lv.ownBlock=some b) w wr->gpp<wr.heap.size/\wr.cell? ⟨gpp,k*5,none⟩=some (.int .i64 (fi:Int))/\wr.cell? ⟨gpp,k*5+1,none⟩=some (.int .i64 (la:Int))/\wr.cell? ⟨gpp,k*5+2,none⟩=some (.int .i64 na)/\wr.cell? ⟨gpp,k*5+3,none⟩=some (.int .i64 al)/\wr.cell? ⟨gpp,k*5+4,none⟩=some (.slice va vn vc)):=hideP (fun k hk=>by
  rw[hm] at hk
  obtain⟨gpp,rfl,hgl⟩:=ownG_addr ol (by omega)
  obtain⟨e1,e2,e3,e4,e5,e6⟩:=hp.2 k hk
  obtain⟨t1,t2,t3,_,_,t6⟩:=hin.at (by omega) hk
  obtain⟨va,vc,e7⟩:=e5.shape
  refine⟨gpp,rfl,(spK cs k).toNat,(spK cs (k+1)-1).toNat,(ps.getD k Pl.none).na,(ps.getD k Pl.none).al,va,(cs.getD k Cl.none).ns.length,vc,by omega,by omega,by omega,by omega,Nat.le_of_lt (hpOk_prt t6).1,e4,by rw[<-e7];exact e6,fun wr hr=>?_⟩
  have ow:wr.ownsRow w0.heap.size 122 5 (.slice (some ⟨gpp,0,none⟩) cs.length lc0) cs.length (flatP ps):=ownG_same ol (fun b hb=>hr.block _ (ol.lt b hb).2 (by
   rintro (e|e)
   ·exact own_neB hS ol (by decide) (by rw[hb,e])
   ·rcases ownG_ne o ol (by decide) with h|h
    ·rw[h] at e;cases e
    ·exact h (by rw[e,hb])))
  refine⟨Nat.lt_of_lt_of_le hgl hr.size,ownG_cell ow ((flatP_get ps k (by rw[hp.1];exact hk) 0 (by omega)).trans ?_),ownG_cell ow ((flatP_get ps k (by rw[hp.1];exact hk) 1 (by omega)).trans ?_),ownG_cell ow (flatP_get ps k (by rw[hp.1];exact hk) 2 (by omega)),ownG_cell ow (flatP_get ps k (by rw[hp.1];exact hk) 3 (by omega)),ownG_cell ow ((flatP_get ps k (by rw[hp.1];exact hk) 4 (by omega)).trans ?_)⟩
  ·rw[show ((spK cs k).toNat:Int)=spK cs k by omega,<-e1];rfl
  ·rw[show ((spK cs (k+1)-1).toNat:Int)=spK cs (k+1)-1 by omega,<-e2];rfl
  ·rw[<-e7];rfl)
 have HEN:Hid (0<=spK cs m/\spK cs m<=(cols:Int)/\(m=0->spK cs m=0)):=hideP (by
  rw[hm]
  refine⟨?_,hin.2,fun h=>by rw[h];rfl⟩
  have:=spK_bound (cols:=(cols:Int)) (by omega) hin.1
  omega)
 have HLV:Hid (∀b,lv.ownBlock=some b->b<w.heap.size):=hideP (fun b hb=>(o.lt b hb).2)
 have s0:w.cell? ⟨S,0,none⟩=some (.pointer (some ⟨G,0,none⟩)):=cell_of_row _ _ 0 _ 115 _ hS
 have s1:w.cell? ⟨S,1,none⟩=some (.pointer (some ⟨A,0,none⟩)):=cell_of_row _ _ 1 _ 115 _ hS
 have k1:w.cell? ⟨G,1,none⟩=some (.int .i64 gs):=cell_of_row _ _ 1 _ 110 _ hG
 have k2:w.cell? ⟨G,2,none⟩=some (.int .i64 gp):=cell_of_row _ _ 2 _ 110 _ hG
 have k3:w.cell? ⟨G,3,none⟩=some (.int .i64 gpo):=cell_of_row _ _ 3 _ 110 _ hG
 have k4:w.cell? ⟨G,4,none⟩=some (.int .i64 gm):=cell_of_row _ _ 4 _ 110 _ hG
 have k5:w.cell? ⟨G,5,none⟩=some (.int .i64 gmo):=cell_of_row _ _ 5 _ 110 _ hG
 have HS:=hideP hS
 have HO:Hid (w.ownsRow B0 36 15 lv n0 L0):=hideP (by rw[hB0];exact o)
 have HNG:Hid (∀W,Calls Tryz.prog 77 #[.agg #[.int .i64 gs,.int .i64 gp,.int .i64 gpo,.int .i64 gm,.int .i64 gmo,.int .i64 0]] W fun r w'=>r = .returned (ndV gap)/\Below W.heap.size W w'):=hideP (fun W=>by rw[hgap];exact node_space gs gp gpo gm gmo 0 W)
 have HCE:Hid (∀(wr:World) (lv2:Value) (n2:Nat) (L2:List Value) (fi la:Nat) (na al:Int) (v:Value) (ns:List Nd),Frs (fun b=>b=S\/lv.ownBlock=some b) w wr->wr.heap[S]?=some (stO G A lv2)->wr.ownsRow B0 36 15 lv2 n2 L2->NN 0 w0 v ns->ns.length<=20000->fi<=la->la<20->Calls Tryz.prog 78 #[.pointer (some ⟨S,0,none⟩),plV fi la na al v] wr _):=hideP (fun wr lv2 n2 L2 fi la na al v ns hr hst ho hn hl hfl hla=>cell_any fi la na al (HKG.out wr hr).2.2 hS0 hst (HKG.out wr hr).1 (HKG.out wr hr).2.1 hf hgs (by rw[<-hB0];exact ho) hn hl hfl hla)
 have HHP:Hid (∀(W:World) (a:Option Addr) (n c:Nat) (L:List Nd),W.ownsRow w.heap.size 36 15 (.slice a n c) n (flatN L)->L.length=n->n<=1048576->R=hpR L 0 0->Calls Tryz.prog 10 #[.slice a n c,.int .i64 0,.int .i64 0] W fun e w'=>∃a c s,e = .returned (packV (.slice a R.length c) s)/\w'.ownsRow W.heap.size 36 15 (.slice a R.length c) R.length (flatN R)/\Below W.heap.size W w'):=hideP (fun W a n c L ho hl hn e=>by
  rw[e]
  refine(implH 0 0 ho hl hn).mono (fun e w' ⟨u,q1,q2,q3⟩=>?_)
  obtain⟨a9,c9,rfl⟩:=ownG_shape q2
  exact⟨a9,c9,_,q1,q2,q3⟩)
 rw[<-hm] at hR ⊢
 have HR:=hideP hR
 have HM:=hideP hm
 rw[<-hB0]
 have HB0:=hideP hB0
 have hcols:1<=cols:=h1
 clear hR hm hS hG hA hf hgs o ol hp hin hgap hb0 hS0 hB0
 have hru2:decide (0<ru)=false:=decide_eq_false hru
 go_enter Tryz.func52,Tryz.ntmps52
 go_wp2_with fail
 refine(HNG.out _).mono ?_
 rintro e w1 ⟨rfl,hb1⟩
 have E1:Hid (w1.heap[w.heap.size]?=some (.cells #[.int .i64 ru,.slice la0 m lc0] 119 (0,0))):=hideP ((hb1.block _ (by simp)).trans (heap_alloc_new w _))
 have B1:Hid (Below w.heap.size w w1):=hideP (below_more (below1 _ _) hb1 (by simp))
 have hx1:w.heap.size<w1.heap.size:=(glt E1.out)
 have e11:w1.cell? ⟨w.heap.size,1,none⟩=some (.slice la0 m lc0):=cell_of_row _ _ 1 _ 119 _ E1.out
 clear hb1 s0 s1 k1 k2 k3 k4 k5 HNG
 go_wp2_with fail
 generalize hWW:(w1.alloc _).alloc _=wz
 obtain⟨GB,hGB⟩:=exq (w1.heap.size)
 have HZ:Hid (RoJ w wz S G A GB lv ru (.slice la0 m lc0) gap B0 lv (some ⟨w1.heap.size+1,0,none⟩) 0 0 (aK f gs gap cs 0)):=hideP (by
  have q1:=heap_alloc_new w1 (.cells (ndA gap) 36)
  have q2:=heap_alloc_new (w1.alloc (.cells (ndA gap) 36)) (.cells #[] 36)
  rw[World.size_alloc] at q2
  have bz:Below w1.heap.size w1 wz:=by rw[<-hWW];exact below2 _ _ _
  have bw:Below w.heap.size w wz:=below_more B1.out bz B1.out.size
  refine⟨(Frs.refl _ _).below bw,(bz.block _ hx1).trans E1.out,?_,by omega,(bw.block _ hSl).trans HS.out,⟨_,_,ownG_below HO.out bw⟩,fun b hb=> .inl hb,?_,fun e=>by have:=HLV.out _ e;omega,?_,fun b hb e=>?_⟩
  ·rw[<-hWW,hGB,Below.heap_alloc _ _ _ (by simp)];exact q1
  ·rw[<-hWW]
   exact own_mt (by omega) q2
  ·intro e;simp only[Value.ownBlock,Option.some.injEq] at e;omega
  ·have h5:=HLV.out _ e
   simp only[Value.ownBlock,Option.some.injEq] at hb
   omega)
 rw[<-hGB] at HZ ⊢
 clear hWW hGB E1 B1 e11 HO HS hx1
 go_loopw [6,7,8,9,31] (fun s6 s7 _ _ s31 wr=>∃(k:Nat) (a:Option Addr) (n c:Nat) (lv2:Value),k<=m/\s31 = .int .i64 (k:Int)/\s7 = .int .i64 (spK cs k)/\s6 = .slice a n c/\Hid (celsOk f gs cs k=true/\RoJ w wr S G A GB lv ru (.slice la0 m lc0) gap B0 lv2 a n c (aK f gs gap cs k))) (fun _ _ _ _ s31 _=>m-(intOf s31).toNat)
 case atStart=>exact⟨0,_,0,0,lv,by omega,rfl,rfl,rfl,hideP ⟨rfl,HZ.out⟩⟩
 case round =>
  obtain⟨k,a,n,c,lv2,hk,rfl,rfl,rfl,HJ0⟩:=hrel
  have HJ:=hideP HJ0.out.2
  have HOK0:=hideP HJ0.out.1
  have hnl:n<=20001*k:=by
   have q1:=HJ.out.own.1
   rw[flatN_len] at q1
   have q2:=aK_len f gs gap cs k
   omega
  clear HZ HJ0
  by_cases hkm:k<m
  ·have hki:(k:Int)<(m:Int):=by omega
   obtain⟨gpp,rfl,fi,la,na,al,va,vn,vc,hfi,hla,hfl,hl20,hns,hal,hNN,hcl⟩:=HPL.out k hkm
   obtain⟨hg0,g0,g1,g2,g3,g4⟩:=hcl wr HJ.out.frs
   have bx:=HJ.out.boxc
   have hlt:=HJ.out.lt
   have PLC:Hid (∀w7,Frs (fun b=>b=S\/lv.ownBlock=some b) w w7->gpp<w7.heap.size/\w7.cell? ⟨gpp,k*5+1,none⟩=some (.int .i64 (la:Int))):=hideP (fun w7 h7=>⟨(hcl w7 h7).1,(hcl w7 h7).2.2.1⟩)
   have HNX:Hid (spK cs (k+1)=(la:Int)+1):=hideP (by omega)
   obtain⟨rn,hrn⟩:=exq ((celR f gs cs k).length)
   have hrl:rn<=20000:=by rw[hrn];exact hpR_le
   have HCC:Hid (Calls Tryz.prog 78 #[.pointer (some ⟨S,0,none⟩),plV fi la na al (.slice va vn vc)] wr fun e w2=>∃ra rc lv2,e = .returned (.slice ra rn rc)/\NN 0 w2 (.slice ra rn rc) (celR f gs cs k)/\RoJ w w2 S G A GB lv ru (.slice (some ⟨gpp,0,none⟩) m lc0) gap B0 lv2 a n c (aK f gs gap cs k)):=hideP (by
    obtain⟨n2,L2,hls⟩:=HJ.out.lst
    refine(HCE.out wr lv2 n2 L2 fi la na al (.slice va vn vc) (cs.getD k Cl.none).ns HJ.out.frs HJ.out.st hls hNN hns hfl hl20).mono ?_
    rintro e w2 ⟨r,lv3,n3,L3,rfl,ho,hst,hls2,hat,hfr⟩
    have e1:hpR (celN al (cs.getD k Cl.none).ns) 1 (acr f gs fi la)=celR f gs cs k:=by
     unfold celR celW
     rw[hal,show (spK cs k).toNat=fi by omega,show (spK cs (k+1)-1).toNat=la by omega]
    rw[e1] at ho
    rw[<-HB0.out] at hls2
    have hnn:=own_NN ho rfl
    obtain⟨ra,rc,rfl⟩:=ownG_shape ho
    rw[<-hrn] at hnn ⊢
    exact⟨ra,rc,lv3,rfl,hnn,HJ.out.cell hfr hst hls2 hat⟩)
   clear hcl hNN hns hal hfl HCE
   go_wp2_with fail
   refine HCC.out.mono ?_
   rintro e w2 ⟨ra,rc,lv2,rfl,hnr,hj2⟩
   have NR:=hideP hnr
   have J2:=hideP hj2
   clear HCC hnr hj2 g0 g1 g2 g3 g4 HJ bx hlt hg0
   by_cases hr0:rn=0
   ·have hR0:R=[]:=by rw[HR.out,celsOk_no hkm (by rw[<-hrn];exact hr0)];rfl
    subst hr0
    subst hR0
    obtain⟨n4,L4,hl4⟩:=J2.out.lst
    have HL4:=hideP hl4
    clear hl4
    go_wp2
    go_ret
    exact⟨none,0,lv2,n4,L4,rfl,World.ownsRow_nil _ _ _ _,J2.out.st,HL4.out,J2.out.at_,J2.out.frs⟩
   ·have hr1:((rn:Int) == 0)=false:=by simp;omega
    have HOK:Hid (celsOk f gs cs (k+1)=true):=hideP (by unfold celsOk;rw[HOK0.out,<-hrn];simp;omega)
    have HRN:=hideP hrn
    have hkb:k<20:=by omega
    rw[hrn] at hrl
    clear hrn
    go_wp2_with fail
    refine wp_region_held_drew (S:=fun x=>x.heap[GB]?=some (ndO gap)) (by kernel_rfl) J2.out.gp (fun hS=>?_)
    refine tkS (i:=0) (v:= .slice a n c) rfl hS ?_
    try simp only[sput]
    refine tkS (i:=1) (v:= .slice ra rn rc) rfl hS ?_
    try simp only[sput]
    refine tkS (i:=3) (v:=ndV gap) rfl hS ?_ (hr:=fun wx hx=>ex_loadN rfl rfl hx)
    try simp only[sput]
    have JD:Hid (RoJ w w2.drew S G A GB lv ru (.slice (some ⟨gpp,0,none⟩) m lc0) gap B0 lv2 a n c (aK f gs gap cs k)):=hideP (J2.out.below ((Below.refl _ _).drew))
    have ND:Hid (NN 0 w2.drew (.slice ra rn rc) (celR f gs cs k)):=hideP (NR.out.bel ((Below.refl _ _).drew))
    refine wpAnyH_ready (rs:=[2,4]) (by kernel_rfl) (by simp) ?_
    refine AllReadyH.cons rfl (fun K hK=>?_) (AllReadyH.cons rfl (fun K hK=>?_) AllReadyH.nil)
    ·rw[if_pos (by first|rfl|go_simp)]
     refine wp_appN _ _ rfl w.heap.size (.slice a n c) n (aK f gs gap cs k) rfl JD.out.own (.slice ra rn rc) (celR f gs cs k) rfl ND.out (by omega) (by have:=JD.out.lt;omega) ?_
     intro v5 w5 ho hg ha
     obtain⟨N5,hN5⟩:=exq (n+(celR f gs cs k).length)
     rw[<-hN5] at ho
     obtain⟨u5,d5,rfl⟩:=ownG_shape ho
     have J5:Hid (RoJ w w5 S G A GB lv ru (.slice (some ⟨gpp,0,none⟩) m lc0) gap B0 lv2 u5 N5 d5 (aK f gs gap cs k++celR f gs cs k)):=hideP (JD.out.app hg ho ha)
     have hN5b:N5<=420001:=by omega
     clear ho hg ha hN5
     refine hK.out _ _ J5.out.gp (fun hS=>?_)
     try simp only[sput]
     clear hK K
     refine rdS (i:=4) rfl (fun K hK=>?_)
     refine wp_bsN rfl rfl ?_
     have J6:Hid (RoJ w (w5.alloc (.cells (ndA gap) 36)) S G A GB lv ru (.slice (some ⟨gpp,0,none⟩) m lc0) gap B0 lv2 u5 N5 d5 (aK f gs gap cs k++celR f gs cs k)):=hideP (J5.out.below (below1 _ _))
     refine hK.out _ _ J6.out.gp (fun hS=>?_)
     try simp only[sput]
     clear hK K
     refine rdS (i:=5) rfl (fun K hK=>?_)
     refine wp_appN _ _ rfl w.heap.size (.slice u5 N5 d5) N5 (aK f gs gap cs k++celR f gs cs k) rfl J6.out.own (.slice (some ⟨w5.heap.size,0,none⟩) 1 1) [gap] rfl (nn_one (heap_alloc_new w5 _)) (by simp;omega) (by have:=J6.out.lt;omega) ?_
     intro v7 w7 ho hg ha
     obtain⟨N7,hN7⟩:=exq (N5+[gap].length)
     rw[<-hN7] at ho
     obtain⟨u7,d7,rfl⟩:=ownG_shape ho
     have J7:Hid (RoJ w w7 S G A GB lv ru (.slice (some ⟨gpp,0,none⟩) m lc0) gap B0 lv2 u7 N7 d7 (aK f gs gap cs (k+1))):=hideP (J6.out.app hg ho ha)
     clear ho hg ha hN7
     refine hK.out _ _ J7.out.gp (fun hS=>?_)
     try simp only[sput]
     clear hK K
     refine tkS (i:=6) (v:= .slice u7 N7 d7) rfl hS ?_
     try simp only[sput]
     refine wpAnyH_done (by kernel_rfl) ?_ _
     clear hS
     have b7:=J7.out.boxc
     have q7:=PLC.out w7 J7.out.frs
     have hl7:=J7.out.lt
     go_wp2
     go_roundw
     case rel=>exact⟨k+1,u7,N7,d7,lv2,by omega,by go_num,by rw[HNX.out],rfl,hideP ⟨HOK.out,J7.out⟩⟩
     case measure=>simp[intOf];omega
    ·rw[if_pos (by first|rfl|go_simp)]
     refine wp_bsN rfl rfl ?_
     have JE:Hid (RoJ w (w2.drew.alloc (.cells (ndA gap) 36)) S G A GB lv ru (.slice (some ⟨gpp,0,none⟩) m lc0) gap B0 lv2 a n c (aK f gs gap cs k)):=hideP (JD.out.below (below1 _ _))
     have NE:Hid (NN 0 (w2.drew.alloc (.cells (ndA gap) 36)) (.slice ra rn rc) (celR f gs cs k)):=hideP (ND.out.bel (below1 _ _))
     have GE:Hid ((w2.drew.alloc (.cells (ndA gap) 36)).heap[w2.drew.heap.size]?=some (ndO gap)):=hideP (heap_alloc_new w2.drew _)
     have hE:(Value.slice a n c).ownBlock≠some w2.drew.heap.size:=fun e=>Nat.lt_irrefl _ (JD.out.own.lt _ e).2
     refine hK.out _ _ JE.out.gp (fun hS=>?_)
     try simp only[sput]
     clear hK K
     refine rdS (i:=2) rfl (fun K hK=>?_)
     refine wp_appN _ _ rfl w.heap.size (.slice a n c) n (aK f gs gap cs k) rfl JE.out.own (.slice ra rn rc) (celR f gs cs k) rfl NE.out (by omega) (by have:=JE.out.lt;omega) ?_
     intro v5 w5 ho hg ha
     obtain⟨N5,hN5⟩:=exq (n+(celR f gs cs k).length)
     rw[<-hN5] at ho
     obtain⟨u5,d5,rfl⟩:=ownG_shape ho
     have J5:Hid (RoJ w w5 S G A GB lv ru (.slice (some ⟨gpp,0,none⟩) m lc0) gap B0 lv2 u5 N5 d5 (aK f gs gap cs k++celR f gs cs k)):=hideP (JE.out.app hg ho ha)
     have G5:Hid (w5.heap[w2.drew.heap.size]?=some (ndO gap)):=hideP ((hg.block _ (glt GE.out) (fun e=>hE e.symm)).trans GE.out)
     have hN5b:N5<=420001:=by omega
     clear ho hg ha hN5 hE
     refine hK.out _ _ J5.out.gp (fun hS=>?_)
     try simp only[sput]
     clear hK K
     refine rdS (i:=5) rfl (fun K hK=>?_)
     refine wp_appN _ _ rfl w.heap.size (.slice u5 N5 d5) N5 (aK f gs gap cs k++celR f gs cs k) rfl J5.out.own (.slice (some ⟨w2.drew.heap.size,0,none⟩) 1 1) [gap] rfl (nn_one G5.out) (by simp;omega) (by have:=J5.out.lt;omega) ?_
     intro v7 w7 ho hg ha
     obtain⟨N7,hN7⟩:=exq (N5+[gap].length)
     rw[<-hN7] at ho
     obtain⟨u7,d7,rfl⟩:=ownG_shape ho
     have J7:Hid (RoJ w w7 S G A GB lv ru (.slice (some ⟨gpp,0,none⟩) m lc0) gap B0 lv2 u7 N7 d7 (aK f gs gap cs (k+1))):=hideP (J5.out.app hg ho ha)
     clear ho hg ha hN7
     refine hK.out _ _ J7.out.gp (fun hS=>?_)
     try simp only[sput]
     clear hK K
     refine tkS (i:=6) (v:= .slice u7 N7 d7) rfl hS ?_
     try simp only[sput]
     refine wpAnyH_done (by kernel_rfl) ?_ _
     clear hS
     have b7:=J7.out.boxc
     have q7:=PLC.out w7 J7.out.frs
     have hl7:=J7.out.lt
     go_wp2
     go_roundw
     case rel=>exact⟨k+1,u7,N7,d7,lv2,by omega,by go_num,by rw[HNX.out],rfl,hideP ⟨HOK.out,J7.out⟩⟩
     case measure=>simp[intOf];omega
  ·have hki:¬(k:Int)<(m:Int):=by omega
   obtain rfl:k=m:=by omega
   obtain⟨q1,q2,q3⟩:=HEN.out
   obtain⟨a0,ha0⟩:∃a0:Nat,spK cs k=(a0:Int):=⟨(spK cs k).toNat,by omega⟩
   obtain⟨q,hq⟩:∃q:Nat,a0+q=cols:=⟨cols-a0,by omega⟩
   obtain⟨LA,hLA⟩:=exq (aK f gs gap cs k)
   rw[ha0]
   have hLl:LA.length=n:=by
    have q1:=HJ.out.own.1
    rw[flatN_len,<-hLA] at q1
    omega
   have HPOS:Hid (1<=LA.length+2*q):=hideP (by
    by_cases h0:k=0
    ·have:=q3 h0;omega
    ·have h5:1<=LA.length:=by
      obtain⟨k',rfl⟩:∃k',k=k'+1:=⟨k-1,by omega⟩
      rw[hLA]
      simp only[aK,List.length_append,List.length_cons,List.length_nil]
      omega
     omega)
   have HFN:Hid (R=hpR (kK f gap a0 LA q).dropLast 0 0):=hideP (by
    rw[HR.out,HOK0.out,if_pos rfl]
    unfold rowI
    rw[<-HM.out,ha0,<-hLA,show ((a0:Int)).toNat=a0 by omega,show ((cols:Int)-(a0:Int)).toNat=q by omega])
   rw[<-hLA] at HJ
   obtain⟨hG3,hA3,_⟩:=HKG.out _ HJ.out.frs
   have t0:wr.cell? ⟨S,0,none⟩=some (.pointer (some ⟨G,0,none⟩)):=cell_of_row _ _ 0 _ 115 _ HJ.out.st
   have t1:wr.cell? ⟨G,0,none⟩=some (.int .i64 (cols:Int)):=cell_of_row _ _ 0 _ 110 _ hG3
   have hlt:=HJ.out.lt
   have hGw:G<wr.heap.size:=(glt hG3)
   have hw1:IntKind.i64.wrap ((cols:Int)-(a0:Int))=(q:Int):=by rw[IntKind.wrap_i64];omega
   have hw2:(cols:Int)-(a0:Int)=(q:Int):=by omega
   have HQ0:=hideP hq
   have HLL:=hideP hLl
   clear hG3 hA3 ha0 hLA q1 q2 q3 hq hLl HPL HCE HR HEN
   go_wp2_with fail
   clear t0 t1 hw1 hw2 hGw hlt
   go_loopw [6,10,67] (fun s6 _ s67 wr=>∃(j:Nat) (a:Option Addr) (n c:Nat) (lv2:Value),j<=q/\s67 = .int .i64 (j:Int)/\s6 = .slice a n c/\Hid (RoJ w wr S G A GB lv ru (.slice la0 k lc0) gap B0 lv2 a n c (kK f gap a0 LA j))) (fun _ _ s67 _=>q-(intOf s67).toNat)
   case atStart=>exact⟨0,a,n,c,lv2,by omega,rfl,rfl,HJ⟩
   case round =>
    clear HJ
    obtain⟨j,a,n,c,lv2,hj,rfl,rfl,HJ⟩:=hrel
    have hnl2:n=LA.length+2*j:=by
     have q1:=HJ.out.own.1
     rw[flatN_len,kK_len] at q1
     omega
    have hLA2:LA.length<=400020:=by have:=HLL.out;omega
    have hlt:=HJ.out.lt
    have hnb:n<=400100:=by have:=HQ0.out;omega
    have HNL:=hideP hnl2
    clear hnl2
    by_cases hjq:j<q
    ·have hji:(j:Int)<(q:Int):=by omega
     obtain⟨pj,hpj⟩:∃pj:Nat,pj=a0+j:=⟨_,rfl⟩
     obtain⟨X,hX⟩:=exq (f pj)
     have HSK:Hid (∀(w7:World) {a:Option Addr} {n c:Nat} {L:List Nd},RoJ w w7 S G A GB lv ru (.slice la0 k lc0) gap B0 lv2 a n c (L)->w7.heap[GB]?=some (ndO gap)/\w7.cell? ⟨S,1,none⟩=some (.pointer (some ⟨A,0,none⟩))/\w7.cell? ⟨A,pj,none⟩=some (.int .i64 X)):=hideP (fun w7 a n c L h7=>⟨h7.gp,cell_of_row _ _ 1 _ 115 _ h7.st,by rw[hX];exact(HKG.out _ h7.frs).2.1.cell (by have:=HQ0.out;omega)⟩)
     have HSX:Hid (∀x:World,Below wr.heap.size wr x->x.heap[GB]?=some (ndO gap)/\x.cell? ⟨S,1,none⟩=some (.pointer (some ⟨A,0,none⟩))/\x.cell? ⟨A,pj,none⟩=some (.int .i64 X)):=hideP (fun x hx=>HSK.out x (HJ.out.below hx))
     have HKK:Hid (kK f gap a0 LA (j+1)=kK f gap a0 LA j++[krnN X,gap]):=hideP (by rw[hX,hpj];rfl)
     have hw3:IntKind.i64.wrap (pj:Int)=(pj:Int):=by rw[IntKind.wrap_i64];have:=HQ0.out;omega
     have hw6:(a0:Int)+(j:Int)=(pj:Int):=by omega
     have hb20:pj<20:=by have:=HQ0.out;omega
     have hb21:(pj:Int)<20:=by omega
     clear hX hpj
     go_wp2_with fail
     refine wp_region_held_drew (S:=fun x=>x.heap[GB]?=some (ndO gap)/\x.cell? ⟨S,1,none⟩=some (.pointer (some ⟨A,0,none⟩))/\x.cell? ⟨A,pj,none⟩=some (.int .i64 X)) (by kernel_rfl) (HSX.out _ ((Below.refl _ _).drew)) (fun hS=>?_)
     refine tkS (i:=0) (v:= .slice a n c) rfl hS ?_
     try simp only[sput]
     refine tkS (i:=1) (v:= .pointer (some ⟨S,0,none⟩)) rfl hS ?_
     try simp only[sput]
     refine tkS (i:=2) (v:= .pointer (some ⟨S,0,none⟩)) rfl hS ?_
     try simp only[sput]
     refine tkS (i:=3) (v:= .pointer (some ⟨S,1,none⟩)) rfl hS ?_
     try simp only[sput]
     refine tkS (i:=4) (v:= .pointer (some ⟨A,0,none⟩)) rfl hS ?_
     try simp only[sput]
     refine tkS (i:=5) (v:= .int .i64 (a0:Int)) rfl hS ?_
     try simp only[sput]
     refine tkS (i:=6) (v:= .int .i64 (j:Int)) rfl hS ?_
     try simp only[sput]
     refine tkS (i:=7) (v:= .int .i64 (pj:Int)) rfl hS ?_
     try simp only[sput]
     refine tkS (i:=8) (v:= .pointer (some ⟨A,0,none⟩)) rfl hS ?_
     try simp only[sput]
     refine tkS (i:=9) (v:= .pointer (some ⟨A,pj,none⟩)) rfl hS ?_
     try simp only[sput]
     refine tkS (i:=10) (v:= .int .i64 X) rfl hS ?_
     try simp only[sput]
     refine tkS (i:=11) (v:= .agg #[.int .i64 X]) rfl hS ?_
     try simp only[sput]
     refine tkS (i:=13) (v:=ndV gap) rfl hS ?_ (hr:=fun wx hx=>ex_loadN rfl rfl hx.1)
     try simp only[sput]
     refine rdS (i:=12) rfl (fun K hK=>?_)
     go_simp
     go_at_call 79
     refine(node_kern X _).mono ?_
     rintro e w5 ⟨rfl,hb5⟩
     have B5:Hid (Below wr.heap.size wr w5):=hideP (below_more ((Below.refl _ _).drew) hb5 (Nat.le_refl _))
     clear hb5
     refine hK.out _ _ (HSX.out _ B5.out) (fun hS=>?_)
     try simp only[sput]
     clear hK K
     refine rdS (i:=14) rfl (fun K hK=>?_)
     refine wp_bsN2 (x:=krnN X) (y:=gap) rfl rfl rfl ?_
     have B6:Hid (Below wr.heap.size wr (w5.alloc (.cells (ndA (krnN X)++ndA gap) 36))):=hideP (B5.out.alloc B5.out.size _)
     have J6:Hid (RoJ w (w5.alloc (.cells (ndA (krnN X)++ndA gap) 36)) S G A GB lv ru (.slice la0 k lc0) gap B0 lv2 a n c (kK f gap a0 LA j)):=hideP (HJ.out.below B6.out)
     refine hK.out _ _ (HSX.out _ B6.out) (fun hS=>?_)
     try simp only[sput]
     clear hK K
     refine rdS (i:=15) rfl (fun K hK=>?_)
     refine wp_appN _ _ rfl w.heap.size (.slice a n c) n (kK f gap a0 LA j) rfl J6.out.own (.slice (some ⟨w5.heap.size,0,none⟩) 2 2) [krnN X,gap] rfl (nn_two (heap_alloc_new w5 _)) (by simp;omega) (by have:=J6.out.lt;omega) ?_
     intro v7 w7 ho hg ha
     obtain⟨N7,hN7⟩:=exq (n+[krnN X,gap].length)
     rw[<-hN7] at ho
     obtain⟨u7,d7,rfl⟩:=ownG_shape ho
     have J7:Hid (RoJ w w7 S G A GB lv ru (.slice la0 k lc0) gap B0 lv2 u7 N7 d7 (kK f gap a0 LA (j+1))):=hideP (by rw[HKK.out];exact J6.out.app hg ho ha)
     have S7:=hideP (HSK.out w7 J7.out)
     clear ho hg ha hN7
     refine hK.out _ _ S7.out (fun hS=>?_)
     try simp only[sput]
     clear hK K
     refine tkS (i:=16) (v:= .slice u7 N7 d7) rfl hS ?_
     try simp only[sput]
     refine wpAnyH_done (by kernel_rfl) ?_ _
     clear hS
     go_wp2
     go_roundw
     case rel=>exact⟨j+1,u7,N7,d7,lv2,by omega,by go_num,rfl,J7⟩
     case measure=>simp[intOf];omega
    ·have hji:¬(j:Int)<(q:Int):=by omega
     obtain rfl:j=q:=by omega
     have hpos:1<=n:=by have:=HPOS.out;have:=HNL.out;omega
     obtain⟨g,rfl,hgl⟩:=ownG_addr HJ.out.own (by omega)
     have hcap:n<=c:=(own_cap HJ.out.own _ _ _ rfl).1
     obtain⟨n',hn'⟩:∃n':Nat,n'+1=n:=⟨n-1,by omega⟩
     have hcap2:n'<=c:=by omega
     have OB:Hid (wr.ownsRow w.heap.size 36 15 (.slice (some ⟨g,0,none⟩) n' c) n' (flatN (kK f gap a0 LA j).dropLast)):=hideP (by
      have q1:=own_begin HJ.out.own (show n'<=n by omega)
      have q2:=HJ.out.own.1
      rw[flatN_len] at q2
      rw[List.dropLast_eq_take,show (kK f gap a0 LA j).length-1=n' by omega]
      exact q1)
     have HC:Hid (Calls Tryz.prog 10 #[.slice (some ⟨g,0,none⟩) n' c,.int .i64 0,.int .i64 0] wr _):=hideP (HHP.out wr _ _ _ _ OB.out (by have q2:=OB.out.1;rw[flatN_len] at q2;omega) (by omega) HFN.out)
     obtain⟨n4,L4,hl4⟩:=HJ.out.lst
     have HL4:=hideP hl4
     have hw4:IntKind.i64.wrap ((n:Int)-1)=(n':Int):=by rw[IntKind.wrap_i64];omega
     have hw5:(n:Int)-1=(n':Int):=by omega
     clear hl4 HFN HHP hn' hpos HPOS HLL HQ0 HKG HLV hcap
     go_wp2_with fail
     refine HC.out.mono ?_
     rintro e w3 ⟨a3,c3,s3,rfl,ho3,hb3⟩
     have hfd:=fld28 (.slice a3 R.length c3) s3 w3
     have O3:=hideP (ownG_base ho3 (Nat.le_of_lt hlt.2.2))
     have J3:=hideP (HJ.out.below hb3)
     have L3:=hideP (ownG_below HL4.out hb3)
     clear ho3 hb3 HC HJ HL4 OB
     go_wp2
     go_ret
     exact⟨a3,c3,lv2,n4,L4,rfl,O3.out,J3.out.st,L3.out,J3.out.at_,J3.out.frs⟩
set_option maxRecDepth 20000 in
theorem rowSet_any {w0 w:World}{S G A cols n0:Nat}{gs gp gpo gm gmo ru:Int}{u lv:Value}{f:Nat->Int}{L0:List Value}{cs:List Cl}{cv:Value}{ps:List Pl}
 (hb0:Below w0.heap.size w0 w) (hS0:w0.heap.size<=S) (hS:w.heap[S]?=some (stO G A lv)) (hG:w.heap[G]?=some (grO (cols:Int) gs gp gpo gm gmo u)) (hA:ArrAt w A f) (hf:Bd f) (h1:1<=cols) (h2:cols<=20) (hgs : -1073741823<=gs/\gs<=1073741823) (o:w.ownsRow w0.heap.size 36 15 lv n0 L0) (ol:w.ownsRow w0.heap.size 122 5 cv cs.length (flatP ps)) (hp:PlOk w0 cs ps cs.length) (hin:RowIn cs (cols:Int)) :
 Calls Tryz.prog 52 #[.pointer (some ⟨S,0,none⟩),.agg #[.int .i64 ru,cv]] w fun e w'=>∃a c lv' n' L',e = .returned (.slice a (rowR f gs (gapN gs gp gpo gm gmo) (cols:Int) ⟨cs,ru⟩).length c)/\w'.ownsRow w.heap.size 36 15 (.slice a (rowR f gs (gapN gs gp gpo gm gmo) (cols:Int) ⟨cs,ru⟩).length c) (rowR f gs (gapN gs gp gpo gm gmo) (cols:Int) ⟨cs,ru⟩).length (flatN (rowR f gs (gapN gs gp gpo gm gmo) (cols:Int) ⟨cs,ru⟩))/\w'.heap[S]?=some (stO G A lv')/\w'.ownsRow w0.heap.size 36 15 lv' n' L'/\(∀b,lv'.ownBlock=some b->lv.ownBlock=some b\/w.heap.size<=b)/\Frs (fun b=>b=S\/lv.ownBlock=some b) w w':=by
 by_cases hru:0<ru
 ·have hSl:S<w.heap.size:=(glt hS)
  have e:rowR f gs (gapN gs gp gpo gm gmo) (cols:Int) ⟨cs,ru⟩=hpR [rulN (acr f gs 0 (cols-1)) ru] 0 0:=by
   unfold rowR
   rw[if_pos hru,show ((cols:Int)).toNat=cols by omega]
  rw[e]
  obtain⟨ca,cc,rfl⟩:=ownG_shape ol
  have HL:Hid (∀W,Below w.heap.size w W->Calls Tryz.prog 76 #[.pointer (some ⟨S,0,none⟩),.int .i64 ru] W _):=hideP (fun W hW=>line_any ru ((hW.block _ hSl).trans hS) ((hW.block _ (glt hG)).trans hG) (hA.below hW) hf h1 h2 hgs)
  obtain⟨R,hR⟩:=exq (hpR [rulN (acr f gs 0 (cols-1)) ru] 0 0)
  rw[<-hR] at HL ⊢
  have HS:=hideP hS
  have HO:=hideP o
  have hrd:decide (0<ru)=true:=decide_eq_true hru
  clear hS hG hA hf hgs o ol hp hin hb0 e hR
  go_enter Tryz.func52,Tryz.ntmps52
  go_wp2_with fail
  refine(HL.out _ (below1 _ _)).mono ?_
  rintro e w1 ⟨a,c,rfl,ho,hb⟩
  have B1:=hideP (below_more (below1 _ _) hb (by simp))
  have O1:=hideP (ownG_base ho (show w.heap.size<=_ by simp))
  clear ho hb HL
  go_wp2
  go_ret
  exact⟨a,c,lv,n0,L0,rfl,O1.out,(B1.out.block _ hSl).trans HS.out,ownG_below HO.out B1.out,fun b hb=> .inl hb,(Frs.refl _ _).below B1.out⟩
 ·exact rowSet_cells hru hb0 hS0 hS hG hA hf h1 h2 hgs o ol hp hin
end Go.Proofs.YtbbehmcekbnkiaaGreat

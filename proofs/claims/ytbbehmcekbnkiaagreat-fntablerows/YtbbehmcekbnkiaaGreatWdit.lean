import Derived.Test.YtbbehmcekbnkiaaGreatGrdt
namespace Go.Proofs.YtbbehmcekbnkiaaGreat
set_option maxHeartbeats 16000000
open Go.RowKit
set_option linter.unusedVariables false
set_option linter.unusedSimpArgs false
def sumF (f:Nat->Int)(a:Nat):Nat->Int
 | 0=>0
 | n+1=>sumF f a n+f (a+n)
theorem sumF_succ (f:Nat->Int)(a n:Nat):sumF f a (n+1)=sumF f a n+f (a+n):=rfl
def acr (f:Nat->Int)(g:Int)(a b:Nat):Int:=((b:Int)-a)*g+sumF f a (b+1-a)
def Bd (f:Nat->Int):Prop:=∀i,0<=f i/\f i<=21474836460
theorem sumF_bd {f:Nat->Int}(h:Bd f)(a:Nat):∀n:Nat,0<=sumF f a n/\sumF f a n<=21474836460*n
 | 0=>⟨Int.le_refl _,Int.le_refl _⟩
 | n+1=>by
  have h1:=sumF_bd h a n
  have h2:=h (a+n)
  rw[sumF_succ]
  omega
theorem mul_bd {d g:Int}(h0:0<=d)(h1:d<=19)(hg : -1073741823<=g/\g<=1073741823) : -20401094637<=d*g/\d*g<=20401094637:=by
 have h2:d*g<=d*1073741823:=Int.mul_le_mul_of_nonneg_left hg.2 h0
 have h3:d*(-1073741823)<=d*g:=Int.mul_le_mul_of_nonneg_left hg.1 h0
 omega
theorem acr_bd {f:Nat->Int}{g:Int}{a b:Nat}(h:Bd f)(hg : -1073741823<=g/\g<=1073741823)(hab:a<=b)(hb:b<20) : -20401094637<=acr f g a b/\acr f g a b<=449897823837:=by
 have h1:=sumF_bd h a (b+1-a)
 have h2:=mul_bd (d:=(b:Int)-a) (by omega) (by omega) hg
 unfold acr
 omega
def upd (f:Nat->Int)(k:Nat)(x:Int):Nat->Int:=fun i=>if i=k then x else f i
def grow (f:Nat->Int)(g:Int)(a k:Nat)(nat:Int):Int:=f k+max (nat-acr f g a k) 0
theorem grow_bd {f:Nat->Int}{g nat:Int}{a k:Nat}(h:Bd f)(hg : -1073741823<=g/\g<=1073741823)(hn:nat<=1073741823)(hab:a<=k)(hb:k<20):0<=grow f g a k nat/\grow f g a k nat<=21474836460:=by
 have h1:=sumF_bd h a (k-a)
 have h2:=mul_bd (d:=(k:Int)-a) (by omega) (by omega) hg
 have h3:=h k
 unfold grow acr
 rw[show k+1-a=k-a+1 by omega,sumF_succ,show a+(k-a)=k by omega]
 omega
def cellStep (g:Int)(k:Nat)(cs:List Cl)(f:Nat->Int)(j:Nat):Nat->Int:=if spK cs (j+1)-1=(k:Int) then upd f k (grow f g (spK cs j).toNat k (natW (cs.getD j Cl.none).ns)) else f
def laneStep (g:Int)(k:Nat)(cs:List Cl)(f:Nat->Int):Nat->Nat->Int
 | 0=>f
 | j+1=>cellStep g k cs (laneStep g k cs f j) j
def rowsStep (g:Int)(k:Nat)(rs:List Rw)(f:Nat->Int):Nat->Nat->Int
 | 0=>f
 | i+1=>laneStep g k (rs.getD i Rw.none).cs (rowsStep g k rs f i) (rs.getD i Rw.none).cs.length
def colsStep (g:Int)(rs:List Rw):Nat->Nat->Int
 | 0=>fun _=>0
 | k+1=>rowsStep g k rs (colsStep g rs k) rs.length
def colsOk (g:Int)(rs:List Rw):Nat->Bool
 | 0=>true
 | k+1=>colsOk g rs k&&fitsB (colsStep g rs (k+1) k)
theorem colsOk_down {g:Int}{rs:List Rw}:∀{n k:Nat},k<=n->colsOk g rs k=false->colsOk g rs n=false
 | 0,k,h,h0=>by
  obtain rfl:k=0:=by omega
  exact h0
 | n+1,k,h,h0=>by
  by_cases hk:k=n+1
  ·subst hk;exact h0
  ·unfold colsOk
   rw[colsOk_down (show k<=n by omega) h0]
   rfl
theorem upd_bd {f:Nat->Int}{k:Nat}{x:Int}(h:Bd f)(hx:0<=x/\x<=21474836460):Bd (upd f k x):=fun i=>by
 unfold upd
 split
 ·exact hx
 ·exact h i
def RowIn (cs:List Cl)(cols:Int):Prop:=cellsB cs cols cs.length=true/\spK cs cs.length<=cols
theorem RowIn.at {cs:List Cl}{cols:Int}(h:RowIn cs cols)(h20:cols<=20){j:Nat}(hj:j<cs.length):0<=spK cs j/\spK cs j+1<=spK cs (j+1)/\spK cs (j+1)<=cols/\ -1073741823<=natW (cs.getD j Cl.none).ns/\natW (cs.getD j Cl.none).ns<=1073741823/\hpOk (cs.getD j Cl.none).ns 0 0=true:=by
 have h1:=cellsB_at h.1 j hj
 have h2:=cellB_sp h1
 have h3:=spK_mono (show j+1<=cs.length by omega) h.1
 have h4:=h.2
 have h5:=natW_fits (cellB_hp h1)
 have h6:0<=spK cs j:=by
  have:=spK_mono (show 0<=cs.length by omega) h.1
  cases hb:cellsB cs cols j with
  | true=>have:=(spK_bound h20 hb).1;omega
  | false=>have:=cellsB_down (show j<=cs.length by omega) hb;rw[h.1] at this;cases this
 rw[spK_succ] at h3 ⊢
 exact⟨h6,by omega,by omega,h5.1,h5.2,cellB_hp h1⟩
theorem rowB_in {r:Rw}{cols:Int}(h:rowB r cols=true)(hc:1<=cols):RowIn r.cs cols:=by
 unfold rowB at h
 split at h
 ·simp only[Bool.and_eq_true,decide_eq_true_eq] at h
  exact h
 ·simp only[Bool.and_eq_true,decide_eq_true_eq] at h
  have h0:r.cs=[]:=List.eq_nil_of_length_eq_zero h.2
  rw[h0]
  exact⟨rfl,by show (0:Int)<=cols;omega⟩
theorem cellStep_bd {g:Int}{k j:Nat}{cs:List Cl}{f:Nat->Int}{cols:Int}(h:Bd f)(hg : -1073741823<=g/\g<=1073741823)(hr:RowIn cs cols)(h20:cols<=20)(hk:k<20)(hj:j<cs.length):Bd (cellStep g k cs f j):=by
 have h1:=hr.at h20 hj
 unfold cellStep
 split
 ·rename_i e
  exact upd_bd h (grow_bd h hg h1.2.2.2.2.1 (by omega) hk)
 ·exact h
theorem laneStep_bd {g:Int}{k:Nat}{cs:List Cl}{f:Nat->Int}{cols:Int}(h:Bd f)(hg : -1073741823<=g/\g<=1073741823)(hr:RowIn cs cols)(h20:cols<=20)(hk:k<20):∀j,j<=cs.length->Bd (laneStep g k cs f j)
 | 0,_=>h
 | j+1,hj=>cellStep_bd (laneStep_bd h hg hr h20 hk j (by omega)) hg hr h20 hk (by omega)
theorem rowsStep_bd {g:Int}{k:Nat}{rs:List Rw}{f:Nat->Int}{cols:Int}(h:Bd f)(hg : -1073741823<=g/\g<=1073741823)(hr:∀i,i<rs.length->RowIn (rs.getD i Rw.none).cs cols)(h20:cols<=20)(hk:k<20):∀i,i<=rs.length->Bd (rowsStep g k rs f i)
 | 0,_=>h
 | i+1,hi=>laneStep_bd (rowsStep_bd h hg hr h20 hk i (by omega)) hg (hr i (by omega)) h20 hk _ (Nat.le_refl _)
theorem colsStep_bd {g:Int}{rs:List Rw}{cols:Int}(hg : -1073741823<=g/\g<=1073741823)(hr:∀i,i<rs.length->RowIn (rs.getD i Rw.none).cs cols)(h20:cols<=20):∀k,k<=20->Bd (colsStep g rs k)
 | 0,_=>fun i=>⟨Int.le_refl _,by show (0:Int)<=_;omega⟩
 | k+1,hk=>rowsStep_bd (colsStep_bd hg hr h20 k (by omega)) hg hr h20 (by omega) _ (Nat.le_refl _)
def ArrAt (w:World)(A:Nat)(f:Nat->Int):Prop:=∃arr:Array Value,w.heap[A]?=some (.cells arr 104 (0,0))/\arr.size=20/\∀i,i<20->arr[i]?=some (.int .i64 (f i))
theorem ArrAt.cell {w:World}{A:Nat}{f:Nat->Int}(h:ArrAt w A f){i:Nat}(hi:i<20):w.cell? ⟨A,i,none⟩=some (.int .i64 (f i)):=by
 obtain⟨arr,h1,h2,h3⟩:=h
 rw[cell_of_row _ _ i _ 104 _ h1]
 exact h3 i hi
theorem ArrAt.lt {w:World}{A:Nat}{f:Nat->Int}(h:ArrAt w A f):A<w.heap.size:=by
 obtain⟨arr,h1,_⟩:=h
 exact(glt h1)
theorem ArrAt.free {w:World}{A:Nat}{f:Nat->Int}(h:ArrAt w A f)(j:Nat):w.frozen? ⟨A,j,none⟩=false:=by
 obtain⟨arr,h1,_⟩:=h
 exact frozen_of_row _ _ j _ _ h1
theorem ArrAt.same {w w':World}{A:Nat}{f:Nat->Int}(h:ArrAt w A f)(hb:w'.heap[A]?=w.heap[A]?):ArrAt w' A f:=by
 obtain⟨arr,h1,h2⟩:=h
 exact⟨arr,hb.trans h1,h2⟩
theorem ArrAt.below {w w':World}{A:Nat}{f:Nat->Int}(h:ArrAt w A f)(hb:Below w.heap.size w w'):ArrAt w' A f:=h.same (hb.block _ h.lt)
theorem ArrAt.set {w:World}{A:Nat}{f:Nat->Int}(h:ArrAt w A f){k:Nat}(hk:k<20)(x:Int):ArrAt (w.setCell ⟨A,k,none⟩ (.int .i64 x)) A (upd f k x):=by
 obtain⟨arr,h1,h2,h3⟩:=h
 refine⟨_,heap_setCell_same w A k arr 104 _ h1,by simp[h2],fun i hi=>?_⟩
 rw[Array.getElem?_setIfInBounds]
 unfold upd
 by_cases e:k=i
 ·subst e
  rw[if_pos rfl,if_pos (by omega),if_pos rfl]
 ·rw[if_neg e,if_neg (fun h=>e h.symm)]
  exact h3 i hi
set_option maxRecDepth 20000 in
theorem across_any {w:World}{G A:Nat}{f:Nat->Int}{co gs gp gpo gm gmo:Int}{u:Value}(first last:Nat)(hG:w.heap[G]?=some (grO co gs gp gpo gm gmo u))(hA:ArrAt w A f)(hf:Bd f)(hab:first<=last)(hb:last<20)(hg : -1073741823<=gs/\gs<=1073741823) :
 Calls Tryz.prog 75 #[.pointer (some ⟨G,0,none⟩),.pointer (some ⟨A,0,none⟩),.int .i64 first,.int .i64 last] w fun e w'=>e = .returned (.int .i64 (acr f gs first last))/\w'=w:=by
 have q1:w.cell? ⟨G,1,none⟩=some (.int .i64 gs):=cell_of_row _ _ 1 _ 110 _ hG
 have hGl:G<w.heap.size:=(glt hG)
 have hAl:=hA.lt
 have HA:=hideP hA
 have HF:=hideP hf
 obtain⟨D,hD⟩:=exq (((last:Int)-first)*gs)
 have hDb : -20401094637<=D/\D<=20401094637:=by rw[hD];exact mul_bd (by omega) (by omega) hg
 have w1:IntKind.i64.wrap (((last:Int)-first)*gs)=D:=by rw[<-hD,IntKind.wrap_i64];omega
 have HD:Hid (acr f gs first last=D+sumF f first (last+1-first)):=hideP (by rw[hD];rfl)
 clear hA hf hG hD hg
 go_enter Tryz.func75,Tryz.ntmps75
 go_wp2
 go_loopw [9,24] (fun s i wr=>∃(k:Nat) (m:Int),k<=last+1-first/\i = .int .i64 k/\s = .int .i64 (D+m)/\Hid (m=sumF f first k)/\wr=w) (fun _ i _=>last+1-first-(intOf i).toNat)
 case atStart=>exact⟨0,0,by omega,rfl,by simp,hideP rfl,rfl⟩
 case round =>
  obtain⟨k,m,hk,rfl,rfl,HM,hww⟩:=hrel
  have hww':=hww.symm
  subst hww'
  clear hww
  have hm:=sumF_bd HF.out first k
  rw[<-HM.out] at hm
  by_cases hkn:k<last+1-first
  ·have hki:(k:Int)<(last:Int)-first+1:=by omega
   have hc:=HA.out.cell (i:=first+k) (by omega)
   have hfb:=HF.out (first+k)
   obtain⟨y,hy⟩:=exq (f (first+k))
   have HY:=hideP hy
   rw[<-hy] at hc hfb
   clear hy
   go_wp2
   go_roundw
   case rel=>exact⟨k+1,m+y,by omega,by go_num,by first|rfl|(congr 1;omega),hideP (by rw[sumF_succ,<-HM.out,<-HY.out]),by trivial⟩
   case measure=>simp[intOf];omega
  ·have hki:¬(k:Int)<(last:Int)-first+1:=by omega
   go_wp2
   go_ret
   refine⟨?_,rfl⟩
   rw[HD.out,HM.out,show k=last+1-first by omega]
   rfl
theorem wpList_load_row {P:Program}{w:World}{ops:Array Oper}{rest:List Oper}{o:Oper}{a:Act}{Q:Exit->Act->World->Prop}(hgd:o.guard=none)(t:TypeId)(p:Operand)(ho:o.op=Op.load t p)(g:Nat)(hp:a.eval p = .pointer (some ⟨g,0,none⟩))
 (cs:Array Value) (ty:TypeId) (fr:Nat×Nat) (hg:w.heap[g]?=some (.cells cs ty fr)) (d:TypeDesc) (hu:P.underlying t=some d) (hd:(match d with | .struct _ | .array _ _=>true|_=>false)=true) (hi:(P.info? t).map (·.size)=some cs.size)
 (h:wpList P ops Q rest (a.put o.dst (.agg cs)) w):wpList P ops Q (o :: rest) a w:=by
 refine wpList_plain hgd fun K hK=>?_
 have hr:=run_loadVar_row (P:=P) w g ty t cs fr d hg hu hd hi
 unfold Oper.wp execOp
 simp only[ho,hp,Instr.loadAt,Instr.sureAddr,Sem.run_bind,Sem.run_pure,Result.andThen_ok,hr]
 exact hK _ _ h
def LanesAt (w:World)(ua:Option Addr)(rs:List Rw):Prop:=0<rs.length->∃gl,ua=some ⟨gl,0,none⟩/\gl<w.heap.size/\∀i,i<rs.length->∃a c ru,w.cell? ⟨gl,i*2,none⟩=some (.int .i64 ru)/\w.cell? ⟨gl,i*2+1,none⟩=some (.slice a (rs.getD i Rw.none).cs.length c)/\
 (0<(rs.getD i Rw.none).cs.length->∃gp,a=some ⟨gp,0,none⟩/\gp<w.heap.size/\∀j,j<(rs.getD i Rw.none).cs.length->∃al va vn vc,w.cell? ⟨gp,j*5,none⟩=some (.int .i64 (spK (rs.getD i Rw.none).cs j))/\w.cell? ⟨gp,j*5+1,none⟩=some (.int .i64 (spK (rs.getD i Rw.none).cs (j+1)-1))/\w.cell? ⟨gp,j*5+2,none⟩=some (.int .i64 (natW ((rs.getD i Rw.none).cs.getD j Cl.none).ns))/\w.cell? ⟨gp,j*5+3,none⟩=some (.int .i64 al)/\w.cell? ⟨gp,j*5+4,none⟩=some (.slice va vn vc))
theorem ownG_cell {base g n cap e s:Nat}{w:World}{xs:List Value}(h:w.ownsRow base e s (.slice (some ⟨g,0,none⟩) n cap) n xs){j:Nat}{x:Value}(hj:xs[j]?=some x):w.cell? ⟨g,j,none⟩=some x:=by
 obtain⟨hl,h | ⟨g',cap',cur,e,hg,hb,hn,hm,hs,hx⟩⟩:=h
 ·exact absurd h.1 (by simp)
 ·simp at e
  obtain⟨rfl,rfl⟩:=e
  rw[cell_of_row _ _ j _ _ _ hb]
  have h1:j<xs.length:=(List.getElem?_eq_some_iff.1 hj).1
  rw[<-hx] at hj
  rw[List.getElem?_take] at hj
  split at hj
  ·simpa using hj
  ·cases hj
theorem ownG_addr {w:World}{base e s n:Nat}{a:Option Addr}{c:Nat}{xs:List Value}(h:w.ownsRow base e s (.slice a n c) n xs)(hn:0<n):∃g,a=some ⟨g,0,none⟩/\g<w.heap.size:=by
 rcases h.2 with ⟨e,_⟩ | ⟨g,cap,cur,e,_,hh,_⟩
 ·simp at e;omega
 ·simp at e
  exact⟨g,e.1,(glt hh)⟩
theorem lanes_read {w0 w:World}{B:Nat}{ua:Option Addr}{uc:Nat}{rs:List Rw}{ls:List Ln}(o:w.ownsRow B 119 2 (.slice ua rs.length uc) rs.length (flatL ls))(g:GRows w0 w rs ls rs.length):LanesAt w ua rs:=by
 intro hp
 obtain⟨gl,rfl,hgl⟩:=ownG_addr o hp
 refine⟨gl,rfl,hgl,fun i hi=>?_⟩
 obtain⟨h1,ps,h2,h3⟩:=g.2 i hi
 obtain⟨a,c,hv⟩:=ownG_shape h2
 have k0:=flatL_get ls i (by rw[g.1];exact hi) 0 (by omega)
 have k1:=flatL_get ls i (by rw[g.1];exact hi) 1 (by omega)
 refine⟨a,c,(ls.getD i Ln.none).ru,ownG_cell o k0,?_,fun hp2=>?_⟩
 ·rw[<-hv]
  exact ownG_cell o k1
 ·rw[hv] at h2
  obtain⟨gp,rfl,hgp⟩:=ownG_addr h2 hp2
  refine⟨gp,rfl,hgp,fun j hj=>?_⟩
  obtain⟨e1,e2,e3,e4,e5,e6⟩:=h3.2 j hj
  obtain⟨va,vc,e7⟩:=e5.shape
  have m0:=flatP_get ps j (by rw[h3.1];exact hj) 0 (by omega)
  have m1:=flatP_get ps j (by rw[h3.1];exact hj) 1 (by omega)
  have m2:=flatP_get ps j (by rw[h3.1];exact hj) 2 (by omega)
  have m3:=flatP_get ps j (by rw[h3.1];exact hj) 3 (by omega)
  have m4:=flatP_get ps j (by rw[h3.1];exact hj) 4 (by omega)
  refine⟨(ps.getD j Pl.none).al,va,((rs.getD i Rw.none).cs.getD j Cl.none).ns.length,vc,ownG_cell h2 (m0.trans ?_),ownG_cell h2 (m1.trans ?_),ownG_cell h2 (m2.trans ?_),ownG_cell h2 m3,ownG_cell h2 (m4.trans ?_)⟩
  ·rw[<-e1];rfl
  ·rw[<-e2];rfl
  ·rw[<-e3];rfl
  ·rw[<-e7];rfl
theorem arr_one {arr:Array Value}{f:Nat->Int}(h1:arr.size=20)(h2:∀i,i<20->arr[i]?=some (.int .i64 (f i))):arr.all (·.oneCell')=true:=by
 rw[Array.all_eq_true]
 intro i hi
 have h:=h2 i (by omega)
 rw[Array.getElem?_eq_getElem hi] at h
 simp only[Option.some.injEq] at h
 rw[h]
 rfl
theorem below_store {w wr:World}{k:Nat}{x:Value}(h:Below w.heap.size w wr):Below w.heap.size w (wr.setCell ⟨w.heap.size,k,none⟩ x):=h.setCell (Nat.le_refl _) _
set_option maxRecDepth 20000 in
theorem fitted_any {w:World}{G n:Nat}{co gs gp gpo gm gmo:Int}{ua:Option Addr}{uc:Nat}{rs:List Rw}(hG:w.heap[G]?=some (grO co gs gp gpo gm gmo (.slice ua n uc)))(hn:rs.length=n)(hL:LanesAt w ua rs)(hin:∀i,i<rs.length->RowIn (rs.getD i Rw.none).cs co)(hlen:n<=200)(hc0:1<=co)(hc1:co<=20)(hg : -1073741823<=gs/\gs<=1073741823) :
 Calls Tryz.prog 49 #[.pointer (some ⟨G,0,none⟩)] w fun e w'=>(∃(arr:Array Value) (F:Nat->Int),e = .returned (.tuple #[.agg arr,.bool (colsOk gs rs co.toNat)])/\arr.size=20/\(∀i,i<20->arr[i]?=some (.int .i64 (F i)))/\Bd F/\(colsOk gs rs co.toNat=true->F=colsStep gs rs co.toNat))/\Below w.heap.size w w':=by
 obtain⟨cols,hcols⟩:∃cols:Nat,(cols:Int)=co:=⟨co.toNat,by omega⟩
 have hc2:cols<=20:=by omega
 have hc3:1<=cols:=by omega
 rw[<-hcols] at hin hG ⊢
 rw[show (cols:Int).toNat=cols by omega]
 clear hc0 hc1 hcols
 have q0:w.cell? ⟨G,0,none⟩=some (.int .i64 (cols:Int)):=cell_of_row _ _ 0 _ 110 _ hG
 have hGl:G<w.heap.size:=(glt hG)
 have HGR:=hideP hG
 have HL:Hid (LanesAt w ua rs):=hideP hL
 have HN:=hideP hn
 have HIN:=hideP hin
 have HBD:Hid (∀k,k<=20->Bd (colsStep gs rs k)):=hideP (colsStep_bd hg hin (by omega))
 have HG:=hideP hg
 clear hG hL hn hin hg
 have HCELL:Hid (∀x,Below w.heap.size w x->x.cell? ⟨G,0,none⟩=some (.int .i64 (cols:Int))/\x.cell? ⟨G,6,none⟩=some (.slice ua n uc)):=hideP (fun x hx=>⟨(hx.cell (p:=⟨G,0,none⟩) hGl).trans q0,(hx.cell (p:=⟨G,6,none⟩) hGl).trans (cell_of_row _ _ 6 _ 110 _ HGR.out)⟩)
 have HNEW:Hid (ArrAt (w.alloc (.cells #[.int .i64 0,.int .i64 0,.int .i64 0,.int .i64 0,.int .i64 0,.int .i64 0,.int .i64 0,.int .i64 0,.int .i64 0,.int .i64 0,.int .i64 0,.int .i64 0,.int .i64 0,.int .i64 0,.int .i64 0,.int .i64 0,.int .i64 0,.int .i64 0,.int .i64 0,.int .i64 0] 104)) w.heap.size (fun _=>0)):=hideP ⟨_,heap_alloc_new w _,rfl,fun i hi=>by
  have e:(#[.int .i64 0,.int .i64 0,.int .i64 0,.int .i64 0,.int .i64 0,.int .i64 0,.int .i64 0,.int .i64 0,.int .i64 0,.int .i64 0,.int .i64 0,.int .i64 0,.int .i64 0,.int .i64 0,.int .i64 0,.int .i64 0,.int .i64 0,.int .i64 0,.int .i64 0,.int .i64 0]:Array Value)=Array.replicate 20 (.int .i64 0):=rfl
  rw[e,Array.getElem?_replicate,if_pos hi]⟩
 go_enter Tryz.func49,Tryz.ntmps49
 go_wp2_with fail
 go_loopw [13,21,28] (fun s _ _ wr=>∃k:Nat,k<=cols/\s = .int .i64 k/\Hid (colsOk gs rs k=true/\ArrAt wr w.heap.size (colsStep gs rs k))/\Below w.heap.size w wr) (fun s _ _ _=>cols-(intOf s).toNat)
 case atStart=>exact⟨0,by omega,rfl,hideP ⟨rfl,HNEW.out⟩,below1 _ _⟩
 case round =>
  obtain⟨k,hk,rfl,HK,hbel⟩:=hrel
  clear HNEW
  obtain⟨wo,rfl⟩:∃wo:World,wo=wr:=⟨_,rfl⟩
  have BO:=hideP hbel
  clear hbel
  by_cases hkc:k<cols
  ·have hki:(k:Int)<(cols:Int):=by omega
   have q6:=(HCELL.out _ BO.out).2
   have hGo:G<wo.heap.size:=Nat.lt_of_lt_of_le hGl BO.out.size
   go_wp2_with fail
   go_loopw [21,28] (fun s _ wr=>∃i:Nat,i<=n/\s = .int .i64 i/\Hid (ArrAt wr w.heap.size (rowsStep gs k rs (colsStep gs rs k) i))/\Below w.heap.size w wr) (fun s _ _=>n-(intOf s).toNat)
   case atStart=>exact⟨0,by omega,rfl,hideP HK.out.2,BO.out⟩
   case round =>
    obtain⟨i,hi,rfl,HI,hbel⟩:=hrel
    obtain⟨wp,rfl⟩:∃wp:World,wp=wr:=⟨_,rfl⟩
    have BP:=hideP hbel
    clear hbel
    by_cases hin:i<n
    ·have hii:(i:Int)<(n:Int):=by omega
     obtain⟨gl,rfl,hgl,hrow⟩:=HL.out (by rw[HN.out];omega)
     obtain⟨a,c,ru,r0,r1,hcells⟩:=hrow i (by rw[HN.out];omega)
     obtain⟨cs,hcs⟩:=exq ((rs.getD i Rw.none).cs)
     have hri:=HIN.out i (by rw[HN.out];omega)
     have HST:Hid (rowsStep gs k rs (colsStep gs rs k) (i+1)=laneStep gs k cs (rowsStep gs k rs (colsStep gs rs k) i) cs.length):=hideP (by rw[hcs];rfl)
     rw[<-hcs] at r1 hcells hri
     have HRI:=hideP hri
     have HCS:=hideP hcells
     have HFB:Hid (Bd (rowsStep gs k rs (colsStep gs rs k) i)):=hideP (rowsStep_bd (HBD.out k (by omega)) HG.out (fun i hi=>HIN.out i hi) (by omega) (by omega) i (by rw[HN.out];omega))
     obtain⟨f0,hf0⟩:=exq (rowsStep gs k rs (colsStep gs rs k) i)
     rw[<-hf0] at HI HST HFB
     have r0':wp.cell? ⟨gl,i*2,none⟩=some (.int .i64 ru):=(BP.out.cell (p:=⟨gl,i*2,none⟩) hgl).trans r0
     have r1':wp.cell? ⟨gl,i*2+1,none⟩=some (.slice a cs.length c):=(BP.out.cell (p:=⟨gl,i*2+1,none⟩) hgl).trans r1
     have hglp:gl<wp.heap.size:=Nat.lt_of_lt_of_le hgl BP.out.size
     have hws:w.heap.size<wp.heap.size:=HI.out.lt
     have hcl:cs.length<=20:=by have h1:=spK_bound (show (cols:Int)<=20 by omega) HRI.out.1;have h2:=HRI.out.2;omega
     obtain⟨m,hm⟩:=exq (cs.length)
     rw[<-hm] at r1' HST HCS hcl
     have HM:=hideP hm
     clear r0 r1 hrow hcells hri hcs hf0 hm
     go_wp2_with fail
     obtain⟨p,hp⟩:=exq (wp.heap.size)
     obtain⟨w7,hw7⟩:=exq (wp.alloc (.cells #[.int .i64 ru,.slice a m c] 119))
     rw[<-hw7,<-hp]
     have B7:Hid (Below w.heap.size w w7):=hideP (by rw[hw7];exact BP.out.alloc BP.out.size _)
     have A7:Hid (ArrAt w7 w.heap.size f0):=hideP (by rw[hw7];exact HI.out.below (below1 _ _))
     have P7:Hid (w7.heap[p]?=some (.cells #[.int .i64 ru,.slice a m c] 119 (0,0))):=hideP (by rw[hw7,hp];exact heap_alloc_new wp _)
     have hpw:w.heap.size<p:=by omega
     clear hw7 hp r0' r1' hglp
     go_loopw [28] (fun s wr=>∃j:Nat,j<=m/\s = .int .i64 j/\Hid (ArrAt wr w.heap.size (laneStep gs k cs f0 j)/\wr.heap[p]?=some (.cells #[.int .i64 ru,.slice a m c] 119 (0,0)))/\Below w.heap.size w wr) (fun s _=>m-(intOf s).toNat)
     case atStart=>exact⟨0,by omega,rfl,hideP ⟨A7.out,P7.out⟩,B7.out⟩
     case round =>
      obtain⟨j,hj,rfl,HJ,hbel⟩:=hrel
      have BR:=hideP hbel
      clear hbel A7 P7 B7 HI BP BO
      have t1:wr.cell? ⟨p,1,none⟩=some (.slice a m c):=cell_of_row _ _ 1 _ 119 _ HJ.out.2
      have hpr:p<wr.heap.size:=(glt HJ.out.2)
      by_cases hjm:j<m
      ·have hji:(j:Int)<(m:Int):=by omega
       obtain⟨gp2,rfl,hgp,hcell⟩:=HCS.out (by omega)
       obtain⟨al,va,vn,vc,e0,e1,e2,e3,e4⟩:=hcell j hjm
       have hat:=HRI.out.at (show (cols:Int)<=20 by omega) (j:=j) (by rw[<-HM.out];omega)
       have HFJ:Hid (Bd (laneStep gs k cs f0 j)):=hideP (laneStep_bd HFB.out HG.out HRI.out (by omega) (by omega) j (by rw[<-HM.out];omega))
       obtain⟨f1,hf1⟩:=exq (laneStep gs k cs f0 j)
       have HS1:Hid (laneStep gs k cs f0 (j+1)=cellStep gs k cs f1 j):=hideP (by rw[hf1];rfl)
       rw[<-hf1] at HJ HFJ
       obtain⟨fi,hfi⟩:∃fi:Nat,(fi:Int)=spK cs j:=⟨(spK cs j).toNat,by omega⟩
       obtain⟨la,hla⟩:∃la:Int,la=spK cs (j+1)-1:=⟨_,rfl⟩
       obtain⟨nat,hnat⟩:=exq (natW (cs.getD j Cl.none).ns)
       have hfla:(fi:Int)<=la:=by omega
       have hlac:la<20:=by omega
       have hnb : -1073741823<=nat/\nat<=1073741823:=by rw[hnat];exact⟨hat.2.2.2.1,hat.2.2.2.2.1⟩
       have HSY:Hid (la=(k:Int)->laneStep gs k cs f0 (j+1)=upd f1 k (f1 k+max (nat-acr f1 gs fi k) 0)):=hideP (fun e=>by
        rw[HS1.out]
        unfold cellStep
        rw[<-hla,if_pos e,<-hfi,<-hnat]
        rfl)
       have HSN:Hid (¬la=(k:Int)->laneStep gs k cs f0 (j+1)=f1):=hideP (fun e=>by
        rw[HS1.out]
        unfold cellStep
        rw[<-hla,if_neg e])
       rw[<-hfi] at e0
       rw[<-hla] at e1
       rw[<-hnat] at e2
       have d0:wr.cell? ⟨gp2,j*5,none⟩=some (.int .i64 (fi:Int)):=(BR.out.cell (p:=⟨gp2,j*5,none⟩) hgp).trans e0
       have d1:wr.cell? ⟨gp2,j*5+1,none⟩=some (.int .i64 la):=(BR.out.cell (p:=⟨gp2,j*5+1,none⟩) hgp).trans e1
       have d2:wr.cell? ⟨gp2,j*5+2,none⟩=some (.int .i64 nat):=(BR.out.cell (p:=⟨gp2,j*5+2,none⟩) hgp).trans e2
       have d3:wr.cell? ⟨gp2,j*5+3,none⟩=some (.int .i64 al):=(BR.out.cell (p:=⟨gp2,j*5+3,none⟩) hgp).trans e3
       have d4:wr.cell? ⟨gp2,j*5+4,none⟩=some (.slice va vn vc):=(BR.out.cell (p:=⟨gp2,j*5+4,none⟩) hgp).trans e4
       have hgpr:gp2<wr.heap.size:=Nat.lt_of_lt_of_le hgp BR.out.size
       have hwr:w.heap.size<wr.heap.size:=by omega
       clear hcell e0 e1 e2 e3 e4 hat hf1 hfi hla hnat HS1
       by_cases hlk:la=(k:Int)
       ·subst hlk
        go_wp2_with fail
        obtain⟨W,hW⟩:=exq (wr.alloc (.cells #[.int .i64 (fi:Int),.int .i64 (k:Int),.int .i64 nat,.int .i64 al,.slice va vn vc] 122))
        obtain⟨q,hq⟩:=exq (wr.heap.size)
        rw[<-hW,<-hq]
        have AW:Hid (ArrAt W w.heap.size f1):=hideP (by rw[hW];exact HJ.out.1.below (below1 _ _))
        have BW:Hid (Below w.heap.size w W):=hideP (by rw[hW];exact BR.out.alloc BR.out.size _)
        have PW:Hid (W.heap[p]?=some (.cells #[.int .i64 ru,.slice (some ⟨gp2,0,none⟩) m c] 119 (0,0))):=hideP (by rw[hW];exact(Below.heap_alloc _ _ _ hpr).trans HJ.out.2)
        have CW:Hid (W.heap[q]?=some (.cells #[.int .i64 (fi:Int),.int .i64 (k:Int),.int .i64 nat,.int .i64 al,.slice va vn vc] 122 (0,0))):=hideP (by rw[hW,hq];exact heap_alloc_new wr _)
        have hqw:w.heap.size<q:=by omega
        have hqp:p<q:=by omega
        clear hW hq d0 d1 d2 d3 d4 hgpr hwr t1 hpr
        obtain⟨ac,hac⟩:=exq (acr f1 gs fi k)
        have hacb:=acr_bd HFJ.out HG.out (show fi<=k by omega) (show k<20 by omega)
        have hfk:=HFJ.out k
        obtain⟨fk,hfk2⟩:=exq (f1 k)
        have HC:Hid (Calls Tryz.prog 75 #[.pointer (some ⟨G,0,none⟩),.pointer (some ⟨w.heap.size,0,none⟩),.int .i64 (fi:Int),.int .i64 (k:Int)] W.drew fun e w'=>e = .returned (.int .i64 ac)/\w'=W.drew):=hideP (by rw[hac];exact across_any (w:=W.drew) fi k (show W.drew.heap[G]?=_ from(BW.out.block _ hGl).trans HGR.out) (AW.out.same rfl) HFJ.out (by omega) (by omega) HG.out)
        have HSZ:Hid (laneStep gs k cs f0 (j+1)=upd f1 k (fk+max (nat-ac) 0)):=hideP (by rw[HSY.out (by first|rfl|trivial),hac,hfk2])
        rw[<-hac] at hacb
        rw[<-hfk2] at hfk
        have wsub:IntKind.i64.wrap (nat-ac)=nat-ac:=by rw[IntKind.wrap_i64];omega
        have wadd:IntKind.i64.wrap (fk+max (nat-ac) 0)=fk+max (nat-ac) 0:=by rw[IntKind.wrap_i64];omega
        have cA:W.cell? ⟨w.heap.size,k,none⟩=some (.int .i64 fk):=by rw[hfk2];exact AW.out.cell (by omega)
        have fA:=AW.out.free
        have hAl:=AW.out.lt
        have hk20:(k:Int)<20:=by omega
        clear hac hfk2 HSY HSN
        have HSX:Hid (∀X:World,X.heap[q]?=W.heap[q]?->X.cell? ⟨q,0,none⟩=some (.int .i64 (fi:Int))/\X.cell? ⟨q,2,none⟩=some (.int .i64 nat)):=hideP (fun X hX=>⟨cell_of_row _ _ 0 _ 122 _ (hX.trans CW.out),cell_of_row _ _ 2 _ 122 _ (hX.trans CW.out)⟩)
        have T7:=hideP (HSX.out (W.setCell ⟨w.heap.size,k,none⟩ (.int .i64 (fk+max (nat-ac) 0))).drew ((show (W.setCell ⟨w.heap.size,k,none⟩ (.int .i64 (fk+max (nat-ac) 0))).drew.heap[q]?=(W.setCell ⟨w.heap.size,k,none⟩ (.int .i64 (fk+max (nat-ac) 0))).heap[q]? from rfl).trans (Below.heap_setCell _ _ _ _ (by simp;omega))))
        refine wp_region_held_drew (S:=fun x=>x.cell? ⟨q,0,none⟩=some (.int .i64 (fi:Int))/\x.cell? ⟨q,2,none⟩=some (.int .i64 nat)) (by kernel_rfl) (HSX.out W.drew rfl) (fun hS=>?_)
        refine tkS (i:=0) (v:= .int .i64 (k:Int)) rfl hS ?_
        try simp only[sput]
        refine tkS (i:=1) (v:= .pointer (some ⟨w.heap.size,k,none⟩)) rfl hS ?_
        try simp only[sput]
        refine tkS (i:=3) (v:= .pointer (some ⟨q,2,none⟩)) rfl hS ?_
        try simp only[sput]
        refine tkS (i:=4) (v:= .int .i64 nat) rfl hS ?_
        try simp only[sput]
        refine tkS (i:=5) (v:= .pointer (some ⟨G,0,none⟩)) rfl hS ?_
        try simp only[sput]
        refine tkS (i:=6) (v:= .pointer (some ⟨q,0,none⟩)) rfl hS ?_
        try simp only[sput]
        refine tkS (i:=7) (v:= .int .i64 (fi:Int)) rfl hS ?_
        try simp only[sput]
        refine tkS (i:=8) (v:= .int .i64 (k:Int)) rfl hS ?_
        try simp only[sput]
        refine wpAnyH_ready (rs:=[2,9]) (by kernel_rfl) (by simp) ?_
        refine AllReadyH.cons rfl (fun K hK=>?_) (AllReadyH.cons rfl (fun K hK=>?_) AllReadyH.nil)
        ·rw[if_pos (by first|rfl|go_simp)]
         go_simp
         refine hK.out _ _ (HSX.out W.drew rfl) (fun hS=>?_)
         try simp only[sput]
         clear hK K
         refine rdS (i:=9) rfl (fun K hK=>?_)
         go_simp
         go_at_call 75
         refine HC.out.mono ?_
         rintro e w2 ⟨rfl,rfl⟩
         refine hK.out _ _ (HSX.out W.drew rfl) (fun hS=>?_)
         try simp only[sput]
         clear hK K
         refine tkS (i:=10) (v:= .int .i64 (nat-ac)) rfl hS ?_
         try simp only[sput]
         refine tkS (i:=11) (v:= .int .i64 (max (nat-ac) 0)) rfl hS ?_
         try simp only[sput]
         refine tkS (i:=12) (v:= .int .i64 (fk+max (nat-ac) 0)) rfl hS ?_
         try simp only[sput]
         refine tkS (i:=13) (v:= .pointer (some ⟨w.heap.size,k,none⟩)) rfl hS ?_
         try simp only[sput]
         refine rdS (i:=14) rfl (fun K hK=>?_)
         go_simp
         refine hK.out _ _ (T7.out) (fun hS=>?_)
         try simp only[sput]
         clear hK K
         refine wpAnyH_done (by kernel_rfl) ?_ _
         clear cA fA hS
         go_wp2
         go_roundw
         case rel=>exact⟨j+1,by omega,by go_num,hideP (by rw[HSZ.out];exact⟨ArrAt.same (AW.out.set (show k<20 by omega) _) rfl,(show (W.setCell ⟨w.heap.size,k,none⟩ (.int .i64 (fk+max (nat-ac) 0))).drew.heap[p]?=(W.setCell ⟨w.heap.size,k,none⟩ (.int .i64 (fk+max (nat-ac) 0))).heap[p]? from rfl).trans ((Below.heap_setCell _ _ _ _ (by simp;omega)).trans PW.out)⟩),(below_store BW.out).drew⟩
         case measure=>simp[intOf];omega
        ·rw[if_pos (by first|rfl|go_simp)]
         go_simp
         go_at_call 75
         refine HC.out.mono ?_
         rintro e w2 ⟨rfl,rfl⟩
         refine hK.out _ _ (HSX.out W.drew rfl) (fun hS=>?_)
         try simp only[sput]
         clear hK K
         refine tkS (i:=10) (v:= .int .i64 (nat-ac)) rfl hS ?_
         try simp only[sput]
         refine tkS (i:=11) (v:= .int .i64 (max (nat-ac) 0)) rfl hS ?_
         try simp only[sput]
         refine rdS (i:=2) rfl (fun K hK=>?_)
         go_simp
         refine hK.out _ _ (HSX.out W.drew rfl) (fun hS=>?_)
         try simp only[sput]
         clear hK K
         refine tkS (i:=12) (v:= .int .i64 (fk+max (nat-ac) 0)) rfl hS ?_
         try simp only[sput]
         refine tkS (i:=13) (v:= .pointer (some ⟨w.heap.size,k,none⟩)) rfl hS ?_
         try simp only[sput]
         refine rdS (i:=14) rfl (fun K hK=>?_)
         go_simp
         refine hK.out _ _ (T7.out) (fun hS=>?_)
         try simp only[sput]
         clear hK K
         refine wpAnyH_done (by kernel_rfl) ?_ _
         clear cA fA hS
         go_wp2
         go_roundw
         case rel=>exact⟨j+1,by omega,by go_num,hideP (by rw[HSZ.out];exact⟨ArrAt.same (AW.out.set (show k<20 by omega) _) rfl,(show (W.setCell ⟨w.heap.size,k,none⟩ (.int .i64 (fk+max (nat-ac) 0))).drew.heap[p]?=(W.setCell ⟨w.heap.size,k,none⟩ (.int .i64 (fk+max (nat-ac) 0))).heap[p]? from rfl).trans ((Below.heap_setCell _ _ _ _ (by simp;omega)).trans PW.out)⟩),(below_store BW.out).drew⟩
         case measure=>simp[intOf];omega
       ·have hb1:(la == (k:Int))=false:=by simp[hlk]
        go_wp2
        go_roundw
        case rel=>exact⟨j+1,by omega,by go_num,hideP (by rw[HSN.out hlk];exact⟨HJ.out.1.below (below1 _ _),(Below.heap_alloc _ _ _ hpr).trans HJ.out.2⟩),BR.out.alloc BR.out.size _⟩
        case measure=>simp[intOf];omega
      ·have hji:¬(j:Int)<(m:Int):=by omega
       obtain rfl:j=m:=by omega
       go_wp2
       go_roundw
       case rel=>exact⟨i+1,by omega,by go_num,hideP (by rw[HST.out];exact HJ.out.1),BR.out⟩
       case measure=>simp[intOf];omega
    ·have hii:¬(i:Int)<(n:Int):=by omega
     obtain rfl:i=n:=by omega
     have HCS:Hid (colsStep gs rs (k+1)=rowsStep gs k rs (colsStep gs rs k) i):=hideP (by rw[<-HN.out];rfl)
     rw[<-HCS.out] at HI
     obtain⟨fk,hfk⟩:=exq (colsStep gs rs (k+1) k)
     have HFK:=hideP hfk
     have cA:wp.cell? ⟨w.heap.size,k,none⟩=some (.int .i64 fk):=by rw[hfk];exact HI.out.cell (by omega)
     have hAl:=HI.out.lt
     have hk20:(k:Int)<20:=by omega
     have HOK:Hid (colsOk gs rs (k+1)=fitsB fk):=hideP (by unfold colsOk;rw[HK.out.1,<-hfk];rfl)
     have HFC:Hid (∀W,Calls Tryz.prog 44 #[.int .i64 fk] W fun e w'=>e = .returned (.bool (fitsB fk))/\w'=W):=hideP (fun W=>implFits_any fk W)
     clear hfk HCS
     cases hfb:fitsB fk with
     | true =>
      rw[hfb] at HFC HOK
      go_wp2_with (go_at_call 44;refine(HFC.out _).mono ?_;rintro e w2 ⟨rfl,rfl⟩)
      go_roundw
      case rel=>exact⟨k+1,by omega,by go_num,hideP ⟨HOK.out,HI.out⟩,BP.out⟩
      case measure=>simp[intOf];omega
     | false =>
      rw[hfb] at HFC HOK
      have HFIN:Hid (colsOk gs rs cols=false):=hideP (colsOk_down (show k+1<=cols by omega) HOK.out)
      obtain⟨arr,ha1,ha2,ha3⟩:=HI.out
      have HA1:=hideP ha1
      have HA3:=hideP ha3
      have hone:arr.all (·.oneCell')=true:=arr_one ha2 ha3
      have HSZ:Hid ((Tryz.prog.info? 104).map (·.size)=some arr.size):=hideP (by rw[ha2];kernel_rfl)
      clear ha1 ha3
      go_wp2_with fail
      refine(HFC.out _).mono ?_
      rintro e w2 ⟨rfl,rfl⟩
      go_simp
      iterate 8 (first|go_values|go_skip|go_guarded|go_step|go_upon|go_in|go_back)
      refine wp_seq (wp_region_lit ?_)
      refine wpList_load_row rfl 104 _ rfl w.heap.size rfl arr 104 (0,0) HA1.out _ Tryz.underlying104 rfl HSZ.out ?_
      refine wpList_store_row rfl 104 _ _ rfl w.heap.size rfl arr arr rfl 104 HA1.out HSZ.out rfl hone ?_
      go_wp2
      exact bodyPost_ret (v:= .tuple #[.agg arr,.bool false]) (results_cell_tmp rfl _ _ w.heap.size _ _ rfl rfl (run_loadVar_row _ _ 104 104 arr (0,0) _ (setRow_heap _ _ _ _ _ _ HA1.out) Tryz.underlying104 rfl HSZ.out)) rfl ⟨⟨arr,_,by rw[HFIN.out],ha2,HA3.out,HBD.out _ (by omega),fun h=>by rw[HFIN.out] at h;cases h⟩,below_setRow BP.out (Nat.le_refl _) _⟩
  ·have hki:¬(k:Int)<(cols:Int):=by omega
   obtain rfl:k=cols:=by omega
   obtain⟨arr,ha1,ha2,ha3⟩:=HK.out.2
   have HA1:=hideP ha1
   have HA3:=hideP ha3
   have hone:arr.all (·.oneCell')=true:=arr_one ha2 ha3
   have HSZ:Hid ((Tryz.prog.info? 104).map (·.size)=some arr.size):=hideP (by rw[ha2];kernel_rfl)
   clear ha1 ha3
   rename_i K1 h1
   have H1:=hideP h1
   clear h1
   go_wp2
   refine H1.out _ _ ?_
   clear H1
   refine wp_seq (wp_region_lit ?_)
   refine wpList_load_row rfl 104 _ rfl w.heap.size rfl arr 104 (0,0) HA1.out _ Tryz.underlying104 rfl HSZ.out ?_
   refine wpList_store_row rfl 104 _ _ rfl w.heap.size rfl arr arr rfl 104 HA1.out HSZ.out rfl hone ?_
   go_wp2
   exact bodyPost_ret (v:= .tuple #[.agg arr,.bool true]) (results_cell_tmp rfl _ _ w.heap.size _ _ rfl rfl (run_loadVar_row _ _ 104 104 arr (0,0) _ (setRow_heap _ _ _ _ _ _ HA1.out) Tryz.underlying104 rfl HSZ.out)) rfl ⟨⟨arr,_,by rw[HK.out.1],ha2,HA3.out,HBD.out _ (by omega),fun _=>rfl⟩,below_setRow BO.out (Nat.le_refl _) _⟩
theorem whole_any {w:World}{G A cols:Nat}{f:Nat->Int}{gs gp gpo gm gmo:Int}{u:Value}(hG:w.heap[G]?=some (grO (cols:Int) gs gp gpo gm gmo u))(hA:ArrAt w A f)(hf:Bd f)(h1:1<=cols)(h2:cols<=20)(hg : -1073741823<=gs/\gs<=1073741823) :
 Calls Tryz.prog 53 #[.pointer (some ⟨G,0,none⟩),.pointer (some ⟨A,0,none⟩)] w fun e w'=>e = .returned (.int .i64 (acr f gs 0 (cols-1)))/\w'=w:=by
 have q0:w.cell? ⟨G,0,none⟩=some (.int .i64 (cols:Int)):=cell_of_row _ _ 0 _ 110 _ hG
 have hGl:G<w.heap.size:=(glt hG)
 have HC:=hideP (across_any 0 (cols-1) hG hA hf (by omega) (by omega) hg)
 rw[show ((cols-1:Nat):Int)=(cols:Int)-1 by omega,show ((0:Nat):Int)=0 from rfl] at HC
 clear hG hA hf hg
 go_enter Tryz.func53,Tryz.ntmps53
 go_wp2_with fail
 refine HC.out.mono ?_
 rintro e w1 ⟨rfl,rfl⟩
 go_wp2
 go_ret
 exact⟨rfl,rfl⟩
theorem tabB_parts {t:Tb}(h:tabB t=true):1<=t.co/\t.co<=20/\(-1073741823<=t.gs/\t.gs<=1073741823)/\t.rs.length<=200/\∀i,i<t.rs.length->RowIn (t.rs.getD i Rw.none).cs t.co:=by
 unfold tabB headB glB at h
 simp only[Bool.and_eq_true,decide_eq_true_eq] at h
 obtain⟨⟨⟨⟨h1,h2⟩,⟨⟨⟨⟨h3,_⟩,_⟩,_⟩,_⟩⟩,h4⟩,h5⟩:=h
 unfold fitsB at h3
 simp only[decide_eq_true_eq] at h3
 exact⟨h1,h2,h3,h4,fun i hi=>rowB_in (rowsB_at h5 i hi) h1⟩
def twI (t:Tb):Int:=if tabB t&&colsOk t.gs t.rs t.co.toNat then (if fitsB (acr (colsStep t.gs t.rs t.co.toNat) t.gs 0 (t.co.toNat-1))=true then acr (colsStep t.gs t.rs t.co.toNat) t.gs 0 (t.co.toNat-1) else 0) else 0
theorem grid_fitted (x:Tb){v:Value}{w:World}(h:RRowN 0 w v x.rs)(hs:SmT x) :
 Calls Tryz.prog 47 #[tbV x v] w fun e w'=>(∃p,e = .returned (.tuple #[.pointer p,.bool (tabB x)])/\(tabB x=true->∃G u,p=some ⟨G,0,none⟩/\w.heap.size<=G/\w'.heap[G]?=some (grO x.co x.gs x.gp x.gpo x.gm x.gmo u)/\
  Calls Tryz.prog 49 #[.pointer (some ⟨G,0,none⟩)] w' fun e w2=>(∃(arr:Array Value) (F:Nat->Int),e = .returned (.tuple #[.agg arr,.bool (colsOk x.gs x.rs x.co.toNat)])/\arr.size=20/\(∀i,i<20->arr[i]?=some (.int .i64 (F i)))/\Bd F/\(colsOk x.gs x.rs x.co.toNat=true->F=colsStep x.gs x.rs x.co.toNat))/\Below w'.heap.size w' w2))/\Below w.heap.size w w':=by
 refine(gridOf_any x h hs).mono ?_
 rintro e w' ⟨h1,h2⟩
 refine⟨?_,h2⟩
 cases hb:tabB x with
 | false =>
  rw[hb] at h1
  exact⟨none,h1,fun h=>by cases h⟩
 | true =>
  rw[hb] at h1
  obtain⟨G,rfl,u,ls,hG,hg,ho,hr⟩:=h1
  obtain⟨b1,b2,b3,b4,b5⟩:=tabB_parts hb
  refine⟨_,rfl,fun _=>⟨G,u,rfl,hG,hg,?_⟩⟩
  obtain⟨ua,uc,rfl⟩:=ownG_shape ho
  exact fitted_any hg rfl (lanes_read ho hr) b5 b4 b1 b2 b3
set_option maxRecDepth 20000 in
theorem implTableWidth_any (x:Tb){v:Value}{w:World}(h:RRowN 0 w v x.rs)(hs:SmT x) :
 Calls Tryz.prog 25 #[tbV x v] w fun e w'=>e = .returned (.int .i64 (twI x))/\Below w.heap.size w w':=by
 obtain⟨va,vn,vc,rfl⟩:∃a n c,v = .slice a n c:=by obtain⟨a,c,rfl⟩:=h.shape;exact⟨_,_,_,rfl⟩
 have HC:Hid (∀W,Below w.heap.size w W->Calls Tryz.prog 47 #[tbV x (.slice va vn vc)] W _):=hideP (fun W hW=>grid_fitted x (h.below rwNStable hW) hs)
 have HT:Hid (tabB x=true->1<=x.co/\x.co<=20/\(-1073741823<=x.gs/\x.gs<=1073741823)):=hideP (fun hb=>⟨(tabB_parts hb).1,(tabB_parts hb).2.1,(tabB_parts hb).2.2.1⟩)
 have HTW:Hid (twI x=if tabB x&&colsOk x.gs x.rs x.co.toNat then (if fitsB (acr (colsStep x.gs x.rs x.co.toNat) x.gs 0 (x.co.toNat-1))=true then acr (colsStep x.gs x.rs x.co.toNat) x.gs 0 (x.co.toNat-1) else 0) else 0):=hideP rfl
 obtain⟨R,hR⟩:=exq (twI x)
 rw[<-hR] at HTW ⊢
 clear h hs hR
 obtain⟨T,hT⟩:=exq (tabB x)
 obtain⟨K,hK⟩:=exq (colsOk x.gs x.rs x.co.toNat)
 rw[<-hT] at HC HTW HT
 rw[<-hK] at HC HTW
 clear hT hK
 obtain⟨cst,hcst⟩:=exq (colsStep x.gs x.rs x.co.toNat)
 rw[<-hcst] at HC HTW
 clear hcst
 obtain⟨co,gs,gp,gpo,gm,gmo,rs⟩:=x
 simp only[tbV] at HC ⊢
 dsimp only at HT HTW
 cases T with
 | false =>
  have hR0:R=0:=by rw[HTW.out];rfl
  subst hR0
  go_enter Tryz.func25,Tryz.ntmps25
  go_wp2_with fail
  refine(HC.out _ (below1 _ _)).mono ?_
  rintro e w1 ⟨⟨p,rfl,_⟩,hb1⟩
  have B1:Hid (Below w.heap.size w w1):=hideP (below_more (below1 _ _) hb1 (by simp))
  clear hb1
  go_wp2
  go_ret
  exact⟨rfl,B1.out⟩
 | true =>
  obtain⟨hc1,hc2,hg⟩:=HT.out (by first|rfl|trivial)
  obtain⟨cols,hcols⟩:∃cols:Nat,(cols:Int)=co:=⟨co.toNat,by omega⟩
  subst hcols
  rw[show (cols:Int).toNat=cols by omega] at HTW
  have HG:=hideP hg
  clear hg HT
  go_enter Tryz.func25,Tryz.ntmps25
  go_wp2_with fail
  refine(HC.out _ (below1 _ _)).mono ?_
  rintro e w1 ⟨⟨p,rfl,hp⟩,hb1⟩
  obtain⟨G,u,rfl,hGs,hgr,hfit⟩:=hp (by first|rfl|trivial)
  have B1:Hid (Below w.heap.size w w1):=hideP (below_more (below1 _ _) hb1 (by simp))
  have HGR:=hideP hgr
  have HFT:=hideP hfit
  clear hb1 hp hgr hfit
  go_wp2_with fail
  refine HFT.out.mono ?_
  rintro e w2 ⟨⟨arr,F,rfl,ha2,ha3,hbd,hF⟩,hb2⟩
  have B2:Hid (Below w.heap.size w w2):=hideP (below_more B1.out hb2 B1.out.size)
  have GR2:=hideP ((hb2.block _ (glt HGR.out)).trans HGR.out)
  have hone:arr.all (·.oneCell')=true:=arr_one ha2 ha3
  have HSZ:Hid ((Tryz.prog.info? 104).map (·.size)=some arr.size):=hideP (by rw[ha2];kernel_rfl)
  have HA3:=hideP ha3
  have HBD:=hideP hbd
  have HF:=hideP hF
  clear hb2 hbd hF ha3 HFT HGR B1 HC
  go_simp
  iterate 13 (first|go_values|go_skip|go_guarded|go_step|go_upon|go_in|go_back)
  refine wpList_store_row rfl 104 _ _ rfl w2.heap.size rfl _ arr rfl 104 (heap_alloc_new w2 _) HSZ.out (by rw[ha2];rfl) hone ?_
  obtain⟨W,hW⟩:=exq ((w2.alloc (.cells #[.int .i64 0,.int .i64 0,.int .i64 0,.int .i64 0,.int .i64 0,.int .i64 0,.int .i64 0,.int .i64 0,.int .i64 0,.int .i64 0,.int .i64 0,.int .i64 0,.int .i64 0,.int .i64 0,.int .i64 0,.int .i64 0,.int .i64 0,.int .i64 0,.int .i64 0,.int .i64 0] 104)).setRow w2.heap.size arr)
  rw[<-hW]
  obtain⟨A,hA⟩:=exq (w2.heap.size)
  rw[<-hA]
  have BW:Hid (Below w.heap.size w W):=hideP (by rw[hW];exact below_setRow (B2.out.alloc B2.out.size _) B2.out.size _)
  have AW:Hid (ArrAt W A F):=hideP ⟨arr,by rw[hW,hA];exact setRow_heap _ _ _ _ _ _ (heap_alloc_new w2 _),ha2,HA3.out⟩
  have GW:Hid (W.heap[G]?=some (grO (cols:Int) gs gp gpo gm gmo u)):=hideP (by
   have hlt:=(glt GR2.out)
   rw[hW,setRow_other _ _ _ _ (by omega),Below.heap_alloc _ _ _ hlt]
   exact GR2.out)
  have HW:Hid (Calls Tryz.prog 53 #[.pointer (some ⟨G,0,none⟩),.pointer (some ⟨A,0,none⟩)] W fun e w'=>e = .returned (.int .i64 (acr F gs 0 (cols-1)))/\w'=W):=hideP (whole_any GW.out AW.out HBD.out (by omega) (by omega) HG.out)
  obtain⟨S,hS⟩:=exq (acr F gs 0 (cols-1))
  rw[<-hS] at HW
  clear hW hA B2 GR2 HSZ hone
  go_wp2_with fail
  refine HW.out.mono ?_
  rintro e w3 ⟨rfl,rfl⟩
  cases K with
  | false =>
   have hR0:R=0:=by rw[HTW.out];rfl
   subst hR0
   go_wp2
   go_ret
   exact⟨rfl,BW.out⟩
  | true =>
   have hF2:=HF.out (by first|rfl|trivial)
   rw[hF2] at hS
   have HR2:Hid (R=if fitsB S=true then S else 0):=hideP (by rw[HTW.out,hS];rfl)
   have HFC:Hid (∀W,Calls Tryz.prog 44 #[.int .i64 S] W fun e w'=>e = .returned (.bool (fitsB S))/\w'=W):=hideP (fun W=>implFits_any S W)
   clear hS hF2 HF HTW
   cases hfb:fitsB S with
   | true =>
    rw[hfb] at HFC HR2
    have hR0:R=S:=by rw[HR2.out];rfl
    subst hR0
    go_wp2_with (go_at_call 44;refine(HFC.out _).mono ?_;rintro e w4 ⟨rfl,rfl⟩)
    go_ret
    exact⟨rfl,BW.out⟩
   | false =>
    rw[hfb] at HFC HR2
    have hR0:R=0:=by rw[HR2.out];rfl
    subst hR0
    go_wp2_with (go_at_call 44;refine(HFC.out _).mono ?_;rintro e w4 ⟨rfl,rfl⟩)
    go_ret
    exact⟨rfl,BW.out⟩
end Go.Proofs.YtbbehmcekbnkiaaGreat

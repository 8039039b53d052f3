import Derived.Test.YtbbehmcekbnkiaaGreatVpit
import Derived.Test.YtbbehmcekbnkiaaGreatVsot
import Derived.Test.YtbbehmcekbnkiaaGreatDndt
namespace Go.Proofs.YtbbehmcekbnkiaaGreat
open Go.RowKit
set_option linter.unusedVariables false
set_option linter.unusedSimpArgs false
theorem set_os (w:World)(p:Addr)(v:Value):(w.setCell p v).os=w.os:=rfl
theorem set_tape (w:World)(p:Addr)(v:Value):(w.setCell p v).tape=w.tape:=rfl
theorem set_output (w:World)(p:Addr)(v:Value):(w.setCell p v).output=w.output:=rfl
def hpR (xs:List Nd)(mode size:Int):List Nd:=if hpOk xs mode size=true then hpN xs mode size else []
def hpT (xs:List Nd)(mode size:Int):Shr.Sett:=if hpOk xs mode size=true then Shr.shareS (hpS xs).gs (hpQ xs mode size) else ⟨0,0,0,0,0,0⟩
theorem hpN_len (xs:List Nd)(mode size:Int):(hpN xs mode size).length=xs.length+1:=by
 unfold hpN
 rw[List.length_cons,setL_len]
theorem own_NN {w:World}{base n:Nat}{v:Value}{xs:List Nd}(h:w.ownsRow base 36 15 v n (flatN xs))(hn:xs.length=n):NN 0 w v xs:=by
 have hc:=own_cap h
 rcases h.2 with ⟨rfl,h0⟩ | ⟨g,cap,cur,rfl,hb,hg,_⟩
 ·exact .inl ⟨rfl,List.eq_nil_of_length_eq_zero (by omega)⟩
 ·subst hn
  exact .inr ⟨g,0,cap,rfl,(hc _ _ _ rfl).1,Nat.zero_le _,fun _=>(glt hg),fun j u hj=>by rw[Nat.zero_add];exact(own_cell h hj).1⟩
theorem specH {v:Value}{xs:List Nd}{w:World}{base n:Nat}(mode size:Int)(h:w.ownsRow base 36 15 v n (flatN xs))(hn:xs.length=n)(hs:n<=1048576) :
 Calls Tryz.prog 68 #[v,.int .i64 mode,.int .i64 size] w fun e w'=>∃u,e = .returned (packV u (hpT xs mode size))/\w'.ownsRow w.heap.size 36 15 u (hpR xs mode size).length (flatN (hpR xs mode size))/\Below w.heap.size w w':=by
 have hN:=SRow.mono ndStable (own_NRow h hn) (Nat.zero_le base)
 cases hok:hpOk xs mode size with
 | false =>
  have e1:hpR xs mode size=[]:=by unfold hpR;rw[hok];rfl
  have e2:hpT xs mode size=⟨0,0,0,0,0,0⟩:=by unfold hpT;rw[hok];rfl
  rw[e1,e2]
  refine(specHPack_no mode size hN (by omega) hok).mono ?_
  rintro e w' ⟨rfl,hb⟩
  exact⟨_,rfl,World.ownsRow_nil _ _ _ _,hb⟩
 | true =>
  have e1:hpR xs mode size=hpN xs mode size:=by unfold hpR;rw[if_pos hok]
  have e2:hpT xs mode size=Shr.shareS (hpS xs).gs (hpQ xs mode size):=by unfold hpT;rw[if_pos hok]
  rw[e1,e2,hpN_len]
  refine(specHPack_ok mode size hN (own_NN h hn) (by omega) hok).mono ?_
  rintro e w' ⟨u,he,ho,hb⟩
  exact⟨u,he,ho,hb⟩
theorem implH {v:Value}{xs:List Nd}{w:World}{base n:Nat}(mode size:Int)(h:w.ownsRow base 36 15 v n (flatN xs))(hn:xs.length=n)(hs:n<=1048576) :
 Calls Tryz.prog 10 #[v,.int .i64 mode,.int .i64 size] w fun e w'=>∃u,e = .returned (packV u (hpT xs mode size))/\w'.ownsRow w.heap.size 36 15 u (hpR xs mode size).length (flatN (hpR xs mode size))/\Below w.heap.size w w':=by
 have hN:=SRow.mono ndStable (own_NRow h hn) (Nat.zero_le base)
 refine(implHPack_any mode size hN (own_NN h hn) (by omega)).mono ?_
 rintro e w' ⟨hb,hp⟩
 cases hok:hpOk xs mode size with
 | false =>
  have e1:hpR xs mode size=[]:=by unfold hpR;rw[hok];rfl
  have e2:hpT xs mode size=⟨0,0,0,0,0,0⟩:=by unfold hpT;rw[hok];rfl
  rw[hok] at hp
  rw[e1,e2]
  exact⟨_,hp,World.ownsRow_nil _ _ _ _,hb⟩
 | true =>
  have e1:hpR xs mode size=hpN xs mode size:=by unfold hpR;rw[if_pos hok]
  have e2:hpT xs mode size=Shr.shareS (hpS xs).gs (hpQ xs mode size):=by unfold hpT;rw[if_pos hok]
  rw[hok] at hp
  obtain⟨u,he,ho⟩:=hp
  rw[e1,e2,hpN_len]
  exact⟨u,he,ho,hb⟩
def vpA (xs:List Nd)(deep mode size:Int):Bool:=decide (0<=deep/\deep<=1073741823)&&vpOk xs deep mode size
def vpR (xs:List Nd)(deep mode size:Int):List Nd:=if vpA xs deep mode size=true then vpN xs deep mode size else []
def vpT (xs:List Nd)(deep mode size:Int):Shr.Sett:=if vpA xs deep mode size=true then Shr.shareS (vpS xs deep).gs (vpQ xs deep mode size) else ⟨0,0,0,0,0,0⟩
theorem vpN_len (xs:List Nd)(deep mode size:Int):(vpN xs deep mode size).length=xs.length+1:=by
 unfold vpN
 rw[List.length_cons,setL_len]
theorem vpA_in {xs:List Nd}{deep mode size:Int}(h:0<=deep/\deep<=1073741823):vpA xs deep mode size=vpOk xs deep mode size:=by
 unfold vpA
 rw[decide_eq_true h,Bool.true_and]
theorem vpA_out {xs:List Nd}{deep mode size:Int}(h:¬(0<=deep/\deep<=1073741823)):vpA xs deep mode size=false:=by
 unfold vpA
 rw[decide_eq_false h,Bool.false_and]
theorem vp_no {xs:List Nd}{deep mode size:Int}(h:vpA xs deep mode size=false):vpR xs deep mode size=[]/\vpT xs deep mode size=⟨0,0,0,0,0,0⟩:=by
 unfold vpR vpT
 rw[h]
 exact⟨rfl,rfl⟩
theorem vp_yes {xs:List Nd}{deep mode size:Int}(h:vpA xs deep mode size=true):vpR xs deep mode size=vpN xs deep mode size/\vpT xs deep mode size=Shr.shareS (vpS xs deep).gs (vpQ xs deep mode size):=by
 unfold vpR vpT
 rw[if_pos h,if_pos h]
 exact⟨rfl,rfl⟩
theorem specV {v:Value}{xs:List Nd}{w:World}{base n:Nat}(deep mode size:Int)(h:w.ownsRow base 36 15 v n (flatN xs))(hn:xs.length=n)(hs:n<=1048576) :
 Calls Tryz.prog 69 #[v,.int .i64 mode,.int .i64 size,.int .i64 deep] w fun e w'=>∃u,e = .returned (packV u (vpT xs deep mode size))/\w'.ownsRow w.heap.size 36 15 u (vpR xs deep mode size).length (flatN (vpR xs deep mode size))/\Below w.heap.size w w':=by
 have hN:=SRow.mono ndStable (own_NRow h hn) (Nat.zero_le base)
 by_cases hd:0<=deep/\deep<=1073741823
 ·cases hok:vpOk xs deep mode size with
  | false =>
   obtain⟨e1,e2⟩:=vp_no ((vpA_in hd).trans hok)
   rw[e1,e2]
   refine(specVPack_no deep mode size hd hN (by omega) hok).mono ?_
   rintro e w' ⟨rfl,hb⟩
   exact⟨_,rfl,World.ownsRow_nil _ _ _ _,hb⟩
  | true =>
   obtain⟨e1,e2⟩:=vp_yes ((vpA_in hd).trans hok)
   rw[e1,e2,vpN_len]
   refine(specVPack_ok deep mode size hd hN (own_NN h hn) (by omega) hok).mono ?_
   rintro e w' ⟨u,he,ho,hb⟩
   exact⟨u,he,ho,hb⟩
 ·obtain⟨e1,e2⟩:=vp_no (vpA_out (xs:=xs) (mode:=mode) (size:=size) hd)
  rw[e1,e2]
  refine(specVPack_out deep mode size hd hN (by omega)).mono ?_
  rintro e w' ⟨rfl,hb⟩
  exact⟨_,rfl,World.ownsRow_nil _ _ _ _,hb⟩
end Go.Proofs.YtbbehmcekbnkiaaGreat
namespace Go.Proofs.YtbbehmcekbnkiaaGreat
open Go.RowKit Go.Shelf
set_option linter.unusedVariables false
set_option linter.unusedSimpArgs false
def RR (w:World)(v:Value)(n:Nat)(f:Nat->List Nd):Prop :=
 ∃ao cap,v = .slice ao n cap/\(0<n->∃b off,ao=some ⟨b,off,none⟩/\b<w.heap.size/\∀i,i<n->∃u,w.cell? ⟨b,off+i,none⟩=some u/\NRow 0 w u (f i))
structure Lsts (base:Nat)(w:World)(vs:List Value)(f:Nat->List Nd):Prop where
 own:∀(i:Nat) (u:Value),vs[i]?=some u->w.ownsRow base 36 15 u (f i).length (flatN (f i))
 apart:∀(i j:Nat) (u t:Value),i≠j->vs[i]?=some u->vs[j]?=some t->∀b,u.ownBlock=some b->t.ownBlock≠some b
theorem own25_cell {base g n cap:Nat}{w:World}{xs:List Value}(h:w.ownsRow base 24 1 (.slice (some ⟨g,0,none⟩) n cap) n xs){j:Nat}{x:Value}(hj:xs[j]?=some x):w.cell? ⟨g,j,none⟩=some x/\w.frozen? ⟨g,j,none⟩=false:=by
 obtain⟨hl,⟨h,_⟩ | ⟨g',cap',cur,e,_,hb,hn,hm,hs,hx⟩⟩:=h
 ·simp at h
 ·simp only[Value.slice.injEq,Option.some.injEq,Addr.mk.injEq,and_true,true_and] at e
  obtain⟨rfl,rfl⟩:=e
  refine⟨?_,frozen_of_row w g j cur 24 hb⟩
  rw[cell_of_row w g _ cur 24 _ hb,<-Array.getElem?_toList]
  rw[<-hx,List.getElem?_take] at hj
  split at hj
  ·exact hj
  ·simp at hj
theorem own25_shape {base n:Nat}{w:World}{v:Value}{xs:List Value}(h:w.ownsRow base 24 1 v n xs):∃ao cap,v = .slice ao n cap/\(0<n->∃g,ao=some ⟨g,0,none⟩/\base<=g/\g<w.heap.size):=by
 obtain⟨hl,⟨rfl,rfl⟩ | ⟨g,cap,cur,rfl,hg,hb,_⟩⟩:=h
 ·exact⟨_,_,rfl,fun h=>absurd h (Nat.lt_irrefl _)⟩
 ·exact⟨_,_,rfl,fun _=>⟨g,rfl,hg,(glt hb)⟩⟩
theorem own25_len {base n:Nat}{w:World}{v:Value}{xs:List Value}(h:w.ownsRow base 24 1 v n xs):xs.length=n:=by
 have:=h.1
 omega
theorem own25_below {base n:Nat}{w w':World}{v:Value}{xs:List Value}(h:w.ownsRow base 24 1 v n xs)(hb:Below w.heap.size w w'):w'.ownsRow base 24 1 v n xs:=by
 obtain⟨hl,h | ⟨g,cap,cur,rfl,hg,hbk,hr⟩⟩:=h
 ·exact⟨hl,.inl h⟩
 ·exact⟨hl,.inr ⟨g,cap,cur,rfl,hg,(hb.block g (glt hbk)).trans hbk,hr⟩⟩
theorem other_block {base base' n m:Nat}{w:World}{v u:Value}{xs ys:List Value}(h:w.ownsRow base 24 1 v n xs)(k:w.ownsRow base' 36 15 u m ys):∀b,v.ownBlock=some b->u.ownBlock≠some b:=by
 intro b hb hu
 obtain⟨_,⟨rfl,_⟩ | ⟨g,cap,cur,rfl,_,hg,_⟩⟩:=h
 ·simp[Value.ownBlock] at hb
 ·obtain⟨_,⟨rfl,_⟩ | ⟨g',cap',cur',rfl,_,hg',_⟩⟩:=k
  ·simp[Value.ownBlock] at hu
  ·simp[Value.ownBlock] at hb hu
   subst hb hu
   rw[hg] at hg'
   simp at hg'
theorem itemAt_flat {xs:List Nd}{w:World}{b off p:Nat}(hc:∀j u,(flatN xs)[j]?=some u->w.cell? ⟨b,off+j,none⟩=some u):∀j u,(flatN (itemAt xs p))[j]?=some u->w.cell? ⟨b,off+p*15+j,none⟩=some u:=by
 intro j u hj
 have hlt:j<(flatN (itemAt xs p)).length:=(List.getElem?_eq_some_iff.1 hj).1
 rw[flatN_len] at hlt
 have hi:j / 15<(itemAt xs p).length:=by omega
 have h1:=flatN_get (itemAt xs p) (j / 15) hi (j % 15) (by omega)
 rw[show j / 15*15+j % 15=j by omega,hj] at h1
 have hi2:p+j / 15<xs.length/\(itemAt xs p).getD (j / 15) Nd.none=xs.getD (p+j / 15) Nd.none:=by
  unfold itemAt at hi ⊢
  generalize 1+(xs.getD p Nd.none).kids.toNat=m at hi ⊢
  rw[List.length_take,List.length_drop] at hi
  refine⟨by omega,?_⟩
  simp only[List.getD,List.getElem?_take,List.getElem?_drop]
  rw[if_pos (by omega)]
 rw[hi2.2] at h1
 have h2:=flatN_get xs (p+j / 15) hi2.1 (j % 15) (by omega)
 rw[<-h1] at h2
 have h3:=hc _ _ h2
 rw[show off+p*15+j=off+((p+j / 15)*15+j % 15) by omega]
 exact h3
theorem own25_kept {v:Value}{base n:Nat}{xs:List Value}{A B:World}{row:Option Nat}(h:A.ownsRow base 24 1 v n xs)(hg:A.grownBy B row)(hr:∀r,row=some r->∃o:Obj,A.heap[r]?=some o/\o.isCells=false):B.ownsRow base 24 1 v n xs:=by
 refine World.ownsRow.kept h hg ?_
 obtain⟨hl,⟨rfl,_⟩ | ⟨g,cap,cur,rfl,_,hb,_⟩⟩:=h
 ·exact .inl rfl
 ·refine .inr fun e=>?_
  obtain⟨o,ho,hc⟩:=hr g e.symm
  rw[hb] at ho
  cases ho
  cases hc
theorem Lsts.kept {base:Nat}{vs:List Value}{f:Nat->List Nd}{A B:World}{row:Option Nat}(h:Lsts base A vs f)(hg:A.grownBy B row)(hr:∀r,row=some r->∃o:Obj,A.heap[r]?=some o/\o.isCells=false):Lsts base B vs f :=
 ⟨fun i u hu=>own_row_kept (h.own i u hu) hg hr,h.apart⟩
theorem wp_append_at {P:Program}{w:World}{o:Oper}{a:Act}{K:Act->World->Prop}{Q:Exit->Act->World->Prop}(s x:Operand)(t:TypeId)
 (ho:o.op = .call { callee:= .builtin .append,args:=#[s,x],argTypes:=#[t,t] })
 (base:Nat) (e:TypeId) (i:TypeInfo) (z:Value) (size bytes:Nat) (ht:P.underlying t=some (.slice e)) (hi:P.info? e=some i) (hz:i.zero=some z)
 (hsize:i.size=size) (hby:i.bytes=bytes) (hzs:z.cells.size=size) (hsz:0<size)
 (v:Value) (n:Nat) (xs:List Value) (hs:a.eval s=v) (hown:w.ownsRow base e size v n xs)
 (ad:Addr) (m c:Nat) (news:List Value) (hx:a.eval x = .slice (some ad) m c) (hl:news.length=m*size) (hnews:∀j u,news[j]?=some u->w.cell? (ad.add j)=some u) (h1:∀u∈news,u.oneCell'=true)
 (h63:n+m<=maxLen) (hbytes:(n+m)*bytes<=140737488355328) (hbase:base<=w.heap.size)
 (h:∀v' w',w'.ownsRow base e size v' (n+m) (xs++news)->w.grownBy w' v.ownBlock->(v' = .slice none 0 0↔v = .slice none 0 0/\m=0)->(v'.ownBlock=v.ownBlock\/v'.ownBlock=some w.heap.size)->K (a.put o.dst v') w'):o.wp P a w K Q:=by
 obtain⟨v',w',hr,h2,h3,h4,h5⟩:=run_append_own_at (P:=P) w base t o.type e i z size bytes ht hi hz hsize hby hzs hsz v n xs hown ad m c news hl hnews h1 h63 hbytes hbase
 unfold Oper.wp execOp
 simp only[ho,resolve,invoke,builtin,Sem.run_bind,Sem.run_pure,Result.andThen_ok,List.map_toArray,List.map_cons,List.map_nil,hs,hx,hr]
 exact h v' w' h2 h3 h4 h5
structure Round (xs:List Nd)(ao:Option Addr)(Bs b off cap base B k:Nat)(w W:World)(V u:Value)(vs:List Value)(f:Nat->List Nd):Prop where
 hbx:Boxed W base 24 V
 hbu:Boxed W B 37 u
 how:W.ownsRow base 24 1 u k vs
 hls:Lsts base W vs f
 hne:∀g,u.ownBlock=some g->g≠base/\g≠Bs
 hB:Below base w W
 hbs:Bs<W.heap.size
theorem item_done {xs:List Nd}{ao:Option Addr}{Bs b off cap base B k m:Nat}{w W w3 w5:World}{V u vc v':Value}{vs:List Value}{f f':Nat->List Nd}{it:List Nd}{tmp:Obj}
 (R:Round xs ao Bs b off cap base B k w W V u vs f) (hBB:base<B) (hBs:B<Bs) (hb:0<xs.length->b<base) (hW:base<=W.heap.size)
 (hc:w3.ownsRow W.heap.size 36 15 vc m (flatN it)) (hm:it.length=m) (hb3:Below W.heap.size W.drew w3)
 (ho5:w5.ownsRow base 24 1 v' (k+1) (vs++[vc])) (hg5:(w3.alloc tmp).grownBy w5 u.ownBlock) (hat:v'.ownBlock=u.ownBlock\/v'.ownBlock=some (w3.alloc tmp).heap.size)
 (hf:∀i,i<k->f' i=f i) (hfk:f' k=it) :
 KeepsOthers W (w5.setCell ⟨B,0,none⟩ v')/\(Src xs ao Bs b off cap W->Src xs ao Bs b off cap (w5.setCell ⟨B,0,none⟩ v'))/\Round xs ao Bs b off cap base B (k+1) w (w5.setCell ⟨B,0,none⟩ v') V v' (vs++[vc]) f':=by
 have hb3':Below W.heap.size W w3:=⟨hb3.os,hb3.tape,hb3.output,hb3.size,fun q hq=>hb3.block q hq⟩
 have hlen:vs.length=k:=own25_len R.how
 have hbu3:Boxed w3 B 37 u:=(hb3'.block B R.hbu.lt).trans R.hbu
 have how3:w3.ownsRow base 24 1 u k vs:=own25_below R.how hb3'
 obtain⟨p1,p2,p3,p4,p5⟩:=Boxed.appended hbu3 (by decide) how3 (Nat.le_trans hW hb3'.size) (by omega) ho5 hg5
 have hbase:∀g,u.ownBlock=some g->base<=g:=fun g hg=>(World.ownsRow.lt R.how g hg).1
 have hblk:∀q,q<W.heap.size->u.ownBlock≠some q->q≠B->(w5.setCell ⟨B,0,none⟩ v').heap[q]?=W.heap[q]?:=by
  intro q hq hu hqB
  rw[Below.heap_setCell _ _ _ _ (by simpa using hqB),hg5.block q (by have:=hb3'.size;simp;omega) (fun e=>hu e.symm),(below1 _ _).block q (by have:=hb3'.size;omega),hb3'.block q hq]
 have hne':∀g,v'.ownBlock=some g->g≠base/\g≠Bs:=by
  intro g hg
  rcases hat with e|e
  ·exact R.hne g (by rw[<-e];exact hg)
  ·rw[hg] at e
   have h1:=Option.some.inj e
   have h2:=R.hbs
   have h3:=hb3'.size
   simp only[World.size_alloc] at h1
   omega
 refine⟨?_,?_,⟨?_,p2,p3,⟨?_,?_⟩,hne',?_,?_⟩⟩
 ·exact KeepsOthers.trans ⟨hb3'.size,fun q o h _=>(hb3'.block q (glt h)).trans h⟩ p4
 ·intro hsrc
  refine⟨?_,hsrc.some_,fun i hi=>?_⟩
  ·have hlt:=World.block_lt_of_cell? W _ hsrc.box
   exact(World.cell?_of_block (w:=W) (a:=⟨Bs,0,none⟩) (hblk Bs hlt (fun e=>(R.hne Bs e).2 rfl) (by omega))).trans hsrc.box
  ·obtain⟨y,hk,hcy⟩:=hsrc.at_ i hi
   have hbl:=hb (by omega)
   refine⟨y,hk,fun j hj=>?_⟩
   exact(World.cell?_of_block (w:=W) (a:=⟨b,off+i*15+j,none⟩) (hblk b (by omega) (fun e=>by have:=hbase b e;omega) (by omega))).trans (hcy j hj)
 ·exact(hblk base R.hbx.lt (fun e=>(R.hne base e).1 rfl) (by omega)).trans R.hbx
 ·intro i x hx
  by_cases hik:i<k
  ·rw[List.getElem?_append_left (by omega)] at hx
   rw[hf i hik]
   have h1:=own_below (R.hls.own i x hx) hb3'
   have h2:w5.ownsRow base 36 15 x (f i).length (flatN (f i)):=World.ownsRow.kept (h1.alloc tmp) hg5 (by
    cases hxb:x.ownBlock with
    | none=>exact .inl rfl
    | some g=>exact .inr (fun e=>other_block how3 h1 g e.symm hxb))
   exact h2.kept (grownBy_setCell' w5 B v') (.inr (p1.not_row (by decide) h2).symm)
  ·rw[List.getElem?_append_right (by omega)] at hx
   have hi0:i=k:=by
    have:=(List.getElem?_eq_some_iff.1 hx).1
    simp at this
    omega
   subst hi0
   obtain rfl:vc=x:=by simpa [hlen] using hx
   rw[hfk,hm]
   have h1:w3.ownsRow base 36 15 vc m (flatN it):=own_mono hc hW
   have h2:w5.ownsRow base 36 15 vc m (flatN it):=World.ownsRow.kept (h1.alloc tmp) hg5 (by
    cases hxb:vc.ownBlock with
    | none=>exact .inl rfl
    | some g=>exact .inr (fun e=>other_block how3 h1 g e.symm hxb))
   exact h2.kept (grownBy_setCell' w5 B v') (.inr (p1.not_row (by decide) h2).symm)
 ·intro i j x y hij hx hy q hq
  have hold:∀i x,i<k->(vs++[vc])[i]?=some x->vs[i]?=some x:=fun i x hi h=>by rw[List.getElem?_append_left (by omega)] at h;exact h
  have hnew:∀i x,¬i<k->(vs++[vc])[i]?=some x->x=vc/\i=k:=fun i x hi h=>by
   rw[List.getElem?_append_right (by omega)] at h
   have h1:=(List.getElem?_eq_some_iff.1 h).1
   simp at h1
   have hik:i=k:=by omega
   subst hik
   refine⟨?_,rfl⟩
   have:vc=x:=by simpa [hlen] using h
   exact this.symm
  by_cases hi:i<k
  ·have hx':=hold i x hi hx
   by_cases hj:j<k
   ·exact R.hls.apart i j x y hij hx' (hold j y hj hy) q hq
   ·obtain⟨rfl,_⟩:=hnew j y hj hy
    have h1:=(World.ownsRow.lt (R.hls.own i x hx') q hq).2
    intro e
    have h2:=(World.ownsRow.lt hc q e).1
    omega
  ·obtain⟨rfl,hik⟩:=hnew i x hi hx
   by_cases hj:j<k
   ·have hy':=hold j y hj hy
    have h2:=(World.ownsRow.lt hc q hq).1
    intro e
    have h1:=(World.ownsRow.lt (R.hls.own j y hy') q e).2
    omega
   ·obtain⟨_,hjk⟩:=hnew j y hj hy
    omega
 ·exact(R.hB.trans (hb3'.mono hW)).trans p5
 ·have h1:=R.hbs
  have h2:=hb3'.size
  have h3:=p5.size
  omega
attribute [local go_sem] Oper.semAt_some
theorem Tryz.info24i:(Tryz.prog.info? 24).map (fun i=>(i.zero,i.size,i.bytes))=some (some (.slice none 0 0),1,24):=by kernel_rfl
set_option maxRecDepth 100000 in
set_option maxHeartbeats 8000000 in
theorem implItems_in {v:Value}{xs:List Nd}{w:World}(h:NRow 0 w v xs)(hs:xs.length<=1048576)(hcp:∀a n c,v = .slice a n c->n<=c/\c<=9223372036854775807) :
 CallsIn Fence.wide 5 Tryz.prog 12 #[v] w fun e W'=>(∃u vs,e = .returned u/\W'.ownsRow w.heap.size 24 1 u (itemsOf xs).length vs/\Lsts w.heap.size W' vs (fun i=>(itemsOf xs).getD i []))/\Below w.heap.size w W':=by
 have LC:Hid (∀W,Below w.heap.size w W->Calls Tryz.prog 36 #[v] W fun e w'=>e = .returned (.bool (listB xs))/\Below W.heap.size W w'):=hideP (fun W hW=>implListOk_any (SRow.below ndStable h hW) hs)
 obtain⟨ao,n,cap,rfl,hl,hr⟩:=h
 have hcap:=hcp _ _ _ rfl
 obtain⟨hcap1,hcap2⟩:=hcap
 have hnm:n<=1048576:=by rw[<-hl];exact hs
 have HL:=hideP hl
 obtain⟨b,off,hbo⟩:∃b off,0<n->ao=some ⟨b,off,none⟩/\b<w.heap.size/\∀j u,(flatN xs)[j]?=some u->w.cell? ⟨b,off+j,none⟩=some u:=by
  by_cases hn0:0<n
  ·obtain⟨b,off,e,_,hb,hc⟩:=hr hn0
   exact⟨b,off,fun _=>⟨e,hb,row_cells (fun i hi=>hc i (by rw[<-hl];exact hi))⟩⟩
  ·exact⟨0,0,fun h=>absurd h hn0⟩
 have HBO:=hideP hbo
 obtain⟨ob,hob⟩:=exq (listB xs)
 rw[<-hob] at LC
 have HOB:=hideP hob
 clear hob hr hl hcp hbo
 refine callsIn_of_wp_marks Tryz.func12 rfl trivial ?_ rfl
 simp only[Tryz.ntmps12,List.size_toArray,List.length_cons,List.length_nil,Nat.reduceAdd,Nat.reduceSub,Array.replicate_succ,Array.replicate_zero,List.push_toArray,List.append_toArray,List.nil_append,List.cons_append]
 gi_wp2_with fail
 have hBa:Below w.heap.size w (((w.alloc (.cells #[.slice ao n cap] 24)).alloc (.cells #[] 24)).alloc (.cells #[.slice (some ⟨w.heap.size+1,0,none⟩) 0 0] 37)):=below3 _ _ _ _
 refine⟨trivial,CallsIn.mono (callsIn_wide.2 (LC.out _ hBa)) ?_⟩
 rintro e w1 ⟨rfl,hb1⟩
 have q0:Boxed w1 w.heap.size 24 (.slice ao n cap):=(hb1.block _ (by simp;omega)).trans (((Boxed.new w 24 (.slice ao n cap)).alloc _).alloc _)
 have q2:Boxed w1 (w.heap.size+1+1) 37 (.slice (some ⟨w.heap.size+1,0,none⟩) 0 0):=(hb1.block _ (by simp)).trans (by
  have h:=Boxed.new ((w.alloc (.cells #[.slice ao n cap] 24)).alloc (.cells #[] 24)) 37 (.slice (some ⟨w.heap.size+1,0,none⟩) 0 0)
  rw[World.size_alloc,World.size_alloc] at h
  exact h)
 have q1:w1.heap[w.heap.size+1]?=some (.cells #[] 24):=(hb1.block _ (by simp)).trans (by
  have h:=World.alloc_heap_new (w.alloc (.cells #[.slice ao n cap] 24)) (.cells #[] 24)
  rw[World.size_alloc] at h
  exact((below1 _ _).block _ (by simp)).trans h)
 have B1:Hid (Below w.heap.size w w1):=hideP (below_more hBa hb1 (by simp;omega))
 have HO1:Hid (w1.ownsRow w.heap.size 24 1 (.slice (some ⟨w.heap.size+1,0,none⟩) 0 0) 0 []):=hideP ⟨rfl,.inr ⟨_,_,_,rfl,by omega,q1,by omega,by unfold maxLen;omega,rfl,rfl⟩⟩
 have HQ0:=hideP q0
 have HQ2:=hideP q2
 have hc0:=q0.cell
 have hc2:=q2.cell
 clear hb1 q0 q1 q2 hBa
 cases ob with
 | false =>
  have HE:Hid (itemsOf xs=[]):=hideP (by unfold itemsOf;rw[if_neg (by rw[<-HOB.out];simp)])
  gi_wp2
  refine⟨_,results_tmp rfl _ _ _,⟨_,[],rfl,?_,?_⟩,B1.out⟩
  ·rw[HE.out]
   exact HO1.out
  ·exact⟨fun i u hu=>by simp at hu,fun i j u t _ hu=>by simp at hu⟩
 | true =>
  have AOK:Hid (AllOk xs):=hideP (allOk HOB.out.symm)
  gi_wp2_with fail
  refine⟨trivial,CallsIn.mono (callsIn_wide.2 (eachItem_any ao n cap _)) ?_⟩
  rintro e w2 ⟨rfl,rfl⟩
  gi_wp2_with fail
  have bS:(w1.alloc (.cells #[.slice ao n cap] 24)).cell? ⟨w1.heap.size,0,none⟩=some (.slice ao n cap):=by simp[go_sem]
  have hB0:Below w.heap.size w (w1.alloc (.cells #[.slice ao n cap] 24)):=B1.out.alloc B1.out.size _
  have hOW:=HO1.out.alloc (.cells #[.slice ao n cap] 24)
  have hI0:=HQ0.out.alloc (.cells #[.slice ao n cap] 24)
  have hI2:=HQ2.out.alloc (.cells #[.slice ao n cap] 24)
  have hws:w.heap.size+1+1<w1.heap.size:=HQ2.out.lt
  obtain⟨Bs,hBs⟩:=exq (w1.heap.size)
  obtain⟨W0,hW0⟩:∃W0,w1.alloc (.cells #[.slice ao n cap] 24)=W0:=⟨_,rfl⟩
  have hsz:W0.heap.size=Bs+1:=by rw[<-hW0,hBs];simp
  rw[hW0] at hB0 hOW hI0 hI2 bS ⊢
  rw[<-hBs] at bS hws ⊢
  clear hW0 HQ0 HQ2 hc0 hc2
  have HSR:Hid (Src xs ao Bs b off cap W0):=hideP (by
   refine⟨by rw[HL.out];exact bS,fun h=>(HBO.out (by rw[<-HL.out];exact h)).1,fun i hi=>⟨xs.getD i Nd.none,⟨rfl,rfl⟩,fun j hj=>?_⟩⟩
   obtain⟨_,hbw,hcell⟩:=HBO.out (by rw[<-HL.out];omega)
   have h1:=flatN_get xs i hi j hj
   rw[List.getElem?_eq_getElem (show j<(xs.getD i Nd.none).cells.length from hj)] at h1 ⊢
   have h2:=hcell _ _ h1
   rw[show off+i*15+j=off+(i*15+j) by omega]
   exact(hB0.cell (p:=⟨b,off+(i*15+j),none⟩) hbw).trans h2)
  have hys2:xs.length<=20000/\∀i,i<xs.length->0<=(xs.getD i Nd.none).kids/\(xs.getD i Nd.none).kids<=20000:=⟨AOK.out.len,AOK.out.weak⟩
  refine wpIn_rangeFunc_ownF (F:=Fence.wide) (n:=5) rfl (by omega) (gf:=65) (lb:=#[.pointer (some ⟨Bs,0,none⟩)]) rfl trivial (enters_of Tryz.func65 (by kernel_rfl) rfl)
   (each_stops 4 (by omega) xs ao Bs b off cap hys2.1 hys2.2 W0 HSR.out) (fun h1 h2 h=>h2 (h1 h)) ?keepb (Below.refl _ _) (fun _=>rfl)
   (fun pre W=>(Boxed W w.heap.size 24 (.slice ao n cap)/\∃u vs,Boxed W (w.heap.size+1+1) 37 u/\W.ownsRow w.heap.size 24 1 u pre.length vs/\Lsts w.heap.size W vs (fun i=>itemAt xs ((pre.map (·.1.1)).getD i 0))/\(∀g,u.ownBlock=some g->g≠w.heap.size/\g≠Bs)/\Bs<W.heap.size)/\Below w.heap.size w W)
   (fun _ _ _=>False) ?ownI (fun _ _ _ _ _ hs _ _=>hs) ?start ?a1z ?assign ?body ?done ?stop
  case assign =>
   intro l x W K hK
   simp only[Item.encs]
   gi_wp2
   exact hK
  case start =>
   refine⟨⟨hI0,_,[],hI2,hOW,⟨fun i u hu=>by simp at hu,fun i j u t _ hu=>by simp at hu⟩,?_,by omega⟩,hB0⟩
   intro g hg
   simp[Value.ownBlock] at hg
   omega
  case keepb =>
   intro W l o o' hl hlo hoc _ hsrc
   exact hsrc.kept (grownBy_putObj' W l o') (fun r e=>by cases e;exact⟨o,hlo,hoc⟩)
  case ownI =>
   refine OwnFrom.and (Own.from ?_ _) (ownFrom_below (Nat.le_refl _) (by omega))
   rintro s A B row ⟨h1,u,vs,h2,h3,h4,h5,h6⟩ hg hr
   exact⟨boxed_kept h1 hg hr,u,vs,boxed_kept h2 hg hr,own25_kept h3 hg hr,h4.kept hg hr,h5,Nat.lt_of_lt_of_le h6 hg.size⟩
  case stop =>
   rintro D c pre W _ _ h _
   exact h.elim
  case done =>
   rintro D its W hD hst ⟨⟨h1,u,vs,h2,h3,h4,h5,_⟩,hB⟩ hK
   have hc2:=h2.cell
   have HF:Hid (its.length=(itemsOf xs).length/\(fun i=>itemAt xs ((its.map (·.1.1)).getD i 0))=fun i=>itemAt xs ((starts xs (xs.length+1) 0).getD i 0)):=hideP ⟨by unfold itemsOf;rw[if_pos HOB.out.symm,List.length_map,<-hst,List.length_map],by rw[hst]⟩
   have H3:=hideP h3
   have H4:=hideP h4
   have HBB:=hideP hB
   clear h3 h4 hB
   gi_wp2
   refine⟨by simp,.inl ⟨_,_,rfl,run_takeDeferred hK,?_⟩⟩
   refine⟨_,results_tmp rfl _ _ _,⟨u,vs,rfl,?_,?_⟩,HBB.out.trans (belowK_b (w:=w) (Nat.le_refl _) W D _ _ (by omega) hK rfl rfl)⟩
   ·rw[<-HF.out.1]
    exact ownsRow_putObj H3.out (.deferred none) hK rfl
   ·refine⟨fun i x hx=>?_,H4.out.apart⟩
    have h6:=ownsRow_putObj (H4.out.own i x hx) (.deferred none) hK rfl
    have hlen:vs.length=(itemsOf xs).length:=by rw[<-HF.out.1];exact own25_len H3.out
    have hi:i<(itemsOf xs).length:=by rw[<-hlen];exact(List.getElem?_eq_some_iff.1 hx).1
    rw[congrFun HF.out.2 i] at h6
    have e1:(itemsOf xs).getD i []=itemAt xs ((starts xs (xs.length+1) 0).getD i 0):=by
     unfold itemsOf at hi ⊢
     rw[if_pos HOB.out.symm] at hi ⊢
     rw[List.length_map] at hi
     simp[List.getD,List.getElem?_map,List.getElem?_eq_getElem hi]
    show World.ownsRow _ _ _ _ _ _ _
    rw[e1]
    exact h6
  case body =>
   rintro l pre x W ⟨⟨hbx,u,vs,hbu,how,hls,hne,hbsW⟩,hB⟩ hpl
   have hat:=x.2.1
   obtain⟨at_,ha⟩:∃a,x.1.1=a:=⟨_,rfl⟩
   obtain⟨vt,hv⟩:∃v,x.1.2=v:=⟨_,rfl⟩
   rw[ha] at hat
   rw[ha,hv]
   have HA:Hid ((pre++[x]).map (·.1.1)=pre.map (·.1.1)++[at_]):=hideP (by rw[List.map_append,List.map_singleton,ha])
   clear ha hv
   have hatn:at_<n:=by rw[<-HL.out];exact hat
   obtain⟨rfl,hbw,hcell⟩:=HBO.out (by omega)
   have hkk:=AOK.out.kids at_ hat
   have hil:=itemAt_len AOK.out hat
   have hn20:n<=20000:=by rw[<-HL.out];exact AOK.out.len
   rw[HL.out] at hkk
   obtain⟨kids,hkd⟩:=exq ((xs.getD at_ Nd.none).kids)
   rw[<-hkd] at hkk hil
   obtain⟨kn,rfl⟩:∃kn:Nat,kids=(kn:Int):=⟨kids.toNat,by omega⟩
   rw[Int.toNat_natCast] at hil
   have hsum:at_+1+kn<=n:=by omega
   have g14:W.cell? ⟨b,off+at_*15+14,none⟩=some (.int .i64 (kn:Int)):=by
    have h1:=flatN_at xs at_ hat 14 (by omega) (u:= .int .i64 (xs.getD at_ Nd.none).kids) rfl
    rw[<-hkd] at h1
    have h2:=hcell _ _ h1
    rw[show off+at_*15+14=off+(at_*15+14) by omega]
    exact(hB.cell (p:=⟨b,off+(at_*15+14),none⟩) hbw).trans h2
   have CC:Hid (Calls Tryz.prog 34 #[.slice (some ⟨b,off+at_*15,none⟩) (1+kn) (cap-at_)] W.drew fun e w'=>∃v',e = .returned v'/\w'.ownsRow W.heap.size 36 15 v' (1+kn) (flatN (itemAt xs at_))/\Below W.heap.size W.drew w'):=hideP (by
    have hnn:NN 0 W.drew (.slice (some ⟨b,off+at_*15,none⟩) (1+kn) (cap-at_)) (itemAt xs at_):=by
     refine .inr ⟨b,off+at_*15,cap-at_,by rw[hil],by rw[hil];omega,Nat.zero_le _,fun _=>Nat.lt_of_lt_of_le hbw hB.size,?_⟩
     intro j z hz
     exact(hB.cell (p:=⟨b,off+at_*15+j,none⟩) hbw).trans (itemAt_flat hcell j z hz)
    have h1:=copyNodes_any hnn (by rw[hil];omega) (fun i hi=>by
     have h2:(itemAt xs at_).getD i Nd.none∈xs:=by
      unfold itemAt at hi ⊢
      rw[List.length_take,List.length_drop] at hi
      simp only[List.getD,List.getElem?_take,List.getElem?_drop]
      rw[if_pos (by have:=hi;simp only[List.getD] at this;omega),List.getElem?_eq_getElem (by omega)]
      exact List.getElem_mem _
     obtain⟨q,hq,e⟩:=List.getElem_of_mem h2
     have h3:=AOK.out.text q hq
     rw[show xs.getD q Nd.none=(itemAt xs at_).getD i Nd.none by rw[<-e];simp[List.getD,List.getElem?_eq_getElem hq]] at h3
     omega)
    rw[hil] at h1
    exact h1)
   obtain⟨ua,uc,rfl,_⟩:=own25_shape how
   have HRO:Hid (Round xs (some ⟨b,off,none⟩) Bs b off cap w.heap.size (w.heap.size+1+1) pre.length w W (.slice (some ⟨b,off,none⟩) n cap) (.slice ua pre.length uc) vs (fun i=>itemAt xs ((pre.map (·.1.1)).getD i 0))):=hideP ⟨hbx,hbu,how,hls,hne,hB,hbsW⟩
   have HIL:=hideP hil
   have G14:Hid (w.cell? ⟨b,off+at_*15+14,none⟩=some (.int .i64 (kn:Int))):=hideP ((hB.cell (p:=⟨b,off+at_*15+14,none⟩) hbw).symm.trans g14)
   have hbxc:=hbx.cell
   have hbuc:=hbu.cell
   have hbuf:=hbu.frozen
   have hpn:pre.length<=20001:=by have:=HL.out;omega
   clear hkk hil hkd hcell hbx hbu how hls hne hB
   gi_wp2_with fail
   refine region_heldR (S:=fun X=>X.cell? ⟨w.heap.size,0,none⟩=some (.slice (some ⟨b,off,none⟩) n cap)/\X.cell? ⟨b,off+at_*15+14,none⟩=some (.int .i64 (kn:Int))) (by kernel_rfl) (plain_spec (by kernel_rfl)) (by rintro⟨a,w,h⟩;exact h) ?_
   have hS:W.drew.cell? ⟨w.heap.size,0,none⟩=some (.slice (some ⟨b,off,none⟩) n cap)/\W.drew.cell? ⟨b,off+at_*15+14,none⟩=some (.int .i64 (kn:Int)):=⟨hbxc,g14⟩
   refine tkS (i:=1) (v:= .slice (some ⟨b,off,none⟩) n cap) rfl hS ?_
   try simp only[sput]
   refine tkS (i:=2) (v:= .int .i64 (at_:Int)) rfl hS ?_
   try simp only[sput]
   refine tkS (i:=3) (v:= .int .i64 (at_:Int)) rfl hS ?_
   try simp only[sput]
   refine tkS (i:=4) (v:= .int .i64 ((at_:Int)+1)) rfl hS ?_ (hr:=fun wx hx=>by obtain⟨hx1,hx2⟩:=hx;go_simp;first|(go_num;done)|(go_bits;done)|(go_bits;trivial))
   try simp only[sput]
   refine tkS (i:=5) (v:= .slice (some ⟨b,off,none⟩) n cap) rfl hS ?_
   try simp only[sput]
   refine tkS (i:=6) (v:= .int .i64 (at_:Int)) rfl hS ?_
   try simp only[sput]
   refine tkS (i:=7) (v:= .pointer (some ⟨b,off+at_*15,none⟩)) rfl hS ?_
   try simp only[sput]
   refine tkS (i:=8) (v:= .pointer (some ⟨b,off+at_*15+14,none⟩)) rfl hS ?_
   try simp only[sput]
   refine tkS (i:=9) (v:= .int .i64 (kn:Int)) rfl hS ?_
   try simp only[sput]
   refine tkS (i:=10) (v:= .int .i64 ((at_:Int)+1+(kn:Int))) rfl hS ?_ (hr:=fun wx hx=>by obtain⟨hx1,hx2⟩:=hx;go_simp;first|(go_num;done)|(go_bits;done)|(go_bits;trivial))
   try simp only[sput]
   refine tkS (i:=11) (v:= .slice (some ⟨b,off+at_*15,none⟩) (1+kn) (cap-at_)) rfl hS ?_ (hr:=fun wx hx=>by obtain⟨hx1,hx2⟩:=hx;go_simp;rw[if_pos ⟨by omega,by omega⟩,if_pos (by omega),if_neg (by omega),show ((at_:Int)+1+(kn:Int)).toNat-at_=1+kn by omega])
   try simp only[sput]
   obtain⟨i0,hi0,hz0,hz1,hz2⟩:=info_parts Tryz.info24i
   have hwW:w.heap.size<W.heap.size:=HRO.out.hbx.lt
   have hbW:b<W.heap.size:=by omega
   refine wpAnyH_ready (rs:=[0,12]) (by kernel_rfl) (by simp) ?_
   refine AllReadyH.cons rfl (fun K hK=>?_) (AllReadyH.cons rfl (fun K hK=>?_) AllReadyH.nil)
   ·rw[if_pos (by first|rfl|go_simp)]
    have hcu:=hbuc
    go_simp
    refine hK.out _ _ hS (fun _=>?_)
    try simp only[sput]
    clear hK K
    refine rdS (i:=12) rfl (fun K hK=>?_)
    go_wp2_with fail
    refine CC.out.mono ?_
    rintro e w3 ⟨vc,rfl,hc3,hb3⟩
    have HC3:=hideP hc3
    have HB3:=hideP hb3
    have hw3:W.heap.size<=w3.heap.size:=hb3.size
    obtain⟨va,vcap,rfl,_⟩:=own_shape hc3
    have S3:w3.cell? ⟨w.heap.size,0,none⟩=some (.slice (some ⟨b,off,none⟩) n cap)/\w3.cell? ⟨b,off+at_*15+14,none⟩=some (.int .i64 (kn:Int)):=⟨(hb3.cell (p:=⟨w.heap.size,0,none⟩) hwW).trans hS.1,(hb3.cell (p:=⟨b,off+at_*15+14,none⟩) hbW).trans hS.2⟩
    have U3:Boxed w3 (w.heap.size+1+1) 37 (.slice ua pre.length uc):=(hb3.block _ HRO.out.hbu.lt).trans HRO.out.hbu
    have O3:w3.ownsRow w.heap.size 24 1 (.slice ua pre.length uc) pre.length vs:=own25_below HRO.out.how ⟨hb3.os,hb3.tape,hb3.output,hb3.size,fun q hq=>hb3.block q hq⟩
    have HU3:=hideP U3
    have HO3:=hideP O3
    have hcu3:=U3.cell
    clear hc3 hb3 U3 O3
    refine hK.out _ _ S3 (fun _=>?_)
    try simp only[sput]
    clear hK K
    refine rdS (i:=13) rfl (fun K hK=>?_)
    go_simp
    have S4:(w3.alloc (.cells #[.slice va (1+kn) vcap] 24)).cell? ⟨w.heap.size,0,none⟩=some (.slice (some ⟨b,off,none⟩) n cap)/\(w3.alloc (.cells #[.slice va (1+kn) vcap] 24)).cell? ⟨b,off+at_*15+14,none⟩=some (.int .i64 (kn:Int)):=⟨((below1 w3 _).cell (p:=⟨w.heap.size,0,none⟩) (by have:=hwW;simp;omega)).trans S3.1,((below1 w3 _).cell (p:=⟨b,off+at_*15+14,none⟩) (by have:=hbW;simp;omega)).trans S3.2⟩
    have hcu4:=(HU3.out.alloc (.cells #[.slice va (1+kn) vcap] 24)).cell
    refine hK.out _ _ S4 (fun _=>?_)
    try simp only[sput]
    clear hK K
    refine rdS (i:=14) rfl (fun K hK=>?_)
    refine wp_append_at _ _ 37 rfl w.heap.size 24 i0 (.slice none 0 0) 1 24 Tryz.underlying37 hi0 hz0 hz1 hz2 rfl (by decide) (.slice ua pre.length uc) pre.length vs rfl (HO3.out.alloc _) ⟨w3.heap.size,0,none⟩ 1 1 [.slice va (1+kn) vcap] rfl rfl (cell_one_new _ _ _) (by simp[Value.oneCell']) (by unfold maxLen;omega) (by omega) (by have:=hwW;simp;omega) ?_
    intro v5 w5 ho5 hg5 hnil5 hat5
    obtain⟨g5,c5,rfl⟩:=ownsRow_succ ho5
    obtain⟨d1,d2,d3⟩:=item_done HRO.out (by omega) hws (fun _=>hbw) (by omega) HC3.out HIL.out HB3.out ho5 hg5 hat5 (f':=fun i=>itemAt xs (((pre++[x]).map (·.1.1)).getD i 0)) (fun i hi=>by rw[HA.out];simp[List.getD,List.getElem?_append_left,hi]) (by rw[HA.out];simp[List.getD])
    have hU5:Boxed w5 (w.heap.size+1+1) 37 (.slice ua pre.length uc):=(Boxed.appended HU3.out (by decide) HO3.out (by omega) (by omega) ho5 hg5).1
    have hcu5:=hU5.cell
    have hfu5:=hU5.frozen
    have D1:=hideP d1
    have D2:=hideP d2
    have D3:=hideP d3
    have S5:w5.cell? ⟨w.heap.size,0,none⟩=some (.slice (some ⟨b,off,none⟩) n cap)/\w5.cell? ⟨b,off+at_*15+14,none⟩=some (.int .i64 (kn:Int)):=by
     have e1:∀p:Addr,p.block≠w.heap.size+1+1->(w5.setCell ⟨w.heap.size+1+1,0,none⟩ (.slice (some ⟨g5,0,none⟩) (pre.length+1) c5)).cell? p=w5.cell? p:=fun p hp=>World.cell?_setCell_far _ _ _ _ (Ne.symm hp)
     refine⟨?_,?_⟩
     ·rw[<-e1 _ (by simp;omega)]
      exact d3.hbx.cell
     ·rw[<-e1 _ (by simp;omega)]
      exact(d3.hB.cell (p:=⟨b,off+at_*15+14,none⟩) hbw).trans G14.out
    have S6:(w5.setCell ⟨w.heap.size+1+1,0,none⟩ (.slice (some ⟨g5,0,none⟩) (pre.length+1) c5)).cell? ⟨w.heap.size,0,none⟩=some (.slice (some ⟨b,off,none⟩) n cap)/\(w5.setCell ⟨w.heap.size+1+1,0,none⟩ (.slice (some ⟨g5,0,none⟩) (pre.length+1) c5)).cell? ⟨b,off+at_*15+14,none⟩=some (.int .i64 (kn:Int)):=⟨d3.hbx.cell,(d3.hB.cell (p:=⟨b,off+at_*15+14,none⟩) hbw).trans G14.out⟩
    clear d1 d2 d3 hU5 ho5 hg5 hat5 hnil5
    refine hK.out _ _ S5 (fun _=>?_)
    try simp only[sput]
    clear hK K
    refine rdS (i:=15) rfl (fun K hK=>?_)
    go_simp
    refine hK.out _ _ S6 (fun _=>?_)
    try simp only[sput]
    clear hK K
    refine wpAnyH_done (by kernel_rfl) ?_ _
    gi_wp2
    refine⟨D1.out,D2.out,⟨D3.out.hbx,_,_,D3.out.hbu,?_,D3.out.hls,D3.out.hne,D3.out.hbs⟩,D3.out.hB⟩
    rw[List.length_append,List.length_singleton]
    exact D3.out.how
   ·rw[if_pos (by first|rfl|go_simp)]
    go_wp2_with fail
    refine CC.out.mono ?_
    rintro e w3 ⟨vc,rfl,hc3,hb3⟩
    have HC3:=hideP hc3
    have HB3:=hideP hb3
    have hw3:W.heap.size<=w3.heap.size:=hb3.size
    obtain⟨va,vcap,rfl,_⟩:=own_shape hc3
    have S3:w3.cell? ⟨w.heap.size,0,none⟩=some (.slice (some ⟨b,off,none⟩) n cap)/\w3.cell? ⟨b,off+at_*15+14,none⟩=some (.int .i64 (kn:Int)):=⟨(hb3.cell (p:=⟨w.heap.size,0,none⟩) hwW).trans hS.1,(hb3.cell (p:=⟨b,off+at_*15+14,none⟩) hbW).trans hS.2⟩
    have U3:Boxed w3 (w.heap.size+1+1) 37 (.slice ua pre.length uc):=(hb3.block _ HRO.out.hbu.lt).trans HRO.out.hbu
    have O3:w3.ownsRow w.heap.size 24 1 (.slice ua pre.length uc) pre.length vs:=own25_below HRO.out.how ⟨hb3.os,hb3.tape,hb3.output,hb3.size,fun q hq=>hb3.block q hq⟩
    have HU3:=hideP U3
    have HO3:=hideP O3
    have hcu3:=U3.cell
    clear hc3 hb3 U3 O3
    refine hK.out _ _ S3 (fun _=>?_)
    try simp only[sput]
    clear hK K
    refine wpAnyH_ready (rs:=[0,13]) (by kernel_rfl) (by simp) ?_
    refine AllReadyH.cons rfl (fun K hK=>?_) (AllReadyH.cons rfl (fun K hK=>?_) AllReadyH.nil)
    ·rw[if_pos (by first|rfl|go_simp)]
     have hcu:=hcu3
     go_simp
     refine hK.out _ _ S3 (fun _=>?_)
     try simp only[sput]
     clear hK K
     refine rdS (i:=13) rfl (fun K hK=>?_)
     go_simp
     have S4:(w3.alloc (.cells #[.slice va (1+kn) vcap] 24)).cell? ⟨w.heap.size,0,none⟩=some (.slice (some ⟨b,off,none⟩) n cap)/\(w3.alloc (.cells #[.slice va (1+kn) vcap] 24)).cell? ⟨b,off+at_*15+14,none⟩=some (.int .i64 (kn:Int)):=⟨((below1 w3 _).cell (p:=⟨w.heap.size,0,none⟩) (by have:=hwW;simp;omega)).trans S3.1,((below1 w3 _).cell (p:=⟨b,off+at_*15+14,none⟩) (by have:=hbW;simp;omega)).trans S3.2⟩
     have hcu4:=(HU3.out.alloc (.cells #[.slice va (1+kn) vcap] 24)).cell
     refine hK.out _ _ S4 (fun _=>?_)
     try simp only[sput]
     clear hK K
     refine rdS (i:=14) rfl (fun K hK=>?_)
     refine wp_append_at _ _ 37 rfl w.heap.size 24 i0 (.slice none 0 0) 1 24 Tryz.underlying37 hi0 hz0 hz1 hz2 rfl (by decide) (.slice ua pre.length uc) pre.length vs rfl (HO3.out.alloc _) ⟨w3.heap.size,0,none⟩ 1 1 [.slice va (1+kn) vcap] rfl rfl (cell_one_new _ _ _) (by simp[Value.oneCell']) (by unfold maxLen;omega) (by omega) (by have:=hwW;simp;omega) ?_
     intro v5 w5 ho5 hg5 hnil5 hat5
     obtain⟨g5,c5,rfl⟩:=ownsRow_succ ho5
     obtain⟨d1,d2,d3⟩:=item_done HRO.out (by omega) hws (fun _=>hbw) (by omega) HC3.out HIL.out HB3.out ho5 hg5 hat5 (f':=fun i=>itemAt xs (((pre++[x]).map (·.1.1)).getD i 0)) (fun i hi=>by rw[HA.out];simp[List.getD,List.getElem?_append_left,hi]) (by rw[HA.out];simp[List.getD])
     have hU5:Boxed w5 (w.heap.size+1+1) 37 (.slice ua pre.length uc):=(Boxed.appended HU3.out (by decide) HO3.out (by omega) (by omega) ho5 hg5).1
     have hcu5:=hU5.cell
     have hfu5:=hU5.frozen
     have D1:=hideP d1
     have D2:=hideP d2
     have D3:=hideP d3
     have S5:w5.cell? ⟨w.heap.size,0,none⟩=some (.slice (some ⟨b,off,none⟩) n cap)/\w5.cell? ⟨b,off+at_*15+14,none⟩=some (.int .i64 (kn:Int)):=by
      have e1:∀p:Addr,p.block≠w.heap.size+1+1->(w5.setCell ⟨w.heap.size+1+1,0,none⟩ (.slice (some ⟨g5,0,none⟩) (pre.length+1) c5)).cell? p=w5.cell? p:=fun p hp=>World.cell?_setCell_far _ _ _ _ (Ne.symm hp)
      refine⟨?_,?_⟩
      ·rw[<-e1 _ (by simp;omega)]
       exact d3.hbx.cell
      ·rw[<-e1 _ (by simp;omega)]
       exact(d3.hB.cell (p:=⟨b,off+at_*15+14,none⟩) hbw).trans G14.out
     have S6:(w5.setCell ⟨w.heap.size+1+1,0,none⟩ (.slice (some ⟨g5,0,none⟩) (pre.length+1) c5)).cell? ⟨w.heap.size,0,none⟩=some (.slice (some ⟨b,off,none⟩) n cap)/\(w5.setCell ⟨w.heap.size+1+1,0,none⟩ (.slice (some ⟨g5,0,none⟩) (pre.length+1) c5)).cell? ⟨b,off+at_*15+14,none⟩=some (.int .i64 (kn:Int)):=⟨d3.hbx.cell,(d3.hB.cell (p:=⟨b,off+at_*15+14,none⟩) hbw).trans G14.out⟩
     clear d1 d2 d3 hU5 ho5 hg5 hat5 hnil5
     refine hK.out _ _ S5 (fun _=>?_)
     try simp only[sput]
     clear hK K
     refine rdS (i:=15) rfl (fun K hK=>?_)
     go_simp
     refine hK.out _ _ S6 (fun _=>?_)
     try simp only[sput]
     clear hK K
     refine wpAnyH_done (by kernel_rfl) ?_ _
     gi_wp2
     refine⟨D1.out,D2.out,⟨D3.out.hbx,_,_,D3.out.hbu,?_,D3.out.hls,D3.out.hne,D3.out.hbs⟩,D3.out.hB⟩
     rw[List.length_append,List.length_singleton]
     exact D3.out.how
    ·rw[if_pos (by first|rfl|go_simp)]
     go_simp
     have S4:(w3.alloc (.cells #[.slice va (1+kn) vcap] 24)).cell? ⟨w.heap.size,0,none⟩=some (.slice (some ⟨b,off,none⟩) n cap)/\(w3.alloc (.cells #[.slice va (1+kn) vcap] 24)).cell? ⟨b,off+at_*15+14,none⟩=some (.int .i64 (kn:Int)):=⟨((below1 w3 _).cell (p:=⟨w.heap.size,0,none⟩) (by have:=hwW;simp;omega)).trans S3.1,((below1 w3 _).cell (p:=⟨b,off+at_*15+14,none⟩) (by have:=hbW;simp;omega)).trans S3.2⟩
     have hcu4:=(HU3.out.alloc (.cells #[.slice va (1+kn) vcap] 24)).cell
     refine hK.out _ _ S4 (fun _=>?_)
     try simp only[sput]
     clear hK K
     refine rdS (i:=0) rfl (fun K hK=>?_)
     have hcu:=hcu4
     go_simp
     refine hK.out _ _ S4 (fun _=>?_)
     try simp only[sput]
     clear hK K
     refine rdS (i:=14) rfl (fun K hK=>?_)
     refine wp_append_at _ _ 37 rfl w.heap.size 24 i0 (.slice none 0 0) 1 24 Tryz.underlying37 hi0 hz0 hz1 hz2 rfl (by decide) (.slice ua pre.length uc) pre.length vs rfl (HO3.out.alloc _) ⟨w3.heap.size,0,none⟩ 1 1 [.slice va (1+kn) vcap] rfl rfl (cell_one_new _ _ _) (by simp[Value.oneCell']) (by unfold maxLen;omega) (by omega) (by have:=hwW;simp;omega) ?_
     intro v5 w5 ho5 hg5 hnil5 hat5
     obtain⟨g5,c5,rfl⟩:=ownsRow_succ ho5
     obtain⟨d1,d2,d3⟩:=item_done HRO.out (by omega) hws (fun _=>hbw) (by omega) HC3.out HIL.out HB3.out ho5 hg5 hat5 (f':=fun i=>itemAt xs (((pre++[x]).map (·.1.1)).getD i 0)) (fun i hi=>by rw[HA.out];simp[List.getD,List.getElem?_append_left,hi]) (by rw[HA.out];simp[List.getD])
     have hU5:Boxed w5 (w.heap.size+1+1) 37 (.slice ua pre.length uc):=(Boxed.appended HU3.out (by decide) HO3.out (by omega) (by omega) ho5 hg5).1
     have hcu5:=hU5.cell
     have hfu5:=hU5.frozen
     have D1:=hideP d1
     have D2:=hideP d2
     have D3:=hideP d3
     have S5:w5.cell? ⟨w.heap.size,0,none⟩=some (.slice (some ⟨b,off,none⟩) n cap)/\w5.cell? ⟨b,off+at_*15+14,none⟩=some (.int .i64 (kn:Int)):=by
      have e1:∀p:Addr,p.block≠w.heap.size+1+1->(w5.setCell ⟨w.heap.size+1+1,0,none⟩ (.slice (some ⟨g5,0,none⟩) (pre.length+1) c5)).cell? p=w5.cell? p:=fun p hp=>World.cell?_setCell_far _ _ _ _ (Ne.symm hp)
      refine⟨?_,?_⟩
      ·rw[<-e1 _ (by simp;omega)]
       exact d3.hbx.cell
      ·rw[<-e1 _ (by simp;omega)]
       exact(d3.hB.cell (p:=⟨b,off+at_*15+14,none⟩) hbw).trans G14.out
     have S6:(w5.setCell ⟨w.heap.size+1+1,0,none⟩ (.slice (some ⟨g5,0,none⟩) (pre.length+1) c5)).cell? ⟨w.heap.size,0,none⟩=some (.slice (some ⟨b,off,none⟩) n cap)/\(w5.setCell ⟨w.heap.size+1+1,0,none⟩ (.slice (some ⟨g5,0,none⟩) (pre.length+1) c5)).cell? ⟨b,off+at_*15+14,none⟩=some (.int .i64 (kn:Int)):=⟨d3.hbx.cell,(d3.hB.cell (p:=⟨b,off+at_*15+14,none⟩) hbw).trans G14.out⟩
     clear d1 d2 d3 hU5 ho5 hg5 hat5 hnil5
     refine hK.out _ _ S5 (fun _=>?_)
     try simp only[sput]
     clear hK K
     refine rdS (i:=15) rfl (fun K hK=>?_)
     go_simp
     refine hK.out _ _ S6 (fun _=>?_)
     try simp only[sput]
     clear hK K
     refine wpAnyH_done (by kernel_rfl) ?_ _
     gi_wp2
     refine⟨D1.out,D2.out,⟨D3.out.hbx,_,_,D3.out.hbu,?_,D3.out.hls,D3.out.hne,D3.out.hbs⟩,D3.out.hB⟩
     rw[List.length_append,List.length_singleton]
     exact D3.out.how
end Go.Proofs.YtbbehmcekbnkiaaGreat
namespace Go.Proofs.YtbbehmcekbnkiaaGreat
open Go.RowKit
set_option linter.unusedVariables false
set_option linter.unusedSimpArgs false
def OwnN (w:World)(base:Nat)(v:Value)(n:Nat):Prop:=∃xs:List Nd,xs.length=n/\w.ownsRow base 36 15 v n (flatN xs)
theorem own_keep {base n:Nat}{w w':World}{v:Value}{xs:List Value}(h:w.ownsRow base 36 15 v n xs)(hb:∀g,v.ownBlock=some g->w'.heap[g]?=w.heap[g]?):w'.ownsRow base 36 15 v n xs:=by
 obtain⟨hl,h | ⟨g,cap,cur,rfl,hg,hbk,hr⟩⟩:=h
 ·exact⟨hl,.inl h⟩
 ·exact⟨hl,.inr ⟨g,cap,cur,rfl,hg,(hb g rfl).trans hbk,hr⟩⟩
theorem own_lt {base n g:Nat}{w:World}{v:Value}{xs:List Value}(h:w.ownsRow base 36 15 v n xs)(hg:v.ownBlock=some g):base<=g/\g<w.heap.size/\∃cur,w.heap[g]?=some (.cells cur 36 (0,0)):=by
 rcases h.2 with ⟨rfl,_⟩ | ⟨g',cap,cur,rfl,hg0,hg',hr⟩
 ·cases hg
 ·simp[Value.ownBlock] at hg
  subst hg
  exact⟨hg0,(glt hg'),cur,hg'⟩
theorem own_shp {base n:Nat}{w:World}{v:Value}{xs:List Value}(h:w.ownsRow base 36 15 v n xs):∃a c,v = .slice a n c:=by
 rcases h.2 with ⟨rfl,rfl⟩ | ⟨g,cap,cur,rfl,_⟩
 ·exact⟨_,_,rfl⟩
 ·exact⟨_,_,rfl⟩
theorem own_some {base n:Nat}{w:World}{v:Value}{xs:List Value}(h:w.ownsRow base 36 15 v n xs)(hn:0<n):∃g c,v = .slice (some ⟨g,0,none⟩) n c:=by
 rcases h.2 with ⟨rfl,rfl⟩ | ⟨g,cap,cur,rfl,_⟩
 ·omega
 ·exact⟨_,_,rfl⟩
theorem own_apart {base n T ty:Nat}{w:World}{v:Value}{xs:List Value}{c:Array Value}(h:w.ownsRow base 36 15 v n xs)(hT:w.heap[T]?=some (.cells c ty (0,0)))(hne:36≠ty):v.ownBlock≠some T:=by
 intro hg
 obtain⟨_,_,cur,hc⟩:=own_lt h hg
 rw[hc] at hT
 simp at hT
 exact hne hT.2
theorem own_fram {base n:Nat}{w wi wj:World}{v:Value}{xs:List Value}(h:wi.ownsRow base 36 15 v n xs)(hb:w.heap.size<base)(hf:Fram w wi wj):wj.ownsRow base 36 15 v n xs :=
 own_keep h fun g hg=>by
  obtain⟨h1,h2,_⟩:=own_lt h hg
  exact hf.2 g h2 (by omega)
theorem OwnN.fram {base n:Nat}{w wi wj:World}{v:Value}(h:OwnN wi base v n)(hb:w.heap.size<base)(hf:Fram w wi wj):OwnN wj base v n:=by
 obtain⟨xs,h1,h2⟩:=h
 exact⟨xs,h1,own_fram h2 hb hf⟩
theorem own_mon {base base' n:Nat}{w:World}{v:Value}{xs:List Value}(h:w.ownsRow base 36 15 v n xs)(hb:base'<=base):w.ownsRow base' 36 15 v n xs:=by
 obtain⟨hl,h | ⟨g,cap,cur,rfl,hg,hbk,hr⟩⟩:=h
 ·exact⟨hl,.inl h⟩
 ·exact⟨hl,.inr ⟨g,cap,cur,rfl,Nat.le_trans hb hg,hbk,hr⟩⟩
theorem own_node0 {base g n cap:Nat}{w:World}{x:Nd}{xs:List Nd}(h:w.ownsRow base 36 15 (.slice (some ⟨g,0,none⟩) n cap) n (flatN (x :: xs)))(k wd ht dp sh fo ch nn gs gp gpo gm gmo:Int)(tx:ByteArray)(kids:Int) :
 (fif w g k wd ht dp sh fo ch nn gs gp gpo gm gmo tx kids).ownsRow base 36 15 (.slice (some ⟨g,0,none⟩) n cap) n (flatN (⟨k,wd,ht,dp,sh,fo,ch,nn,gs,gp,gpo,gm,gmo,tx,kids⟩ :: xs)):=by
 have h0:=own_set h 0 (.int .i64 k)
 have h1:=own_set h0 1 (.int .i64 wd)
 have h2:=own_set h1 2 (.int .i64 ht)
 have h3:=own_set h2 3 (.int .i64 dp)
 have h4:=own_set h3 4 (.int .i64 sh)
 have h5:=own_set h4 5 (.int .i64 fo)
 have h6:=own_set h5 6 (.int .i64 ch)
 have h7:=own_set h6 7 (.int .i64 nn)
 have h8:=own_set h7 8 (.int .i64 gs)
 have h9:=own_set h8 9 (.int .i64 gp)
 have h10:=own_set h9 10 (.int .i64 gpo)
 have h11:=own_set h10 11 (.int .i64 gm)
 have h12:=own_set h11 12 (.int .i64 gmo)
 have h13:=own_set h12 13 (.string tx)
 have h14:=own_set h13 14 (.int .i64 kids)
 rw[show (((((((((((((((flatN (x :: xs)).set 0 (.int .i64 k)).set 1 (.int .i64 wd)).set 2 (.int .i64 ht)).set 3 (.int .i64 dp)).set 4 (.int .i64 sh)).set 5 (.int .i64 fo)).set 6 (.int .i64 ch)).set 7 (.int .i64 nn)).set 8 (.int .i64 gs)).set 9 (.int .i64 gp)).set 10 (.int .i64 gpo)).set 11 (.int .i64 gm)).set 12 (.int .i64 gmo)).set 13 (.string tx)).set 14 (.int .i64 kids)=flatN (⟨k,wd,ht,dp,sh,fo,ch,nn,gs,gp,gpo,gm,gmo,tx,kids⟩ :: xs) from rfl] at h14
 exact h14
theorem own_sh0 {base g n cap:Nat}{w:World}{x:Nd}{xs:List Nd}(h:w.ownsRow base 36 15 (.slice (some ⟨g,0,none⟩) n cap) n (flatN (x :: xs)))(s:Int) :
 (w.setCell ⟨g,4,none⟩ (.int .i64 s)).ownsRow base 36 15 (.slice (some ⟨g,0,none⟩) n cap) n (flatN (⟨x.k,x.wd,x.ht,x.dp,s,x.fo,x.ch,x.nn,x.gs,x.gp,x.gpo,x.gm,x.gmo,x.tx,x.kids⟩ :: xs)):=own_set h 4 (.int .i64 s)
theorem own_cells0 {base g n cap:Nat}{w:World}{x:Nd}{xs:List Nd}(h:w.ownsRow base 36 15 (.slice (some ⟨g,0,none⟩) n cap) n (flatN (x :: xs))) :
 (∀j,j<15->w.cell? ⟨g,j,none⟩=x.cells[j]?)/\∀j,j<15->w.frozen? ⟨g,j,none⟩=false:=by
 have key:∀j,j<15->(flatN (x :: xs))[j]?=x.cells[j]?:=fun j hj=>List.getElem?_append_left (by rw[cells_len];exact hj)
 refine⟨fun j hj=>?_,fun j hj=>?_⟩
 ·rw[List.getElem?_eq_getElem (by rw[cells_len];exact hj)]
  exact(own_cell h ((key j hj).trans (List.getElem?_eq_getElem (by rw[cells_len];exact hj)))).1
 ·exact(own_cell h ((key j hj).trans (List.getElem?_eq_getElem (by rw[cells_len];exact hj)))).2
theorem fif_other {w:World}{R b:Nat}(h:R≠b)(k wd ht dp sh fo ch nn gs gp gpo gm gmo:Int)(tx:ByteArray)(kids:Int):(fif w R k wd ht dp sh fo ch nn gs gp gpo gm gmo tx kids).heap[b]?=w.heap[b]?:=by
 unfold fif
 iterate 15 (refine(Below.heap_setCell _ _ _ _ (fun e=>h e.symm)).trans ?_)
 rfl
theorem ownN_of {base n:Nat}{w:World}{v:Value}{xs:List Nd}(h:w.ownsRow base 36 15 v n (flatN xs))(hl:xs.length=n):OwnN w base v n:=⟨xs,hl,h⟩
theorem fif_same (w:World)(R:Nat)(k wd ht dp sh fo ch nn gs gp gpo gm gmo:Int)(tx:ByteArray)(kids:Int):(fif w R k wd ht dp sh fo ch nn gs gp gpo gm gmo tx kids).heap.size=w.heap.size/\(fif w R k wd ht dp sh fo ch nn gs gp gpo gm gmo tx kids).os=w.os/\(fif w R k wd ht dp sh fo ch nn gs gp gpo gm gmo tx kids).tape=w.tape/\(fif w R k wd ht dp sh fo ch nn gs gp gpo gm gmo tx kids).output=w.output :=
 ⟨by simp only[World.size_setCell],by simp only[set_os],by simp only[set_tape],by simp only[set_output]⟩
structure DP (w wr wi:World)(ao:Option Addr)(len cap P:Nat)(v pv:Value)(n k:Nat):Prop where
 cur:Cur w wi ao len cap
 fr:Fram w wr wi
 own:OwnN wi wr.heap.size v n
 pk:∃a b c d e f,wi.heap[P]?=some (packO pv a b c d e f)
 pown:OwnN wi wr.heap.size pv k
 apart:∀g,v.ownBlock=some g->pv.ownBlock≠some g
 hP:wr.heap.size<=P
section
variable {w wr wi wj : World} {ao : Option Addr} {len cap P n k : Nat} {v pv : Value}
theorem DP.fram (h:DP w wr wi ao len cap P v pv n k)(hw:w.heap.size<wr.heap.size)(hf:Fram w wi wj)(hc:Cur w wj ao len cap):DP w wr wj ao len cap P v pv n k:=by
 refine⟨hc,h.fr.trans hf,h.own.fram hw hf,?_,h.pown.fram hw hf,h.apart,h.hP⟩
 obtain⟨a,b,c,d,e,f,hp⟩:=h.pk
 exact⟨a,b,c,d,e,f,(hf.2 P (glt hp) (by have:=h.hP;omega)).trans hp⟩
theorem DP.other (h:DP w wr wi ao len cap P v pv n k)(hw:w.heap.size<wr.heap.size)(ho:Other w wi wj)(hc:Cur w wj ao len cap):DP w wr wj ao len cap P v pv n k :=
 h.fram hw ⟨Other.size ho hc.lt,fun n _ hne=>ho n hne⟩ hc
theorem DP.drew (h:DP w wr wi ao len cap P v pv n k)(hw:w.heap.size<wr.heap.size):DP w wr wi.drew ao len cap P v pv n k:=h.fram hw (Fram.ofBel (Below.drew (Below.refl _ _))) (h.cur.bel (Below.drew (Below.refl _ _)))
theorem DP.cell (h:DP w wr wi ao len cap P v pv n k):wi.cell? ⟨P,0,none⟩=some pv:=by
 obtain⟨a,b,c,d,e,f,hp⟩:=h.pk
 exact cell_of_row _ _ 0 _ 30 _ hp
theorem DP.ltP (h:DP w wr wi ao len cap P v pv n k):P<wi.heap.size:=by
 obtain⟨a,b,c,d,e,f,hp⟩:=h.pk
 exact(glt hp)
theorem DP.stored (h:DP w wr wi ao len cap P v pv n k)(hw:w.heap.size<wr.heap.size){g:Nat}(hg:pv.ownBlock=some g)(hsz:wj.heap.size=wi.heap.size)(ho:∀b,g≠b->wj.heap[b]?=wi.heap[b]?)(hos:wj.os=wi.os/\wj.tape=wi.tape/\wj.output=wi.output)(hp:OwnN wj wr.heap.size pv k):DP w wr wj ao len cap P v pv n k:=by
 obtain⟨xs,hx,hox⟩:=h.pown
 obtain⟨hg1,hg2,cur0,hg3⟩:=own_lt hox hg
 have hfr:∀b,b<wr.heap.size->wj.heap[b]?=wi.heap[b]?:=fun b hb=>ho b (by omega)
 refine⟨?_,⟨by rw[hsz];exact h.fr.1,fun b hb hne=>(hfr b hb).trans (h.fr.2 b hb hne)⟩,?_,?_,hp,h.apart,h.hP⟩
 ·obtain⟨i,x,h1,h2,h3,h4⟩:=h.cur
  refine⟨i,x,h1,h2,(hfr _ hw).trans h3,⟨hos.1.trans h4.os,hos.2.1.trans h4.tape,hos.2.2.trans h4.output,by rw[hsz];exact h4.size,fun b hb=>(hfr b (by omega)).trans (h4.block b hb)⟩⟩
 ·obtain⟨ys,hy,hoy⟩:=h.own
  exact⟨ys,hy,own_keep hoy fun b hb=>ho b (fun e=>h.apart b hb (by rw[hg,e]))⟩
 ·obtain⟨a,b,c,d,e,f,hp⟩:=h.pk
  exact⟨a,b,c,d,e,f,(ho P (fun e=>own_apart hox hp (by decide) (by rw[hg,e]))).trans hp⟩
theorem DP.boxed {u:Value}{m:Nat}(h:DP w wr wi ao len cap P v pv n k)(hw:w.heap.size<wr.heap.size)(hu:OwnN wi wr.heap.size u m)(ha:∀g,v.ownBlock=some g->u.ownBlock≠some g)(W:World)(hfr:∀b',b'≠P->W.heap[b']?=wi.heap[b']?)(hsz:W.heap.size=wi.heap.size)(hW:∃a b c d e f,W.heap[P]?=some (packO u a b c d e f))(hbl:∀B,B<=P->Below B w wi->Below B w W):DP w wr W ao len cap P v u n m:=by
 have hP:=h.hP
 obtain⟨a0,b0,c0,d0,e0,f0,hp⟩:=h.pk
 refine⟨?_,⟨by rw[hsz];exact h.fr.1,fun b hb hne=>(hfr b (by omega)).trans (h.fr.2 b hb hne)⟩,?_,hW,?_,ha,hP⟩
 ·obtain⟨i,x,h1,h2,h3,h4⟩:=h.cur
  exact⟨i,x,h1,h2,(hfr _ (by omega)).trans h3,hbl _ (by omega) h4⟩
 ·obtain⟨ys,hy,hoy⟩:=h.own
  exact⟨ys,hy,own_keep hoy fun b hb=>hfr b (fun e=>own_apart hoy hp (by decide) (by rw[hb,e]))⟩
 ·obtain⟨ys,hy,hoy⟩:=hu
  exact⟨ys,hy,own_keep hoy fun b hb=>hfr b (fun e=>own_apart hoy hp (by decide) (by rw[hb,e]))⟩
theorem DP.sev7 {u:Value}{m:Nat}(h:DP w wr wi ao len cap P v pv n k)(hw:w.heap.size<wr.heap.size)(hu:OwnN wi wr.heap.size u m)(ha:∀g,v.ownBlock=some g->u.ownBlock≠some g)(a b c d e f:Int):DP w wr (sev wi P u a b c d e f) ao len cap P v u n m:=by
 obtain⟨a0,b0,c0,d0,e0,f0,hp⟩:=h.pk
 have h1:∀b',b'≠P->(sev wi P u a b c d e f).heap[b']?=wi.heap[b']?:=fun b' hb=>sev_other hb
 have h2:(sev wi P u a b c d e f).heap.size=wi.heap.size:=by simp only[World.size_setCell]
 have h3:=sev_heap hp u a b c d e f
 have h4:∀B,B<=P->Below B w wi->Below B w (sev wi P u a b c d e f):=fun B hB hb=>sev_below hb hB _ _ _ _ _ _ _
 exact h.boxed hw hu ha _ h1 h2 ⟨_,_,_,_,_,_,h3⟩ h4
theorem DP.node0 {g kc:Nat}{z:Nd}{zs:List Nd}(h:DP w wr wi ao len cap P v (.slice (some ⟨g,0,none⟩) k kc) n k)(hw:w.heap.size<wr.heap.size)(ho:wi.ownsRow wr.heap.size 36 15 (.slice (some ⟨g,0,none⟩) k kc) k (flatN (z :: zs)))(hl:(z :: zs).length=k)(kk wd ht dp sh fo ch nn gs gp gpo gm gmo:Int)(tx:ByteArray)(kids:Int) :
 DP w wr (fif wi g kk wd ht dp sh fo ch nn gs gp gpo gm gmo tx kids) ao len cap P v (.slice (some ⟨g,0,none⟩) k kc) n k/\((fif wi g kk wd ht dp sh fo ch nn gs gp gpo gm gmo tx kids).cell? ⟨P,0,none⟩=some (.slice (some ⟨g,0,none⟩) k kc)/\(fif wi g kk wd ht dp sh fo ch nn gs gp gpo gm gmo tx kids).cell? ⟨g,2,none⟩=some (.int .i64 ht)/\(fif wi g kk wd ht dp sh fo ch nn gs gp gpo gm gmo tx kids).cell? ⟨g,14,none⟩=some (.int .i64 kids)):=by
 have h1:=own_node0 ho kk wd ht dp sh fo ch nn gs gp gpo gm gmo tx kids
 have h2:=fif_same wi g kk wd ht dp sh fo ch nn gs gp gpo gm gmo tx kids
 have h3:=fun b (hb:g≠b)=>fif_other (w:=wi) hb kk wd ht dp sh fo ch nn gs gp gpo gm gmo tx kids
 generalize fif wi g kk wd ht dp sh fo ch nn gs gp gpo gm gmo tx kids=W at h1 h2 h3 ⊢
 have h4:=h.stored hw (g:=g) rfl h2.1 h3 h2.2 ⟨_,(by simpa using hl),h1⟩
 have h5:=(own_cells0 h1).1
 exact⟨h4,h4.cell,h5 2 (by omega),h5 14 (by omega)⟩
end
end Go.Proofs.YtbbehmcekbnkiaaGreat

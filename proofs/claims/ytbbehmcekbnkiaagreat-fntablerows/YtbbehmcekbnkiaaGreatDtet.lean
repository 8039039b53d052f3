import Derived.Test.YtbbehmcekbnkiaaGreatDlst
namespace Go.Proofs.YtbbehmcekbnkiaaGreat
open Go.RowKit
set_option linter.unusedVariables false
set_option linter.unusedSimpArgs false
theorem flatN_setc:∀(xs:List Nd) (p:Nat),p<xs.length->∀(y:Nd) (o:Nat) (v:Value),o<15->y.cells=(xs.getD p Nd.none).cells.set o v->flatN (xs.set p y)=(flatN xs).set (p*15+o) v
 | [],p,h,_,_,_,_,_=>by simp at h
 | x :: xs,0,h,y,o,v,ho,hy=>by
  simp only[List.getD_cons_zero] at hy
  simp only[List.set_cons_zero,flatN,hy]
  rw[List.set_append_left _ _ (by rw[cells_len];omega)]
  simp
 | x :: xs,p+1,h,y,o,v,ho,hy=>by
  simp only[List.getD_cons_succ] at hy
  have ih:=flatN_setc xs p (by simpa using h) y o v ho hy
  simp only[List.set_cons_succ,flatN,ih]
  rw[List.set_append_right _ _ (by rw[cells_len];omega),cells_len]
  congr 2
  omega
theorem nd_putI (x:Nd)(s:Int){o:Nat}(ho:o<15)(h13:o≠13):∃y:Nd,y.cells=x.cells.set o (.int .i64 s):=by
 rcases (show o=0\/o=1\/o=2\/o=3\/o=4\/o=5\/o=6\/o=7\/o=8\/o=9\/o=10\/o=11\/o=12\/o=14 by omega) with rfl|rfl|rfl|rfl|rfl|rfl|rfl|rfl|rfl|rfl|rfl|rfl|rfl|rfl
 ·exact⟨{ x with k:=s },rfl⟩
 ·exact⟨{ x with wd:=s },rfl⟩
 ·exact⟨{ x with ht:=s },rfl⟩
 ·exact⟨{ x with dp:=s },rfl⟩
 ·exact⟨{ x with sh:=s },rfl⟩
 ·exact⟨{ x with fo:=s },rfl⟩
 ·exact⟨{ x with ch:=s },rfl⟩
 ·exact⟨{ x with nn:=s },rfl⟩
 ·exact⟨{ x with gs:=s },rfl⟩
 ·exact⟨{ x with gp:=s },rfl⟩
 ·exact⟨{ x with gpo:=s },rfl⟩
 ·exact⟨{ x with gm:=s },rfl⟩
 ·exact⟨{ x with gmo:=s },rfl⟩
 ·exact⟨{ x with kids:=s },rfl⟩
section
variable {w : World} {base g n cap p o : Nat}
theorem OwnN.putI (h:OwnN w base (.slice (some ⟨g,0,none⟩) n cap) n)(hp:p<n)(ho:o<15)(h13:o≠13)(s:Int):OwnN (w.setCell ⟨g,p*15+o,none⟩ (.int .i64 s)) base (.slice (some ⟨g,0,none⟩) n cap) n:=by
 obtain⟨xs,hl,hx⟩:=h
 obtain⟨y,hy⟩:=nd_putI (xs.getD p Nd.none) s ho h13
 exact⟨xs.set p y,by rw[List.length_set];exact hl,by rw[flatN_setc xs p (by omega) y o _ ho hy];exact own_set hx _ _⟩
theorem OwnN.putS (h:OwnN w base (.slice (some ⟨g,0,none⟩) n cap) n)(hp:p<n)(s:ByteArray):OwnN (w.setCell ⟨g,p*15+13,none⟩ (.string s)) base (.slice (some ⟨g,0,none⟩) n cap) n:=by
 obtain⟨xs,hl,hx⟩:=h
 exact⟨xs.set p { xs.getD p Nd.none with tx:=s },by rw[List.length_set];exact hl,by rw[flatN_setc xs p (by omega) _ 13 (.string s) (by omega) rfl];exact own_set hx _ _⟩
theorem OwnN.cellI (h:OwnN w base (.slice (some ⟨g,0,none⟩) n cap) n)(hp:p<n)(ho:o<15)(h13:o≠13):∃s:Int,w.cell? ⟨g,p*15+o,none⟩=some (.int .i64 s)/\w.frozen? ⟨g,p*15+o,none⟩=false:=by
 obtain⟨xs,hl,hx⟩:=h
 have key:∃s:Int,(xs.getD p Nd.none).cells[o]?=some (.int .i64 s):=by
  rcases (show o=0\/o=1\/o=2\/o=3\/o=4\/o=5\/o=6\/o=7\/o=8\/o=9\/o=10\/o=11\/o=12\/o=14 by omega) with rfl|rfl|rfl|rfl|rfl|rfl|rfl|rfl|rfl|rfl|rfl|rfl|rfl|rfl<;>exact⟨_,rfl⟩
 obtain⟨s,hs⟩:=key
 exact⟨s,own_cell hx (flatN_at xs p (by omega) o ho hs)⟩
theorem OwnN.cellS (h:OwnN w base (.slice (some ⟨g,0,none⟩) n cap) n)(hp:p<n):∃s:ByteArray,w.cell? ⟨g,p*15+13,none⟩=some (.string s)/\w.frozen? ⟨g,p*15+13,none⟩=false:=by
 obtain⟨xs,hl,hx⟩:=h
 exact⟨_,own_cell hx (flatN_at xs p (by omega) 13 (by omega) (u:= .string (xs.getD p Nd.none).tx) rfl)⟩
end
def FramX (w:World)(v:Value)(wi wj:World):Prop:=wi.heap.size<=wj.heap.size/\∀b,b<wi.heap.size->b≠w.heap.size->v.ownBlock≠some b->wj.heap[b]?=wi.heap[b]?
def Ret (e:Ending):Prop:=∃r,e = .returned r
def DS (w wr wi:World)(ao:Option Addr)(len cap base:Nat)(v:Value)(n:Nat):Prop:=Cur w wi ao len cap/\Fram w wr wi/\OwnN wi base v n
section
variable {w wr wi wj : World} {ao : Option Addr} {len cap base n g c : Nat} {v : Value}
theorem DS.fram (h:DS w wr wi ao len cap base v n)(hw:w.heap.size<base)(hf:Fram w wi wj)(hc:Cur w wj ao len cap):DS w wr wj ao len cap base v n:=⟨hc,h.2.1.trans hf,h.2.2.fram hw hf⟩
theorem DS.other (h:DS w wr wi ao len cap base v n)(hw:w.heap.size<base)(ho:Other w wi wj)(hc:Cur w wj ao len cap):DS w wr wj ao len cap base v n:=h.fram hw ⟨Other.size ho hc.lt,fun n _ hne=>ho n hne⟩ hc
theorem DS.bel (h:DS w wr wi ao len cap base v n)(hw:w.heap.size<base)(hb:Below wi.heap.size wi wj):DS w wr wj ao len cap base v n:=h.fram hw (Fram.ofBel hb) (h.1.bel hb)
theorem DS.put (h:DS w wr wi ao len cap base (.slice (some ⟨g,0,none⟩) n c) n)(hw:w.heap.size<base)(j:Nat)(x:Value)(ho:OwnN (wi.setCell ⟨g,j,none⟩ x) base (.slice (some ⟨g,0,none⟩) n c) n):Cur w (wi.setCell ⟨g,j,none⟩ x) ao len cap/\FramX w (.slice (some ⟨g,0,none⟩) n c) wr (wi.setCell ⟨g,j,none⟩ x)/\OwnN (wi.setCell ⟨g,j,none⟩ x) base (.slice (some ⟨g,0,none⟩) n c) n:=by
 have hg:base<=g:=by
  obtain⟨xs,_,hx⟩:=h.2.2
  exact(own_lt hx rfl).1
 refine⟨h.1.set (by omega) _ _,⟨by simpa [World.setCell] using h.2.1.1,fun b hb hne hv=>?_⟩,ho⟩
 exact(Below.heap_setCell _ _ _ _ (fun e=>hv (by rw[e];rfl))).trans (h.2.1.2 b hb hne)
end
theorem Tryz.info5b:(Tryz.prog.info? 5).map (fun i=>(i.zero,i.size,i.bytes))=some (some (.int .u8 0),1,1):=by kernel_rfl
theorem made_bytes (m:Nat):(madeCells (Value.cells (.int .u8 0)) (m*1)).toList=(List.replicate m (0:Int)).map (Value.int .u8):=by
 apply List.ext_getElem
 ·simp[madeCells]
 ·intro i h1 h2
  simp only[madeCells,Value.cells,Array.toList_map,Array.toList_range,List.getElem_map,List.getElem_range,List.getElem_replicate]
  simp[Nat.mod_one]
theorem conv_made {w:World}{base D n:Nat}(h:w.ownsRow base 5 1 (.slice (some ⟨D,0,none⟩) n n) n (madeCells (Value.cells (.int .u8 0)) (n*1)).toList):∃s:ByteArray,(convert 22 9 (.slice (some ⟨D,0,none⟩) n n)).run Tryz.prog w = .ok (.string s) w:=by
 rw[made_bytes] at h
 refine⟨_,run_convert_bytes_arg w 22 5 Tryz.underlying22 Tryz.underlying5 D 0 n n (List.replicate n 0) (by simp) ?_ 9 Tryz.underlying9⟩
 intro i hi
 obtain⟨hl,⟨h,_⟩ | ⟨g,cap,cur,e,_,hb,hn,hm,hs,hx⟩⟩:=h
 ·simp at h
 ·simp only[Value.slice.injEq,Option.some.injEq,Addr.mk.injEq,and_true,true_and] at e
  obtain⟨rfl,rfl⟩:=e
  rw[Nat.zero_add,cell_of_row w D i cur 5 _ hb,<-Array.getElem?_toList]
  have h1:((List.replicate n (0:Int)).map (Value.int .u8))[i]?=some (.int .u8 ((List.replicate n (0:Int)).getD i 0)):=by simp[hi,List.getD]
  rw[<-hx,List.getElem?_take] at h1
  split at h1
  ·exact h1
  ·cases h1
set_option maxRecDepth 20000 in
set_option maxHeartbeats 8000000 in
theorem spoil_any {base n:Nat}{v:Value}(ao:Option Addr)(len cap:Nat)(w wr:World)(hB:Bytes w ao len cap)(hC:Cur w wr ao len cap)(hw:w.heap.size<base)(hbs:base<=wr.heap.size)(ho:OwnN wr base v n)(hn:n<=100000) :
 Calls Tryz.prog 55 #[curP w,v] wr fun e w'=>Ret e/\Cur w w' ao len cap/\FramX w v wr w'/\OwnN w' base v n:=by
 have HB:=hideD hB
 have D0:Hid (DS w wr wr ao len cap base v n):=hideP ⟨hC,Fram.refl w wr,ho⟩
 clear hB hC
 obtain⟨i0,hi,hz0,hz1,hz2⟩:=info_parts Tryz.info5b
 by_cases hn0:n=0
 ·subst hn0
  obtain⟨va,vc,hve⟩:=ho.shape
  subst hve
  clear ho
  go_enter Tryz.func55,Tryz.ntmps55
  go_wp2
  refine bodyPost_ret (results_none rfl _ _ _) rfl ?_
  exact⟨⟨_,rfl⟩,D0.out.1,⟨Nat.le_refl _,fun _ _ _ _=>rfl⟩,D0.out.2.2⟩
 ·obtain⟨g,c,hve⟩:∃g c,v = .slice (some ⟨g,0,none⟩) n c:=by
   obtain⟨_,_,h⟩:=ho
   exact own_some h (by omega)
  subst hve
  clear ho
  have hn0i:¬(n:Int)=0:=by omega
  go_enter Tryz.func55,Tryz.ntmps55
  go_wp2_with fail
  refine(belowN_any (n:Int) ao len cap w _ HB.out D0.out.1 (by omega) (by omega)).mono ?_
  rintro e w1 ⟨ji,rfl,j0,j1,c1,o1⟩
  have D1:=hideP (DS.other D0.out hw o1 c1)
  clear D0 c1 o1
  obtain⟨j,rfl⟩:=Int.eq_ofNat_of_zero_le j0
  have hjn:j<n:=by omega
  have hs1:w1.heap.size≠w.heap.size:=by have:=D1.out.1.lt;omega
  have DA:=hideP (DS.bel D1.out hw (below1 w1 (.cells #[.int .i64 1,.int .i64 (-1),.int .i64 1073741823,.int .i64 300] 2)))
  have HSL:=hideP (heap_alloc_new w1 (.cells #[.int .i64 1,.int .i64 (-1),.int .i64 1073741823,.int .i64 300] 2))
  go_wp2_with fail
  refine(belowN_any 4 ao len cap w _ HB.out DA.out.1 (by omega) (by omega)).mono ?_
  rintro e w2 ⟨q,rfl,q0,q1,c2,o2⟩
  have D2:=hideP (DS.other DA.out hw o2 c2)
  have hsl:=(o2 w1.heap.size hs1).trans HSL.out
  clear D1 DA c2 o2 HSL
  obtain⟨qn,rfl⟩:=Int.eq_ofNat_of_zero_le q0
  obtain⟨x,hcx⟩:∃x:Int,w2.cell? ⟨w1.heap.size,qn,none⟩=some (.int .i64 x):=by
   rw[cell_of_row w2 w1.heap.size qn _ 2 (0,0) hsl]
   rcases (show qn=0\/qn=1\/qn=2\/qn=3 by omega) with rfl|rfl|rfl|rfl
   ·exact⟨1,rfl⟩
   ·exact⟨-1,rfl⟩
   ·exact⟨1073741823,rfl⟩
   ·exact⟨300,rfl⟩
  have hqn:(qn:Int)<4:=q1
  clear hsl hs1
  go_wp2_with fail
  refine(belowN_any 8 ao len cap w _ HB.out D2.out.1 (by omega) (by omega)).mono ?_
  rintro e w3 ⟨y,rfl,y0,y1,c3,o3⟩
  have D3:=hideP (DS.other D2.out hw o3 c3)
  clear D2 c3 o3 hcx
  have hgz:g<w3.heap.size:=by
   obtain⟨xs,_,h⟩:=D3.out.2.2
   exact(own_lt h rfl).2.1
  rcases (show y=0\/y=1\/y=2\/y=3\/y=4\/y=5\/y=6\/y=7 by omega) with rfl|rfl|rfl|rfl|rfl|rfl|rfl|rfl
  ·obtain⟨s,hcs,hfs⟩:=D3.out.2.2.cellI hjn (o:=0) (by omega) (by omega)
   have HF:=hideP (DS.put D3.out hw (j*15+0) _ (D3.out.2.2.putI hjn (o:=0) (by omega) (by omega) (wrap64 (s+x))))
   clear D3
   simp only[Nat.add_zero] at hcs hfs HF
   go_wp2
   refine bodyPost_end (results_none rfl _ _ _) rfl ?_
   exact⟨⟨_,rfl⟩,HF.out⟩
  ·obtain⟨s,hcs,hfs⟩:=D3.out.2.2.cellI hjn (o:=1) (by omega) (by omega)
   have HF:=hideP (DS.put D3.out hw (j*15+1) _ (D3.out.2.2.putI hjn (o:=1) (by omega) (by omega) (wrap64 (s+x))))
   clear D3
   go_wp2
   refine bodyPost_end (results_none rfl _ _ _) rfl ?_
   exact⟨⟨_,rfl⟩,HF.out⟩
  ·obtain⟨s,hcs,hfs⟩:=D3.out.2.2.cellI hjn (o:=14) (by omega) (by omega)
   have HF:=hideP (DS.put D3.out hw (j*15+14) _ (D3.out.2.2.putI hjn (o:=14) (by omega) (by omega) (wrap64 (s+x))))
   clear D3
   go_wp2
   refine bodyPost_end (results_none rfl _ _ _) rfl ?_
   exact⟨⟨_,rfl⟩,HF.out⟩
  ·obtain⟨s,hcs,hfs⟩:=D3.out.2.2.cellI hjn (o:=5) (by omega) (by omega)
   have HF:=hideP (DS.put D3.out hw (j*15+5) _ (D3.out.2.2.putI hjn (o:=5) (by omega) (by omega) (wrap64 (s+x))))
   clear D3
   go_wp2
   refine bodyPost_end (results_none rfl _ _ _) rfl ?_
   exact⟨⟨_,rfl⟩,HF.out⟩
  ·obtain⟨s,hcs,hfs⟩:=D3.out.2.2.cellI hjn (o:=7) (by omega) (by omega)
   have HF:=hideP (DS.put D3.out hw (j*15+7) _ (D3.out.2.2.putI hjn (o:=7) (by omega) (by omega) (wrap64 (s+x))))
   clear D3
   go_wp2
   refine bodyPost_end (results_none rfl _ _ _) rfl ?_
   exact⟨⟨_,rfl⟩,HF.out⟩
  ·obtain⟨s,hcs,hfs⟩:=D3.out.2.2.cellI hjn (o:=4) (by omega) (by omega)
   have HF:=hideP (DS.put D3.out hw (j*15+4) _ (D3.out.2.2.putI hjn (o:=4) (by omega) (by omega) (wrap64 (s+x))))
   clear D3
   go_wp2
   refine bodyPost_end (results_none rfl _ _ _) rfl ?_
   exact⟨⟨_,rfl⟩,HF.out⟩
  ·go_wp2_with fail
   refine(belowN_any 2 ao len cap w _ HB.out D3.out.1 (by omega) (by omega)).mono ?_
   rintro e w4 ⟨t,rfl,t0,t1,c4,o4⟩
   have D4:=hideP (DS.other D3.out hw o4 c4)
   clear D3 c4 o4
   obtain⟨tn,rfl⟩:=Int.eq_ofNat_of_zero_le t0
   have hz4:base<=w4.heap.size:=by have:=D4.out.2.1.1;omega
   have hg4:g<w4.heap.size:=by
    obtain⟨xs,_,h⟩:=D4.out.2.2
    exact(own_lt h rfl).2.1
   go_wp2_with (at_make;refine wpList_make_full _ rfl _ _ 22 rfl base 5 i0 (.int .u8 0) 1 Tryz.underlying22 hi hz0 hz1 _ _ _ _ (1000+tn) rfl rfl (by omega) (by omega) (by rw[hz2];omega) (by unfold maxLen;omega) hz4 ?_;intro w5 hown5 hgr5;obtain⟨s5,hs5⟩:=conv_made hown5;have hb5:Below w4.heap.size w4 w5:=Below.grown (Below.refl _ _) hgr5 (Nat.le_refl _) (fun k hk=>by cases hk);have D5:=hideP (DS.bel D4.out hw hb5);obtain⟨st,hct,hft⟩:=D5.out.2.2.cellS hjn;have HF:=hideP (DS.put D5.out hw (j*15+13) _ (D5.out.2.2.putS hjn s5));clear D4 D5 hown5 hgr5 hb5)
   refine bodyPost_end (results_none rfl _ _ _) rfl ?_
   exact⟨⟨_,rfl⟩,HF.out⟩
  ·obtain⟨s,hcs,hfs⟩:=D3.out.2.2.cellI hjn (o:=2) (by omega) (by omega)
   have HF:=hideP (DS.put D3.out hw (j*15+2) _ (D3.out.2.2.putI hjn (o:=2) (by omega) (by omega) (wrap64 (s+x))))
   clear D3
   go_wp2
   refine bodyPost_end (results_none rfl _ _ _) rfl ?_
   exact⟨⟨_,rfl⟩,HF.out⟩
section
variable {w wr wi wj : World} {ao : Option Addr} {len cap n m : Nat} {v v' : Value}
end
theorem SRow.shape {α:Type}{sz:Nat}{R:Nat->World->List Value->α->Prop}{d:α}{lo:Nat}{w:World}{v:Value}{xs:List α}(h:SRow sz R d lo w v xs):∃ao cap,v = .slice ao xs.length cap:=by
 obtain⟨ao,n,cap,rfl,rfl,_⟩:=h
 exact⟨ao,cap,rfl⟩
structure Cl where
 sp:Int
 al:Int
 ns:List Nd
structure Rw where
 cs:List Cl
 ru:Int
structure Tb where
 co:Int
 gs:Int
 gp:Int
 gpo:Int
 gm:Int
 gmo:Int
 rs:List Rw
def Cl.none:Cl:=⟨0,0,[]⟩
def Rw.none:Rw:=⟨[],0⟩
abbrev clV (x:Cl)(v:Value):Value:= .agg #[.int .i64 x.sp,.int .i64 x.al,v]
abbrev rwV (x:Rw)(v:Value):Value:= .agg #[v,.int .i64 x.ru]
abbrev tbV (t:Tb)(v:Value):Value:= .agg #[.int .i64 t.co,.int .i64 t.gs,.int .i64 t.gp,.int .i64 t.gpo,.int .i64 t.gm,.int .i64 t.gmo,v]
theorem NN.abv {lo:Nat}{w w':World}{v:Value}{xs:List Nd}(h:NN lo w v xs)(ha:Abv lo w w'):NN lo w' v xs:=by
 rcases h with h | ⟨b,off,cap,rfl,h1,h2,h3,h4⟩
 ·exact .inl h
 ·refine .inr ⟨b,off,cap,rfl,h1,h2,fun hp=>Nat.lt_of_lt_of_le (h3 hp) ha.size,fun j u hj=>?_⟩
  have hp:0<xs.length:=by
   cases xs with
   | nil=>simp[flatN] at hj
   | cons a tl=>simp
  exact(World.cell?_of_block (w:=w) (a:=⟨b,off+j,none⟩) (ha.block b h2 (h3 hp))).trans (h4 j u hj)
theorem NN.mono {lo lo':Nat}{w:World}{v:Value}{xs:List Nd}(h:NN lo w v xs)(hl:lo'<=lo):NN lo' w v xs:=by
 rcases h with h | ⟨b,off,cap,rfl,h1,h2,h3,h4⟩
 ·exact .inl h
 ·exact .inr ⟨b,off,cap,rfl,h1,Nat.le_trans hl h2,h3,h4⟩
def ClN (lo:Nat)(w:World)(cs:List Value)(x:Cl):Prop:=∃v,cs=[.int .i64 x.sp,.int .i64 x.al,v]/\NRow lo w v x.ns/\NN lo w v x.ns
theorem clNStable:Stable ClN where
 abv:=fun⟨v,h1,h2,h3⟩ ha=>⟨v,h1,h2.abv ndStable ha,h3.abv ha⟩
 mono:=fun⟨v,h1,h2,h3⟩ hl=>⟨v,h1,h2.mono ndStable hl,h3.mono hl⟩
abbrev CRowN (lo:Nat)(w:World)(v:Value)(xs:List Cl):Prop:=SRow 3 ClN Cl.none lo w v xs
def RwN (lo:Nat)(w:World)(cs:List Value)(x:Rw):Prop:=∃v,cs=[v,.int .i64 x.ru]/\CRowN lo w v x.cs
theorem rwNStable:Stable RwN where
 abv:=fun⟨v,h1,h2⟩ ha=>⟨v,h1,h2.abv clNStable ha⟩
 mono:=fun⟨v,h1,h2⟩ hl=>⟨v,h1,h2.mono clNStable hl⟩
abbrev RRowN (lo:Nat)(w:World)(v:Value)(xs:List Rw):Prop:=SRow 2 RwN Rw.none lo w v xs
def SmC (x:Cl):Prop:=x.ns.length<=1048576
def SmW (x:Rw):Prop:=x.cs.length<=1048576/\∀i,i<x.cs.length->SmC (x.cs.getD i Cl.none)
def SmT (t:Tb):Prop:=t.rs.length<=1048576/\∀i,i<t.rs.length->SmW (t.rs.getD i Rw.none)
abbrev C3:=Int×Int×Value
def C3z:C3:=(0,0,.slice none 0 0)
def flatC:List C3->List Value
 | []=>[]
 | x :: xs=> .int .i64 x.1 :: .int .i64 x.2.1 :: x.2.2 :: flatC xs
theorem flatC_len:∀xs:List C3,(flatC xs).length=xs.length*3
 | []=>rfl
 | x :: xs=>by simp only[flatC,List.length_cons,flatC_len xs];omega
theorem flatC_app:∀xs ys:List C3,flatC (xs++ys)=flatC xs++flatC ys
 | [],_=>rfl
 | x :: xs,ys=>by simp only[List.cons_append,flatC,flatC_app xs ys]
theorem flatC_get:∀(xs:List C3) (i:Nat),i<xs.length->(flatC xs)[i*3]?=some (.int .i64 (xs.getD i C3z).1)/\(flatC xs)[i*3+1]?=some (.int .i64 (xs.getD i C3z).2.1)/\(flatC xs)[i*3+2]?=some (xs.getD i C3z).2.2
 | [],i,h=>by simp at h
 | x :: xs,0,h=>⟨rfl,rfl,rfl⟩
 | x :: xs,i+1,h=>by
  have:=flatC_get xs i (by simpa using h)
  rw[show (i+1)*3=i*3+1+1+1 by omega]
  simpa only[flatC,List.getElem?_cons_succ,List.getD_cons_succ] using this
theorem flatC_sp:∀(xs:List C3) (i:Nat) (s:Int),i<xs.length->(flatC xs).set (i*3) (.int .i64 s)=flatC (xs.set i (s,(xs.getD i C3z).2))
 | [],i,s,h=>by simp at h
 | x :: xs,0,s,h=>rfl
 | x :: xs,i+1,s,h=>by
  rw[show (i+1)*3=i*3+1+1+1 by omega]
  simp only[flatC,List.set_cons_succ,List.getD_cons_succ]
  rw[flatC_sp xs i s (by simpa using h)]
theorem flatC_al:∀(xs:List C3) (i:Nat) (s:Int),i<xs.length->(flatC xs).set (i*3+1) (.int .i64 s)=flatC (xs.set i ((xs.getD i C3z).1,s,(xs.getD i C3z).2.2))
 | [],i,s,h=>by simp at h
 | x :: xs,0,s,h=>rfl
 | x :: xs,i+1,s,h=>by
  rw[show (i+1)*3+1=i*3+1+1+1+1 by omega]
  simp only[flatC,List.set_cons_succ,List.getD_cons_succ]
  have:=flatC_al xs i s (by simpa using h)
  rw[this]
structure DRow where
 cs:List C3
 u:Value
 ru:Int
def DRow.none:DRow:=⟨[],.slice .none 0 0,0⟩
def flatR:List DRow->List Value
 | []=>[]
 | x :: xs=>x.u :: .int .i64 x.ru :: flatR xs
theorem flatR_len:∀xs:List DRow,(flatR xs).length=xs.length*2
 | []=>rfl
 | x :: xs=>by simp only[flatR,List.length_cons,flatR_len xs];omega
theorem flatR_app:∀xs ys:List DRow,flatR (xs++ys)=flatR xs++flatR ys
 | [],_=>rfl
 | x :: xs,ys=>by simp only[List.cons_append,flatR,flatR_app xs ys]
theorem flatR_get:∀(xs:List DRow) (i:Nat),i<xs.length->(flatR xs)[i*2]?=some (xs.getD i DRow.none).u/\(flatR xs)[i*2+1]?=some (.int .i64 (xs.getD i DRow.none).ru)
 | [],i,h=>by simp at h
 | x :: xs,0,h=>⟨rfl,rfl⟩
 | x :: xs,i+1,h=>by
  have:=flatR_get xs i (by simpa using h)
  rw[show (i+1)*2=i*2+1+1 by omega]
  simpa only[flatR,List.getElem?_cons_succ,List.getD_cons_succ] using this
theorem flatR_ru:∀(xs:List DRow) (i:Nat) (s:Int),i<xs.length->(flatR xs).set (i*2+1) (.int .i64 s)=flatR (xs.set i { xs.getD i DRow.none with ru:=s })
 | [],i,s,h=>by simp at h
 | x :: xs,0,s,h=>rfl
 | x :: xs,i+1,s,h=>by
  rw[show (i+1)*2+1=i*2+1+1+1 by omega]
  simp only[flatR,List.set_cons_succ,List.getD_cons_succ]
  have:=flatR_ru xs i s (by simpa using h)
  rw[this]
def apart (u v:Value):Prop:=∀b,u.ownBlock=some b->v.ownBlock≠some b
theorem apart.symm {u v:Value}(h:apart u v):apart v u:=fun b hv hu=>h b hu hv
structure OwnRow (B:Nat)(w:World)(r:DRow):Prop where
 own:w.ownsRow B 61 3 r.u r.cs.length (flatC r.cs)
 len:r.cs.length<=5
 nds:∀c∈r.cs,∃n,n<=20/\OwnN w B c.2.2 n
theorem OwnN.kind {B n g:Nat}{w:World}{v:Value}(h:OwnN w B v n)(hg:v.ownBlock=some g):B<=g/\g<w.heap.size/\∃cs,w.heap[g]?=some (.cells cs 36 (0,0)):=by
 obtain⟨xs,_,h⟩:=h
 exact⟨(h.lt g hg).1,(h.lt g hg).2,own_cells_block h hg⟩
theorem OwnN.same {B n:Nat}{w w':World}{v:Value}(h:OwnN w B v n)(hs:∀g,v.ownBlock=some g->w'.heap[g]?=w.heap[g]?):OwnN w' B v n:=by
 obtain⟨xs,h1,h2⟩:=h
 exact⟨xs,h1,ownG_same h2 hs⟩
theorem OwnRow.same {B:Nat}{w w':World}{r:DRow}(h:OwnRow B w r)(hu:∀g,r.u.ownBlock=some g->w'.heap[g]?=w.heap[g]?)(hc:∀c∈r.cs,∀g,c.2.2.ownBlock=some g->w'.heap[g]?=w.heap[g]?):OwnRow B w' r :=
 ⟨ownG_same h.own hu,h.len,fun c hm=>by
  obtain⟨n,hn,ho⟩:=h.nds c hm
  exact⟨n,hn,ho.same (hc c hm)⟩⟩
theorem OwnRow.keep {B:Nat}{w w':World}{r:DRow}(h:OwnRow B w r)(hk:∀g,B<=g->g<w.heap.size->w'.heap[g]?=w.heap[g]?):OwnRow B w' r :=
 h.same (fun g hg=>hk g (h.own.lt g hg).1 (h.own.lt g hg).2) (fun c hm g hg=>by
  obtain⟨n,_,ho⟩:=h.nds c hm
  obtain⟨h1,h2,_⟩:=ho.kind hg
  exact hk g h1 h2)
def listsOf (rs:List DRow):List Value:=rs.flatMap (fun r=>r.cs.map (·.2.2))
structure OwnTab (B:Nat)(w:World)(v:Value)(rs:List DRow):Prop where
 own:w.ownsRow B 59 2 v rs.length (flatR rs)
 len:rs.length<=5
 row:∀r∈rs,OwnRow B w r
 apN:(listsOf rs).Pairwise apart
 apC:(rs.map (·.u)).Pairwise apart
theorem OwnTab.keep {B:Nat}{w w':World}{v:Value}{rs:List DRow}(h:OwnTab B w v rs)(hk:∀g,B<=g->g<w.heap.size->w'.heap[g]?=w.heap[g]?):OwnTab B w' v rs :=
 ⟨ownG_same h.own (fun g hg=>hk g (h.own.lt g hg).1 (h.own.lt g hg).2),h.len,fun r hr=>(h.row r hr).keep hk,h.apN,h.apC⟩
theorem OwnTab.fram {B:Nat}{w wi wj:World}{v:Value}{rs:List DRow}(h:OwnTab B wi v rs)(hb:w.heap.size<B)(hf:Fram w wi wj):OwnTab B wj v rs:=h.keep fun g h1 h2=>hf.2 g h2 (by omega)
theorem OwnRow.fram {B:Nat}{w wi wj:World}{r:DRow}(h:OwnRow B wi r)(hb:w.heap.size<B)(hf:Fram w wi wj):OwnRow B wj r:=h.keep fun g h1 h2=>hf.2 g h2 (by omega)
theorem list_ex {α:Type}(d:α)(P:Nat->α->Prop):∀n:Nat,(∀i,i<n->∃x,P i x)->∃xs:List α,xs.length=n/\∀i,i<n->P i (xs.getD i d)
 | 0,_=>⟨[],rfl,fun i hi=>by omega⟩
 | n+1,h=>by
  obtain⟨xs,hl,hp⟩:=list_ex d P n (fun i hi=>h i (by omega))
  obtain⟨x,hx⟩:=h n (by omega)
  refine⟨xs++[x],by simp[hl],fun i hi=>?_⟩
  by_cases e:i=n
  ·subst e
   rw[show (xs++[x]).getD i d=x by simp[List.getD,<-hl]]
   exact hx
  ·rw[show (xs++[x]).getD i d=xs.getD i d by simp[List.getD,List.getElem?_append_left (show i<xs.length by omega)]]
   exact hp i (by omega)
theorem getD_mem {α:Type}{xs:List α}{i:Nat}(d:α)(h:i<xs.length):xs.getD i d∈xs:=by
 rw[show xs.getD i d=xs[i] by simp[List.getD,List.getElem?_eq_getElem h]]
 exact List.getElem_mem h
theorem OwnRow.read {B:Nat}{w:World}{r:DRow}(h:OwnRow B w r):∃x:Rw,x.ru=r.ru/\x.cs.length=r.cs.length/\CRowN 0 w r.u x.cs/\SmW x:=by
 obtain⟨cs,hl,hp⟩:=list_ex Cl.none (fun i (x:Cl)=>x.sp=(r.cs.getD i C3z).1/\x.al=(r.cs.getD i C3z).2.1/\NRow 0 w (r.cs.getD i C3z).2.2 x.ns/\NN 0 w (r.cs.getD i C3z).2.2 x.ns/\x.ns.length<=20) r.cs.length (fun i hi=>by
  obtain⟨n,hn,xs,h1,h2⟩:=h.nds _ (getD_mem C3z hi)
  exact⟨⟨_,_,xs⟩,rfl,rfl,SRow.mono ndStable (own_NRow h2 h1) (Nat.zero_le _),own_NN h2 h1,by simp only;omega⟩)
 refine⟨⟨cs,r.ru⟩,rfl,hl,?_,?_⟩
 ·obtain⟨a,c,hu⟩:=ownG_shape h.own
  have ho:=h.own
  rw[hu] at ho ⊢
  refine⟨a,r.cs.length,c,rfl,hl,fun hn=>?_⟩
  rcases ho.2 with ⟨he,_⟩ | ⟨g,cap,cur,he,hg,hb,_⟩
  ·simp only[Value.slice.injEq] at he;omega
  ·cases he
   refine⟨g,0,rfl,Nat.zero_le _,(glt hb),fun i hi=>?_⟩
   obtain⟨p1,p2,p3,p4,p5⟩:=hp i hi
   obtain⟨q1,q2,q3⟩:=flatC_get r.cs i hi
   have hcell:∀(j:Nat) (x:Value),(flatC r.cs)[j]?=some x->w.cell? ⟨g,j,none⟩=some x:=fun j x hj=>by
    have hlt:=(List.getElem?_eq_some_iff.1 hj).1
    first
     | (rw[flatC_len] at hlt;exact(ho.cellAt j hlt).trans hj)
     | (rw[flatR_len] at hlt;exact(ho.cellAt j hlt).trans hj)
   refine⟨_,rfl,⟨(r.cs.getD i C3z).2.2,rfl,p3,p4⟩,fun j hj=>?_⟩
   rw[p1,p2]
   have hj3:j=0\/j=1\/j=2:=by omega
   rcases hj3 with rfl|rfl|rfl
   ·rw[Nat.zero_add];exact hcell _ _ q1
   ·rw[Nat.zero_add];exact hcell _ _ q2
   ·rw[Nat.zero_add];exact hcell _ _ q3
 ·refine⟨by have:=h.len;simp only;omega,fun i hi=>?_⟩
  have:=(hp i (by simp only at hi;omega)).2.2.2.2
  show (cs.getD i Cl.none).ns.length<=1048576
  omega
theorem OwnTab.read {B:Nat}{w:World}{v:Value}{rs:List DRow}(h:OwnTab B w v rs):∃xs:List Rw,xs.length=rs.length/\RRowN 0 w v xs/\∀i,i<xs.length->SmW (xs.getD i Rw.none):=by
 obtain⟨xs,hl,hp⟩:=list_ex Rw.none (fun i (x:Rw)=>x.ru=(rs.getD i DRow.none).ru/\CRowN 0 w (rs.getD i DRow.none).u x.cs/\SmW x) rs.length (fun i hi=>by
  obtain⟨x,h1,h2,h3,h4⟩:=(h.row _ (getD_mem DRow.none hi)).read
  exact⟨x,h1,h3,h4⟩)
 refine⟨xs,hl,?_,fun i hi=>(hp i (by omega)).2.2⟩
 obtain⟨a,c,hu⟩:=ownG_shape h.own
 have ho:=h.own
 rw[hu] at ho ⊢
 refine⟨a,rs.length,c,rfl,hl,fun hn=>?_⟩
 rcases ho.2 with ⟨he,_⟩ | ⟨g,cap,cur,he,hg,hb,_⟩
 ·simp only[Value.slice.injEq] at he;omega
 ·cases he
  refine⟨g,0,rfl,Nat.zero_le _,(glt hb),fun i hi=>?_⟩
  obtain⟨p1,p2,p3⟩:=hp i hi
  obtain⟨q1,q2⟩:=flatR_get rs i hi
  have hcell:∀(j:Nat) (x:Value),(flatR rs)[j]?=some x->w.cell? ⟨g,j,none⟩=some x:=fun j x hj=>by
   have hlt:=(List.getElem?_eq_some_iff.1 hj).1
   first
    | (rw[flatC_len] at hlt;exact(ho.cellAt j hlt).trans hj)
    | (rw[flatR_len] at hlt;exact(ho.cellAt j hlt).trans hj)
  refine⟨_,rfl,⟨(rs.getD i DRow.none).u,rfl,p2⟩,fun j hj=>?_⟩
  rw[p1]
  have hj3:j=0\/j=1:=by omega
  rcases hj3 with rfl|rfl
  ·rw[Nat.zero_add];exact hcell _ _ q1
  ·rw[Nat.zero_add];exact hcell _ _ q2
theorem Tryz.info61d:(Tryz.prog.info? 61).map (fun i=>(i.zero,i.size,i.bytes))=some (some (.agg #[.int .i64 0,.int .i64 0,.slice none 0 0]),3,40):=by kernel_rfl
theorem Tryz.info59d:(Tryz.prog.info? 59).map (fun i=>(i.zero,i.size,i.bytes))=some (some (.agg #[.slice none 0 0,.int .i64 0]),2,32):=by kernel_rfl
theorem wp_appC {w:World}{o:Oper}{a:Act}{K:Act->World->Prop}{Q:Exit->Act->World->Prop}(s x:Operand)(ho:o.op = .call { callee:= .builtin .append,args:=#[s,x],argTypes:=#[57,57] })
 (base:Nat) (v:Value) (n:Nat) (cs:List C3) (hs:a.eval s=v) (hown:w.ownsRow base 61 3 v n (flatC cs)) (b:Nat) (sp al:Int) (va:Option Addr) (vn vc:Nat) (hx:a.eval x = .slice (some ⟨b,0,none⟩) 1 1) (hb:w.heap[b]?=some (.cells #[.int .i64 sp,.int .i64 al,.slice va vn vc] 61 (0,0))) (hn:n<=100000) (hbase:base<=w.heap.size)
 (h:∀v' w',w'.ownsRow base 61 3 v' (n+1) (flatC (cs++[(sp,al,.slice va vn vc)]))->w.grownBy w' v.ownBlock->(v'.ownBlock=v.ownBlock\/v'.ownBlock=some w.heap.size)->K (a.put o.dst v') w'):o.wp Tryz.prog a w K Q:=by
 obtain⟨i0,hi,hz0,hz1,hz2⟩:=info_parts Tryz.info61d
 obtain⟨v',w',hr,h2,h3,h4,h5⟩:=run_append_own_at (P:=Tryz.prog) w base 57 o.type 61 i0 (.agg #[.int .i64 0,.int .i64 0,.slice none 0 0]) 3 40 Tryz.underlying57 hi hz0 hz1 hz2 rfl (by decide) v n _ hown ⟨b,0,none⟩ 1 1 [.int .i64 sp,.int .i64 al,.slice va vn vc] rfl (fun j u hj=>by
  have h9:w.cell? ⟨b,j,none⟩=some u:=by
   rw[cell_of_row w b j _ 61 _ hb]
   simpa using hj
  unfold Addr.add
  split
  ·rename_i e2;have e3:j=0:=by simpa using e2
   subst e3;exact h9
  ·simpa using h9) (by simp[Value.oneCell']) (by unfold maxLen;omega) (by omega) hbase
 unfold Oper.wp execOp
 simp only[ho,resolve,invoke,builtin,Sem.run_bind,Sem.run_pure,Result.andThen_ok,List.map_toArray,List.map_cons,List.map_nil,hs,hx,hr]
 refine h v' w' ?_ h3 h5
 rw[flatC_app]
 exact h2
theorem wpList_appC {w:World}{ops:Array Oper}{rest:List Oper}{o:Oper}{a:Act}{Q:Exit->Act->World->Prop}(hgd:o.guard=none)(s x:Operand)(ho:o.op = .call { callee:= .builtin .append,args:=#[s,x],argTypes:=#[57,57] })
 (base:Nat) (v:Value) (n:Nat) (cs:List C3) (hs:a.eval s=v) (hown:w.ownsRow base 61 3 v n (flatC cs)) (b:Nat) (sp al:Int) (va:Option Addr) (vn vc:Nat) (hx:a.eval x = .slice (some ⟨b,0,none⟩) 1 1) (hb:w.heap[b]?=some (.cells #[.int .i64 sp,.int .i64 al,.slice va vn vc] 61 (0,0))) (hn:n<=100000) (hbase:base<=w.heap.size)
 (h:∀v' w',w'.ownsRow base 61 3 v' (n+1) (flatC (cs++[(sp,al,.slice va vn vc)]))->w.grownBy w' v.ownBlock->(v'.ownBlock=v.ownBlock\/v'.ownBlock=some w.heap.size)->wpList Tryz.prog ops Q rest (a.put o.dst v') w'):wpList Tryz.prog ops Q (o :: rest) a w :=
 wpList_plain hgd fun _ hK=>wp_appC s x ho base v n cs hs hown b sp al va vn vc hx hb hn hbase fun v' w' h2 h3 h4=>hK _ _ (h v' w' h2 h3 h4)
theorem wp_appR {w:World}{o:Oper}{a:Act}{K:Act->World->Prop}{Q:Exit->Act->World->Prop}(s x:Operand)(ho:o.op = .call { callee:= .builtin .append,args:=#[s,x],argTypes:=#[50,50] })
 (base:Nat) (v:Value) (n:Nat) (rs:List DRow) (hs:a.eval s=v) (hown:w.ownsRow base 59 2 v n (flatR rs)) (b:Nat) (cs:List C3) (ru:Int) (va:Option Addr) (vn vc:Nat) (hx:a.eval x = .slice (some ⟨b,0,none⟩) 1 1) (hb:w.heap[b]?=some (.cells #[.slice va vn vc,.int .i64 ru] 59 (0,0))) (hn:n<=100000) (hbase:base<=w.heap.size)
 (h:∀v' w',w'.ownsRow base 59 2 v' (n+1) (flatR (rs++[⟨cs,.slice va vn vc,ru⟩]))->w.grownBy w' v.ownBlock->(v'.ownBlock=v.ownBlock\/v'.ownBlock=some w.heap.size)->K (a.put o.dst v') w'):o.wp Tryz.prog a w K Q:=by
 obtain⟨i0,hi,hz0,hz1,hz2⟩:=info_parts Tryz.info59d
 obtain⟨v',w',hr,h2,h3,h4,h5⟩:=run_append_own_at (P:=Tryz.prog) w base 50 o.type 59 i0 (.agg #[.slice none 0 0,.int .i64 0]) 2 32 Tryz.underlying50 hi hz0 hz1 hz2 rfl (by decide) v n _ hown ⟨b,0,none⟩ 1 1 [.slice va vn vc,.int .i64 ru] rfl (fun j u hj=>by
  have h9:w.cell? ⟨b,j,none⟩=some u:=by
   rw[cell_of_row w b j _ 59 _ hb]
   simpa using hj
  unfold Addr.add
  split
  ·rename_i e2;have e3:j=0:=by simpa using e2
   subst e3;exact h9
  ·simpa using h9) (by simp[Value.oneCell']) (by unfold maxLen;omega) (by omega) hbase
 unfold Oper.wp execOp
 simp only[ho,resolve,invoke,builtin,Sem.run_bind,Sem.run_pure,Result.andThen_ok,List.map_toArray,List.map_cons,List.map_nil,hs,hx,hr]
 refine h v' w' ?_ h3 h5
 rw[flatR_app]
 exact h2
theorem wpList_appR {w:World}{ops:Array Oper}{rest:List Oper}{o:Oper}{a:Act}{Q:Exit->Act->World->Prop}(hgd:o.guard=none)(s x:Operand)(ho:o.op = .call { callee:= .builtin .append,args:=#[s,x],argTypes:=#[50,50] })
 (base:Nat) (v:Value) (n:Nat) (rs:List DRow) (hs:a.eval s=v) (hown:w.ownsRow base 59 2 v n (flatR rs)) (b:Nat) (cs:List C3) (ru:Int) (va:Option Addr) (vn vc:Nat) (hx:a.eval x = .slice (some ⟨b,0,none⟩) 1 1) (hb:w.heap[b]?=some (.cells #[.slice va vn vc,.int .i64 ru] 59 (0,0))) (hn:n<=100000) (hbase:base<=w.heap.size)
 (h:∀v' w',w'.ownsRow base 59 2 v' (n+1) (flatR (rs++[⟨cs,.slice va vn vc,ru⟩]))->w.grownBy w' v.ownBlock->(v'.ownBlock=v.ownBlock\/v'.ownBlock=some w.heap.size)->wpList Tryz.prog ops Q rest (a.put o.dst v') w'):wpList Tryz.prog ops Q (o :: rest) a w :=
 wpList_plain hgd fun _ hK=>wp_appR s x ho base v n rs hs hown b cs ru va vn vc hx hb hn hbase fun v' w' h2 h3 h4=>hK _ _ (h v' w' h2 h3 h4)
theorem OwnRow.other {B T ty:Nat}{w w':World}{r:DRow}{c:Array Value}(h:OwnRow B w r)(hT:w.heap[T]?=some (.cells c ty (0,0)))(h1:ty≠61)(h2:ty≠36)(hk:∀g,g≠T->w'.heap[g]?=w.heap[g]?):OwnRow B w' r :=
 h.same (fun g hg=>hk g (fun e=>by
  subst e
  obtain⟨cs,hc⟩:=own_cells_block h.own hg
  rw[hc] at hT
  simp at hT
  exact h1 hT.2.symm)) (fun x hx g hg=>hk g (fun e=>by
  subst e
  obtain⟨n,_,ho⟩:=h.nds x hx
  obtain⟨_,_,cs,hc⟩:=ho.kind hg
  rw[hc] at hT
  simp at hT
  exact h2 hT.2.symm))
theorem OwnTab.other {B T ty:Nat}{w w':World}{v:Value}{rs:List DRow}{c:Array Value}(h:OwnTab B w v rs)(hT:w.heap[T]?=some (.cells c ty (0,0)))(h1:ty≠61)(h2:ty≠36)(h3:ty≠59)(hk:∀g,g≠T->w'.heap[g]?=w.heap[g]?):OwnTab B w' v rs :=
 ⟨ownG_same h.own (fun g hg=>hk g (fun e=>by
  subst e
  obtain⟨cs,hc⟩:=own_cells_block h.own hg
  rw[hc] at hT
  simp at hT
  exact h3 hT.2.symm)),h.len,fun r hr=>(h.row r hr).other hT h1 h2 hk,h.apN,h.apC⟩
theorem grownBy_at {w w':World}{row:Option Nat}(hg:w.grownBy w' row){g:Nat}(hl:g<w.heap.size)(hne:row≠some g):w'.heap[g]?=w.heap[g]?:=hg.block g hl (fun e=>hne e.symm)
theorem OwnRow.app {B n:Nat}{wi wj:World}{cs:List C3}{u u':Value}{ru sp al:Int}{v:Value}(h:OwnRow B wi ⟨cs,u,ru⟩)(hg:wi.grownBy wj u.ownBlock)(ho:wj.ownsRow B 61 3 u' (cs.length+1) (flatC (cs++[(sp,al,v)])))(hv:OwnN wi B v n)(hn:n<=20)(hl:cs.length+1<=5):OwnRow B wj ⟨cs++[(sp,al,v)],u',ru⟩:=by
 have key:∀(x:Value) (m:Nat),OwnN wi B x m->OwnN wj B x m:=fun x m hx=>hx.same fun g hgx=>by
  obtain⟨_,h2,c,hc⟩:=hx.kind hgx
  refine grownBy_at hg h2 (fun e=>?_)
  obtain⟨c',hc'⟩:=own_cells_block h.own (show (DRow.mk cs u ru).u.ownBlock=some g from e)
  rw[hc] at hc'
  simp at hc'
 refine⟨by simpa using ho,by simpa using hl,fun c hc=>?_⟩
 rcases List.mem_append.1 hc with hc|hc
 ·obtain⟨m,hm,hx⟩:=h.nds c hc
  exact⟨m,hm,key _ _ hx⟩
 ·simp only[List.mem_cons,List.not_mem_nil,or_false] at hc
  subst hc
  exact⟨n,hn,key _ _ hv⟩
theorem OwnTab.app {B B2:Nat}{wS wi wj:World}{rs:List DRow}{r:DRow}{v v':Value}(hS:OwnTab B wS v rs)(h:OwnTab B wi v rs)(hr:OwnRow B2 wi r)(hBB:wS.heap.size<=B2)(hB:B<=B2)(hap:(r.cs.map (·.2.2)).Pairwise apart)(hg:wi.grownBy wj v.ownBlock)(ho:wj.ownsRow B 59 2 v' (rs.length+1) (flatR (rs++[r])))(hl:rs.length+1<=5):OwnTab B wj v' (rs++[r]):=by
 have hne:∀(g ty:Nat) (c:Array Value),wi.heap[g]?=some (.cells c ty (0,0))->ty≠59->v.ownBlock≠some g:=fun g ty c hc ht e=>by
  obtain⟨c',hc'⟩:=own_cells_block h.own e
  rw[hc] at hc'
  simp at hc'
  exact ht hc'.2
 have key:∀(b:Nat) (x:DRow),OwnRow b wi x->OwnRow b wj x:=fun b x hx=>hx.same (fun g hgx=>by
  obtain⟨c,hc⟩:=own_cells_block hx.own hgx
  exact grownBy_at hg (hx.own.lt g hgx).2 (hne g 61 c hc (by decide))) (fun y hy g hgy=>by
  obtain⟨n,_,hn⟩:=hx.nds y hy
  obtain⟨_,h2,c,hc⟩:=hn.kind hgy
  exact grownBy_at hg h2 (hne g 36 c hc (by decide)))
 have wide:∀x:DRow,OwnRow B2 wj x->OwnRow B wj x:=fun x hx=>⟨ownG_mono hx.own hB,hx.len,fun c hc=>by
  obtain⟨n,hn,xs,h1,h2⟩:=hx.nds c hc
  exact⟨n,hn,xs,h1,own_mon h2 hB⟩⟩
 refine⟨by simpa using ho,by simpa using hl,fun x hx=>?_,?_,?_⟩
 ·rcases List.mem_append.1 hx with hx|hx
  ·exact key B x (h.row x hx)
  ·simp only[List.mem_cons,List.not_mem_nil,or_false] at hx
   subst hx
   exact wide _ (key B2 _ hr)
 ·unfold listsOf
  rw[List.flatMap_append,List.pairwise_append]
  refine⟨hS.apN,by simpa using hap,fun a ha b hb g hga hgb=>?_⟩
  obtain⟨x,hx,hax⟩:=List.mem_flatMap.1 ha
  obtain⟨y,hy,rfl⟩:=List.mem_map.1 hax
  obtain⟨n,_,hn⟩:=(hS.row x hx).nds y hy
  have h1:=(hn.kind hga).2.1
  simp only[List.flatMap_cons,List.flatMap_nil,List.append_nil] at hb
  obtain⟨z,hz,rfl⟩:=List.mem_map.1 hb
  obtain⟨m,_,hm⟩:=hr.nds z hz
  have h2:=(hm.kind hgb).1
  omega
 ·rw[List.map_append,List.pairwise_append]
  refine⟨hS.apC,by simp,fun a ha b hb g hga hgb=>?_⟩
  obtain⟨x,hx,rfl⟩:=List.mem_map.1 ha
  have h1:=((hS.row x hx).own.lt g hga).2
  simp only[List.map_cons,List.map_nil,List.mem_cons,List.not_mem_nil,or_false] at hb
  subst hb
  have h2:=(hr.own.lt g hgb).1
  omega
end Go.Proofs.YtbbehmcekbnkiaaGreat
namespace Go.Proofs.YtbbehmcekbnkiaaGreat
open Go.RowKit Go.Shelf
set_option linter.unusedVariables false
set_option linter.unusedSimpArgs false
abbrev tbO (co gs gp gpo gm gmo:Int)(v:Value):Obj:= .cells #[.int .i64 co,.int .i64 gs,.int .i64 gp,.int .i64 gpo,.int .i64 gm,.int .i64 gmo,v] 52 (0,0)
def DTb (w w0 w':World)(ao:Option Addr)(len cap:Nat)(e:Ending):Prop:=∃(co gs gp gpo gm gmo:Int) (u:Value) (rs:List DRow),e = .returned (.agg #[.int .i64 co,.int .i64 gs,.int .i64 gp,.int .i64 gpo,.int .i64 gm,.int .i64 gmo,u])/\OwnTab w0.heap.size w' u rs/\Cur w w' ao len cap/\Fram w w0 w'
theorem OwnTab.nil (B:Nat)(w:World):OwnTab B w (.slice none 0 0) [] where
 own:=World.ownsRow_nil _ _ _ _
 len:=Nat.zero_le _
 row:=fun r hr=>absurd hr (by simp)
 apN:=by simp[listsOf]
 apC:=by simp
structure DTS (w w0 wi:World)(ao:Option Addr)(len cap T:Nat)(co gs gp:Int)(v:Value)(rs:List DRow):Prop where
 cur:Cur w wi ao len cap
 fram:Fram w w0 wi
 res:wi.heap[w0.heap.size]?=some (tbO 0 0 0 0 0 0 (.slice none 0 0))
 tab:wi.heap[T]?=some (tbO co gs gp 0 0 0 v)
 own:OwnTab w0.heap.size wi v rs
theorem DTS.go {w w0 wi wj:World}{ao:Option Addr}{len cap T:Nat}{co gs gp:Int}{v:Value}{rs:List DRow}(h:DTS w w0 wi ao len cap T co gs gp v rs)(hw:w.heap.size<w0.heap.size)(hT:w0.heap.size<T)(hf:Fram w wi wj)(hc:Cur w wj ao len cap):DTS w w0 wj ao len cap T co gs gp v rs :=
 ⟨hc,h.fram.trans hf,(hf.2 _ (glt h.res) (by omega)).trans h.res,(hf.2 _ (glt h.tab) (by omega)).trans h.tab,h.own.fram hw hf⟩
theorem DTS.oth {w w0 wi wj:World}{ao:Option Addr}{len cap T:Nat}{co gs gp:Int}{v:Value}{rs:List DRow}(h:DTS w w0 wi ao len cap T co gs gp v rs)(hw:w.heap.size<w0.heap.size)(hT:w0.heap.size<T)(ho:Other w wi wj)(hc:Cur w wj ao len cap):DTS w w0 wj ao len cap T co gs gp v rs :=
 h.go hw hT ((Fram.refl w wi).other ho hc) hc
abbrev rwO (u:Value)(ru:Int):Obj:= .cells #[u,.int .i64 ru] 59 (0,0)
abbrev clO (sp al:Int)(v:Value):Obj:= .cells #[.int .i64 sp,.int .i64 al,v] 61 (0,0)
structure RSt (w s wi:World)(ao:Option Addr)(len cap:Nat)(cs:List C3)(u:Value)(ru:Int):Prop where
 cur:Cur w wi ao len cap
 fram:Fram w s wi
 var:wi.heap[s.heap.size]?=some (rwO u ru)
 own:OwnRow s.heap.size wi ⟨cs,u,ru⟩
 ap:(cs.map (·.2.2)).Pairwise apart
theorem RSt.go {w s wi wj:World}{ao:Option Addr}{len cap:Nat}{cs:List C3}{u:Value}{ru:Int}(h:RSt w s wi ao len cap cs u ru)(hw:w.heap.size<s.heap.size)(hf:Fram w wi wj)(hc:Cur w wj ao len cap):RSt w s wj ao len cap cs u ru :=
 ⟨hc,h.fram.trans hf,(hf.2 _ (glt h.var) (by omega)).trans h.var,h.own.fram hw hf,h.ap⟩
theorem RSt.oth {w s wi wj:World}{ao:Option Addr}{len cap:Nat}{cs:List C3}{u:Value}{ru:Int}(h:RSt w s wi ao len cap cs u ru)(hw:w.heap.size<s.heap.size)(ho:Other w wi wj)(hc:Cur w wj ao len cap):RSt w s wj ao len cap cs u ru :=
 h.go hw ((Fram.refl w wi).other ho hc) hc
theorem OwnRow.nil (B:Nat)(w:World)(ru:Int):OwnRow B w ⟨[],.slice none 0 0,ru⟩ where
 own:=World.ownsRow_nil _ _ _ _
 len:=Nat.zero_le _
 nds:=fun c hc=>absurd hc (by simp)
theorem RSt.start {w s:World}{ao:Option Addr}{len cap:Nat}(hc:Cur w s ao len cap):RSt w s (s.alloc (rwO (.slice none 0 0) 0)) ao len cap [] (.slice none 0 0) 0 :=
 ⟨hc.alloc _,(Fram.refl w s).alloc _,heap_alloc_new s _,OwnRow.nil _ _ _,List.Pairwise.nil⟩
theorem Cur.grown {w wi wj:World}{ao:Option Addr}{len cap:Nat}{row:Option Nat}(h:Cur w wi ao len cap)(hg:wi.grownBy wj row)(hb:∀g,row=some g->w.heap.size<g):Cur w wj ao len cap:=by
 obtain⟨j,x,h1,h2,h3,h4⟩:=h
 have hl:=(glt h3)
 exact⟨j,x,h1,h2,(hg.block _ hl (fun e=>by have:=hb _ e.symm;omega)).trans h3,Below.grown h4 hg h4.size fun g hg'=>by have:=hb g hg';omega⟩
theorem Fram.grown {w s wi wj:World}{row:Option Nat}(h:Fram w s wi)(hg:wi.grownBy wj row)(hb:∀g,row=some g->s.heap.size<=g):Fram w s wj :=
 ⟨Nat.le_trans h.1 hg.size,fun b hb' hne=>(hg.block b (Nat.lt_of_lt_of_le hb' h.1) (fun e=>by have:=hb _ e.symm;omega)).trans (h.2 b hb' hne)⟩
theorem Fram.put {w s wi:World}{G:Nat}(h:Fram w s wi)(hG:s.heap.size<=G)(j:Nat)(x:Value):Fram w s (wi.setCell ⟨G,j,none⟩ x) :=
 ⟨by simpa [World.setCell] using h.1,fun b hb hne=>(Below.heap_setCell _ _ _ _ (show b≠G by omega)).trans (h.2 b hb hne)⟩
theorem RSt.putRu {w s wi:World}{ao:Option Addr}{len cap:Nat}{cs:List C3}{u:Value}{ru:Int}(h:RSt w s wi ao len cap cs u ru)(hw:w.heap.size<s.heap.size)(x:Int):RSt w s (wi.setCell ⟨s.heap.size,1,none⟩ (.int .i64 x)) ao len cap cs u x :=
 have ho:=h.own.other (w':=wi.setCell ⟨s.heap.size,1,none⟩ (.int .i64 x)) h.var (by decide) (by decide) (fun g hg=>Below.heap_setCell _ _ _ _ hg)
 ⟨h.cur.set hw _ _,h.fram.put (Nat.le_refl _) _ _,heap_setCell_same _ _ 1 _ 59 _ h.var,⟨ho.own,ho.len,ho.nds⟩,h.ap⟩
theorem RSt.lts {w s wi:World}{ao:Option Addr}{len cap:Nat}{cs:List C3}{u:Value}{ru:Int}(h:RSt w s wi ao len cap cs u ru):∀c∈cs,∀g,c.2.2.ownBlock=some g->g<wi.heap.size:=fun c hc g hg=>by
 obtain⟨n,_,hn⟩:=h.own.nds c hc
 exact(hn.kind hg).2.1
theorem RSt.app {w s wi wj:World}{ao:Option Addr}{len cap b n:Nat}{cs:List C3}{u u' v:Value}{ru sp al:Int}(h:RSt w s wi ao len cap cs u ru)(hw:w.heap.size<s.heap.size)(hg:wi.grownBy wj u.ownBlock)(ho:wj.ownsRow s.heap.size 61 3 u' (cs.length+1) (flatC (cs++[(sp,al,v)])))(hv:OwnN wi b v n)(hn:n<=20)(hl:cs.length+1<=5)(hb:s.heap.size<=b)(hlt:∀c∈cs,∀g,c.2.2.ownBlock=some g->g<b) :
 RSt w s (wj.setCell ⟨s.heap.size,0,none⟩ u') ao len cap (cs++[(sp,al,v)]) u' ru:=by
 have hub:∀g,u.ownBlock=some g->s.heap.size<=g:=fun g hgu=>(h.own.own.lt g hgu).1
 have hvs:OwnN wi s.heap.size v n:=by
  obtain⟨xs,h1,h2⟩:=hv
  exact⟨xs,h1,own_mon h2 hb⟩
 have hne:u.ownBlock≠some s.heap.size:=fun e=>by
  obtain⟨c,hc⟩:=own_cells_block h.own.own e
  rw[h.var] at hc
  simp at hc
 have hvar:wj.heap[s.heap.size]?=some (rwO u ru):=(grownBy_at hg (glt h.var) hne).trans h.var
 have hown:=(h.own.app hg ho hvs hn hl).other (w':=wj.setCell ⟨s.heap.size,0,none⟩ u') hvar (by decide) (by decide) (fun g hg=>Below.heap_setCell _ _ _ _ hg)
 refine⟨(h.cur.grown hg (fun g hgu=>by have:=hub g hgu;omega)).set hw _ _,(h.fram.grown hg hub).put (Nat.le_refl _) _ _,heap_setCell_same _ _ 0 _ 59 _ hvar,hown,?_⟩
 rw[List.map_append,List.pairwise_append]
 refine⟨h.ap,by simp,fun x hx y hy g hgx hgy=>?_⟩
 obtain⟨c,hc,rfl⟩:=List.mem_map.1 hx
 simp only[List.map_cons,List.map_nil,List.mem_cons,List.not_mem_nil,or_false] at hy
 subst hy
 have h1:=hlt c hc g hgx
 have h2:=(hv.kind hgy).1
 omega
theorem DTS.app {w w0 s wi wj:World}{ao:Option Addr}{len cap T:Nat}{co gs gp:Int}{v v' u:Value}{rs:List DRow}{cs:List C3}{ru:Int}(h:DTS w w0 s ao len cap T co gs gp v rs)(hr:RSt w s wi ao len cap cs u ru)(hw:w.heap.size<w0.heap.size)(hT:w0.heap.size<T)(hg:wi.grownBy wj v.ownBlock)(ho:wj.ownsRow w0.heap.size 59 2 v' (rs.length+1) (flatR (rs++[⟨cs,u,ru⟩])))(hl:rs.length+1<=5) :
 DTS w w0 (wj.setCell ⟨T,6,none⟩ v') ao len cap T co gs gp v' (rs++[⟨cs,u,ru⟩]):=by
 have hi:=h.go hw hT hr.fram hr.cur
 have hvb:∀g,v.ownBlock=some g->w0.heap.size<=g:=fun g hgv=>(h.own.own.lt g hgv).1
 have hne:∀(g:Nat) (c:Array Value),wi.heap[g]?=some (.cells c 52 (0,0))->v.ownBlock≠some g:=fun g c hc e=>by
  obtain⟨c',hc'⟩:=own_cells_block hi.own.own e
  rw[hc] at hc'
  simp at hc'
 have htab:wj.heap[T]?=some (tbO co gs gp 0 0 0 v):=(grownBy_at hg (glt hi.tab) (hne _ _ hi.tab)).trans hi.tab
 have hres:wj.heap[w0.heap.size]?=some (tbO 0 0 0 0 0 0 (.slice none 0 0)):=(grownBy_at hg (glt hi.res) (hne _ _ hi.res)).trans hi.res
 have hown:=(h.own.app hi.own hr.own (Nat.le_refl _) h.fram.1 hr.ap hg ho hl).other (w':=wj.setCell ⟨T,6,none⟩ v') htab (by decide) (by decide) (by decide) (fun g hg=>Below.heap_setCell _ _ _ _ hg)
 exact⟨(hi.cur.grown hg (fun g hgv=>by have:=hvb g hgv;omega)).set (by omega) _ _,(hi.fram.grown hg hvb).put (by omega) _ _,(Below.heap_setCell _ _ _ _ (show w0.heap.size≠T by omega)).trans hres,heap_setCell_same _ _ 6 _ 52 _ htab,hown⟩
theorem RSt.above {w s wj wi:World}{ao:Option Addr}{len cap K:Nat}{cs:List C3}{u:Value}{ru:Int}(h0:RSt w s wj ao len cap cs u ru)(h:RSt w s wi ao len cap cs u ru)(hw:w.heap.size<s.heap.size)(hK:wj.heap.size<=K)(j:Nat)(x:Value):RSt w s (wi.setCell ⟨K,j,none⟩ x) ao len cap cs u ru:=by
 have hs:s.heap.size<wj.heap.size:=(glt h0.var)
 refine⟨h.cur.set (by omega) _ _,h.fram.put (by omega) _ _,(Below.heap_setCell _ _ _ _ (show s.heap.size≠K by omega)).trans h.var,h.own.same (fun g hg=>Below.heap_setCell _ _ _ _ ?_) (fun c hc g hg=>Below.heap_setCell _ _ _ _ ?_),h.ap⟩
 ·have:=(h0.own.own.lt g hg).2
  show g≠K
  omega
 ·have:=h0.lts c hc g hg
  show g≠K
  omega
theorem OwnN.otherT {B n T ty:Nat}{w:World}{v:Value}{c:Array Value}(h:OwnN w B v n)(hT:w.heap[T]?=some (.cells c ty (0,0)))(h2:ty≠36)(j:Nat)(x:Value):OwnN (w.setCell ⟨T,j,none⟩ x) B v n :=
 h.same fun g hg=>Below.heap_setCell _ _ _ _ (fun e=>by
  have e:g=T:=e
  subst e
  obtain⟨_,_,cs,hc⟩:=h.kind hg
  rw[hc] at hT
  simp at hT
  exact h2 hT.2.symm)
theorem OwnN.bel {B n:Nat}{w w':World}{v:Value}(h:OwnN w B v n)(hb:Below w.heap.size w w'):OwnN w' B v n:=h.same fun g hg=>hb.block g (h.kind hg).2.1
theorem RSt.bel {w s wi wj:World}{ao:Option Addr}{len cap:Nat}{cs:List C3}{u:Value}{ru:Int}(h:RSt w s wi ao len cap cs u ru)(hw:w.heap.size<s.heap.size)(hb:Below wi.heap.size wi wj):RSt w s wj ao len cap cs u ru :=
 h.go hw (Fram.ofBel hb) (h.cur.bel hb)
end Go.Proofs.YtbbehmcekbnkiaaGreat
namespace Go.Proofs.YtbbehmcekbnkiaaGreat
open Go.RowKit
set_option linter.unusedVariables false
set_option linter.unusedSimpArgs false
theorem set_map_same {α β:Type}(d:α)(f:α->β){l:List α}{i:Nat}{x:α}(hi:i<l.length)(h:f x=f (l.getD i d)):(l.set i x).map f=l.map f:=by
 refine List.ext_getElem (by simp) fun k h1 h2=>?_
 simp only[List.getElem_map,List.getElem_set]
 split
 ·rename_i e
  subst e
  rw[h]
  simp[List.getD,List.getElem?_eq_getElem hi]
 ·rfl
theorem lists_map (rs:List DRow):listsOf rs=(rs.map (fun r=>r.cs.map (·.2.2))).flatten:=by
 unfold listsOf
 rw[List.flatMap_def]
theorem getD_is {α:Type}(d:α){l:List α}{i:Nat}(h:i<l.length):l.getD i d=l[i]:=by simp[List.getD,List.getElem?_eq_getElem h]
theorem OwnTab.two {B i k:Nat}{w:World}{v:Value}{rs:List DRow}(h:OwnTab B w v rs)(hi:i<rs.length)(hk:k<rs.length)(hne:k≠i):apart (rs.getD k DRow.none).u (rs.getD i DRow.none).u:=by
 have hp:=List.pairwise_iff_getElem.1 h.apC
 rw[getD_is _ hi,getD_is _ hk]
 by_cases hlt:k<i
 ·have:=hp k i (by simpa using hk) (by simpa using hi) hlt
  simpa using this
 ·have:=hp i k (by simpa using hi) (by simpa using hk) (by omega)
  exact apart.symm (by simpa using this)
theorem mem_set_cases {α:Type}(d:α){l:List α}{i:Nat}{x y:α}(h:y∈l.set i x):(y=x/\i<l.length)\/∃k,k<l.length/\k≠i/\y=l.getD k d:=by
 obtain⟨k,hk,e⟩:=List.mem_iff_getElem.1 h
 rw[List.length_set] at hk
 rw[List.getElem_set] at e
 split at e
 ·rename_i e2
  exact .inl ⟨e.symm,by omega⟩
 ·rename_i e2
  exact .inr ⟨k,hk,fun h=>e2 h.symm,by rw[getD_is _ hk];exact e.symm⟩
theorem ownG_set {base e s g n cap:Nat}{w:World}{xs:List Value}(h:w.ownsRow base e s (.slice (some ⟨g,0,none⟩) n cap) n xs)(j:Nat)(x:Value):(w.setCell ⟨g,j,none⟩ x).ownsRow base e s (.slice (some ⟨g,0,none⟩) n cap) n (xs.set j x):=by
 simpa using(World.ownsRow.stored h j x).1
theorem OwnTab.putRu {B g n c i:Nat}{w:World}{rs:List DRow}(h:OwnTab B w (.slice (some ⟨g,0,none⟩) n c) rs)(hn:n=rs.length)(hi:i<rs.length)(x:Int):OwnTab B (w.setCell ⟨g,i*2+1,none⟩ (.int .i64 x)) (.slice (some ⟨g,0,none⟩) n c) (rs.set i { rs.getD i DRow.none with ru:=x }):=by
 subst hn
 obtain⟨cur,hc⟩:=own_cells_block h.own (show (Value.slice (some ⟨g,0,none⟩) rs.length c).ownBlock=some g from rfl)
 have hrow:∀r,OwnRow B w r->OwnRow B (w.setCell ⟨g,i*2+1,none⟩ (.int .i64 x)) r:=fun r hr=>hr.other hc (by decide) (by decide) (fun g' hg'=>Below.heap_setCell _ _ _ _ hg')
 refine⟨?_,by rw[List.length_set];exact h.len,fun r hr=>?_,?_,?_⟩
 ·rw[List.length_set,<-flatR_ru _ _ _ hi]
  exact ownG_set h.own _ _
 ·rcases mem_set_cases DRow.none hr with ⟨rfl,_⟩ | ⟨k,hk,_,rfl⟩
  ·have:=hrow _ (h.row _ (getD_mem DRow.none hi))
   exact⟨this.own,this.len,this.nds⟩
  ·exact hrow _ (h.row _ (getD_mem DRow.none hk))
 ·rw[lists_map,set_map_same DRow.none _ hi,<-lists_map]
  ·exact h.apN
  ·rfl
 ·rw[set_map_same DRow.none _ hi]
  ·exact h.apC
  ·rfl
theorem OwnTab.putCell {B i g n c q:Nat}{w:World}{v x:Value}{rs:List DRow}{cs':List C3}(h:OwnTab B w v rs)(hi:i<rs.length)(hu:(rs.getD i DRow.none).u = .slice (some ⟨g,0,none⟩) n c)(hcs:(flatC (rs.getD i DRow.none).cs).set q x=flatC cs')(hl:cs'.map (·.2.2)=(rs.getD i DRow.none).cs.map (·.2.2)):OwnTab B (w.setCell ⟨g,q,none⟩ x) v (rs.set i { rs.getD i DRow.none with cs:=cs' }):=by
 have hr:=h.row _ (getD_mem DRow.none hi)
 have hgb:(rs.getD i DRow.none).u.ownBlock=some g:=by rw[hu];rfl
 obtain⟨cur,hc⟩:=own_cells_block hr.own hgb
 have hlen:cs'.length=(rs.getD i DRow.none).cs.length:=by
  have:=congrArg List.length hl
  simpa using this
 have hnd:∀(y:Value) (m:Nat),OwnN w B y m->OwnN (w.setCell ⟨g,q,none⟩ x) B y m:=fun y m hy=>hy.otherT hc (by decide) _ _
 have hn:n=(rs.getD i DRow.none).cs.length:=by
  have:=hr.own
  rw[hu] at this
  obtain⟨a,c2,e⟩:=ownG_shape this
  simp only[Value.slice.injEq] at e
  exact e.2.1
 refine⟨?_,by rw[List.length_set];exact h.len,fun r hr2=>?_,?_,?_⟩
 ·rw[List.length_set,show flatR (rs.set i { rs.getD i DRow.none with cs:=cs' })=flatR rs by
   have hf:∀l:List DRow,flatR l=(l.map (fun r=>[r.u,Value.int .i64 r.ru])).flatten:=fun l=>by
    induction l with
    | nil=>rfl
    | cons a l ih=>simp only[flatR,List.map_cons,List.flatten_cons,ih];rfl
   rw[hf,hf,set_map_same DRow.none _ hi]
   rfl]
  exact ownG_same h.own fun g' hg'=>Below.heap_setCell _ _ _ _ (fun e=>by
   have e:g'=g:=e
   subst e
   obtain⟨c',hc'⟩:=own_cells_block h.own hg'
   rw[hc] at hc'
   simp at hc')
 ·rcases mem_set_cases DRow.none hr2 with ⟨rfl,_⟩ | ⟨k,hk,hki,rfl⟩
  ·refine⟨?_,by simp only[hlen];exact hr.len,fun y hy=>?_⟩
   ·show (w.setCell ⟨g,q,none⟩ x).ownsRow B 61 3 (rs.getD i DRow.none).u cs'.length (flatC cs')
    have ho:=hr.own
    rw[hu,<-hn] at ho
    rw[hu,<-hcs,hlen,<-hn]
    exact ownG_set ho _ _
   ·have hy2:y.2.2∈(rs.getD i DRow.none).cs.map (·.2.2):=by rw[<-hl];exact List.mem_map_of_mem hy
    obtain⟨z,hz,e⟩:=List.mem_map.1 hy2
    obtain⟨m,hm,ho⟩:=hr.nds z hz
    rw[e] at ho
    exact⟨m,hm,hnd _ _ ho⟩
  ·have hrk:=h.row _ (getD_mem DRow.none hk)
   refine⟨ownG_same hrk.own fun g' hg'=>Below.heap_setCell _ _ _ _ (fun e=>?_),hrk.len,fun y hy=>?_⟩
   ·have e:g'=g:=e
    subst e
    exact h.two hi hk hki _ hg' hgb
   ·obtain⟨m,hm,ho⟩:=hrk.nds y hy
    exact⟨m,hm,hnd _ _ ho⟩
 ·rw[lists_map,set_map_same DRow.none _ hi,<-lists_map]
  ·exact h.apN
  ·exact hl
 ·rw[set_map_same DRow.none _ hi]
  ·exact h.apC
  ·rfl
theorem OwnTab.spoil {B i j n:Nat}{w w':World}{v:Value}{rs:List DRow}(h:OwnTab B w v rs)(hi:i<rs.length)(hj:j<(rs.getD i DRow.none).cs.length)(hk:∀g,B<=g->g<w.heap.size->((rs.getD i DRow.none).cs.getD j C3z).2.2.ownBlock≠some g->w'.heap[g]?=w.heap[g]?)(ho:OwnN w' B ((rs.getD i DRow.none).cs.getD j C3z).2.2 n)(hn:n<=20):OwnTab B w' v rs:=by
 have hr:=h.row _ (getD_mem DRow.none hi)
 obtain⟨m0,_,hv⟩:=hr.nds _ (getD_mem C3z hj)
 obtain⟨x,hx⟩:=exq (((rs.getD i DRow.none).cs.getD j C3z).2.2)
 rw[<-hx] at hk ho hv
 have hmem:x∈listsOf rs:=by
  unfold listsOf
  refine List.mem_flatMap.2 ⟨_,getD_mem DRow.none hi,List.mem_map.2 ⟨_,getD_mem C3z hj,hx.symm⟩⟩
 have hne:∀(g ty:Nat) (c:Array Value),w.heap[g]?=some (.cells c ty (0,0))->ty≠36->x.ownBlock≠some g:=fun g ty c hc ht e=>by
  obtain⟨_,_,c',hc'⟩:=hv.kind e
  rw[hc] at hc'
  simp at hc'
  exact ht hc'.2
 have hall:∀y∈listsOf rs,∀z∈listsOf rs,y=z\/apart y z :=
  fun y hy z hz=>List.Pairwise.forall_of_forall_of_flip (R:=fun y z=>y=z\/apart y z) (fun _ _=> .inl rfl) (h.apN.imp fun h=> .inr h) (h.apN.imp fun h=> .inr h.symm) hy hz
 refine⟨ownG_same h.own fun g hg=>?_,h.len,fun r hr2=>⟨ownG_same (h.row r hr2).own fun g hg=>?_,(h.row r hr2).len,fun y hy=>?_⟩,h.apN,h.apC⟩
 ·obtain⟨c,hc⟩:=own_cells_block h.own hg
  exact hk g (h.own.lt g hg).1 (h.own.lt g hg).2 (hne g 59 c hc (by decide))
 ·obtain⟨c,hc⟩:=own_cells_block (h.row r hr2).own hg
  exact hk g ((h.row r hr2).own.lt g hg).1 ((h.row r hr2).own.lt g hg).2 (hne g 61 c hc (by decide))
 ·obtain⟨m,hm,hoy⟩:=(h.row r hr2).nds y hy
  have hym:y.2.2∈listsOf rs:=List.mem_flatMap.2 ⟨r,hr2,List.mem_map.2 ⟨y,hy,rfl⟩⟩
  rcases hall x hmem y.2.2 hym with e|ha
  ·rw[<-e]
   exact⟨n,hn,ho⟩
  ·exact⟨m,hm,hoy.same fun g hg=>hk g (hoy.kind hg).1 (hoy.kind hg).2.1 (fun e=>ha g e hg)⟩
structure DTQ (w w0 wi:World)(ao:Option Addr)(len cap T:Nat)(co gs gp gpo gm gmo:Int)(v:Value)(rs:List DRow):Prop where
 cur:Cur w wi ao len cap
 fram:Fram w w0 wi
 res:wi.heap[w0.heap.size]?=some (tbO 0 0 0 0 0 0 (.slice none 0 0))
 tab:wi.heap[T]?=some (tbO co gs gp gpo gm gmo v)
 own:OwnTab w0.heap.size wi v rs
def DTE (w w0 wi:World)(ao:Option Addr)(len cap T:Nat):Prop:=∃co gs gp gpo gm gmo v rs,DTQ w w0 wi ao len cap T co gs gp gpo gm gmo v rs
section
variable {w w0 wi wj : World} {ao : Option Addr} {len cap T : Nat} {co gs gp gpo gm gmo : Int} {v : Value} {rs : List DRow}
theorem DTQ.go (h:DTQ w w0 wi ao len cap T co gs gp gpo gm gmo v rs)(hw:w.heap.size<w0.heap.size)(hT:w0.heap.size<T)(hf:Fram w wi wj)(hc:Cur w wj ao len cap):DTQ w w0 wj ao len cap T co gs gp gpo gm gmo v rs :=
 ⟨hc,h.fram.trans hf,(hf.2 _ (glt h.res) (by omega)).trans h.res,(hf.2 _ (glt h.tab) (by omega)).trans h.tab,h.own.fram hw hf⟩
theorem DTQ.oth (h:DTQ w w0 wi ao len cap T co gs gp gpo gm gmo v rs)(hw:w.heap.size<w0.heap.size)(hT:w0.heap.size<T)(ho:Other w wi wj)(hc:Cur w wj ao len cap):DTQ w w0 wj ao len cap T co gs gp gpo gm gmo v rs :=
 h.go hw hT ((Fram.refl w wi).other ho hc) hc
theorem DTQ.bel (h:DTQ w w0 wi ao len cap T co gs gp gpo gm gmo v rs)(hw:w.heap.size<w0.heap.size)(hT:w0.heap.size<T)(hb:Below wi.heap.size wi wj):DTQ w w0 wj ao len cap T co gs gp gpo gm gmo v rs :=
 h.go hw hT (Fram.ofBel hb) (h.cur.bel hb)
theorem DTQ.var (h:DTQ w w0 wi ao len cap T co gs gp gpo gm gmo v rs)(hw:w.heap.size<w0.heap.size)(hT:w0.heap.size<T)(j:Nat)(x:Value){co' gs' gp' gpo' gm' gmo':Int}(ht:(wi.setCell ⟨T,j,none⟩ x).heap[T]?=some (tbO co' gs' gp' gpo' gm' gmo' v)):DTQ w w0 (wi.setCell ⟨T,j,none⟩ x) ao len cap T co' gs' gp' gpo' gm' gmo' v rs :=
 ⟨h.cur.set (by omega) _ _,h.fram.put (by omega) _ _,(Below.heap_setCell _ _ _ _ (show w0.heap.size≠T by omega)).trans h.res,ht,h.own.other h.tab (by decide) (by decide) (by decide) (fun g hg=>Below.heap_setCell _ _ _ _ hg)⟩
theorem DTQ.put (h:DTQ w w0 wi ao len cap T co gs gp gpo gm gmo v rs)(hw:w.heap.size<w0.heap.size){G ty j:Nat}{c:Array Value}{x:Value}{rs':List DRow}(hG:w0.heap.size<=G)(hc:wi.heap[G]?=some (.cells c ty (0,0)))(ht:ty≠52)(ho:OwnTab w0.heap.size (wi.setCell ⟨G,j,none⟩ x) v rs'):DTQ w w0 (wi.setCell ⟨G,j,none⟩ x) ao len cap T co gs gp gpo gm gmo v rs':=by
 have hne:∀(Z:Nat) (o:Obj) (c':Array Value),o = .cells c' 52 (0,0)->wi.heap[Z]?=some o->(wi.setCell ⟨G,j,none⟩ x).heap[Z]?=some o:=fun Z o c' e hz=>(Below.heap_setCell _ _ _ _ (fun e2=>by
  have e2:Z=G:=e2
  subst e2
  rw[hz,e] at hc
  simp at hc
  exact ht hc.2.symm)).trans hz
 exact⟨h.cur.set (by omega) _ _,h.fram.put hG _ _,hne _ _ _ rfl h.res,hne _ _ _ rfl h.tab,ho⟩
end
end Go.Proofs.YtbbehmcekbnkiaaGreat

import Derived.Test.YtbbehmcekbnkiaaGreatDls
import Derived.OwnWalk
import Derived.Laws.OwnMore
import Derived.Test.YtbbehmcekbnkiaaGreatSdp
import Derived.Test.YtbbehmcekbnkiaaGreatOutD
namespace Go.Proofs.YtbbehmcekbnkiaaGreat
open Go.RowKit
set_option linter.unusedVariables false
set_option linter.unusedSimpArgs false
theorem flatN_setc:∀(xs:List Nd) (p:Nat),p<xs.length→∀(y:Nd) (o:Nat) (v:Value),o<15→y.cells=(xs.getD p Nd.none).cells.set o v→flatN (xs.set p y)=(flatN xs).set (p*15+o) v
 | [],p,h,_,_,_,_,_=>by simp at h
 | x :: xs,0,h,y,o,v,ho,hy=>by
  simp only[List.getD_cons_zero] at hy
  simp only[List.set_cons_zero,flatN,hy]
  rw[List.set_append_left _ _ (by rw[cells_len];omega)]
  simp
 | x :: xs,p+1,h,y,o,v,ho,hy=>by
  simp only[List.getD_cons_succ] at hy
  have ih:=flatN_setc xs p (by simpa using h) y o v ho hy
  simp only[List.set_cons_succ,flatN,ih]
  rw[List.set_append_right _ _ (by rw[cells_len];omega),cells_len]
  congr 2
  omega
theorem nd_putI (x:Nd) (s:Int) {o:Nat} (ho:o<15) (h13:o≠13):∃y:Nd,y.cells=x.cells.set o (.int .i64 s):=by
 rcases (show o=0∨o=1∨o=2∨o=3∨o=4∨o=5∨o=6∨o=7∨o=8∨o=9∨o=10∨o=11∨o=12∨o=14 by omega) with rfl | rfl | rfl | rfl | rfl | rfl | rfl | rfl | rfl | rfl | rfl | rfl | rfl | rfl
 ·exact⟨{ x with k:=s },rfl⟩
 ·exact⟨{ x with wd:=s },rfl⟩
 ·exact⟨{ x with ht:=s },rfl⟩
 ·exact⟨{ x with dp:=s },rfl⟩
 ·exact⟨{ x with sh:=s },rfl⟩
 ·exact⟨{ x with fo:=s },rfl⟩
 ·exact⟨{ x with ch:=s },rfl⟩
 ·exact⟨{ x with nn:=s },rfl⟩
 ·exact⟨{ x with gs:=s },rfl⟩
 ·exact⟨{ x with gp:=s },rfl⟩
 ·exact⟨{ x with gpo:=s },rfl⟩
 ·exact⟨{ x with gm:=s },rfl⟩
 ·exact⟨{ x with gmo:=s },rfl⟩
 ·exact⟨{ x with kids:=s },rfl⟩
section
variable {w:World} {base g n cap p o:Nat}
theorem OwnN.putI (h:OwnN w base (.slice (some ⟨g,0,none⟩) n cap) n) (hp:p<n) (ho:o<15) (h13:o≠13) (s:Int):OwnN (w.setCell ⟨g,p*15+o,none⟩ (.int .i64 s)) base (.slice (some ⟨g,0,none⟩) n cap) n:=by
 obtain⟨xs,hl,hx⟩:=h
 obtain⟨y,hy⟩:=nd_putI (xs.getD p Nd.none) s ho h13
 exact⟨xs.set p y,by rw[List.length_set];exact hl,by rw[flatN_setc xs p (by omega) y o _ ho hy];exact own_set hx _ _⟩
theorem OwnN.putS (h:OwnN w base (.slice (some ⟨g,0,none⟩) n cap) n) (hp:p<n) (s:ByteArray):OwnN (w.setCell ⟨g,p*15+13,none⟩ (.string s)) base (.slice (some ⟨g,0,none⟩) n cap) n:=by
 obtain⟨xs,hl,hx⟩:=h
 exact⟨xs.set p { xs.getD p Nd.none with tx:=s },by rw[List.length_set];exact hl,by rw[flatN_setc xs p (by omega) _ 13 (.string s) (by omega) rfl];exact own_set hx _ _⟩
theorem OwnN.cellI (h:OwnN w base (.slice (some ⟨g,0,none⟩) n cap) n) (hp:p<n) (ho:o<15) (h13:o≠13):∃s:Int,w.cell? ⟨g,p*15+o,none⟩=some (.int .i64 s)∧w.frozen? ⟨g,p*15+o,none⟩=false:=by
 obtain⟨xs,hl,hx⟩:=h
 have key:∃s:Int,(xs.getD p Nd.none).cells[o]? = some (.int .i64 s):=by
  rcases (show o=0∨o=1∨o=2∨o=3∨o=4∨o=5∨o=6∨o=7∨o=8∨o=9∨o=10∨o=11∨o=12∨o=14 by omega) with rfl | rfl | rfl | rfl | rfl | rfl | rfl | rfl | rfl | rfl | rfl | rfl | rfl | rfl <;> exact⟨_,rfl⟩
 obtain⟨s,hs⟩:=key
 exact⟨s,own_cell hx (flatN_at xs p (by omega) o ho hs)⟩
theorem OwnN.cellS (h:OwnN w base (.slice (some ⟨g,0,none⟩) n cap) n) (hp:p<n):∃s:ByteArray,w.cell? ⟨g,p*15+13,none⟩=some (.string s)∧w.frozen? ⟨g,p*15+13,none⟩=false:=by
 obtain⟨xs,hl,hx⟩:=h
 exact⟨_,own_cell hx (flatN_at xs p (by omega) 13 (by omega) (u:= .string (xs.getD p Nd.none).tx) rfl)⟩
end
def FramX (w:World) (v:Value) (wi wj:World):Prop:=wi.heap.size≤wj.heap.size∧∀b,b<wi.heap.size→b≠w.heap.size→v.ownBlock≠some b→wj.heap[b]? = wi.heap[b]?
def Ret (e:Ending):Prop:=∃r,e = .returned r
def DS (w wr wi:World) (ao:Option Addr) (len cap base:Nat) (v:Value) (n:Nat):Prop:=Cur w wi ao len cap∧Fram w wr wi∧OwnN wi base v n
section
variable {w wr wi wj:World} {ao:Option Addr} {len cap base n g c:Nat} {v:Value}
theorem DS.fram (h:DS w wr wi ao len cap base v n) (hw:w.heap.size<base) (hf:Fram w wi wj) (hc:Cur w wj ao len cap):DS w wr wj ao len cap base v n:=⟨hc,h.2.1.trans hf,h.2.2.fram hw hf⟩
theorem DS.other (h:DS w wr wi ao len cap base v n) (hw:w.heap.size<base) (ho:Other w wi wj) (hc:Cur w wj ao len cap):DS w wr wj ao len cap base v n:=h.fram hw ⟨Other.size ho hc.lt,fun n _ hne=>ho n hne⟩ hc
theorem DS.bel (h:DS w wr wi ao len cap base v n) (hw:w.heap.size<base) (hb:Below wi.heap.size wi wj):DS w wr wj ao len cap base v n:=h.fram hw (Fram.ofBel hb) (h.1.bel hb)
theorem DS.put (h:DS w wr wi ao len cap base (.slice (some ⟨g,0,none⟩) n c) n) (hw:w.heap.size<base) (j:Nat) (x:Value) (ho:OwnN (wi.setCell ⟨g,j,none⟩ x) base (.slice (some ⟨g,0,none⟩) n c) n):Cur w (wi.setCell ⟨g,j,none⟩ x) ao len cap∧FramX w (.slice (some ⟨g,0,none⟩) n c) wr (wi.setCell ⟨g,j,none⟩ x)∧OwnN (wi.setCell ⟨g,j,none⟩ x) base (.slice (some ⟨g,0,none⟩) n c) n:=by
 have hg:base≤g:=by
  obtain⟨xs,_,hx⟩:=h.2.2
  exact (own_lt hx rfl).1
 refine⟨h.1.set (by omega) _ _,⟨by simpa [World.setCell] using h.2.1.1,fun b hb hne hv=>?_⟩,ho⟩
 exact (Below.heap_setCell _ _ _ _ (fun e=>hv (by rw[e];rfl))).trans (h.2.1.2 b hb hne)
end
theorem Tryz.info5b:(Tryz.prog.info? 5).map (fun i=>(i.zero,i.size,i.bytes))=some (some (.int .u8 0),1,1):=by kernel_rfl
theorem made_bytes (m:Nat):(madeCells (Value.cells (.int .u8 0)) (m*1)).toList=(List.replicate m (0:Int)).map (Value.int .u8):=by
 apply List.ext_getElem
 ·simp[madeCells]
 ·intro i h1 h2
  simp only[madeCells,Value.cells,Array.toList_map,Array.toList_range,List.getElem_map,List.getElem_range,List.getElem_replicate]
  simp[Nat.mod_one]
theorem conv_made {w:World} {base D n:Nat} (h:w.ownsRow base 5 1 (.slice (some ⟨D,0,none⟩) n n) n (madeCells (Value.cells (.int .u8 0)) (n*1)).toList):∃s:ByteArray,(convert 22 9 (.slice (some ⟨D,0,none⟩) n n)).run Tryz.prog w = .ok (.string s) w:=by
 rw[made_bytes] at h
 refine⟨_,run_convert_bytes_arg w 22 5 Tryz.underlying22 Tryz.underlying5 D 0 n n (List.replicate n 0) (by simp) ?_ 9 Tryz.underlying9⟩
 intro i hi
 obtain⟨hl,⟨h,_⟩ | ⟨g,cap,cur,e,_,hb,hn,hm,hs,hx⟩⟩:=h
 ·simp at h
 ·simp only[Value.slice.injEq,Option.some.injEq,Addr.mk.injEq,and_true,true_and] at e
  obtain⟨rfl,rfl⟩:=e
  rw[Nat.zero_add,cell_of_row w D i cur 5 _ hb,← Array.getElem?_toList]
  have h1:((List.replicate n (0:Int)).map (Value.int .u8))[i]? = some (.int .u8 ((List.replicate n (0:Int)).getD i 0)):=by simp[hi,List.getD]
  rw[← hx,List.getElem?_take] at h1
  split at h1
  ·exact h1
  ·cases h1
set_option maxRecDepth 20000 in
set_option maxHeartbeats 8000000 in
theorem spoil_any {base n:Nat} {v:Value} (ao:Option Addr) (len cap:Nat) (w wr:World) (hB:Bytes w ao len cap) (hC:Cur w wr ao len cap) (hw:w.heap.size<base) (hbs:base≤wr.heap.size) (ho:OwnN wr base v n) (hn:n≤100000) :
 Calls Tryz.prog 55 #[curP w,v] wr fun e w'=>Ret e∧Cur w w' ao len cap∧FramX w v wr w'∧OwnN w' base v n:=by
 have HB:=hideD hB
 have D0:Hid (DS w wr wr ao len cap base v n):=hideP ⟨hC,Fram.refl w wr,ho⟩
 clear hB hC
 obtain⟨i0,hi,hz0,hz1,hz2⟩:=info_parts Tryz.info5b
 by_cases hn0:n=0
 ·subst hn0
  obtain⟨va,vc,hve⟩:=ho.shape
  subst hve
  clear ho
  go_enter Tryz.func55,Tryz.ntmps55
  go_wp2
  refine bodyPost_ret (results_none rfl _ _ _) rfl ?_
  exact⟨⟨_,rfl⟩,D0.out.1,⟨Nat.le_refl _,fun _ _ _ _=>rfl⟩,D0.out.2.2⟩
 ·obtain⟨g,c,hve⟩:∃g c,v = .slice (some ⟨g,0,none⟩) n c:=by
   obtain⟨_,_,h⟩:=ho
   exact own_some h (by omega)
  subst hve
  clear ho
  have hn0i:¬(n:Int)=0:=by omega
  go_enter Tryz.func55,Tryz.ntmps55
  go_wp2_with fail
  refine (belowN_any (n:Int) ao len cap w _ HB.out D0.out.1 (by omega) (by omega)).mono ?_
  rintro e w1 ⟨ji,rfl,j0,j1,c1,o1⟩
  have D1:=hideP (DS.other D0.out hw o1 c1)
  clear D0 c1 o1
  obtain⟨j,rfl⟩:=Int.eq_ofNat_of_zero_le j0
  have hjn:j<n:=by omega
  have hs1:w1.heap.size≠w.heap.size:=by have:=D1.out.1.lt;omega
  have DA:=hideP (DS.bel D1.out hw (below1 w1 (.cells #[.int .i64 1, .int .i64 (-1), .int .i64 1073741823, .int .i64 300] 2)))
  have HSL:=hideP (heap_alloc_new w1 (.cells #[.int .i64 1, .int .i64 (-1), .int .i64 1073741823, .int .i64 300] 2))
  go_wp2_with fail
  refine (belowN_any 4 ao len cap w _ HB.out DA.out.1 (by omega) (by omega)).mono ?_
  rintro e w2 ⟨q,rfl,q0,q1,c2,o2⟩
  have D2:=hideP (DS.other DA.out hw o2 c2)
  have hsl:=(o2 w1.heap.size hs1).trans HSL.out
  clear D1 DA c2 o2 HSL
  obtain⟨qn,rfl⟩:=Int.eq_ofNat_of_zero_le q0
  obtain⟨x,hcx⟩:∃x:Int,w2.cell? ⟨w1.heap.size,qn,none⟩=some (.int .i64 x):=by
   rw[cell_of_row w2 w1.heap.size qn _ 2 (0,0) hsl]
   rcases (show qn=0∨qn=1∨qn=2∨qn=3 by omega) with rfl | rfl | rfl | rfl
   ·exact⟨1,rfl⟩
   ·exact⟨-1,rfl⟩
   ·exact⟨1073741823,rfl⟩
   ·exact⟨300,rfl⟩
  have hqn:(qn:Int)<4:=q1
  clear hsl hs1
  go_wp2_with fail
  refine (belowN_any 8 ao len cap w _ HB.out D2.out.1 (by omega) (by omega)).mono ?_
  rintro e w3 ⟨y,rfl,y0,y1,c3,o3⟩
  have D3:=hideP (DS.other D2.out hw o3 c3)
  clear D2 c3 o3 hcx
  have hgz:g<w3.heap.size:=by
   obtain⟨xs,_,h⟩:=D3.out.2.2
   exact (own_lt h rfl).2.1
  rcases (show y=0∨y=1∨y=2∨y=3∨y=4∨y=5∨y=6∨y=7 by omega) with rfl | rfl | rfl | rfl | rfl | rfl | rfl | rfl
  ·obtain⟨s,hcs,hfs⟩:=D3.out.2.2.cellI hjn (o:=0) (by omega) (by omega)
   have HF:=hideP (DS.put D3.out hw (j*15+0) _ (D3.out.2.2.putI hjn (o:=0) (by omega) (by omega) (wrap64 (s+x))))
   clear D3
   simp only[Nat.add_zero] at hcs hfs HF
   go_wp2
   refine bodyPost_end (results_none rfl _ _ _) rfl ?_
   exact⟨⟨_,rfl⟩,HF.out⟩
  ·obtain⟨s,hcs,hfs⟩:=D3.out.2.2.cellI hjn (o:=1) (by omega) (by omega)
   have HF:=hideP (DS.put D3.out hw (j*15+1) _ (D3.out.2.2.putI hjn (o:=1) (by omega) (by omega) (wrap64 (s+x))))
   clear D3
   go_wp2
   refine bodyPost_end (results_none rfl _ _ _) rfl ?_
   exact⟨⟨_,rfl⟩,HF.out⟩
  ·obtain⟨s,hcs,hfs⟩:=D3.out.2.2.cellI hjn (o:=14) (by omega) (by omega)
   have HF:=hideP (DS.put D3.out hw (j*15+14) _ (D3.out.2.2.putI hjn (o:=14) (by omega) (by omega) (wrap64 (s+x))))
   clear D3
   go_wp2
   refine bodyPost_end (results_none rfl _ _ _) rfl ?_
   exact⟨⟨_,rfl⟩,HF.out⟩
  ·obtain⟨s,hcs,hfs⟩:=D3.out.2.2.cellI hjn (o:=5) (by omega) (by omega)
   have HF:=hideP (DS.put D3.out hw (j*15+5) _ (D3.out.2.2.putI hjn (o:=5) (by omega) (by omega) (wrap64 (s+x))))
   clear D3
   go_wp2
   refine bodyPost_end (results_none rfl _ _ _) rfl ?_
   exact⟨⟨_,rfl⟩,HF.out⟩
  ·obtain⟨s,hcs,hfs⟩:=D3.out.2.2.cellI hjn (o:=7) (by omega) (by omega)
   have HF:=hideP (DS.put D3.out hw (j*15+7) _ (D3.out.2.2.putI hjn (o:=7) (by omega) (by omega) (wrap64 (s+x))))
   clear D3
   go_wp2
   refine bodyPost_end (results_none rfl _ _ _) rfl ?_
   exact⟨⟨_,rfl⟩,HF.out⟩
  ·obtain⟨s,hcs,hfs⟩:=D3.out.2.2.cellI hjn (o:=4) (by omega) (by omega)
   have HF:=hideP (DS.put D3.out hw (j*15+4) _ (D3.out.2.2.putI hjn (o:=4) (by omega) (by omega) (wrap64 (s+x))))
   clear D3
   go_wp2
   refine bodyPost_end (results_none rfl _ _ _) rfl ?_
   exact⟨⟨_,rfl⟩,HF.out⟩
  ·go_wp2_with fail
   refine (belowN_any 2 ao len cap w _ HB.out D3.out.1 (by omega) (by omega)).mono ?_
   rintro e w4 ⟨t,rfl,t0,t1,c4,o4⟩
   have D4:=hideP (DS.other D3.out hw o4 c4)
   clear D3 c4 o4
   obtain⟨tn,rfl⟩:=Int.eq_ofNat_of_zero_le t0
   have hz4:base≤w4.heap.size:=by have:=D4.out.2.1.1;omega
   have hg4:g<w4.heap.size:=by
    obtain⟨xs,_,h⟩:=D4.out.2.2
    exact (own_lt h rfl).2.1
   go_wp2_with (at_make;refine wpList_make_full _ rfl _ _ 22 rfl base 5 i0 (.int .u8 0) 1 Tryz.underlying22 hi hz0 hz1 _ _ _ _ (1000+tn) rfl rfl (by omega) (by omega) (by rw[hz2];omega) (by unfold maxLen;omega) hz4 ?_;intro w5 hown5 hgr5;obtain⟨s5,hs5⟩:=conv_made hown5;have hb5:Below w4.heap.size w4 w5:=Below.grown (Below.refl _ _) hgr5 (Nat.le_refl _) (fun k hk=>by cases hk);have D5:=hideP (DS.bel D4.out hw hb5);obtain⟨st,hct,hft⟩:=D5.out.2.2.cellS hjn;have HF:=hideP (DS.put D5.out hw (j*15+13) _ (D5.out.2.2.putS hjn s5));clear D4 D5 hown5 hgr5 hb5)
   refine bodyPost_end (results_none rfl _ _ _) rfl ?_
   exact⟨⟨_,rfl⟩,HF.out⟩
  ·obtain⟨s,hcs,hfs⟩:=D3.out.2.2.cellI hjn (o:=2) (by omega) (by omega)
   have HF:=hideP (DS.put D3.out hw (j*15+2) _ (D3.out.2.2.putI hjn (o:=2) (by omega) (by omega) (wrap64 (s+x))))
   clear D3
   go_wp2
   refine bodyPost_end (results_none rfl _ _ _) rfl ?_
   exact⟨⟨_,rfl⟩,HF.out⟩
section
variable {w wr wi wj:World} {ao:Option Addr} {len cap n m:Nat} {v v':Value}
theorem FramX.fram (hf:Fram w wr wi) (hx:FramX w v wi wj) (hv:∀g,v.ownBlock=some g→wr.heap.size≤g):Fram w wr wj :=
 ⟨Nat.le_trans hf.1 hx.1,fun b hb hne=>(hx.2 b (Nat.lt_of_lt_of_le hb hf.1) hne (fun e=>by have:=hv b e;omega)).trans (hf.2 b hb hne)⟩
theorem OwnN.ge {base:Nat} (h:OwnN wi base v n):∀g,v.ownBlock=some g→base≤g:=fun g hg=>by
 obtain⟨_,_,h⟩:=h
 exact (own_lt h hg).1
theorem DS.app {xs:List Nd} (hc:Cur w wi ao len cap) (hf:Fram w wr wi) (hb:∀g,v.ownBlock=some g→wr.heap.size≤g) (hw:w.heap.size<wr.heap.size) (hg:wi.grownBy wj v.ownBlock) (ho:wj.ownsRow wr.heap.size 36 15 v' m (flatN xs)) (hx:xs.length=m):DS w wr wj ao len cap wr.heap.size v' m:=by
 obtain⟨j,x,h1,h2,h3,h4⟩:=hc
 have hl:=(Array.getElem?_eq_some_iff.1 h3).1
 refine⟨⟨j,x,h1,h2,(hg.block _ hl (fun e=>by have:=hb _ e.symm;omega)).trans h3,Below.grown h4 hg h4.size fun g hg'=>by have:=hb g hg';omega⟩,⟨Nat.le_trans hf.1 hg.size,fun b hb' hne=>?_⟩,⟨xs,hx,ho⟩⟩
 exact (hg.block b (Nat.lt_of_lt_of_le hb' hf.1) (fun e=>by have:=hb _ e.symm;omega)).trans (hf.2 b hb' hne)
end
def CF (w wr wi:World) (ao:Option Addr) (len cap:Nat):Prop:=Cur w wi ao len cap∧Fram w wr wi
theorem CF.other {w wr wi wj:World} {ao:Option Addr} {len cap:Nat} (h:CF w wr wi ao len cap) (ho:Other w wi wj) (hc:Cur w wj ao len cap):CF w wr wj ao len cap:=⟨hc,Fram.other h.2 ho hc⟩
theorem CF.fram {w wr wi wj:World} {ao:Option Addr} {len cap:Nat} (h:CF w wr wi ao len cap) (hf:Fram w wi wj) (hc:Cur w wj ao len cap):CF w wr wj ao len cap:=⟨hc,h.2.trans hf⟩
set_option maxRecDepth 20000 in
set_option maxHeartbeats 8000000 in
theorem drawMode_any (ao:Option Addr) (len cap:Nat) (w w0:World) (hB:Bytes w ao len cap) (hC:Cur w w0 ao len cap) :
 Calls Tryz.prog 29 #[curP w] w0 fun e w'=>∃m s:Int,e = .returned (.tuple #[.int .i64 m, .int .i64 s])∧CF w w0 w' ao len cap:=by
 have HB:=hideD hB
 have D0:Hid (CF w w0 w0 ao len cap):=hideP ⟨hC,Fram.refl w w0⟩
 clear hB hC
 go_enter Tryz.func29,Tryz.ntmps29
 go_wp2_with fail
 refine (belowN_any 3 ao len cap w _ HB.out D0.out.1 (by omega) (by omega)).mono ?_
 rintro e w1 ⟨m,rfl,m0,m1,c1,o1⟩
 have D1:=hideP (CF.other D0.out o1 c1)
 clear D0 c1 o1
 go_wp2_with fail
 refine (drawSize_any ao len cap w _ HB.out D1.out.1).mono ?_
 rintro e w2 ⟨y,rfl,⟨ya,yb⟩,c2,f2⟩
 have D2:=hideP (CF.fram D1.out f2 c2)
 clear D1 c2 f2
 go_upto_region 3 with fail
 go_cut [12] (fun s12 wc=>(∃t:Bool,s12 = .bool t∧True)∧wc=w2)
 case first =>
  by_cases hm:m=2
  all_goals go_wp2
  all_goals go_meet
  all_goals exact⟨⟨_,rfl,trivial⟩,rfl⟩
 case rest =>
 obtain⟨⟨t,rfl,_⟩,rfl⟩:=hcut
 go_upto_if 12 with fail
 go_cut [5] (fun s5 wc=>(∃s:Int,s5 = .int .i64 s∧True)∧Hid (CF w w0 wc ao len cap))
 case first =>
  cases t with
  | false =>
   go_wp2
   go_meet
   case rel=>exact⟨⟨_,rfl,trivial⟩,D2⟩
  | true =>
   go_wp2_with fail
   refine (drawSize_any ao len cap w _ HB.out D2.out.1).mono ?_
   rintro e w3 ⟨z,rfl,⟨za,zb⟩,c3,f3⟩
   have D3:=hideP (CF.fram D2.out f3 c3)
   clear c3 f3
   go_wp2
   go_meet
   case rel=>exact⟨⟨_,rfl,trivial⟩,D3⟩
 case rest =>
 clear D2
 obtain⟨⟨s,rfl,_⟩,D2⟩:=hcut
 go_wp2_with fail
 refine (once_any 30 ao len cap w _ HB.out D2.out.1 (by omega) (by omega)).mono ?_
 rintro e w4 ⟨bb,rfl,c4,o4⟩
 have D4:=hideP (CF.other D2.out o4 c4)
 clear D2 c4 o4
 go_upto_if 17 with fail
 go_cut [4] (fun s4 wc=>(∃m:Int,s4 = .int .i64 m∧True)∧Hid (CF w w0 wc ao len cap))
 case first =>
  cases bb with
  | false =>
   go_wp2
   go_meet
   case rel=>exact⟨⟨_,rfl,trivial⟩,D4⟩
  | true =>
   have hs1:w4.heap.size≠w.heap.size:=by have:=D4.out.1.lt;omega
   have DA:Hid (CF w w0 (w4.alloc (.cells #[.int .i64 (-1), .int .i64 3] 2)) ao len cap):=hideP ⟨D4.out.1.alloc _,D4.out.2.alloc _⟩
   have HSL:=hideP (heap_alloc_new w4 (.cells #[.int .i64 (-1), .int .i64 3] 2))
   go_wp2_with fail
   refine (belowN_any 2 ao len cap w _ HB.out DA.out.1 (by omega) (by omega)).mono ?_
   rintro e w5 ⟨q,rfl,q0,q1,c5,o5⟩
   have D5:=hideP (CF.other DA.out o5 c5)
   have hsl:=(o5 w4.heap.size hs1).trans HSL.out
   clear DA c5 o5 HSL
   obtain⟨qn,rfl⟩:=Int.eq_ofNat_of_zero_le q0
   obtain⟨x,hcx⟩:∃x:Int,w5.cell? ⟨w4.heap.size,qn,none⟩=some (.int .i64 x):=by
    rw[cell_of_row w5 w4.heap.size qn _ 2 (0,0) hsl]
    rcases (show qn=0∨qn=1 by omega) with rfl | rfl
    ·exact⟨-1,rfl⟩
    ·exact⟨3,rfl⟩
   have hqn:(qn:Int)<2:=q1
   clear hsl hs1
   go_wp2
   go_meet
   case rel=>exact⟨⟨_,rfl,trivial⟩,D5⟩
 case rest =>
 clear D4
 obtain⟨⟨m',rfl,_⟩,D4⟩:=hcut
 go_wp2_with fail
 refine (once_any 30 ao len cap w _ HB.out D4.out.1 (by omega) (by omega)).mono ?_
 rintro e w6 ⟨bb,rfl,c6,o6⟩
 have D6:=hideP (CF.other D4.out o6 c6)
 clear D4 c6 o6
 cases bb with
 | false =>
  go_wp2
  go_ret2
  exact⟨_,_,rfl,D6.out⟩
 | true =>
  go_wp2_with fail
  refine (drawLen_kept ao len cap w _ HB.out D6.out.1).mono ?_
  rintro e w7 ⟨z,rfl,_,c7,f7⟩
  have D7:=hideP (CF.fram D6.out f7 c7)
  clear D6 c7 f7
  go_wp2
  go_ret2
  exact⟨_,_,rfl,D7.out⟩
theorem big_any (ao:Option Addr) (len cap:Nat) (w:World) (hl:len≤9223372036854775807):Calls Tryz.prog 8 #[.slice ao len cap] w fun e w'=>e = .returned (.bool (decide (1048576<len)))∧w'=w:=by
 by_cases h:1048576<len
 ·have hi:(1048576:Int)<(len:Int):=by omega
  go_enter Tryz.func8,Tryz.ntmps8
  go_wp2
  go_ret
  exact⟨by simp[h],rfl⟩
 ·have hi:¬(1048576:Int)<(len:Int):=by omega
  go_enter Tryz.func8,Tryz.ntmps8
  go_wp2
  go_ret
  exact⟨by simp[h],rfl⟩
set_option maxRecDepth 20000 in
set_option maxHeartbeats 8000000 in
theorem drawBox_any (ao:Option Addr) (len cap:Nat) (w w0:World) (hB:Bytes w ao len cap) (hC:Cur w w0 ao len cap) :
 Calls Tryz.prog 42 #[curP w] w0 fun e w'=>DL w w0 w' ao len cap e 1000:=by
 have HB:=hideD hB
 have hw:=hC.lt
 have D0:Hid (CF w w0 w0 ao len cap):=hideP ⟨hC,Fram.refl w w0⟩
 clear hB hC
 go_enter Tryz.func42,Tryz.ntmps42
 go_wp2_with fail
 refine (belowN_any 8 ao len cap w _ HB.out D0.out.1 (by omega) (by omega)).mono ?_
 rintro e w2 ⟨q,rfl,q0,q1,c2,o2⟩
 have D2:=hideP (CF.other D0.out o2 c2)
 obtain⟨N,rfl⟩:=Int.eq_ofNat_of_zero_le q0
 have hN:N≤10:=by omega
 clear D0 c2 o2
 go_wp2_with fail
 refine (drawList_any ao len cap w HB.out 3 N _ (by omega) hN D2.out.1).mono ?_
 rintro e w3 ⟨u,n,rfl,hou,hn,c3,f3⟩
 have hn2:n≤850:=by
  rw[show bnd 3=85 from rfl] at hn
  omega
 obtain⟨va,vc,hve⟩:=hou.shape
 subst hve
 have D3:Hid (DS w w0 w3 ao len cap w0.heap.size (.slice va n vc) n):=hideP ⟨c3,D2.out.2.trans f3,by
  obtain⟨xs,h1,h2⟩:=hou
  exact⟨xs,h1,own_mon h2 D2.out.2.1⟩⟩
 clear D2 hou hn c3 f3
 go_wp2_with fail
 refine (drawMode_any ao len cap w _ HB.out D3.out.1).mono ?_
 rintro e w4 ⟨m,s,rfl,c4,f4⟩
 have D4:=hideP (DS.fram D3.out hw f4 c4)
 clear D3 c4 f4
 obtain⟨ys,hyl,hoy⟩:=D4.out.2.2
 have HOY:=hideP hoy
 clear hoy
 go_wp2_with fail
 refine (specH m s HOY.out hyl (by omega)).mono ?_
 rintro e w5 ⟨u2,rfl,hou2,hb5⟩
 obtain⟨k2,hk2⟩:∃k2,k2=(hpR ys m s).length:=⟨_,rfl⟩
 have hk2c:k2≤1000:=by
  have:(hpR ys m s).length≤ys.length+1:=by
   unfold hpR
   split
   ·rw[hpN_len];exact Nat.le_refl _
   ·exact Nat.zero_le _
  omega
 obtain⟨⟨z0,z1,z2,z3,z4,z5⟩,hz⟩:∃z:Shr.Sett,z=hpT ys m s:=⟨_,rfl⟩
 rw[← hk2] at hou2
 rw[← hz]
 obtain⟨ua2,uc2,hue2⟩:=own_shp hou2
 subst hue2
 have hap2:∀g,Value.ownBlock (.slice va n vc)=some g→Value.ownBlock (.slice ua2 k2 uc2)≠some g:=fun g hg e=>by
  have h1:=(own_lt HOY.out hg).2.1
  have h2:=(own_lt hou2 e).1
  omega
 have D5:=hideP (DS.bel D4.out hw hb5)
 have hz45:w0.heap.size≤w4.heap.size:=D4.out.2.1.1
 have hz55:w4.heap.size≤w5.heap.size:=hb5.size
 have hbA:=below1 w5 (packO (.slice ua2 k2 uc2) z0 z1 z2 z3 z4 z5)
 have DD:Hid (DP w w0 (w5.alloc (packO (.slice ua2 k2 uc2) z0 z1 z2 z3 z4 z5)) ao len cap w5.heap.size (.slice va n vc) (.slice ua2 k2 uc2) n k2):=hideP
  ⟨D5.out.1.alloc _,D5.out.2.1.alloc _,D5.out.2.2.fram hw (Fram.ofBel hbA),⟨_,_,_,_,_,_,heap_alloc_new w5 _⟩,⟨hpR ys m s,hk2.symm,own_mon (own_below hou2 hbA) (by omega)⟩,hap2,by omega⟩
 obtain⟨P,hP⟩:∃P,P=w5.heap.size:=⟨_,rfl⟩
 rw[← hP] at DD
 clear D4 D5 HOY hou2 hb5 hk2 hz hbA hz45 hz55 hyl hap2
 go_upto_region 5 with fail
 rw[← hP]
 clear hP
 generalize World.alloc _ _=W5 at DD ⊢
 go_wp2_with fail
 refine (once_any 2 ao len cap w _ HB.out DD.out.cur (by omega) (by omega)).mono ?_
 rintro e' w6 ⟨bb,rfl,c6,o6⟩
 have D6:=hideP (DP.other DD.out hw o6 c6)
 clear DD c6 o6
 have hpn2:n≤850:=hn2
 go_upto_if 21 with fail
 go_cut [] (fun wc=>∃pv k,k≤1000∧Hid (DP w w0 wc ao len cap P (.slice va n vc) pv n k))
 case first =>
  cases bb with
  | false =>
   go_wp2
   go_meet
   case rel=>exact⟨_,k2,hk2c,D6⟩
  | true =>
   go_wp2_with fail
   refine (drawSize_any ao len cap w _ HB.out D6.out.cur).mono ?_
   rintro e' w7 ⟨y,rfl,⟨ya,yb⟩,c7,f7⟩
   have D7:=hideP (DP.fram D6.out hw f7 c7)
   clear D6 c7 f7
   obtain⟨xs,hxl,hox⟩:=D7.out.own
   have HOX:=hideP hox
   clear hox
   go_wp2_with fail
   refine (specV y m s HOX.out hxl (by omega)).mono ?_
   rintro e' w8 ⟨u3,rfl,hou3,hb8⟩
   obtain⟨k3,hk3⟩:∃k3,k3=(vpR xs y m s).length:=⟨_,rfl⟩
   have hk3c:k3≤1000:=by
    have:(vpR xs y m s).length≤xs.length+1:=by
     unfold vpR
     split
     ·rw[vpN_len];exact Nat.le_refl _
     ·exact Nat.zero_le _
    omega
   obtain⟨⟨z0,z1,z2,z3,z4,z5⟩,hz⟩:∃z:Shr.Sett,z=vpT xs y m s:=⟨_,rfl⟩
   rw[← hk3] at hou3
   rw[← hz]
   obtain⟨ua3,uc3,hue3⟩:=own_shp hou3
   subst hue3
   have hap3:∀g,Value.ownBlock (.slice va n vc)=some g→Value.ownBlock (.slice ua3 k3 uc3)≠some g:=fun g hg e=>by
    have h1:=(own_lt HOX.out hg).2.1
    have h2:=(own_lt hou3 e).1
    omega
   have D8:=hideP (DP.fram D7.out hw (Fram.ofBel hb8) (D7.out.cur.bel hb8))
   have D9:=hideP (DP.sev7 D8.out hw ⟨vpR xs y m s,hk3.symm,own_mon hou3 (by have:=D7.out.fr.1;omega)⟩ hap3 z0 z1 z2 z3 z4 z5)
   obtain⟨q0,q1,q2,q3,q4,q5,hpk⟩:=D8.out.pk
   obtain⟨r0,r1,r2,r3,r4,r5,r6⟩:=pack_cells hpk
   have fR:∀j,w8.frozen? ⟨P,j,none⟩=false:=fun j=>frozen_of_row w8 P j _ _ hpk
   clear D7 HOX hou3 hb8 hk3 hz hpk D8 hap3
   go_wp2
   go_meet
   case rel=>exact⟨_,k3,hk3c,D9⟩
 case rest =>
  obtain⟨pv,kp,hkp,DD⟩:=hcut
  clear D6 hk2c
  obtain⟨pa,pc,hpe⟩:=DD.out.pown.shape
  subst hpe
  go_wp2_with fail
  refine (once_any 12 ao len cap w _ HB.out DD.out.cur (by omega) (by omega)).mono ?_
  rintro e' w8 ⟨bb1,rfl,c8,o8⟩
  have D8:=hideP (DP.other DD.out hw o8 c8)
  clear DD c8 o8
  cases bb1 with
  | false =>
   have cP:=D8.out.cell
   have lP:=D8.out.ltP
   go_wp2
   go_ret
   exact⟨_,kp,rfl,D8.out.pown,hkp,D8.out.cur,D8.out.fr⟩
  | true =>
   have cP:=D8.out.cell
   have lP:=D8.out.ltP
   go_wp2_with fail
   refine (spoil_any ao len cap w _ HB.out D8.out.cur hw D8.out.fr.1 D8.out.pown (by omega)).mono ?_
   rintro e' w9 ⟨⟨r,rfl⟩,c9,x9,o9⟩
   obtain⟨a0,b0,c0,d0,e0,f0,hpk⟩:=D8.out.pk
   obtain⟨zs,hzl,hoz⟩:=D8.out.pown
   have hP9:w9.heap[P]? = some (packO (.slice pa kp pc) a0 b0 c0 d0 e0 f0):=(x9.2 P lP (by have:=D8.out.hP;omega) (fun e=>own_apart hoz hpk (by decide) e)).trans hpk
   have hF9:Fram w w0 w9:=FramX.fram D8.out.fr x9 D8.out.pown.ge
   have HF:=hideP (And.intro hF9 (And.intro c9 o9))
   clear cP lP hpk hoz D8 c9 x9 o9 hF9
   have cP:w9.cell? ⟨P,0,none⟩=some (.slice pa kp pc):=cell_of_row _ _ 0 _ 30 _ hP9
   have lP:=(Array.getElem?_eq_some_iff.1 hP9).1
   clear hP9
   go_wp2
   go_ret
   exact⟨_,kp,rfl,HF.out.2.2,hkp,HF.out.2.1,HF.out.1⟩
set_option maxRecDepth 20000 in
set_option maxHeartbeats 8000000 in
theorem drawSpots_any (ao:Option Addr) (len cap:Nat) (w:World) (hB:Bytes w ao len cap) :
 Calls Tryz.prog 17 #[.slice ao len cap] w fun e w'=>∃(u:Value) (xs:List Nd) (x y:Int),(e = .returned (.tuple #[u, .int .i64 x, .int .i64 y])∧w'.ownsRow w.heap.size 36 15 u xs.length (flatN xs)∧xs.length≤1000)∧Below w.heap.size w w':=by
 have HB:=hideD hB
 clear hB
 go_enter Tryz.func17,Tryz.ntmps17
 go_wp2_with fail
 refine (new_any ao len cap w HB.out).mono ?_
 rintro e w1 ⟨rfl,c1⟩
 have C1:=hideP c1
 have hlt:=c1.lt
 clear c1
 go_wp2_with fail
 refine (drawBox_any ao len cap w w1 HB.out C1.out).mono ?_
 rintro e w2 ⟨u,n,rfl,hou,hn,c2,f2⟩
 obtain⟨ua,uc,hue⟩:=hou.shape
 subst hue
 have D2:Hid (DS w w1 w2 ao len cap w1.heap.size (.slice ua n uc) n):=hideP ⟨c2,f2,hou⟩
 clear hou c2 f2 C1
 go_wp2_with fail
 refine (drawLen_kept ao len cap w _ HB.out D2.out.1).mono ?_
 rintro e w3 ⟨x,rfl,_,c3,f3⟩
 have D3:=hideP (DS.fram D2.out hlt f3 c3)
 clear D2 c3 f3
 go_wp2_with fail
 refine (drawLen_kept ao len cap w _ HB.out D3.out.1).mono ?_
 rintro e w4 ⟨y,rfl,_,c4,f4⟩
 have D4:=hideP (DS.fram D3.out hlt f4 c4)
 clear D3 c4 f4
 obtain⟨xs,hl,hx⟩:=D4.out.2.2
 obtain⟨i,h,_,_,_,hbel⟩:=D4.out.1
 have HX:Hid (w4.ownsRow w.heap.size 36 15 (.slice ua n uc) xs.length (flatN xs)∧xs.length≤1000∧Below w.heap.size w w4):=hideP ⟨by rw[hl];exact own_mon hx (by omega),by omega,hbel⟩
 clear hl hx hbel D4
 go_wp2
 refine bodyPost_ret (v:= .tuple #[.slice ua n uc, .int .i64 x, .int .i64 y]) (by simp[results,Tryz.results17,go_sem]) rfl ?_
 exact⟨_,xs,x,y,⟨rfl,HX.out.1,HX.out.2.1⟩,HX.out.2.2⟩
theorem listB_iff {xs:List Nd}:listB xs=true↔xs.length≤20000∧okFrom xs.length 0 [] xs=true:=by
 unfold listB;simp
end Go.Proofs.YtbbehmcekbnkiaaGreat
namespace Go.Proofs.YtbbehmcekbnkiaaGreat.Shr
open Go.RowKit
set_option linter.unusedVariables false
set_option linter.unusedSimpArgs false
end Go.Proofs.YtbbehmcekbnkiaaGreat.Shr

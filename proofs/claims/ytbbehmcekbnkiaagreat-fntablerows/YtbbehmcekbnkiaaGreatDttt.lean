import Derived.Test.YtbbehmcekbnkiaaGreatDtet
namespace Go.Proofs.YtbbehmcekbnkiaaGreat
set_option maxHeartbeats 8000000
open Go.RowKit Go.Shelf
set_option linter.unusedVariables false
set_option linter.unusedSimpArgs false
theorem DTQ.drew {w w0 wi:World}{ao:Option Addr}{len cap T:Nat}{co gs gp gpo gm gmo:Int}{v:Value}{rs:List DRow}(h:DTQ w w0 wi ao len cap T co gs gp gpo gm gmo v rs)(hw:w.heap.size<w0.heap.size)(hT:w0.heap.size<T):DTQ w w0 wi.drew ao len cap T co gs gp gpo gm gmo v rs:=h.bel hw hT (Below.drew (Below.refl _ _))
theorem ownG_some {w:World}{base e s n c:Nat}{a:Option Addr}{xs:List Value}(h:w.ownsRow base e s (.slice a n c) n xs)(hn:0<n):∃g,a=some ⟨g,0,none⟩/\base<=g/\g<w.heap.size:=by
 rcases h.2 with ⟨he,_⟩ | ⟨g,cap,cur,he,hg,hb,_⟩
 ·simp only[Value.slice.injEq] at he;omega
 ·simp only[Value.slice.injEq] at he
  exact⟨g,he.1,hg,(glt hb)⟩
theorem lit4 {w:World}{G qn:Nat}{a b c d:Int}(h:w.heap[G]?=some (.cells #[.int .i64 a,.int .i64 b,.int .i64 c,.int .i64 d] 2 (0,0)))(hq:qn<4):∃x:Int,w.cell? ⟨G,qn,none⟩=some (.int .i64 x):=by
 rw[cell_of_row w G qn _ 2 (0,0) h]
 rcases (show qn=0\/qn=1\/qn=2\/qn=3 by omega) with rfl|rfl|rfl|rfl
 ·exact⟨a,rfl⟩
 ·exact⟨b,rfl⟩
 ·exact⟨c,rfl⟩
 ·exact⟨d,rfl⟩
theorem lit2 {w:World}{G qn:Nat}{a b:Int}(h:w.heap[G]?=some (.cells #[.int .i64 a,.int .i64 b] 2 (0,0)))(hq:qn<2):∃x:Int,w.cell? ⟨G,qn,none⟩=some (.int .i64 x):=by
 rw[cell_of_row w G qn _ 2 (0,0) h]
 rcases (show qn=0\/qn=1 by omega) with rfl|rfl
 ·exact⟨a,rfl⟩
 ·exact⟨b,rfl⟩
set_option maxRecDepth 20000 in
theorem spoilT_any (ao:Option Addr)(len cap T:Nat)(w w0 wr:World)(hB:Bytes w ao len cap){co gs gp gpo gm gmo:Int}{v:Value}{rs:List DRow}(hw:w.heap.size<w0.heap.size)(hT:w0.heap.size<T)(h:DTQ w w0 wr ao len cap T co gs gp gpo gm gmo v rs) :
 Calls Tryz.prog 74 #[curP w,.pointer (some ⟨T,0,none⟩)] wr fun e w'=>Ret e/\DTE w w0 w' ao len cap T:=by
 have HB:=hideD hB
 have D0:=hideP h
 clear hB h
 obtain⟨va,vc,hve⟩:=ownG_shape D0.out.own.own
 subst hve
 obtain⟨q,hq⟩:=exq (rs.length)
 have HQ:=hideP hq
 rw[<-hq] at D0
 have hq5:q<=5:=by rw[hq];exact D0.out.own.len
 clear hq
 go_enter Tryz.func74,Tryz.ntmps74
 go_wp2_with fail
 refine(belowN_any 4 ao len cap w _ HB.out D0.out.cur (by omega) (by omega)).mono ?_
 rintro e w1 ⟨x1,rfl,hx1,hx1',hc1,ho1⟩
 have D1:=hideP (D0.out.oth hw hT ho1 hc1)
 have hTz:T<w1.heap.size:=(glt D1.out.tab)
 clear hc1 ho1 D0
 rcases (show x1=0\/x1=1\/x1=2\/x1=3 by omega) with rfl|rfl|hx23
 ·clear hx1 hx1'
  have DA:=hideP (D1.out.bel hw hT (below1 w1 (.cells #[.int .i64 0,.int .i64 21,.int .i64 1,.int .i64 20] 2)))
  have HSL:=hideP (heap_alloc_new w1 (.cells #[.int .i64 0,.int .i64 21,.int .i64 1,.int .i64 20] 2))
  go_wp2_with fail
  refine(belowN_any 4 ao len cap w _ HB.out DA.out.cur (by omega) (by omega)).mono ?_
  rintro e w2 ⟨x2,rfl,y0,y1,c2,o2⟩
  have D2:=hideP (DA.out.oth hw hT o2 c2)
  have hsl:=(o2 w1.heap.size (by omega)).trans HSL.out
  obtain⟨qn,rfl⟩:=Int.eq_ofNat_of_zero_le y0
  obtain⟨x,hcx⟩:=lit4 (qn:=qn) hsl (by omega)
  have t0:=cell_of_row w2 T 0 _ 52 _ D2.out.tab
  have fz:∀j,w2.frozen? ⟨T,j,none⟩=false:=fun j=>frozen_of_row w2 _ j _ _ D2.out.tab
  have HF:Hid (DTE w w0 (w2.setCell ⟨T,0,none⟩ (.int .i64 x)) ao len cap T):=hideP ⟨_,_,_,_,_,_,_,_,D2.out.var hw hT 0 (.int .i64 x) (heap_setCell_same _ _ 0 _ 52 _ D2.out.tab)⟩
  clear D1 DA c2 o2 HSL hsl D2
  go_wp2
  refine bodyPost_ret (results_none rfl _ _ _) rfl ?_
  exact⟨⟨_,rfl⟩,HF.out⟩
 ·clear hx1 hx1'
  go_wp2_with fail
  refine(drawGlue_any ao len cap w _ HB.out D1.out.cur).mono ?_
  rintro e w2 ⟨a,b,c,d,f,rfl,c2,f2⟩
  have D2:=D1.out.go hw hT f2 c2
  have t1:=cell_of_row w2 T 1 _ 52 _ D2.tab
  have t2:=cell_of_row w2 T 2 _ 52 _ D2.tab
  have t3:=cell_of_row w2 T 3 _ 52 _ D2.tab
  have t4:=cell_of_row w2 T 4 _ 52 _ D2.tab
  have t5:=cell_of_row w2 T 5 _ 52 _ D2.tab
  have fz:∀j,w2.frozen? ⟨T,j,none⟩=false:=fun j=>frozen_of_row w2 _ j _ _ D2.tab
  have H1:=D2.var hw hT 1 (.int .i64 a) (heap_setCell_same _ _ 1 _ 52 _ D2.tab)
  have H2:=H1.var hw hT 2 (.int .i64 b) (heap_setCell_same _ _ 2 _ 52 _ H1.tab)
  have H3:=H2.var hw hT 3 (.int .i64 c) (heap_setCell_same _ _ 3 _ 52 _ H2.tab)
  have H4:=H3.var hw hT 4 (.int .i64 d) (heap_setCell_same _ _ 4 _ 52 _ H3.tab)
  have H5:=H4.var hw hT 5 (.int .i64 f) (heap_setCell_same _ _ 5 _ 52 _ H4.tab)
  have HF:=hideP H5
  clear D1 c2 f2 D2 H1 H2 H3 H4 H5
  go_wp2
  refine bodyPost_ret (results_none rfl _ _ _) rfl ?_
  exact⟨⟨_,rfl⟩,⟨_,_,_,_,_,_,_,_,HF.out⟩⟩
 ·have t6:=cell_of_row w1 T 6 _ 52 _ D1.out.tab
  have hxx:(x1 == 0)=false/\(x1 == 1)=false/\decide (x1=0)=false/\decide (x1=1)=false/\¬x1=0/\¬x1=1:=by
   rcases hx23 with rfl|rfl<;>simp
  obtain⟨p1,p2,p3,p4,p5,p6⟩:=hxx
  clear hx23 hx1 hx1'
  by_cases hq0:q=0
  ·have hq0i:(q:Int)=0:=by omega
   have hqd:decide ((q:Int)=0)=true:=by simp[hq0]
   have hqe:((q:Int) == 0)=true:=by simp[hq0]
   go_wp2
   refine bodyPost_ret (results_none rfl _ _ _) rfl ?_
   exact⟨⟨_,rfl⟩,⟨_,_,_,_,_,_,_,_,D1.out⟩⟩
  ·have hq0i:¬(q:Int)=0:=by omega
   have hqd:decide ((q:Int)=0)=false:=by simp[hq0]
   have hqe:((q:Int) == 0)=false:=by simp[hq0]
   obtain⟨g,hge,hgB,hgz⟩:=ownG_some (n:=q) (xs:=flatR rs) (by have h:=D1.out.own.own;rw[<-HQ.out] at h;exact h) (by omega)
   subst hge
   go_upto_region 6 with fail
   have DA:=hideP (D1.out.drew hw hT)
   have hS:w1.drew.cell? ⟨T,6,none⟩=some (.slice (some ⟨g,0,none⟩) q vc):=cell_of_row w1.drew T 6 _ 52 _ DA.out.tab
   refine wp_region_held_drew (S:=fun X=>X.cell? ⟨T,6,none⟩=some (.slice (some ⟨g,0,none⟩) q vc)) (by kernel_rfl) hS (fun hS=>?_)
   refine tkS (i:=0) (v:= .pointer (some ⟨T,0,none⟩)) rfl hS ?_
   try simp only[sput]
   refine tkS (i:=1) (v:= .pointer (some ⟨T,0,none⟩)) rfl hS ?_
   try simp only[sput]
   refine tkS (i:=2) (v:= .pointer (some ⟨T,6,none⟩)) rfl hS ?_
   try simp only[sput]
   refine tkS (i:=3) (v:=(.slice (some ⟨g,0,none⟩) q vc)) rfl hS ?_
   try simp only[sput]
   refine tkS (i:=4) (v:=curP w) rfl hS ?_
   try simp only[sput]
   refine tkS (i:=5) (v:= .pointer (some ⟨T,0,none⟩)) rfl hS ?_
   try simp only[sput]
   refine tkS (i:=6) (v:= .pointer (some ⟨T,0,none⟩)) rfl hS ?_
   try simp only[sput]
   refine tkS (i:=7) (v:= .pointer (some ⟨T,6,none⟩)) rfl hS ?_
   try simp only[sput]
   refine tkS (i:=8) (v:=(.slice (some ⟨g,0,none⟩) q vc)) rfl hS ?_
   try simp only[sput]
   refine tkS (i:=9) (v:= .int .i64 (q:Int)) rfl hS ?_
   try simp only[sput]
   refine rdS (i:=10) rfl (fun K hK=>?_)
   go_simp
   go_at_call 39
   refine(belowN_any (q:Int) ao len cap w _ HB.out DA.out.cur (by omega) (by omega)).mono ?_
   rintro e' w2 ⟨x2,rfl,y0,y1,c2,o2⟩
   have D2:=hideP (DA.out.oth hw hT o2 c2)
   have hS2:=cell_of_row w2 T 6 _ 52 _ D2.out.tab
   obtain⟨i,rfl⟩:=Int.eq_ofNat_of_zero_le y0
   have hiq:i<q:=by omega
   have hiqi:(i:Int)<(q:Int):=by omega
   clear DA D1 c2 o2 t6 hS y0
   refine hK.out _ _ hS2 (fun _=>?_)
   try simp only[sput]
   clear hK K
   refine tkS (i:=11) (v:= .pointer (some ⟨g,i*2,none⟩)) rfl hS2 ?_
   try simp only[sput]
   refine tkS (i:=12) (v:= .pointer (some ⟨g,i*2,none⟩)) rfl hS2 ?_
   try simp only[sput]
   refine wpAnyH_done (by kernel_rfl) ?_ _
   clear hS2 y1
   go_upto_region 7 with fail
   have hir:i<rs.length:=by rw[<-HQ.out];exact hiq
   obtain⟨r,hr⟩:=exq (rs.getD i DRow.none)
   have HRI:=hideP hr
   have hro:OwnRow w0.heap.size w2 r:=by rw[hr];exact D2.out.own.row _ (getD_mem DRow.none hir)
   obtain⟨ua,uc,hue⟩:=ownG_shape hro.own
   obtain⟨m,hm⟩:=exq (r.cs.length)
   have HMM:=hideP hm
   rw[<-hm] at hue
   have hm5:m<=5:=by rw[hm];exact hro.len
   have HUE:=hideP hue
   have CELLS:Hid (∀X,DTQ w w0 X ao len cap T co gs gp gpo gm gmo (.slice (some ⟨g,0,none⟩) q vc) rs->X.cell? ⟨g,i*2,none⟩=some (.slice ua m uc)/\X.cell? ⟨g,i*2+1,none⟩=some (.int .i64 r.ru)/\(∀j,X.frozen? ⟨g,j,none⟩=false)/\∃cur,X.heap[g]?=some (.cells cur 59 (0,0))):=hideP (fun X hX=>by
    have ho:=hX.own.own
    rw[<-HQ.out] at ho
    obtain⟨q1,q2⟩:=flatR_get rs i hir
    rw[<-HRI.out] at q1 q2
    rw[HUE.out] at q1
    obtain⟨cur,hc⟩:=own_cells_block ho (show (Value.slice (some ⟨g,0,none⟩) q vc).ownBlock=some g from rfl)
    have hl:∀(j:Nat) (y:Value),(flatR rs)[j]?=some y->X.cell? ⟨g,j,none⟩=some y:=fun j y hj=>by
     have hlt:=(List.getElem?_eq_some_iff.1 hj).1
     rw[flatR_len,<-HQ.out] at hlt
     exact(ho.cellAt j hlt).trans hj
    exact⟨hl _ _ q1,hl _ _ q2,fun j=>frozen_of_row X _ j _ _ hc,cur,hc⟩)
   clear hr hro hue hm
   obtain⟨c0,-,-,-⟩:=CELLS.out w2 D2.out
   go_cut [52] (fun s52 wc=>(∃t:Bool,s52 = .bool t/\(t=false->0<m))/\Hid (DTQ w w0 wc ao len cap T co gs gp gpo gm gmo (.slice (some ⟨g,0,none⟩) q vc) rs))
   case first =>
    by_cases hm0:m=0
    ·have hm0i:(m:Int)=0:=by omega
     have hmd:decide ((m:Int)=0)=true:=by simp[hm0]
     have hme:((m:Int) == 0)=true:=by simp[hm0]
     go_wp2
     go_meet
     case rel=>exact⟨⟨_,rfl,fun h=>by cases h⟩,D2⟩
    ·have hm0i:¬(m:Int)=0:=by omega
     have hmd:decide ((m:Int)=0)=false:=by simp[hm0]
     have hme:((m:Int) == 0)=false:=by simp[hm0]
     go_wp2_with fail
     refine(once_any 4 ao len cap w _ HB.out D2.out.cur (by omega) (by omega)).mono ?_
     rintro e w3 ⟨t3,rfl,c3,o3⟩
     have D3:=hideP (D2.out.oth hw hT o3 c3)
     clear c3 o3 D2 c0
     go_wp2
     go_meet
     case rel=>exact⟨⟨_,rfl,fun _=>by omega⟩,D3⟩
   case rest =>
    obtain⟨⟨t,rfl,ht⟩,D3⟩:=hcut
    clear D2 c0
    cases t with
    | true =>
     clear ht
     have DA:=hideP (D3.out.bel hw hT (below1 wc (.cells #[.int .i64 (-1),.int .i64 5,.int .i64 1073741823,.int .i64 1073741824] 2)))
     have HSL:=hideP (heap_alloc_new wc (.cells #[.int .i64 (-1),.int .i64 5,.int .i64 1073741823,.int .i64 1073741824] 2))
     have hTw:w.heap.size<wc.heap.size:=D3.out.cur.lt
     go_wp2_with fail
     refine(belowN_any 4 ao len cap w _ HB.out DA.out.cur (by omega) (by omega)).mono ?_
     rintro e w4 ⟨x4,rfl,y0,y1,c4,o4⟩
     have D4:=hideP (DA.out.oth hw hT o4 c4)
     have hsl:=(o4 wc.heap.size (by omega)).trans HSL.out
     obtain⟨qn,rfl⟩:=Int.eq_ofNat_of_zero_le y0
     obtain⟨x,hcx⟩:=lit4 (qn:=qn) hsl (by omega)
     obtain⟨c0,c1,fz,cur,hcur⟩:=CELLS.out w4 D4.out
     have HF:=hideP (D4.out.put hw hgB hcur (by decide) (D4.out.own.putRu HQ.out hir x))
     clear D3 DA c4 o4 HSL hsl D4 hcur c0 CELLS
     go_wp2
     refine bodyPost_ret (results_none rfl _ _ _) rfl ?_
     exact⟨⟨_,rfl⟩,⟨_,_,_,_,_,_,_,_,HF.out⟩⟩
    | false =>
     have hm0:=ht rfl
     clear ht
     have hrw:∀X,DTQ w w0 X ao len cap T co gs gp gpo gm gmo (.slice (some ⟨g,0,none⟩) q vc) rs->OwnRow w0.heap.size X r/\X.ownsRow w0.heap.size 61 3 (.slice ua m uc) m (flatC r.cs):=fun X hX=>by
      have h1:OwnRow w0.heap.size X r:=by rw[HRI.out];exact hX.own.row _ (getD_mem DRow.none hir)
      have h2:=h1.own
      rw[HUE.out,<-HMM.out] at h2
      exact⟨h1,h2⟩
     have HRW:=hideP hrw
     clear hrw
     obtain⟨gc,hgce,hgcB,-⟩:=ownG_some (HRW.out wc D3.out).2 hm0
     subst hgce
     go_upto_region 9 with fail
     have DA:=hideP (D3.out.drew hw hT)
     have hS:wc.drew.cell? ⟨g,i*2,none⟩=some (.slice (some ⟨gc,0,none⟩) m uc):=(CELLS.out _ DA.out).1
     refine wp_region_held_drew (S:=fun X=>X.cell? ⟨g,i*2,none⟩=some (.slice (some ⟨gc,0,none⟩) m uc)) (by kernel_rfl) hS (fun hS=>?_)
     refine tkS (i:=0) (v:= .pointer (some ⟨g,i*2,none⟩)) rfl hS ?_
     try simp only[sput]
     refine tkS (i:=1) (v:= .pointer (some ⟨g,i*2,none⟩)) rfl hS ?_
     try simp only[sput]
     refine tkS (i:=2) (v:= .pointer (some ⟨g,i*2,none⟩)) rfl hS ?_
     try simp only[sput]
     refine tkS (i:=3) (v:=(.slice (some ⟨gc,0,none⟩) m uc)) rfl hS ?_
     try simp only[sput]
     refine tkS (i:=4) (v:=curP w) rfl hS ?_
     try simp only[sput]
     refine tkS (i:=5) (v:= .pointer (some ⟨g,i*2,none⟩)) rfl hS ?_
     try simp only[sput]
     refine tkS (i:=6) (v:= .pointer (some ⟨g,i*2,none⟩)) rfl hS ?_
     try simp only[sput]
     refine tkS (i:=7) (v:= .pointer (some ⟨g,i*2,none⟩)) rfl hS ?_
     try simp only[sput]
     refine tkS (i:=8) (v:=(.slice (some ⟨gc,0,none⟩) m uc)) rfl hS ?_
     try simp only[sput]
     refine tkS (i:=9) (v:= .int .i64 (m:Int)) rfl hS ?_
     try simp only[sput]
     refine rdS (i:=10) rfl (fun K hK=>?_)
     go_simp
     go_at_call 39
     refine(belowN_any (m:Int) ao len cap w _ HB.out DA.out.cur (by omega) (by omega)).mono ?_
     rintro e' w5 ⟨x5,rfl,y0,y1,c5,o5⟩
     have D5:=hideP (DA.out.oth hw hT o5 c5)
     have hS2:=(CELLS.out _ D5.out).1
     obtain⟨j,rfl⟩:=Int.eq_ofNat_of_zero_le y0
     have hjm:j<m:=by omega
     have hjmi:(j:Int)<(m:Int):=by omega
     clear DA D3 c5 o5 hS y0
     refine hK.out _ _ hS2 (fun _=>?_)
     try simp only[sput]
     clear hK K
     refine tkS (i:=11) (v:= .pointer (some ⟨gc,j*3,none⟩)) rfl hS2 ?_
     try simp only[sput]
     refine tkS (i:=12) (v:= .pointer (some ⟨gc,j*3,none⟩)) rfl hS2 ?_
     try simp only[sput]
     refine wpAnyH_done (by kernel_rfl) ?_ _
     clear hS2 y1 CELLS
     have hjr:j<r.cs.length:=by rw[<-HMM.out];exact hjm
     go_wp2_with fail
     refine(belowN_any 3 ao len cap w _ HB.out D5.out.cur (by omega) (by omega)).mono ?_
     rintro e w6 ⟨x6,rfl,z0,z1,c6,o6⟩
     have D6:=hideP (D5.out.oth hw hT o6 c6)
     have hTw:w.heap.size<w6.heap.size:=D6.out.cur.lt
     clear c6 o6 D5
     have CEL:Hid (∀X,DTQ w w0 X ao len cap T co gs gp gpo gm gmo (.slice (some ⟨g,0,none⟩) q vc) rs->X.cell? ⟨gc,j*3,none⟩=some (.int .i64 (r.cs.getD j C3z).1)/\X.cell? ⟨gc,j*3+1,none⟩=some (.int .i64 (r.cs.getD j C3z).2.1)/\X.cell? ⟨gc,j*3+2,none⟩=some (r.cs.getD j C3z).2.2/\(∀k,X.frozen? ⟨gc,k,none⟩=false)/\∃cur,X.heap[gc]?=some (.cells cur 61 (0,0))):=hideP (fun X hX=>by
      have ho:=(HRW.out X hX).2
      obtain⟨q1,q2,q3⟩:=flatC_get r.cs j hjr
      obtain⟨cur,hc⟩:=own_cells_block ho (show (Value.slice (some ⟨gc,0,none⟩) m uc).ownBlock=some gc from rfl)
      have hl:∀(k:Nat) (y:Value),(flatC r.cs)[k]?=some y->X.cell? ⟨gc,k,none⟩=some y:=fun k y hk=>by
       have hlt:=(List.getElem?_eq_some_iff.1 hk).1
       rw[flatC_len,<-HMM.out] at hlt
       exact(ho.cellAt k hlt).trans hk
      exact⟨hl _ _ q1,hl _ _ q2,hl _ _ q3,fun k=>frozen_of_row X _ k _ _ hc,cur,hc⟩)
     have HU2:Hid ((rs.getD i DRow.none).u=(.slice (some ⟨gc,0,none⟩) m uc)):=hideP (by rw[<-HRI.out];exact HUE.out)
     rcases (show x6=0\/x6=1\/x6=2 by omega) with rfl|rfl|rfl
     ·clear z0 z1
      have DA:=hideP (D6.out.bel hw hT (below1 w6 (.cells #[.int .i64 0,.int .i64 6,.int .i64 (-1),.int .i64 4611686018427387904] 2)))
      have HSL:=hideP (heap_alloc_new w6 (.cells #[.int .i64 0,.int .i64 6,.int .i64 (-1),.int .i64 4611686018427387904] 2))
      go_wp2_with fail
      refine(belowN_any 4 ao len cap w _ HB.out DA.out.cur (by omega) (by omega)).mono ?_
      rintro e w7 ⟨x7,rfl,y0,y1,c7,o7⟩
      have D7:=hideP (DA.out.oth hw hT o7 c7)
      have hsl:=(o7 w6.heap.size (by omega)).trans HSL.out
      obtain⟨qn,rfl⟩:=Int.eq_ofNat_of_zero_le y0
      obtain⟨x,hcx⟩:=lit4 (qn:=qn) hsl (by omega)
      obtain⟨c0,c1,c2,fz,cur,hcur⟩:=CEL.out w7 D7.out
      have HF:=hideP (D7.out.put hw hgcB hcur (by decide) (D7.out.own.putCell (q:=j*3) (x:= .int .i64 x) hir HU2.out (by rw[<-HRI.out];exact flatC_sp r.cs j x hjr) (by rw[<-HRI.out];exact set_map_same C3z _ hjr rfl)))
      clear D6 DA c7 o7 HSL hsl D7 hcur CEL
      go_wp2
      refine bodyPost_end (results_none rfl _ _ _) rfl ?_
      exact⟨⟨_,rfl⟩,⟨_,_,_,_,_,_,_,_,HF.out⟩⟩
     ·clear z0 z1
      have DA:=hideP (D6.out.bel hw hT (below1 w6 (.cells #[.int .i64 (-1),.int .i64 3] 2)))
      have HSL:=hideP (heap_alloc_new w6 (.cells #[.int .i64 (-1),.int .i64 3] 2))
      go_wp2_with fail
      refine(belowN_any 2 ao len cap w _ HB.out DA.out.cur (by omega) (by omega)).mono ?_
      rintro e w7 ⟨x7,rfl,y0,y1,c7,o7⟩
      have D7:=hideP (DA.out.oth hw hT o7 c7)
      have hsl:=(o7 w6.heap.size (by omega)).trans HSL.out
      obtain⟨qn,rfl⟩:=Int.eq_ofNat_of_zero_le y0
      obtain⟨x,hcx⟩:=lit2 (qn:=qn) hsl (by omega)
      obtain⟨c0,c1,c2,fz,cur,hcur⟩:=CEL.out w7 D7.out
      have HF:=hideP (D7.out.put hw hgcB hcur (by decide) (D7.out.own.putCell (q:=j*3+1) (x:= .int .i64 x) hir HU2.out (by rw[<-HRI.out];exact flatC_al r.cs j x hjr) (by rw[<-HRI.out];exact set_map_same C3z _ hjr rfl)))
      clear D6 DA c7 o7 HSL hsl D7 hcur CEL
      go_wp2
      refine bodyPost_end (results_none rfl _ _ _) rfl ?_
      exact⟨⟨_,rfl⟩,⟨_,_,_,_,_,_,_,_,HF.out⟩⟩
     ·clear z0 z1
      obtain⟨c0,c1,c2,-,-,-⟩:=CEL.out w6 D6.out
      obtain⟨nn,hn20,hon⟩:=(HRW.out w6 D6.out).1.nds _ (getD_mem C3z hjr)
      obtain⟨la,lc,hle⟩:=hon.shape
      obtain⟨lv,hlv⟩:=exq ((r.cs.getD j C3z).2.2)
      rw[<-hlv] at hle hon c2
      have HLV:=hideP hlv
      clear hlv
      subst hle
      have HON:=hideP hon
      have hwz6:w0.heap.size<=w6.heap.size:=D6.out.fram.1
      clear hon CEL
      go_wp2_with fail
      refine(spoil_any ao len cap w w6 HB.out D6.out.cur hw hwz6 HON.out (by omega)).mono ?_
      rintro e w7 ⟨⟨rr,rfl⟩,c7,f7,o7⟩
      have HF:Hid (DTQ w w0 w7 ao len cap T co gs gp gpo gm gmo (.slice (some ⟨g,0,none⟩) q vc) rs):=hideP (by
       have key:∀(Z:Nat) (o:Obj) (c':Array Value),o = .cells c' 52 (0,0)->w.heap.size<Z->w6.heap[Z]?=some o->w7.heap[Z]?=some o:=fun Z o c' e hZ hz=>(f7.2 Z (glt hz) (by omega) (fun e2=>by
        obtain⟨_,_,c2,hc2⟩:=HON.out.kind e2
        rw[hz,e] at hc2
        simp at hc2)).trans hz
       refine⟨c7,⟨Nat.le_trans D6.out.fram.1 f7.1,fun b hb hne=>(f7.2 b (Nat.lt_of_lt_of_le hb D6.out.fram.1) hne (fun e2=>by have:=(HON.out.kind e2).1;omega)).trans (D6.out.fram.2 b hb hne)⟩,key _ _ _ rfl hw D6.out.res,key _ _ _ rfl (by omega) D6.out.tab,?_⟩
       refine D6.out.own.spoil hir (j:=j) (n:=nn) (by rw[<-HRI.out];exact hjr) (fun b hb1 hb2 hne=>f7.2 b hb2 (by omega) (by rw[<-HRI.out,<-HLV.out] at hne;exact hne)) (by rw[<-HRI.out,<-HLV.out];exact o7) hn20)
      clear D6 c7 f7 o7 HON
      go_wp2
      refine bodyPost_end (results_none rfl _ _ _) rfl ?_
      exact⟨⟨_,rfl⟩,⟨_,_,_,_,_,_,_,_,HF.out⟩⟩
theorem loadTb {w:World}{R:Nat}{a b c d e f:Int}{ya:Option Addr}{yn yc:Nat}(h:w.heap[R]?=some (tbO a b c d e f (.slice ya yn yc))):(loadVar 52 ⟨R,0,none⟩).run Tryz.prog w = .ok (.agg #[.int .i64 a,.int .i64 b,.int .i64 c,.int .i64 d,.int .i64 e,.int .i64 f,.slice ya yn yc]) w :=
 run_loadVar_row _ _ 52 52 _ (0,0) _ h Tryz.underlying52 rfl (by kernel_rfl)
abbrev sevT (w:World)(R:Nat)(a b c d e f:Int)(u:Value):World:=((((((w.setCell ⟨R,0,none⟩ (.int .i64 a)).setCell ⟨R,1,none⟩ (.int .i64 b)).setCell ⟨R,2,none⟩ (.int .i64 c)).setCell ⟨R,3,none⟩ (.int .i64 d)).setCell ⟨R,4,none⟩ (.int .i64 e)).setCell ⟨R,5,none⟩ (.int .i64 f)).setCell ⟨R,6,none⟩ u
theorem sevT_all {w w0 wc:World}{ao:Option Addr}{len cap T:Nat}{co gs gp gpo gm gmo:Int}{v:Value}{rs:List DRow}(h:DTQ w w0 wc ao len cap T co gs gp gpo gm gmo v rs)(hw:w.heap.size<w0.heap.size) :
 (sevT wc w0.heap.size co gs gp gpo gm gmo v).heap[w0.heap.size]?=some (tbO co gs gp gpo gm gmo v)/\OwnTab w0.heap.size (sevT wc w0.heap.size co gs gp gpo gm gmo v) v rs/\Cur w (sevT wc w0.heap.size co gs gp gpo gm gmo v) ao len cap/\Fram w w0 (sevT wc w0.heap.size co gs gp gpo gm gmo v):=by
 refine⟨heap_setCell_same _ _ 6 _ 52 _ (heap_setCell_same _ _ 5 _ 52 _ (heap_setCell_same _ _ 4 _ 52 _ (heap_setCell_same _ _ 3 _ 52 _ (heap_setCell_same _ _ 2 _ 52 _ (heap_setCell_same _ _ 1 _ 52 _ (heap_setCell_same _ _ 0 _ 52 _ h.res)))))),?_,?_,?_⟩
 ·refine h.own.other h.res (by decide) (by decide) (by decide) (fun g hg=>?_)
  rw[Below.heap_setCell _ _ _ _ hg,Below.heap_setCell _ _ _ _ hg,Below.heap_setCell _ _ _ _ hg,Below.heap_setCell _ _ _ _ hg,Below.heap_setCell _ _ _ _ hg,Below.heap_setCell _ _ _ _ hg,Below.heap_setCell _ _ _ _ hg]
 ·exact((((((h.cur.set hw _ _).set hw _ _).set hw _ _).set hw _ _).set hw _ _).set hw _ _).set hw _ _
 ·have hl:=Nat.le_refl w0.heap.size
  exact((((((h.fram.put hl _ _).put hl _ _).put hl _ _).put hl _ _).put hl _ _).put hl _ _).put hl _ _
set_option maxRecDepth 20000 in
theorem drawTable_any (ao:Option Addr)(len cap:Nat)(w w0:World)(hB:Bytes w ao len cap)(hC:Cur w w0 ao len cap) :
 Calls Tryz.prog 48 #[curP w] w0 fun e w'=>DTb w w0 w' ao len cap e:=by
 have HB:=hideD hB
 have hwl:w.heap.size<w0.heap.size:=hC.lt
 have HC0:Hid (Cur w (w0.alloc (tbO 0 0 0 0 0 0 (.slice none 0 0))) ao len cap):=hideP (hC.alloc _)
 have F0:Hid (Fram w w0 (w0.alloc (tbO 0 0 0 0 0 0 (.slice none 0 0)))):=hideP ((Fram.refl w w0).alloc _)
 have R0:Hid ((w0.alloc (tbO 0 0 0 0 0 0 (.slice none 0 0))).heap[w0.heap.size]?=some (tbO 0 0 0 0 0 0 (.slice none 0 0))):=hideP (heap_alloc_new w0 _)
 clear hB hC
 go_enter Tryz.func48,Tryz.ntmps48
 go_wp2_with fail
 refine(belowN_any 5 ao len cap w _ HB.out HC0.out (by omega) (by omega)).mono ?_
 rintro e w1 ⟨x1,rfl,hx1,hx1',hc1,ho1⟩
 have HC1:=hideP hc1
 have F1:=hideP (F0.out.other ho1 hc1)
 have R1:=hideP ((ho1 w0.heap.size (by omega)).trans R0.out)
 clear hc1 ho1 HC0 F0 R0
 go_wp2_with fail
 refine(belowN_any 12 ao len cap w _ HB.out HC1.out (by omega) (by omega)).mono ?_
 rintro e w2 ⟨x2,rfl,hx2,hx2',hc2,ho2⟩
 have HC2:=hideP hc2
 have F2:=hideP (F1.out.other ho2 hc2)
 have R2:=hideP ((ho2 w0.heap.size (by omega)).trans R1.out)
 clear hc2 ho2 HC1 F1 R1
 go_wp2_with fail
 refine(belowN_any 2 ao len cap w _ HB.out HC2.out (by omega) (by omega)).mono ?_
 rintro e w3 ⟨x3,rfl,hx3,hx3',hc3,ho3⟩
 have HC3:=hideP hc3
 have F3:=hideP (F2.out.other ho3 hc3)
 have R3:=hideP ((ho3 w0.heap.size (by omega)).trans R2.out)
 clear hc3 ho3 HC2 F2 R2
 go_upto_region 2 with fail
 obtain⟨co,hco⟩:=exq (1+x1)
 obtain⟨gs,hgs⟩:=exq (65536*x2)
 obtain⟨gp,hgp⟩:=exq (65536*x3)
 have hco1:1<=co:=by omega
 have hco5:co<=5:=by omega
 rw[<-hco,<-hgs,<-hgp]
 clear hco hgs hgp hx1 hx1' hx2 hx2' hx3 hx3'
 have hTs:w0.heap.size<w3.heap.size:=(glt R3.out)
 have D0:Hid (DTS w w0 (w3.alloc (tbO co gs gp 0 0 0 (.slice none 0 0))) ao len cap w3.heap.size co gs gp (.slice none 0 0) []):=hideP ⟨HC3.out.alloc _,F3.out.alloc _,(Below.heap_alloc _ _ _ hTs).trans R3.out,heap_alloc_new w3 _,OwnTab.nil _ _⟩
 obtain⟨T,hT⟩:=exq (w3.heap.size)
 rw[<-hT] at D0 hTs
 rw[<-hT]
 generalize World.alloc _ _=W at D0 ⊢
 clear hT HC3 F3 R3
 go_wp2_with fail
 refine(belowN_any 6 ao len cap w _ HB.out D0.out.cur (by omega) (by omega)).mono ?_
 rintro e w4 ⟨x4,rfl,hx4,hx4',hc4,ho4⟩
 have D1:=hideP (D0.out.oth hwl hTs ho4 hc4)
 obtain⟨nR,hnR⟩:∃nR:Nat,x4=(nR:Int):=⟨x4.toNat,by omega⟩
 subst hnR
 have hnR5:nR<=5:=by omega
 clear hc4 ho4 D0 hx4 hx4'
 go_wp2_with fail
 go_loopw [4,5,6,7] (fun s4 _ _ _ wi=>∃(i:Nat) (v:Value) (rs:List DRow),s4 = .int .i64 (i:Int)/\i+rs.length<=5/\Hid (DTS w w0 wi ao len cap T co gs gp v rs)) (fun s4 _ _ _ _=>(intOf s4).toNat)
 case atStart=>exact⟨nR,_,[],rfl,by simpa using hnR5,D1⟩
 case round =>
  obtain⟨i,v,rs,rfl,hi,DI⟩:=hrel
  clear D1
  by_cases hi0:0<i
  ·have hii:(0:Int)<(i:Int):=by omega
   go_upto_region 6 with fail
   have ST:Hid (RSt w wr (wr.alloc (rwO (.slice none 0 0) 0)) ao len cap [] (.slice none 0 0) 0):=hideP (RSt.start DI.out.cur)
   have hws:w.heap.size<wr.heap.size:=DI.out.cur.lt
   obtain⟨S,hS⟩:∃S:World,S=wr:=⟨_,rfl⟩
   rw[<-hS] at ST DI hws
   rw[<-hS]
   generalize World.alloc _ _=W6 at ST ⊢
   clear hS
   go_wp2_with fail
   refine(once_any 6 ao len cap w _ HB.out ST.out.cur (by omega) (by omega)).mono ?_
   rintro e w6 ⟨t6,rfl,hc6,ho6⟩
   have S6:=hideP (ST.out.oth hws ho6 hc6)
   clear hc6 ho6 ST
   go_upto_if 27 with fail
   go_cut [] (fun wc=>∃ru:Int,Hid (RSt w S wc ao len cap [] (.slice none 0 0) ru))
   case first =>
    cases t6 with
    | false =>
     go_wp2
     go_meet
     case rel=>exact⟨0,S6⟩
    | true =>
     go_wp2_with fail
     refine(belowN_any 65536 ao len cap w _ HB.out S6.out.cur (by omega) (by omega)).mono ?_
     rintro e w7 ⟨x7,rfl,hx7,hx7',hc7,ho7⟩
     have S7:=hideP (S6.out.oth hws ho7 hc7)
     have v1:=cell_of_row w7 S.heap.size 1 _ 59 _ S7.out.var
     have fz:∀j,w7.frozen? ⟨S.heap.size,j,none⟩=false:=fun j=>frozen_of_row w7 _ j _ _ S7.out.var
     clear hc7 ho7 S6
     go_wp2
     go_meet
     case rel=>exact⟨1+x7,hideP (S7.out.putRu hws _)⟩
   case rest =>
    obtain⟨ru,SC⟩:=hcut
    clear S6
    go_wp2_with fail
    go_loopw [6,7] (fun s6 _ wi=>∃(at_:Nat) (cs:List C3) (u:Value),s6 = .int .i64 (at_:Int)/\(at_:Int)<=co/\cs.length<=at_/\Hid (RSt w S wi ao len cap cs u ru)) (fun s6 _ _=>5-(intOf s6).toNat)
    case atStart=>exact⟨0,[],_,rfl,by omega,Nat.zero_le _,SC⟩
    case round =>
     obtain⟨at_,cs,u,rfl,hat,hcl,SI⟩:=hrel
     clear SC
     obtain⟨ua,uc,hue⟩:=ownG_shape SI.out.own.own
     dsimp only at hue
     subst hue
     obtain⟨m,hm⟩:=exq (cs.length)
     have HM:=hideP hm
     rw[<-hm] at SI hcl
     clear hm
     have hT1:T<S.heap.size:=(glt DI.out.tab)
     have tT:=(SI.out.fram.2 T hT1 (by omega)).trans DI.out.tab
     have t0:=cell_of_row wr T 0 _ 52 _ tT
     have v1:=cell_of_row wr S.heap.size 1 _ 59 _ SI.out.var
     clear tT
     go_upto_region 9 with fail
     go_cut [45] (fun s45 wc=>(∃t:Bool,s45 = .bool t/\(t=true->(at_:Int)<co))/\Hid (RSt w S wc ao len cap cs (.slice ua m uc) ru))
     case first =>
      by_cases hru:ru=0
      ·by_cases hac:(at_:Int)<co
       ·have d1:decide (ru=0)=true:=by simp[hru]
        have d2:(ru == 0)=true:=by simp[hru]
        have d3:decide ((at_:Int)<co)=true:=by simp[hac]
        go_wp2_with fail
        refine(once_any 6 ao len cap w _ HB.out SI.out.cur (by omega) (by omega)).mono ?_
        rintro e w8 ⟨t8,rfl,hc8,ho8⟩
        have S8:=hideP (SI.out.oth hws ho8 hc8)
        clear hc8 ho8 SI t0 v1
        go_wp2
        go_meet
        case rel=>exact⟨⟨_,rfl,fun _=>hac⟩,S8⟩
       ·have d1:decide (ru=0)=true:=by simp[hru]
        have d2:(ru == 0)=true:=by simp[hru]
        have d3:decide ((at_:Int)<co)=false:=by simp;omega
        go_wp2
        go_meet
        case rel=>exact⟨⟨_,rfl,fun h=>by cases h⟩,SI⟩
      ·have d1:decide (ru=0)=false:=by simp[hru]
       have d2:(ru == 0)=false:=by simp[hru]
       go_wp2
       go_meet
       case rel=>exact⟨⟨_,rfl,fun h=>by cases h⟩,SI⟩
     case rest =>
      obtain⟨⟨t,rfl,ht⟩,SD⟩:=hcut
      clear SI t0 v1
      cases t with
      | true =>
       have hac:=ht rfl
       clear ht
       go_wp2_with fail
       refine(belowN_any 3 ao len cap w _ HB.out SD.out.cur (by omega) (by omega)).mono ?_
       rintro e w11 ⟨al,rfl,hal,hal',hc11,ho11⟩
       have S11:=hideP (SD.out.oth hws ho11 hc11)
       clear hc11 ho11 SD
       go_wp2_with fail
       refine(belowN_any 5 ao len cap w _ HB.out S11.out.cur (by omega) (by omega)).mono ?_
       rintro e w12 ⟨x12,rfl,hx12,hx12',hc12,ho12⟩
       have S12:=hideP (S11.out.oth hws ho12 hc12)
       obtain⟨nL,hnL⟩:∃nL:Nat,x12=(nL:Int):=⟨x12.toNat,by omega⟩
       subst hnL
       clear hc12 ho12 S11
       have HDL:Hid (Calls Tryz.prog 54 #[curP w,.int .i64 (nL:Int),.int .i64 1] w12 fun e w'=>DL w w12 w' ao len cap e (nL*bnd 1)):=hideP (drawList_any ao len cap w HB.out 1 nL w12 (by omega) (by omega) S12.out.cur)
       go_wp2_with fail
       refine HDL.out.mono ?_
       rintro e w13 ⟨lv,ln,rfl,hol,hln,hc13,hf13⟩
       have hln20:ln<=20:=by
        have:bnd 1=5:=rfl
        rw[this] at hln
        omega
       have S13:=hideP (S12.out.go hws hf13 hc13)
       have HLT:=hideP S12.out.lts
       obtain⟨b12,hb12⟩:=exq (w12.heap.size)
       have hSb:S.heap.size<=b12:=by have:=(glt S12.out.var);omega
       rw[<-hb12] at hol HLT
       obtain⟨la,lc,hle⟩:=hol.shape
       subst hle
       have OL13:=hideP hol
       clear hc13 hf13 hln hol HDL S12 hb12 hx12 hx12'
       go_upto_region 11 with fail
       have S14:=hideP (S13.out.bel hws (below1 w13 (clO 1 al (.slice la ln lc))))
       have OL14:=hideP (OL13.out.bel (below1 w13 (clO 1 al (.slice la ln lc))))
       have K14:=hideP (heap_alloc_new w13 (clO 1 al (.slice la ln lc)))
       obtain⟨K,hK⟩:=exq (w13.heap.size)
       have hKK:w13.heap.size<=K:=by omega
       rw[<-hK] at K14
       rw[<-hK]
       generalize World.alloc _ _=W14 at S14 OL14 K14 ⊢
       clear hK OL13
       go_wp2_with fail
       refine(once_any 4 ao len cap w _ HB.out S14.out.cur (by omega) (by omega)).mono ?_
       rintro e w15 ⟨t15,rfl,hc15,ho15⟩
       have S15:=hideP (S14.out.oth hws ho15 hc15)
       have hSl:S.heap.size<w13.heap.size:=(glt S13.out.var)
       have hKw:K≠w.heap.size:=by omega
       have OL15:Hid (OwnN w15 b12 (.slice la ln lc) ln):=hideP (OL14.out.same fun g hg=>ho15 g (by have:=(OL14.out.kind hg).1;omega))
       have K15:=hideP ((ho15 K hKw).trans K14.out)
       clear hc15 ho15 S14 OL14 K14
       go_upto_if 54 with fail
       go_cut [] (fun wc=>∃sp:Nat,1<=sp/\(at_:Int)+sp<=co/\Hid (RSt w S wc ao len cap cs (.slice ua m uc) ru)/\Hid (OwnN wc b12 (.slice la ln lc) ln)/\Hid (wc.heap[K]?=some (clO (sp:Int) al (.slice la ln lc))))
       case first =>
        cases t15 with
        | false =>
         go_wp2
         go_meet
         case rel=>exact⟨1,Nat.le_refl _,by omega,S15,OL15,K15⟩
        | true =>
         have tT:=(S15.out.fram.2 T hT1 (by omega)).trans DI.out.tab
         have t0:=cell_of_row w15 T 0 _ 52 _ tT
         clear tT
         go_wp2_with fail
         refine(belowN_any (co-(at_:Int)) ao len cap w _ HB.out S15.out.cur (by omega) (by omega)).mono ?_
         rintro e w16 ⟨x16,rfl,hx16,hx16',hc16,ho16⟩
         have S16:=hideP (S15.out.oth hws ho16 hc16)
         have OL16:Hid (OwnN w16 b12 (.slice la ln lc) ln):=hideP (OL15.out.same fun g hg=>ho16 g (by have:=(OL15.out.kind hg).1;omega))
         have k16:=(ho16 K hKw).trans K15.out
         have K16:=hideP k16
         have c0:=cell_of_row w16 K 0 _ 61 _ k16
         have fz:∀j,w16.frozen? ⟨K,j,none⟩=false:=fun j=>frozen_of_row w16 _ j _ _ k16
         clear hc16 ho16 k16 S15 OL15 K15 t0
         go_wp2
         go_meet
         case rel=>exact⟨(1+x16).toNat,by omega,by omega,hideP (S13.out.above S16.out hws hKK _ _),hideP (OL16.out.otherT K16.out (by decide) _ _),hideP (by rw[show (((1+x16).toNat:Nat):Int)=1+x16 by omega];exact heap_setCell_same _ _ 0 _ 61 _ K16.out)⟩
       case rest =>
        obtain⟨sp,hsp1,hsp2,SE,OE,KE⟩:=hcut
        clear S15 OL15 K15
        have k0:=cell_of_row wc K 0 _ 61 _ KE.out
        have k1:=cell_of_row wc K 1 _ 61 _ KE.out
        have k2:=cell_of_row wc K 2 _ 61 _ KE.out
        have v0:=cell_of_row wc S.heap.size 0 _ 59 _ SE.out.var
        have hwz:S.heap.size<=wc.heap.size:=SE.out.fram.1
        have SL:=hideP (SE.out.bel hws (below1 wc (clO (sp:Int) al (.slice la ln lc))))
        have OL:=hideP (OE.out.bel (below1 wc (clO (sp:Int) al (.slice la ln lc))))
        have LT:=hideP (heap_alloc_new wc (clO (sp:Int) al (.slice la ln lc)))
        have OC:Hid ((wc.alloc (clO (sp:Int) al (.slice la ln lc))).ownsRow S.heap.size 61 3 (.slice ua m uc) m (flatC cs)):=hideP (by have h:=SL.out.own.own;dsimp only at h;rw[<-HM.out] at h;exact h)
        have hml:m+1<=5:=by omega
        go_wp2_with (at_builtin;refine wpList_appC rfl _ _ rfl S.heap.size (.slice ua m uc) m cs rfl OC.out wc.heap.size (sp:Int) al la ln lc rfl LT.out (by omega) (by simp;omega) ?_;intro v9 w9 ho9 hg9 hat9;have HR9:=hideP (SL.out.app hws hg9 (by rw[<-HM.out];exact ho9) OL.out hln20 (by rw[<-HM.out];exact hml) hSb HLT.out);have hv9:w9.heap[S.heap.size]?=some (rwO (.slice ua m uc) ru):=(grownBy_at hg9 (glt SL.out.var) (fun e=>by obtain⟨c,hc⟩:=own_cells_block OC.out e;rw[SL.out.var] at hc;simp at hc)).trans SL.out.var;have z0:=cell_of_row w9 S.heap.size 0 _ 59 _ hv9;have fz:∀j,w9.frozen? ⟨S.heap.size,j,none⟩=false:=fun j=>frozen_of_row w9 _ j _ _ hv9;obtain⟨a9,c9,h9⟩:=ownG_shape ho9;subst h9;clear ho9 hg9 hat9 hv9)
        go_roundw
        case rel=>exact⟨at_+sp,_,_,by go_num,by push_cast;omega,by simp only[List.length_append,List.length_cons,List.length_nil];have:=HM.out;omega,HR9⟩
        case measure=>simp[intOf];omega
      | false =>
       clear ht
       have tT:=(SD.out.fram.2 T hT1 (by omega)).trans DI.out.tab
       obtain⟨ya,yc,hve⟩:=ownG_shape DI.out.own.own
       subst hve
       obtain⟨q,hq⟩:=exq (rs.length)
       have HQ:=hideP hq
       rw[<-hq] at DI tT hi
       clear hq
       have t6:=cell_of_row wc T 6 _ 52 _ tT
       have v0:=cell_of_row wc S.heap.size 0 _ 59 _ SD.out.var
       have v1:=cell_of_row wc S.heap.size 1 _ 59 _ SD.out.var
       have SL:=hideP (SD.out.bel hws (below1 wc (rwO (.slice ua m uc) ru)))
       have DL9:=hideP (DI.out.go hwl hTs SL.out.fram SL.out.cur)
       have LT:=hideP (heap_alloc_new wc (rwO (.slice ua m uc) ru))
       have OT:Hid ((wc.alloc (rwO (.slice ua m uc) ru)).ownsRow w0.heap.size 59 2 (.slice ya q yc) q (flatR rs)):=hideP (by have h:=DL9.out.own.own;rw[<-HQ.out] at h;exact h)
       have hw0z:w0.heap.size<=wc.heap.size:=by have:=SD.out.fram.1;omega
       clear tT
       go_wp2_with (at_builtin;refine wpList_appR rfl _ _ rfl w0.heap.size (.slice ya q yc) q rs rfl OT.out wc.heap.size cs ru ua m uc rfl LT.out (by omega) (by simp;omega) ?_;intro v9 w9 ho9 hg9 hat9;have HR9:=hideP (DI.out.app SL.out hwl hTs hg9 (by rw[<-HQ.out];exact ho9) (by rw[<-HQ.out];omega));have hv9:w9.heap[T]?=some (tbO co gs gp 0 0 0 (.slice ya q yc)):=(grownBy_at hg9 (glt DL9.out.tab) (fun e=>by obtain⟨c,hc⟩:=own_cells_block OT.out e;rw[DL9.out.tab] at hc;simp at hc)).trans DL9.out.tab;have z0:=cell_of_row w9 T 6 _ 52 _ hv9;have fz:∀j,w9.frozen? ⟨T,j,none⟩=false:=fun j=>frozen_of_row w9 _ j _ _ hv9;obtain⟨a9,c9,h9⟩:=ownG_shape ho9;subst h9;clear ho9 hg9 hat9 hv9)
       go_roundw
       case rel=>exact⟨i-1,_,_,by rw[show ((i-1:Nat):Int)=(i:Int)-1 by omega],by simp only[List.length_append,List.length_cons,List.length_nil];have:=HQ.out;omega,HR9⟩
       case measure=>simp[intOf];omega
  ·have hii:¬(0:Int)<(i:Int):=by omega
   have DQ:Hid (DTQ w w0 wr ao len cap T co gs gp 0 0 0 v rs):=hideP ⟨DI.out.cur,DI.out.fram,DI.out.res,DI.out.tab,DI.out.own⟩
   clear DI
   go_wp2_with fail
   refine(once_any 14 ao len cap w _ HB.out DQ.out.cur (by omega) (by omega)).mono ?_
   rintro e w9 ⟨t9,rfl,c9,o9⟩
   have DR:=hideP (DQ.out.oth hwl hTs o9 c9)
   clear c9 o9 DQ
   go_upto_if 80 with fail
   go_cut [] (fun wc=>Hid (DTE w w0 wc ao len cap T))
   case first =>
    cases t9 with
    | false =>
     go_wp2
     go_meet
     case rel=>exact hideP ⟨_,_,_,_,_,_,_,_,DR.out⟩
    | true =>
     go_wp2_with fail
     refine(spoilT_any ao len cap T w w0 _ HB.out hwl hTs DR.out).mono ?_
     rintro e w10 ⟨⟨rr,rfl⟩,hE⟩
     have HE:=hideP hE
     clear hE DR
     go_wp2
     go_meet
     case rel=>exact HE
   case rest =>
    clear DR
    obtain⟨co',gs',gp',gpo',gm',gmo',v',rs',hD⟩:=hcut.out
    clear hcut
    obtain⟨ya,yc,hve⟩:=ownG_shape hD.own.own
    subst hve
    obtain⟨q',hq'⟩:∃q',q'=rs'.length:=⟨_,rfl⟩
    rw[<-hq'] at hD
    have DF:=hideP hD
    clear hD hq'
    have t0:=cell_of_row wc T 0 _ 52 _ DF.out.tab
    have t1:=cell_of_row wc T 1 _ 52 _ DF.out.tab
    have t2:=cell_of_row wc T 2 _ 52 _ DF.out.tab
    have t3:=cell_of_row wc T 3 _ 52 _ DF.out.tab
    have t4:=cell_of_row wc T 4 _ 52 _ DF.out.tab
    have t5:=cell_of_row wc T 5 _ 52 _ DF.out.tab
    have t6:=cell_of_row wc T 6 _ 52 _ DF.out.tab
    have z0:=cell_of_row wc w0.heap.size 0 _ 52 _ DF.out.res
    have z1:=cell_of_row wc w0.heap.size 1 _ 52 _ DF.out.res
    have z2:=cell_of_row wc w0.heap.size 2 _ 52 _ DF.out.res
    have z3:=cell_of_row wc w0.heap.size 3 _ 52 _ DF.out.res
    have z4:=cell_of_row wc w0.heap.size 4 _ 52 _ DF.out.res
    have z5:=cell_of_row wc w0.heap.size 5 _ 52 _ DF.out.res
    have z6:=cell_of_row wc w0.heap.size 6 _ 52 _ DF.out.res
    have fz:∀j,wc.frozen? ⟨w0.heap.size,j,none⟩=false:=fun j=>frozen_of_row wc _ j _ _ DF.out.res
    have HG:=hideP (sevT_all DF.out hwl)
    clear DF
    go_wp2
    exact bodyPost_ret (v:= .agg #[.int .i64 co',.int .i64 gs',.int .i64 gp',.int .i64 gpo',.int .i64 gm',.int .i64 gmo',.slice ya q' yc]) (results_one_cell rfl _ _ w0.heap.size _ rfl (loadTb HG.out.1)) rfl ⟨_,_,_,_,_,_,_,_,rfl,HG.out.2⟩
end Go.Proofs.YtbbehmcekbnkiaaGreat

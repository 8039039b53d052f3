import Derived.Test.YtbbehmcekbnkiaaGreatShat
namespace Go.Proofs.YtbbehmcekbnkiaaGreat.Shr
set_option maxHeartbeats 4000000
set_option maxRecDepth 20000
open Go.RowKit
set_option linter.unusedVariables false
set_option linter.unusedSimpArgs false
def stp (f o:Gl->Int)(ord want have_:Int)(gs:List Gl):Int×Int×List Int :=
 gs.foldl (fun st g=>if o g=ord then (st.1+f g,cut want (st.1+f g) have_,st.2.2++[cut want (st.1+f g) have_-st.2.1]) else (st.1,st.2.1,st.2.2++[0])) (0,0,[])
theorem stp_yes {f o:Gl->Int}{ord want have_:Int}{gs:List Gl}{g:Gl}(h:o g=ord):stp f o ord want have_ (gs++[g])=((stp f o ord want have_ gs).1+f g,cut want ((stp f o ord want have_ gs).1+f g) have_,(stp f o ord want have_ gs).2.2++[cut want ((stp f o ord want have_ gs).1+f g) have_-(stp f o ord want have_ gs).2.1]):=by
 simp[stp,List.foldl_append,h]
theorem stp_no {f o:Gl->Int}{ord want have_:Int}{gs:List Gl}{g:Gl}(h:o g≠ord):stp f o ord want have_ (gs++[g])=((stp f o ord want have_ gs).1,(stp f o ord want have_ gs).2.1,(stp f o ord want have_ gs).2.2++[0]):=by
 simp[stp,List.foldl_append,h]
theorem stp_bound (f o:Gl->Int)(ord want have_:Int)(gs:List Gl)(h:∀k,k<gs.length-> -1073741823<=f (gs.getD k Gl.none)/\f (gs.getD k Gl.none)<=1073741823) :
 ∀k,k<=gs.length->(-(1073741823*(k:Int))<=(stp f o ord want have_ (gs.take k)).1/\(stp f o ord want have_ (gs.take k)).1<=1073741823*(k:Int))/\(-1152921504606846976<=(stp f o ord want have_ (gs.take k)).2.1/\(stp f o ord want have_ (gs.take k)).2.1<=1152921504606846976)/\(stp f o ord want have_ (gs.take k)).2.2.length=k/\
  ∀j,-2305843009213693952<=(stp f o ord want have_ (gs.take k)).2.2.getD j 0/\(stp f o ord want have_ (gs.take k)).2.2.getD j 0<=2305843009213693952
 | 0,_=>by simp[stp]
 | k+1,hk=>by
  obtain⟨ih1,ih2,ih3,ih4⟩:=stp_bound f o ord want have_ gs h k (by omega)
  have hb:=h k (by omega)
  rw[take_snoc (by omega)]
  generalize gs.getD k Gl.none=g at hb
  by_cases hg:o g=ord
  ·rw[stp_yes hg]
   have hc:=cut_le want ((stp f o ord want have_ (gs.take k)).1+f g) have_
   refine⟨by push_cast;omega,hc,by simp[ih3],fun j=>?_⟩
   by_cases hj:j<k
   ·have:=ih4 j
    simpa [List.getD,List.getElem?_append_left (show j<(stp f o ord want have_ (gs.take k)).2.2.length by omega)] using this
   ·by_cases hjk:j=k
    ·subst hjk
     have e:((stp f o ord want have_ (gs.take j)).2.2++[cut want ((stp f o ord want have_ (gs.take j)).1+f g) have_-(stp f o ord want have_ (gs.take j)).2.1]).getD j 0=cut want ((stp f o ord want have_ (gs.take j)).1+f g) have_-(stp f o ord want have_ (gs.take j)).2.1:=by
      simp[List.getD,List.getElem?_append_right (show (stp f o ord want have_ (gs.take j)).2.2.length<=j by omega),ih3]
     rw[e]
     omega
    ·have e:((stp f o ord want have_ (gs.take k)).2.2++[cut want ((stp f o ord want have_ (gs.take k)).1+f g) have_-(stp f o ord want have_ (gs.take k)).2.1]).getD j 0=0:=by
      rw[List.getD,List.getElem?_eq_none (by simp[ih3];omega)]
      rfl
     rw[e]
     omega
  ·rw[stp_no hg]
   refine⟨by push_cast;omega,ih2,by simp[ih3],fun j=>?_⟩
   by_cases hj:j<k
   ·have:=ih4 j
    simpa [List.getD,List.getElem?_append_left (show j<(stp f o ord want have_ (gs.take k)).2.2.length by omega)] using this
   ·have e:((stp f o ord want have_ (gs.take k)).2.2++[0]).getD j 0=0:=by
     by_cases hjk:j=k
     ·subst hjk
      simp[List.getD,List.getElem?_append_right (show (stp f o ord want have_ (gs.take j)).2.2.length<=j by omega),ih3]
     ·rw[List.getD,List.getElem?_eq_none (by simp[ih3];omega)]
      rfl
    rw[e]
    omega
theorem rep_set {ps:List Int}{n k:Nat}(hl:ps.length=k)(hk:k<n)(z:Int):(ps++List.replicate (n-k) 0).set k z=(ps++[z])++List.replicate (n-(k+1)) 0:=by
 obtain⟨m,hm⟩:∃m,n-k=m+1:=⟨n-k-1,by omega⟩
 rw[hm,show n-(k+1)=m by omega,List.replicate_succ]
 subst hl
 rw[List.set_append_right _ _ (Nat.le_refl _),Nat.sub_self]
 simp
theorem rep_skip {ps:List Int}{n k:Nat}(hk:k<n):ps++List.replicate (n-k) 0=(ps++[0])++List.replicate (n-(k+1)) 0:=by
 obtain⟨m,hm⟩:∃m,n-k=m+1:=⟨n-k-1,by omega⟩
 rw[hm,show n-(k+1)=m by omega,List.replicate_succ]
 simp
theorem made_ints (n:Nat):(madeCells (Value.cells (.int .i64 0)) (n*1)).toList=(List.replicate n (0:Int)).map (Value.int .i64):=by
 rw[Nat.mul_one]
 show (madeCells #[Value.int .i64 0] n).toList=_
 rw[toList_madeCells_one]
 simp
theorem owns_keep {w w':World}{base e size n:Nat}{v:Value}{xs:List Value}(h:w.ownsRow base e size v n xs)(hb:Below w.heap.size w w'):w'.ownsRow base e size v n xs:=by
 refine⟨h.1,?_⟩
 rcases h.2 with h' | ⟨g,cap,cur,hv,hg0,hg,hr⟩
 ·exact .inl h'
 ·exact .inr ⟨g,cap,cur,hv,hg0,(hb.block g (glt hg)).trans hg,hr⟩
theorem block_keep {w w':World}{g:Nat}{o:Obj}(h:w.heap[g]?=some o)(hb:Below w.heap.size w w'):w'.heap[g]?=some o:=(hb.block g (glt h)).trans h
theorem set_cells {w:World}{g:Nat}{a b c d e f:Int}(h:w.heap[g]?=some (.cells #[.int .i64 a,.int .i64 b,.int .i64 c,.int .i64 d,.int .i64 e,.int .i64 f] 28 (0,0))) :
 w.cell? ⟨g,0,none⟩=some (.int .i64 a)/\w.cell? ⟨g,1,none⟩=some (.int .i64 b)/\w.cell? ⟨g,2,none⟩=some (.int .i64 c)/\w.cell? ⟨g,3,none⟩=some (.int .i64 d)/\w.cell? ⟨g,4,none⟩=some (.int .i64 e)/\w.cell? ⟨g,5,none⟩=some (.int .i64 f) :=
 ⟨by rw[cell_of_row w g 0 _ _ _ h];rfl,by rw[cell_of_row w g 1 _ _ _ h];rfl,by rw[cell_of_row w g 2 _ _ _ h];rfl,by rw[cell_of_row w g 3 _ _ _ h];rfl,by rw[cell_of_row w g 4 _ _ _ h];rfl,by rw[cell_of_row w g 5 _ _ _ h];rfl⟩
theorem portionsP_any {v:Value}{gs:List Gl}{w:World}(sa sb sc sd se sf:Int)(h:GRow w v gs)(hok:glsOk gs=true)(hsc0:0<sc)(hsc1:sc<=9223372036854775807)(hsd0:0<sd)(hsd1:sd<=9223372036854775807) :
 Calls Tryz.prog 106 #[v,.func (.func 104) #[] #[],setV sa sb sc sd se sf] w fun e w'=>∃O:Nat,e = .returned (.slice (some ⟨O,0,none⟩) gs.length gs.length)/\
  w'.ownsRow w.heap.size 2 1 (.slice (some ⟨O,0,none⟩) gs.length gs.length) gs.length ((stp Gl.p Gl.po sb sc sd gs).2.2.map (Value.int .i64))/\Below w.heap.size w w':=by
 obtain⟨ao,n,cap,rfl,hl,hr⟩:=h
 have heach:=glsOk_each hok
 have hn2:n<=10000:=by have:=heach.1;omega
 have HE:Hid (∀k,k<gs.length->(gs.getD k Gl.none).ok=true):=heach.2
 have HBD:=stp_bound Gl.p Gl.po sb sc sd gs (fun k hk=>(ok_bounds (HE k hk)).2.1)
 rw[hl] at HBD
 have HBP:Hid (_):=HBD
 have HR:Hid (0<n->∃b off,ao=some ⟨b,off,none⟩/\b<w.heap.size/\∀i,i<n->w.cell? ⟨b,off+i*5,none⟩=some (.int .i64 (gs.getD i Gl.none).s)/\w.cell? ⟨b,off+i*5+1,none⟩=some (.int .i64 (gs.getD i Gl.none).p)/\w.cell? ⟨b,off+i*5+2,none⟩=some (.int .i64 (gs.getD i Gl.none).po)/\w.cell? ⟨b,off+i*5+3,none⟩=some (.int .i64 (gs.getD i Gl.none).m)/\w.cell? ⟨b,off+i*5+4,none⟩=some (.int .i64 (gs.getD i Gl.none).mo)):=hr
 have HL:Hid (gs.length=n):=hl
 rw[hl]
 clear hr hl hok heach HBD
 obtain⟨i0,hi,hz0,hz1,hz2⟩:=info_parts Tryz.info2
 have HI:Hid (i0.bytes=8):=hz2
 clear hz2
 have hbox:(w.alloc (.cells #[.int .i64 sa,.int .i64 sb,.int .i64 sc,.int .i64 sd,.int .i64 se,.int .i64 sf] 28)).heap[w.heap.size]?=some (.cells #[.int .i64 sa,.int .i64 sb,.int .i64 sc,.int .i64 sd,.int .i64 se,.int .i64 sf] 28 (0,0)):=heap_alloc_new w _
 have HX:Hid ((w.alloc (.cells #[.int .i64 sa,.int .i64 sb,.int .i64 sc,.int .i64 sd,.int .i64 se,.int .i64 sf] 28)).heap[w.heap.size]?=some (.cells #[.int .i64 sa,.int .i64 sb,.int .i64 sc,.int .i64 sd,.int .i64 se,.int .i64 sf] 28 (0,0))):=hbox
 clear hbox
 go_enter Tryz.func106,Tryz.ntmps106
 go_wp2_with (first
  | (refine wpList_make_full _ rfl _ _ 54 rfl w.heap.size 2 i0 (.int .i64 0) 1 Tryz.underlying54 hi hz0 hz1 _ _ _ _ n rfl rfl rfl rfl (by rw[show i0.bytes=8 from HI];omega) (by unfold maxLen;omega) (by simp) ?_;intro w1 hown hgrow))
 have hO:(w.alloc (.cells #[.int .i64 sa,.int .i64 sb,.int .i64 sc,.int .i64 sd,.int .i64 se,.int .i64 sf] 28)).heap.size=w.heap.size+1:=by simp
 have H0:Hid (w1.heap[w.heap.size]?=some (.cells #[.int .i64 sa,.int .i64 sb,.int .i64 sc,.int .i64 sd,.int .i64 se,.int .i64 sf] 28 (0,0))/\w1.ownsRow w.heap.size 2 1 (.slice (some ⟨w.heap.size+1,0,none⟩) n n) n (([]++List.replicate (n-0) (0:Int)).map (Value.int .i64))/\Below w.heap.size w w1):=by
  refine⟨(hgrow.block _ (by simp) (by simp)).trans HX,?_,Below.grown ((Below.refl _ _).alloc (Nat.le_refl _) _) hgrow (by simp) (by simp)⟩
  rw[List.nil_append,Nat.sub_zero,<-made_ints,<-hO]
  exact hown
 clear hown hgrow
 clear hO
 obtain⟨O,hOO⟩:=exq (w.heap.size+1)
 have hOB:w.heap.size<=O:=by omega
 have hOne:w.heap.size≠O:=by omega
 rw[<-hOO]
 have H1:Hid (w1.heap[w.heap.size]?=some (.cells #[.int .i64 sa,.int .i64 sb,.int .i64 sc,.int .i64 sd,.int .i64 se,.int .i64 sf] 28 (0,0))/\w1.ownsRow w.heap.size 2 1 (.slice (some ⟨O,0,none⟩) n n) n (([]++List.replicate (n-0) (0:Int)).map (Value.int .i64))/\Below w.heap.size w w1):=by rw[hOO];exact H0
 clear H0 hOO
 obtain⟨X,hX⟩:=exq (w.heap.size)
 go_wp2
 go_loopw [8,9,20] (fun s8 s9 s20 wr=>∃k:Nat,k<=n/\s20 = .int .i64 k/\s8 = .int .i64 (stp Gl.p Gl.po sb sc sd (gs.take k)).1/\s9 = .int .i64 (stp Gl.p Gl.po sb sc sd (gs.take k)).2.1/\
  wr.heap[w.heap.size]?=some (.cells #[.int .i64 sa,.int .i64 sb,.int .i64 sc,.int .i64 sd,.int .i64 se,.int .i64 sf] 28 (0,0))/\wr.ownsRow w.heap.size 2 1 (.slice (some ⟨O,0,none⟩) n n) n (((stp Gl.p Gl.po sb sc sd (gs.take k)).2.2++List.replicate (n-k) (0:Int)).map (Value.int .i64))/\Below w.heap.size w wr) (fun _ _ s _=>n-(intOf s).toNat)
 case atStart=>exact⟨0,by omega,rfl,rfl,rfl,H1.1,H1.2.1,H1.2.2⟩
 case round =>
  obtain⟨k,hk,rfl,rfl,rfl,hbx,hown,hbel⟩:=hrel
  have hlen:gs.length=n:=HL
  obtain⟨bd1,bd2,bd3,bd4⟩:=HBP k hk
  by_cases hkn:k<n
  ·have hki:(k:Int)<(n:Int):=by omega
   obtain⟨b,off,rfl,hb,hc⟩:=HR (by omega)
   obtain⟨t,ht⟩:=exq (gs.getD k Gl.none)
   obtain⟨hc0,hc1,hc2,hc3,hc4⟩:=hc k hkn
   rw[<-ht] at hc0 hc1 hc2 hc3 hc4
   have hob:=ok_bounds (HE k (by omega))
   rw[<-ht] at hob
   have hfb : -1073741823<=t.p/\t.p<=1073741823:=hob.2.1
   obtain⟨st,hst⟩:=exq (stp Gl.p Gl.po sb sc sd (gs.take k))
   have eyes:t.po=sb->stp Gl.p Gl.po sb sc sd (gs.take (k+1))=(st.1+t.p,cut sc (st.1+t.p) sd,st.2.2++[cut sc (st.1+t.p) sd-st.2.1]):=fun hh=>by rw[take_snoc (by omega),<-ht,stp_yes hh,<-hst]
   have eno:t.po≠sb->stp Gl.p Gl.po sb sc sd (gs.take (k+1))=(st.1,st.2.1,st.2.2++[0]):=fun hh=>by rw[take_snoc (by omega),<-ht,stp_no hh,<-hst]
   rw[<-hst] at bd1 bd2 bd3 bd4 hown ⊢
   clear hst
   obtain⟨s0,d0,ps⟩:=st
   simp only at *
   have g0:=(hbel.cell (p:=⟨b,off+k*5,none⟩) hb).trans hc0
   have g1:=(hbel.cell (p:=⟨b,off+k*5+1,none⟩) hb).trans hc1
   have g2:=(hbel.cell (p:=⟨b,off+k*5+2,none⟩) hb).trans hc2
   have g3:=(hbel.cell (p:=⟨b,off+k*5+3,none⟩) hb).trans hc3
   have g4:=(hbel.cell (p:=⟨b,off+k*5+4,none⟩) hb).trans hc4
   have HY:Hid (t.po=sb->stp Gl.p Gl.po sb sc sd (gs.take (k+1))=(s0+t.p,cut sc (s0+t.p) sd,ps++[cut sc (s0+t.p) sd-d0])):=eyes
   have HNO:Hid (t.po≠sb->stp Gl.p Gl.po sb sc sd (gs.take (k+1))=(s0,d0,ps++[0])):=eno
   have H2:Hid (wr.heap[w.heap.size]?=some (.cells #[.int .i64 sa,.int .i64 sb,.int .i64 sc,.int .i64 sd,.int .i64 se,.int .i64 sf] 28 (0,0))/\wr.ownsRow w.heap.size 2 1 (.slice (some ⟨O,0,none⟩) n n) n ((ps++List.replicate (n-k) (0:Int)).map (Value.int .i64))/\Below w.heap.size w wr):=⟨hbx,hown,hbel⟩
   have HPS:Hid (ps.length=k):=bd3
   clear hc hc0 hc1 hc2 hc3 hc4 ht hbx hown hbel eyes eno hob bd3 bd4
   go_wp2_with fail
   refine(plusOf_any _ _ _ _ _ _).mono ?_
   rintro e w2 ⟨rfl,hb2⟩
   have B2:Below w.heap.size w w2:=(H2.2.2.alloc H2.2.2.size _).trans (hb2.mono (by have:=H2.2.2.size;simp;omega))
   have X2:w2.heap[w.heap.size]?=some (.cells #[.int .i64 sa,.int .i64 sb,.int .i64 sc,.int .i64 sd,.int .i64 se,.int .i64 sf] 28 (0,0)):=block_keep ((Below.heap_alloc wr _ _ (glt H2.1)).trans H2.1) hb2
   have O2:=owns_keep (H2.2.1.alloc _) hb2
   obtain⟨x0,x1,x2,x3,x4,x5⟩:=set_cells X2
   have hXl:w.heap.size<w2.heap.size:=(glt X2)
   have H3:Hid (w2.heap[w.heap.size]?=some (.cells #[.int .i64 sa,.int .i64 sb,.int .i64 sc,.int .i64 sd,.int .i64 se,.int .i64 sf] 28 (0,0))/\w2.ownsRow w.heap.size 2 1 (.slice (some ⟨O,0,none⟩) n n) n ((ps++List.replicate (n-k) (0:Int)).map (Value.int .i64))/\Below w.heap.size w w2):=⟨X2,O2,B2⟩
   clear B2 X2 O2 hb2 H2 g0 g1 g2 g3 g4
   by_cases hord:t.po=sb
   ·have hw2:IntKind.i64.wrap (s0+t.p)=s0+t.p:=by rw[IntKind.wrap_i64];omega
    have hcl:=cut_le sc (s0+t.p) sd
    go_wp2_with fail
    refine(scaledCut_any sc (s0+t.p) sd _ hsc0 hsc1 (by omega) (by omega) hsd0 hsd1).mono ?_
    rintro e w3 ⟨⟨bb,rfl⟩,hb3⟩
    obtain⟨cc,hcc⟩:=exq (cut sc (s0+t.p) sd)
    rw[<-hcc] at hcl ⊢
    have hw3:IntKind.i64.wrap (cc-d0)=cc-d0:=by rw[IntKind.wrap_i64];omega
    have X3:=block_keep ((Below.heap_alloc w2 _ _ (glt H3.1)).trans H3.1) hb3
    have O3:=owns_keep (H3.2.1.alloc _) hb3
    have B3:Below w.heap.size w w3:=(H3.2.2.alloc H3.2.2.size _).trans (hb3.mono (by have:=H3.2.2.size;simp;omega))
    have hfz:w3.frozen? ⟨O,k,none⟩=false:=World.ownsRow.frozenAt O3 k
    obtain⟨zz,hzz⟩:∃zz,w3.cell? ⟨O,k,none⟩=some zz:=by
     rw[World.ownsRow.cellAt O3 k (by omega)]
     have hpl:ps.length=k:=HPS
     exact⟨_,List.getElem?_eq_getElem (by simp[hpl];omega)⟩
    have HF:Hid ((w3.setCell ⟨O,k,none⟩ (.int .i64 (cc-d0))).heap[w.heap.size]?=some (.cells #[.int .i64 sa,.int .i64 sb,.int .i64 sc,.int .i64 sd,.int .i64 se,.int .i64 sf] 28 (0,0))/\(w3.setCell ⟨O,k,none⟩ (.int .i64 (cc-d0))).ownsRow w.heap.size 2 1 (.slice (some ⟨O,0,none⟩) n n) n (((ps++[cc-d0])++List.replicate (n-(k+1)) (0:Int)).map (Value.int .i64))/\Below w.heap.size w (w3.setCell ⟨O,k,none⟩ (.int .i64 (cc-d0)))/\cc=cut sc (s0+t.p) sd):=by
     refine⟨(Below.heap_setCell _ _ _ _ hOne).trans X3,?_,B3.setCell (p:=⟨O,k,none⟩) hOB _,hcc⟩
     rw[<-rep_set HPS hkn,List.map_set]
     exact(World.ownsRow.stored O3 k _).1
    clear X3 O3 B3 hb3 H3 hcc
    go_wp2
    go_roundw
    case rel =>
     have hy:=HY hord
     rw[<-show cc=cut sc (s0+t.p) sd from HF.2.2.2] at hy
     refine⟨k+1,by omega,by go_num,by rw[hy],by rw[hy],HF.1,?_,HF.2.2.1⟩
     rw[hy]
     exact HF.2.1
    case measure=>simp[intOf];omega
   ·go_wp2
    go_roundw
    case rel =>
     have hy:=HNO hord
     refine⟨k+1,by omega,by go_num,by rw[hy],by rw[hy],(Below.heap_alloc _ _ _ (glt H3.1)).trans H3.1,?_,H3.2.2.alloc H3.2.2.size _⟩
     rw[hy,<-rep_skip hkn]
     exact H3.2.1.alloc _
    case measure=>simp[intOf];omega
  ·have hki:¬(k:Int)<(n:Int):=by omega
   obtain rfl:k=n:=by omega
   have et:gs.take k=gs:=by rw[<-hlen,List.take_length]
   rw[et,Nat.sub_self,List.replicate_zero,List.append_nil] at hown
   have HF:Hid (wr.ownsRow w.heap.size 2 1 (.slice (some ⟨O,0,none⟩) k k) k ((stp Gl.p Gl.po sb sc sd gs).2.2.map (Value.int .i64))/\Below w.heap.size w wr):=⟨hown,hbel⟩
   clear hown hbel hbx bd1 bd2 bd3 bd4 et hlen
   go_wp2
   go_ret
   exact⟨O,rfl,HF⟩
theorem portionsM_any {v:Value}{gs:List Gl}{w:World}(sa sb sc sd se sf:Int)(h:GRow w v gs)(hok:glsOk gs=true)(hsc0:0<sc)(hsc1:sc<=9223372036854775807)(hsd0:0<sd)(hsd1:sd<=9223372036854775807) :
 Calls Tryz.prog 106 #[v,.func (.func 105) #[] #[],setV sa sb sc sd se sf] w fun e w'=>∃O:Nat,e = .returned (.slice (some ⟨O,0,none⟩) gs.length gs.length)/\
  w'.ownsRow w.heap.size 2 1 (.slice (some ⟨O,0,none⟩) gs.length gs.length) gs.length ((stp Gl.m Gl.mo sb sc sd gs).2.2.map (Value.int .i64))/\Below w.heap.size w w':=by
 obtain⟨ao,n,cap,rfl,hl,hr⟩:=h
 have heach:=glsOk_each hok
 have hn2:n<=10000:=by have:=heach.1;omega
 have HE:Hid (∀k,k<gs.length->(gs.getD k Gl.none).ok=true):=heach.2
 have HBD:=stp_bound Gl.m Gl.mo sb sc sd gs (fun k hk=>(ok_bounds (HE k hk)).2.2.1)
 rw[hl] at HBD
 have HBP:Hid (_):=HBD
 have HR:Hid (0<n->∃b off,ao=some ⟨b,off,none⟩/\b<w.heap.size/\∀i,i<n->w.cell? ⟨b,off+i*5,none⟩=some (.int .i64 (gs.getD i Gl.none).s)/\w.cell? ⟨b,off+i*5+1,none⟩=some (.int .i64 (gs.getD i Gl.none).p)/\w.cell? ⟨b,off+i*5+2,none⟩=some (.int .i64 (gs.getD i Gl.none).po)/\w.cell? ⟨b,off+i*5+3,none⟩=some (.int .i64 (gs.getD i Gl.none).m)/\w.cell? ⟨b,off+i*5+4,none⟩=some (.int .i64 (gs.getD i Gl.none).mo)):=hr
 have HL:Hid (gs.length=n):=hl
 rw[hl]
 clear hr hl hok heach HBD
 obtain⟨i0,hi,hz0,hz1,hz2⟩:=info_parts Tryz.info2
 have HI:Hid (i0.bytes=8):=hz2
 clear hz2
 have hbox:(w.alloc (.cells #[.int .i64 sa,.int .i64 sb,.int .i64 sc,.int .i64 sd,.int .i64 se,.int .i64 sf] 28)).heap[w.heap.size]?=some (.cells #[.int .i64 sa,.int .i64 sb,.int .i64 sc,.int .i64 sd,.int .i64 se,.int .i64 sf] 28 (0,0)):=heap_alloc_new w _
 have HX:Hid ((w.alloc (.cells #[.int .i64 sa,.int .i64 sb,.int .i64 sc,.int .i64 sd,.int .i64 se,.int .i64 sf] 28)).heap[w.heap.size]?=some (.cells #[.int .i64 sa,.int .i64 sb,.int .i64 sc,.int .i64 sd,.int .i64 se,.int .i64 sf] 28 (0,0))):=hbox
 clear hbox
 go_enter Tryz.func106,Tryz.ntmps106
 go_wp2_with (first
  | (refine wpList_make_full _ rfl _ _ 54 rfl w.heap.size 2 i0 (.int .i64 0) 1 Tryz.underlying54 hi hz0 hz1 _ _ _ _ n rfl rfl rfl rfl (by rw[show i0.bytes=8 from HI];omega) (by unfold maxLen;omega) (by simp) ?_;intro w1 hown hgrow))
 have hO:(w.alloc (.cells #[.int .i64 sa,.int .i64 sb,.int .i64 sc,.int .i64 sd,.int .i64 se,.int .i64 sf] 28)).heap.size=w.heap.size+1:=by simp
 have H0:Hid (w1.heap[w.heap.size]?=some (.cells #[.int .i64 sa,.int .i64 sb,.int .i64 sc,.int .i64 sd,.int .i64 se,.int .i64 sf] 28 (0,0))/\w1.ownsRow w.heap.size 2 1 (.slice (some ⟨w.heap.size+1,0,none⟩) n n) n (([]++List.replicate (n-0) (0:Int)).map (Value.int .i64))/\Below w.heap.size w w1):=by
  refine⟨(hgrow.block _ (by simp) (by simp)).trans HX,?_,Below.grown ((Below.refl _ _).alloc (Nat.le_refl _) _) hgrow (by simp) (by simp)⟩
  rw[List.nil_append,Nat.sub_zero,<-made_ints,<-hO]
  exact hown
 clear hown hgrow
 clear hO
 obtain⟨O,hOO⟩:=exq (w.heap.size+1)
 have hOB:w.heap.size<=O:=by omega
 have hOne:w.heap.size≠O:=by omega
 rw[<-hOO]
 have H1:Hid (w1.heap[w.heap.size]?=some (.cells #[.int .i64 sa,.int .i64 sb,.int .i64 sc,.int .i64 sd,.int .i64 se,.int .i64 sf] 28 (0,0))/\w1.ownsRow w.heap.size 2 1 (.slice (some ⟨O,0,none⟩) n n) n (([]++List.replicate (n-0) (0:Int)).map (Value.int .i64))/\Below w.heap.size w w1):=by rw[hOO];exact H0
 clear H0 hOO
 obtain⟨X,hX⟩:=exq (w.heap.size)
 go_wp2
 go_loopw [8,9,20] (fun s8 s9 s20 wr=>∃k:Nat,k<=n/\s20 = .int .i64 k/\s8 = .int .i64 (stp Gl.m Gl.mo sb sc sd (gs.take k)).1/\s9 = .int .i64 (stp Gl.m Gl.mo sb sc sd (gs.take k)).2.1/\
  wr.heap[w.heap.size]?=some (.cells #[.int .i64 sa,.int .i64 sb,.int .i64 sc,.int .i64 sd,.int .i64 se,.int .i64 sf] 28 (0,0))/\wr.ownsRow w.heap.size 2 1 (.slice (some ⟨O,0,none⟩) n n) n (((stp Gl.m Gl.mo sb sc sd (gs.take k)).2.2++List.replicate (n-k) (0:Int)).map (Value.int .i64))/\Below w.heap.size w wr) (fun _ _ s _=>n-(intOf s).toNat)
 case atStart=>exact⟨0,by omega,rfl,rfl,rfl,H1.1,H1.2.1,H1.2.2⟩
 case round =>
  obtain⟨k,hk,rfl,rfl,rfl,hbx,hown,hbel⟩:=hrel
  have hlen:gs.length=n:=HL
  obtain⟨bd1,bd2,bd3,bd4⟩:=HBP k hk
  by_cases hkn:k<n
  ·have hki:(k:Int)<(n:Int):=by omega
   obtain⟨b,off,rfl,hb,hc⟩:=HR (by omega)
   obtain⟨t,ht⟩:=exq (gs.getD k Gl.none)
   obtain⟨hc0,hc1,hc2,hc3,hc4⟩:=hc k hkn
   rw[<-ht] at hc0 hc1 hc2 hc3 hc4
   have hob:=ok_bounds (HE k (by omega))
   rw[<-ht] at hob
   have hfb : -1073741823<=t.m/\t.m<=1073741823:=hob.2.2.1
   obtain⟨st,hst⟩:=exq (stp Gl.m Gl.mo sb sc sd (gs.take k))
   have eyes:t.mo=sb->stp Gl.m Gl.mo sb sc sd (gs.take (k+1))=(st.1+t.m,cut sc (st.1+t.m) sd,st.2.2++[cut sc (st.1+t.m) sd-st.2.1]):=fun hh=>by rw[take_snoc (by omega),<-ht,stp_yes hh,<-hst]
   have eno:t.mo≠sb->stp Gl.m Gl.mo sb sc sd (gs.take (k+1))=(st.1,st.2.1,st.2.2++[0]):=fun hh=>by rw[take_snoc (by omega),<-ht,stp_no hh,<-hst]
   rw[<-hst] at bd1 bd2 bd3 bd4 hown ⊢
   clear hst
   obtain⟨s0,d0,ps⟩:=st
   simp only at *
   have g0:=(hbel.cell (p:=⟨b,off+k*5,none⟩) hb).trans hc0
   have g1:=(hbel.cell (p:=⟨b,off+k*5+1,none⟩) hb).trans hc1
   have g2:=(hbel.cell (p:=⟨b,off+k*5+2,none⟩) hb).trans hc2
   have g3:=(hbel.cell (p:=⟨b,off+k*5+3,none⟩) hb).trans hc3
   have g4:=(hbel.cell (p:=⟨b,off+k*5+4,none⟩) hb).trans hc4
   have HY:Hid (t.mo=sb->stp Gl.m Gl.mo sb sc sd (gs.take (k+1))=(s0+t.m,cut sc (s0+t.m) sd,ps++[cut sc (s0+t.m) sd-d0])):=eyes
   have HNO:Hid (t.mo≠sb->stp Gl.m Gl.mo sb sc sd (gs.take (k+1))=(s0,d0,ps++[0])):=eno
   have H2:Hid (wr.heap[w.heap.size]?=some (.cells #[.int .i64 sa,.int .i64 sb,.int .i64 sc,.int .i64 sd,.int .i64 se,.int .i64 sf] 28 (0,0))/\wr.ownsRow w.heap.size 2 1 (.slice (some ⟨O,0,none⟩) n n) n ((ps++List.replicate (n-k) (0:Int)).map (Value.int .i64))/\Below w.heap.size w wr):=⟨hbx,hown,hbel⟩
   have HPS:Hid (ps.length=k):=bd3
   clear hc hc0 hc1 hc2 hc3 hc4 ht hbx hown hbel eyes eno hob bd3 bd4
   go_wp2_with fail
   refine(minusOf_any _ _ _ _ _ _).mono ?_
   rintro e w2 ⟨rfl,hb2⟩
   have B2:Below w.heap.size w w2:=(H2.2.2.alloc H2.2.2.size _).trans (hb2.mono (by have:=H2.2.2.size;simp;omega))
   have X2:w2.heap[w.heap.size]?=some (.cells #[.int .i64 sa,.int .i64 sb,.int .i64 sc,.int .i64 sd,.int .i64 se,.int .i64 sf] 28 (0,0)):=block_keep ((Below.heap_alloc wr _ _ (glt H2.1)).trans H2.1) hb2
   have O2:=owns_keep (H2.2.1.alloc _) hb2
   obtain⟨x0,x1,x2,x3,x4,x5⟩:=set_cells X2
   have hXl:w.heap.size<w2.heap.size:=(glt X2)
   have H3:Hid (w2.heap[w.heap.size]?=some (.cells #[.int .i64 sa,.int .i64 sb,.int .i64 sc,.int .i64 sd,.int .i64 se,.int .i64 sf] 28 (0,0))/\w2.ownsRow w.heap.size 2 1 (.slice (some ⟨O,0,none⟩) n n) n ((ps++List.replicate (n-k) (0:Int)).map (Value.int .i64))/\Below w.heap.size w w2):=⟨X2,O2,B2⟩
   clear B2 X2 O2 hb2 H2 g0 g1 g2 g3 g4
   by_cases hord:t.mo=sb
   ·have hw2:IntKind.i64.wrap (s0+t.m)=s0+t.m:=by rw[IntKind.wrap_i64];omega
    have hcl:=cut_le sc (s0+t.m) sd
    go_wp2_with fail
    refine(scaledCut_any sc (s0+t.m) sd _ hsc0 hsc1 (by omega) (by omega) hsd0 hsd1).mono ?_
    rintro e w3 ⟨⟨bb,rfl⟩,hb3⟩
    obtain⟨cc,hcc⟩:=exq (cut sc (s0+t.m) sd)
    rw[<-hcc] at hcl ⊢
    have hw3:IntKind.i64.wrap (cc-d0)=cc-d0:=by rw[IntKind.wrap_i64];omega
    have X3:=block_keep ((Below.heap_alloc w2 _ _ (glt H3.1)).trans H3.1) hb3
    have O3:=owns_keep (H3.2.1.alloc _) hb3
    have B3:Below w.heap.size w w3:=(H3.2.2.alloc H3.2.2.size _).trans (hb3.mono (by have:=H3.2.2.size;simp;omega))
    have hfz:w3.frozen? ⟨O,k,none⟩=false:=World.ownsRow.frozenAt O3 k
    obtain⟨zz,hzz⟩:∃zz,w3.cell? ⟨O,k,none⟩=some zz:=by
     rw[World.ownsRow.cellAt O3 k (by omega)]
     have hpl:ps.length=k:=HPS
     exact⟨_,List.getElem?_eq_getElem (by simp[hpl];omega)⟩
    have HF:Hid ((w3.setCell ⟨O,k,none⟩ (.int .i64 (cc-d0))).heap[w.heap.size]?=some (.cells #[.int .i64 sa,.int .i64 sb,.int .i64 sc,.int .i64 sd,.int .i64 se,.int .i64 sf] 28 (0,0))/\(w3.setCell ⟨O,k,none⟩ (.int .i64 (cc-d0))).ownsRow w.heap.size 2 1 (.slice (some ⟨O,0,none⟩) n n) n (((ps++[cc-d0])++List.replicate (n-(k+1)) (0:Int)).map (Value.int .i64))/\Below w.heap.size w (w3.setCell ⟨O,k,none⟩ (.int .i64 (cc-d0)))/\cc=cut sc (s0+t.m) sd):=by
     refine⟨(Below.heap_setCell _ _ _ _ hOne).trans X3,?_,B3.setCell (p:=⟨O,k,none⟩) hOB _,hcc⟩
     rw[<-rep_set HPS hkn,List.map_set]
     exact(World.ownsRow.stored O3 k _).1
    clear X3 O3 B3 hb3 H3 hcc
    go_wp2
    go_roundw
    case rel =>
     have hy:=HY hord
     rw[<-show cc=cut sc (s0+t.m) sd from HF.2.2.2] at hy
     refine⟨k+1,by omega,by go_num,by rw[hy],by rw[hy],HF.1,?_,HF.2.2.1⟩
     rw[hy]
     exact HF.2.1
    case measure=>simp[intOf];omega
   ·go_wp2
    go_roundw
    case rel =>
     have hy:=HNO hord
     refine⟨k+1,by omega,by go_num,by rw[hy],by rw[hy],(Below.heap_alloc _ _ _ (glt H3.1)).trans H3.1,?_,H3.2.2.alloc H3.2.2.size _⟩
     rw[hy,<-rep_skip hkn]
     exact H3.2.1.alloc _
    case measure=>simp[intOf];omega
  ·have hki:¬(k:Int)<(n:Int):=by omega
   obtain rfl:k=n:=by omega
   have et:gs.take k=gs:=by rw[<-hlen,List.take_length]
   rw[et,Nat.sub_self,List.replicate_zero,List.append_nil] at hown
   have HF:Hid (wr.ownsRow w.heap.size 2 1 (.slice (some ⟨O,0,none⟩) k k) k ((stp Gl.m Gl.mo sb sc sd gs).2.2.map (Value.int .i64))/\Below w.heap.size w wr):=⟨hown,hbel⟩
   clear hown hbel hbx bd1 bd2 bd3 bd4 et hlen
   go_wp2
   go_ret
   exact⟨O,rfl,HF⟩
theorem hidW {p:Prop}(h:p):Hid p:=h
def Fr (L:Nat)(w w':World):Prop:=w'.os=w.os/\w'.tape=w.tape/\w'.output=w.output/\w.heap.size<=w'.heap.size/\∀b,b<w.heap.size->b≠L->w'.heap[b]?=w.heap[b]?
theorem Fr.refl (L:Nat)(w:World):Fr L w w:=⟨rfl,rfl,rfl,Nat.le_refl _,fun _ _ _=>rfl⟩
theorem Fr.below {L:Nat}{w a b:World}(h:Fr L w a)(hb:Below a.heap.size a b):Fr L w b :=
 ⟨hb.os.trans h.1,hb.tape.trans h.2.1,hb.output.trans h.2.2.1,Nat.le_trans h.2.2.2.1 hb.size,fun k hk hne=>(hb.block k (Nat.lt_of_lt_of_le hk h.2.2.2.1)).trans (h.2.2.2.2 k hk hne)⟩
theorem Fr.alloc {L:Nat}{w a:World}(h:Fr L w a)(o:Obj):Fr L w (a.alloc o):=h.below ((Below.refl _ _).alloc (Nat.le_refl _) _)
theorem Fr.set {L:Nat}{w a:World}(h:Fr L w a){p:Addr}(hp:p.block=L\/w.heap.size<=p.block)(v:Value):Fr L w (a.setCell p v) :=
 ⟨h.1,h.2.1,h.2.2.1,by simpa [World.setCell] using h.2.2.2.1,fun k hk hne=>(Below.heap_setCell _ _ _ _ (by rcases hp with hp|hp<;>omega)).trans (h.2.2.2.2 k hk hne)⟩
theorem Fr.drew {L:Nat}{w a:World}(h:Fr L w a):Fr L w a.drew:=h
theorem Fr.toBelow {L B:Nat}{w a:World}(h:Fr L w a)(hL:B<=L)(hB:B<=w.heap.size):Below B w a:=⟨h.1,h.2.1,h.2.2.1,h.2.2.2.1,fun k hk=>h.2.2.2.2 k (by omega) (by omega)⟩
abbrev setO (a b c d e f:Int):Obj:= .cells #[.int .i64 a,.int .i64 b,.int .i64 c,.int .i64 d,.int .i64 e,.int .i64 f] 28 (0,0)
abbrev six (w:World)(R:Nat)(a b c d e f:Int):World:=(((((w.setCell ⟨R,0,none⟩ (.int .i64 a)).setCell ⟨R,1,none⟩ (.int .i64 b)).setCell ⟨R,2,none⟩ (.int .i64 c)).setCell ⟨R,3,none⟩ (.int .i64 d)).setCell ⟨R,4,none⟩ (.int .i64 e)).setCell ⟨R,5,none⟩ (.int .i64 f)
theorem six_heap {w:World}{R:Nat}{a0 b0 c0 d0 e0 f0:Int}(h:w.heap[R]?=some (setO a0 b0 c0 d0 e0 f0))(a b c d e f:Int):(six w R a b c d e f).heap[R]?=some (setO a b c d e f) :=
 heap_setCell_same _ R 5 _ 28 _ (heap_setCell_same _ R 4 _ 28 _ (heap_setCell_same _ R 3 _ 28 _ (heap_setCell_same _ R 2 _ 28 _ (heap_setCell_same _ R 1 _ 28 _ (heap_setCell_same _ R 0 _ 28 _ h)))))
theorem six_other {w:World}{R g:Nat}{o:Obj}(h:w.heap[g]?=some o)(hne:g≠R)(a b c d e f:Int):(six w R a b c d e f).heap[g]?=some o :=
 (Below.heap_setCell _ _ _ _ hne).trans ((Below.heap_setCell _ _ _ _ hne).trans ((Below.heap_setCell _ _ _ _ hne).trans ((Below.heap_setCell _ _ _ _ hne).trans ((Below.heap_setCell _ _ _ _ hne).trans ((Below.heap_setCell _ _ _ _ hne).trans h)))))
theorem six_fr {L:Nat}{w a:World}(h:Fr L w a){R:Nat}(hR:w.heap.size<=R)(x0 x1 x2 x3 x4 x5:Int):Fr L w (six a R x0 x1 x2 x3 x4 x5) :=
 (((((h.set (p:=⟨R,0,none⟩) (.inr hR) _).set (p:=⟨R,1,none⟩) (.inr hR) _).set (p:=⟨R,2,none⟩) (.inr hR) _).set (p:=⟨R,3,none⟩) (.inr hR) _).set (p:=⟨R,4,none⟩) (.inr hR) _).set (p:=⟨R,5,none⟩) (.inr hR) _
theorem owns_heap {w w':World}{base e size n g cap:Nat}{xs:List Value}(h:w.ownsRow base e size (.slice (some ⟨g,0,none⟩) n cap) n xs)(hb:w'.heap[g]?=w.heap[g]?):w'.ownsRow base e size (.slice (some ⟨g,0,none⟩) n cap) n xs:=by
 refine⟨h.1,?_⟩
 rcases h.2 with ⟨h',_⟩ | ⟨g',cap',cur,hv,hg0,hg,hr⟩
 ·simp at h'
 ·simp only[Value.slice.injEq,Option.some.injEq,Addr.mk.injEq,and_true,true_and] at hv
  obtain⟨rfl,rfl⟩:=hv
  exact .inr ⟨g,cap,cur,rfl,hg0,hb.trans hg,hr⟩
theorem six_same {w:World}{R g:Nat}(hne:g≠R)(a b c d e f:Int):(six w R a b c d e f).heap[g]?=w.heap[g]? :=
 (Below.heap_setCell _ _ _ _ hne).trans ((Below.heap_setCell _ _ _ _ hne).trans ((Below.heap_setCell _ _ _ _ hne).trans ((Below.heap_setCell _ _ _ _ hne).trans ((Below.heap_setCell _ _ _ _ hne).trans (Below.heap_setCell _ _ _ _ hne)))))
theorem loadSet {w:World}{R:Nat}{a b c d e f:Int}(h:w.heap[R]?=some (setO a b c d e f)):(loadVar 28 ⟨R,0,none⟩).run Tryz.prog w = .ok (setV a b c d e f) w :=
 run_loadVar_row _ _ 28 28 _ (0,0) _ h Tryz.underlying28 rfl (by kernel_rfl)
def plusL (zs ps:List Int):List Int:=(List.range zs.length).map (fun j=>zs.getD j 0+ps.getD j 0)
def minusL (zs ps:List Int):List Int:=(List.range zs.length).map (fun j=>zs.getD j 0-ps.getD j 0)
theorem plusL_length (zs ps:List Int):(plusL zs ps).length=zs.length:=by simp[plusL]
theorem minusL_length (zs ps:List Int):(minusL zs ps).length=zs.length:=by simp[minusL]
theorem plusL_at {zs ps:List Int}{j:Nat}(h:j<zs.length):(plusL zs ps).getD j 0=zs.getD j 0+ps.getD j 0:=by simp[plusL,List.getD,List.getElem?_map,List.getElem?_range h]
theorem minusL_at {zs ps:List Int}{j:Nat}(h:j<zs.length):(minusL zs ps).getD j 0=zs.getD j 0-ps.getD j 0:=by simp[minusL,List.getD,List.getElem?_map,List.getElem?_range h]
def sizes (gs:List Gl):List Int:=gs.map (fun g=>g.s)
theorem sizes_at {gs:List Gl}{j:Nat}(h:j<gs.length):(sizes gs).getD j 0=(gs.getD j Gl.none).s:=by simp[sizes,List.getD,List.getElem?_map,List.getElem?_eq_getElem h]
theorem owns_cell {w:World}{base e g n cap:Nat}{zs:List Int}(h:w.ownsRow base e 1 (.slice (some ⟨g,0,none⟩) n cap) n (zs.map (Value.int .i64)))(i:Nat)(hi:i<n):w.cell? ⟨g,i,none⟩=some (.int .i64 (zs.getD i 0)):=by
 have hl:zs.length=n:=by simpa using h.1
 rw[World.ownsRow.cellAt h i (by omega)]
 simp[List.getElem?_map,List.getD,List.getElem?_eq_getElem (show i<zs.length by omega)]
theorem tot_have (f o:Gl->Int)(gs:List Gl)(hl:gs.length<=10000)(h:∀k,k<gs.length-> -1073741823<=f (gs.getD k Gl.none)/\f (gs.getD k Gl.none)<=1073741823)(j:Nat) :
 -10737418230000<=(tot f o gs).getD j 0/\(tot f o gs).getD j 0<=10737418230000:=by
 have:=tot_bound f o gs h gs.length (Nat.le_refl _) j
 rw[List.take_length] at this
 omega
theorem stretchT_any (want a0 a1 a2 a3 o hv:Int)(w:World)(ho:o=(top [a0,a1,a2,a3]:Int))(hhv:hv=([a0,a1,a2,a3]:List Int).getD (top [a0,a1,a2,a3]) 0)(hw1:want<=9223372036854775807)(hd:hv<=9223372036854775807) :
 Calls Tryz.prog 117 #[.int .i64 want,.agg #[.int .i64 a0,.int .i64 a1,.int .i64 a2,.int .i64 a3]] w fun e w' =>
  e = .returned (setV 1 o want hv (if hv<=0 then 10000 else if 0<o then 0 else badV want hv) 0)/\Below w.heap.size w w':=by
 obtain⟨bb,hbb⟩:∃bb:Int,bb=(if hv<=0 then 10000 else if 0<o then 0 else badV want hv):=⟨_,rfl⟩
 rw[<-hbb]
 have HBB:=hidW hbb
 clear hbb
 have HW:Hid (want<=9223372036854775807/\hv<=9223372036854775807):=⟨hw1,hd⟩
 clear hw1 hd
 go_enter Tryz.func117,Tryz.ntmps117
 go_wp2_with fail
 refine(highest_any _ _ _ _ _).mono ?_
 rintro e w2 ⟨rfl,hb2⟩
 rw[<-ho,<-hhv]
 clear ho hhv
 have R2:w2.heap[w.heap.size+1]?=some (setO 0 0 0 0 0 0):=block_keep (by have:=heap_alloc_new (w.alloc (.cells #[.int .i64 a0,.int .i64 a1,.int .i64 a2,.int .i64 a3] 197)) (setO 0 0 0 0 0 0);simpa using this) hb2
 have B2:Below w.heap.size w w2:=(((Below.refl _ _).alloc (Nat.le_refl _) _).alloc (by simp) _).trans (hb2.mono (by simp;omega))
 obtain⟨R,hR⟩:=exq (w.heap.size+1)
 rw[<-hR] at R2 ⊢
 have HRR:Hid (w.heap.size<=R):=(by omega:w.heap.size<=R)
 have hRl:R<w2.heap.size:=(glt R2)
 have HB:Hid (w2.heap[R]?=some (setO 0 0 0 0 0 0)/\Below w.heap.size w w2):=⟨R2,B2⟩
 obtain⟨q0,q1,q2,q3,q4,q5⟩:=set_cells R2
 have fr:∀j,w2.frozen? ⟨R,j,none⟩=false:=fun j=>frozen_of_row w2 R j _ _ R2
 clear hb2 R2 B2 hR
 go_wp2_with fail
 refine(boundBad_any _ _ _ _ _ _ _ HW.1 HW.2).mono ?_
 rintro e w3 ⟨rfl,hb3⟩
 obtain⟨bd,hbd⟩:∃bd:Int,bd=(if 0<o then 0 else badV want hv):=⟨_,rfl⟩
 rw[<-hbd]
 obtain⟨S,hS⟩:=exq (w2.heap.size)
 have S3:w3.heap[w2.heap.size]?=some (setO 1 o want hv 0 0):=block_keep (heap_alloc_new w2 _) hb3
 have R3:w3.heap[R]?=some (setO 0 0 0 0 0 0):=block_keep ((Below.heap_alloc _ _ _ hRl).trans HB.1) hb3
 have B3:Hid (Below w.heap.size w w3):=hidW ((HB.2.alloc HB.2.size _).trans (hb3.mono (by have:=HB.2.size;simp;omega)))
 rw[<-hS] at S3 ⊢
 have hSR:S≠R:=by omega
 have HSB:Hid (w.heap.size<=S):=hidW (by have:=HB.2.size;omega)
 have hRl3:R<w3.heap.size:=(glt R3)
 have hSl3:S<w3.heap.size:=(glt S3)
 have HR3:=hidW R3
 have HS3:=hidW S3
 clear q0 q1 q2 q3 q4 q5 fr hRl
 obtain⟨q0,q1,q2,q3,q4,q5⟩:=set_cells R3
 obtain⟨s0,s1,s2,s3,s4,s5⟩:=set_cells S3
 have fr:∀j,w3.frozen? ⟨R,j,none⟩=false:=fun j=>frozen_of_row w3 R j _ _ R3
 have fs:∀j,w3.frozen? ⟨S,j,none⟩=false:=fun j=>frozen_of_row w3 S j _ _ S3
 have hRS:R≠S:=Ne.symm hSR
 clear hb3 R3 S3 HB hS
 by_cases hno:hv<=0
 ·have HN:=hidW hno
  clear hbd
  go_wp2
  refine bodyPost_ret (v:=setV 1 o want hv 10000 0) (results_cell_row rfl _ _ R 28 _ (0,0) _ rfl (six_heap (a0:=0) (b0:=0) (c0:=0) (d0:=0) (e0:=0) (f0:=0) ?hh 1 o want hv 10000 0) Tryz.underlying28 rfl (by kernel_rfl)) rfl ⟨by rw[show bb=_ from HBB.out,if_pos (by have:=HN.out;omega)],?_⟩
  case hh =>
   repeat(first|with_reducible exact HR3.out|(refine(Below.heap_setCell _ _ _ _ ?_).trans ?_;· first|exact hRS|exact hSR))
  ·have hr:=HRR.out
   have hs:=HSB.out
   repeat(first|with_reducible exact B3.out|(with_reducible refine Below.setCell ?_ ?_ _;rotate_left;focus(first|exact hr|exact hs)))
 ·have HN:=hidW hno
  have HBD:=hidW hbd
  clear hbd
  go_wp2
  refine bodyPost_ret (v:=setV 1 o want hv bd 0) (results_cell_row rfl _ _ R 28 _ (0,0) _ rfl (six_heap (a0:=0) (b0:=0) (c0:=0) (d0:=0) (e0:=0) (f0:=0) ?hh 1 o want hv bd 0) Tryz.underlying28 rfl (by kernel_rfl)) rfl ⟨by rw[show bb=_ from HBB.out,if_neg (by have:=HN.out;omega),show bd=_ from HBD.out],?_⟩
  case hh =>
   repeat(first|with_reducible exact HR3.out|(refine(Below.heap_setCell _ _ _ _ ?_).trans ?_;· first|exact hRS|exact hSR))
  ·have hr:=HRR.out
   have hs:=HSB.out
   repeat(first|with_reducible exact B3.out|(with_reducible refine Below.setCell ?_ ?_ _;rotate_left;focus(first|exact hr|exact hs)))
end Go.Proofs.YtbbehmcekbnkiaaGreat.Shr

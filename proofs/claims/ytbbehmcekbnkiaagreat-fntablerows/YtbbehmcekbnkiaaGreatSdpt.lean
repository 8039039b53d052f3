import Derived.Test.YtbbehmcekbnkiaaGreatSpot
import Derived.Test.YtbbehmcekbnkiaaGreatClnt
namespace Go.Proofs.YtbbehmcekbnkiaaGreat
set_option maxHeartbeats 8000000
open Go.RowKit
set_option linter.unusedVariables false
set_option linter.unusedSimpArgs false
def listB (xs:List Nd):Bool:=decide (xs.length<=20000)&&okFrom xs.length 0 [] xs
def stk (T:List Int)(N:Int):List Int:=(T++[N]).reverse
theorem stk_len (T:List Int)(N:Int):(stk T N).length=T.length+1:=by simp[stk]
theorem stk_cons (e:Int)(T:List Int)(N:Int):stk (e :: T) N=stk T N++[e]:=by simp[stk]
abbrev IR (w:World)(base:Nat)(v:Value)(m:Nat)(S:List Int):Prop:=w.ownsRow base 3 1 v m (S.map (Value.int .i64))
theorem stk_top {w:World}{base g q c:Nat}{U:List Int}{N:Int}(h:IR w base (.slice (some ⟨g,0,none⟩) (q+1) c) (q+1) (stk U N))(hU:U.length=q):w.cell? ⟨g,q,none⟩=some (.int .i64 (U.headD N)):=by
 rw[World.ownsRow.cellAt h q (by omega)]
 rw[List.getElem?_map]
 have:(stk U N)[q]?=some (U.headD N):=by
  subst hU
  unfold stk
  rw[List.getElem?_reverse (by simp)]
  cases U<;>simp
 rw[this]
 rfl
theorem stk_pop {w:World}{base g q c:Nat}{e:Int}{U:List Int}{N:Int}(h:IR w base (.slice (some ⟨g,0,none⟩) (q+1+1) c) (q+1+1) (stk (e :: U) N))(hU:U.length=q):IR w base (.slice (some ⟨g,0,none⟩) (q+1) c) (q+1) (stk U N):=by
 rw[stk_cons,IR,List.map_append] at h
 exact ownsRow_pop (by simp[stk_len,hU]) h
theorem stk_cap {w:World}{base g m c:Nat}{S:List Int}(h:IR w base (.slice (some ⟨g,0,none⟩) m c) m S):m<=c/\c<=9223372036854775807/\base<=g/\g<w.heap.size:=by
 rcases h.2 with ⟨h0,_⟩ | ⟨g',cap',cur,h0,hb,hg,hm,hc,_⟩
 ·simp at h0
 ·simp at h0
  obtain⟨rfl,rfl⟩:=h0
  unfold maxLen at hc
  exact⟨hm,hc,hb,(glt hg)⟩
theorem IR.below {w w':World}{base:Nat}{v:Value}{m:Nat}{S:List Int}(h:IR w base v m S)(hb:Below w.heap.size w w'):IR w' base v m S:=by
 obtain⟨h1,h2⟩:=h
 refine⟨h1,?_⟩
 rcases h2 with h2 | ⟨g,cap,cur,hv,hg,hh,hr⟩
 ·exact .inl h2
 ·exact .inr ⟨g,cap,cur,hv,hg,(hb.block g (glt hh)).trans hh,hr⟩
structure Left (xs:List Nd)(k:Nat)(T:List Int):Prop where
 opn:Open k T
 most:∀y∈T,y<=xs.length
 same:okFrom xs.length 0 [] xs=okFrom xs.length k T (xs.drop k)
theorem Left.start (xs:List Nd):Left xs 0 []:=⟨⟨by simp,by simp⟩,by simp,rfl⟩
theorem Left.done {xs:List Nd}{T:List Int}(h:Left xs xs.length T):okFrom xs.length 0 [] xs=true:=by
 rw[h.same]
 simp[okFrom]
theorem drop_at {xs:List Nd}{k:Nat}(hk:k<xs.length):xs.drop k=xs.getD k Nd.none :: xs.drop (k+1):=by
 rw[List.drop_eq_getElem_cons hk]
 simp[List.getD,List.getElem?_eq_getElem hk]
theorem Left.step {xs:List Nd}{k:Nat}{T:List Int}(h:Left xs k T)(hk:k<xs.length):okFrom xs.length 0 [] xs =
 (goodB (xs.getD k Nd.none)&&decide ((xs.getD k Nd.none).kids<=(T.dropWhile (· == (k:Int))).headD xs.length-k-1)&&(!deepB (xs.getD k Nd.none)||decide ((T.dropWhile (· == (k:Int))).length<=40)) &&
  okFrom xs.length (k+1) (if deepB (xs.getD k Nd.none) then ((k:Int)+1+(xs.getD k Nd.none).kids) :: T.dropWhile (· == (k:Int)) else T.dropWhile (· == (k:Int))) (xs.drop (k+1))):=by
 rw[h.same,drop_at hk]
 rfl
theorem drop_mem {p:Int->Bool}{T:List Int}{y:Int}(h:y∈T.dropWhile p):y∈T:=(List.dropWhile_sublist p).subset h
theorem Left.top {xs:List Nd}{k:Nat}{T:List Int}(h:Left xs k T)(hk:k<xs.length):(k:Int)+1<=(T.dropWhile (· == (k:Int))).headD xs.length/\(T.dropWhile (· == (k:Int))).headD xs.length<=xs.length:=by
 refine⟨h.opn.pop.head (by omega),?_⟩
 cases he:T.dropWhile (· == (k:Int)) with
 | nil=>simp
 | cons a U =>
  have:=h.most a (drop_mem (by rw[he];exact List.mem_cons_self ..))
  simpa using this
theorem Left.bad {xs:List Nd}{k:Nat}{T:List Int}(h:Left xs k T)(hk:k<xs.length)(hg:goodB (xs.getD k Nd.none)=false):okFrom xs.length 0 [] xs=false:=by
 rw[h.step hk,hg]
 rfl
theorem Left.over {xs:List Nd}{k:Nat}{T:List Int}(h:Left xs k T)(hk:k<xs.length)(hg:¬(xs.getD k Nd.none).kids<=(T.dropWhile (· == (k:Int))).headD xs.length-k-1):okFrom xs.length 0 [] xs=false:=by
 rw[h.step hk,decide_eq_false hg]
 simp
theorem Left.nest {xs:List Nd}{k:Nat}{T:List Int}(h:Left xs k T)(hk:k<xs.length)(hd:deepB (xs.getD k Nd.none)=true)(hg:¬(T.dropWhile (· == (k:Int))).length<=40):okFrom xs.length 0 [] xs=false:=by
 rw[h.step hk,hd,decide_eq_false hg]
 simp
theorem Left.flat {xs:List Nd}{k:Nat}{T:List Int}(h:Left xs k T)(hk:k<xs.length)(hg:goodB (xs.getD k Nd.none)=true)(hd:deepB (xs.getD k Nd.none)=false):Left xs (k+1) (T.dropWhile (· == (k:Int))):=by
 refine⟨by simpa using h.opn.pop,fun y hy=>h.most y (drop_mem hy),?_⟩
 have h0:=flat_kids hg hd
 have ht:=h.top hk
 rw[h.step hk,hg,hd,h0,decide_eq_true (by omega)]
 simp
theorem Left.deep {xs:List Nd}{k:Nat}{T:List Int}(h:Left xs k T)(hk:k<xs.length)(hg:goodB (xs.getD k Nd.none)=true)(hd:deepB (xs.getD k Nd.none)=true)(hle:(xs.getD k Nd.none).kids<=(T.dropWhile (· == (k:Int))).headD xs.length-k-1)(hn:(T.dropWhile (· == (k:Int))).length<=40) :
 Left xs (k+1) (((k:Int)+1+(xs.getD k Nd.none).kids) :: T.dropWhile (· == (k:Int))):=by
 have hk0:0<=(xs.getD k Nd.none).kids:=by
  unfold goodB at hg
  simp at hg
  exact hg.2
 have ht:=h.top hk
 refine⟨Open.push (by simpa using h.opn.pop) (by push_cast;omega) fun len=>?_,fun y hy=>?_,?_⟩
 ·cases he:T.dropWhile (· == (k:Int)) with
  | nil=>exact .inr rfl
  | cons a U =>
   rw[he] at hle
   simp at hle ⊢
   omega
 ·rcases List.mem_cons.1 hy with rfl|hy
  ·omega
  ·exact h.most y (drop_mem hy)
 ·rw[h.step hk,hg,hd,decide_eq_true hle,decide_eq_true hn]
  simp
theorem popped {k:Int}{n:Int}{U T:List Int}(h:U.dropWhile (· == k)=T.dropWhile (· == k))(hne:U.headD n≠k):U=T.dropWhile (· == k):=by
 rw[<-h]
 cases U with
 | nil=>rfl
 | cons a U =>
  have:(a == k)=false:=by simpa using hne
  simp[List.dropWhile,this]
theorem rev_top {w:World}{base g q c:Nat}{a:Int}{U:List Int}(h:IR w base (.slice (some ⟨g,0,none⟩) (q+1) c) (q+1) (a :: U).reverse)(hU:U.length=q):w.cell? ⟨g,q,none⟩=some (.int .i64 a):=by
 rw[World.ownsRow.cellAt h q (by omega),List.getElem?_map]
 have:((a :: U).reverse)[q]?=some a:=by
  subst hU
  rw[List.getElem?_reverse (by simp)]
  simp
 rw[this]
 rfl
theorem rev_pop {w:World}{base g q c:Nat}{a:Int}{U:List Int}(h:IR w base (.slice (some ⟨g,0,none⟩) (q+1) c) (q+1) (a :: U).reverse)(hU:U.length=q):IR w base (.slice (some ⟨g,0,none⟩) q c) q U.reverse:=by
 rw[List.reverse_cons,IR,List.map_append] at h
 exact ownsRow_pop (by simp[hU]) h
structure LeftS (xs:List Nd)(k:Nat)(T:List Int)(m:Int):Prop where
 opn:Open k T
 most:∀y∈T,y<=xs.length
 len:T.length<=k
 pos:0<=m
 small:m<=k+1
 same:okFrom xs.length 0 [] xs=(decide (m<=41)&&okFrom xs.length k T (xs.drop k))
def mostOf (m:Int)(q:Nat):Int:=if m<(q:Int)+1 then (q:Int)+1 else m
theorem Tryz.info3b:(Tryz.prog.info? 3).map (fun i=>(i.zero,i.size,i.bytes))=some (some (.int .i64 0),1,8):=by kernel_rfl
def sliceLenB:Value->Nat
 | .slice _ n _=>n
 | _=>0
def natI (ps:List Nat):List Int:=ps.map (fun p:Nat=>(p:Int))
set_option maxRecDepth 20000 in
theorem starts_any {v:Value}{xs:List Nd}{w:World}(h:NRow 0 w v xs)(hlen:xs.length<=20000)(hkids:∀i,i<xs.length->0<=(xs.getD i Nd.none).kids/\(xs.getD i Nd.none).kids<=20000) :
 Calls Tryz.prog 108 #[v] w fun e w'=>(∃u,e = .returned u/\IR w' w.heap.size u (starts xs (xs.length+1) 0).length (natI (starts xs (xs.length+1) 0)))/\Below w.heap.size w w':=by
 obtain⟨ao,n,cap,rfl,hl,hr⟩:=h
 have HL:=hideP hl
 have HR:Hid (0<n->∃b off,ao=some ⟨b,off,none⟩/\0<=b/\b<w.heap.size/\∀i,i<n->∃cs:List Value,cs.length=15/\NdR 0 w cs (xs.getD i Nd.none)/\∀j,j<15->w.cell? ⟨b,off+i*15+j,none⟩=cs[j]?):=hideP hr
 have HK:=hideP hkids
 have hn:n<=20000:=by rw[<-hl];exact hlen
 obtain⟨Z,hZ⟩:=exq (starts xs (xs.length+1) 0)
 rw[<-hZ]
 have HZ:=hideP hZ
 clear hr hl hkids hlen hZ
 go_enter Tryz.func108,Tryz.ntmps108
 go_wp2
 go_loopw [3,4] (fun s a wr=>∃(i f:Nat) (pre:List Nat) (g c r:Nat),a = .int .i64 (i:Int)/\i<=40001/\n<i+f/\Hid (pre++starts xs f i=Z)/\r<=i/\r<=20001/\pre.length=r/\s = .slice (some ⟨g,0,none⟩) r c/\IR wr w.heap.size (.slice (some ⟨g,0,none⟩) r c) r (natI pre)/\Below w.heap.size w wr) (fun _ a _=>n-(intOf a).toNat)
 case atStart =>
  exact⟨0,n+1,[],w.heap.size,0,0,rfl,by omega,by omega,hideP (by rw[HZ.out,<-HL.out];rfl),by omega,by omega,rfl,rfl,⟨rfl,.inr ⟨_,_,_,rfl,Nat.le_refl _,heap_alloc_new w _,by omega,by decide,rfl,rfl⟩⟩,below1 _ _⟩
 case round =>
  obtain⟨i,f,pre,g,c,r,rfl,hi,hf,HP,hri,hr2,hpr,rfl,hI,hbel⟩:=hrel
  by_cases hin:i<n
  ·have hii:(i:Int)<(n:Int):=by omega
   obtain⟨b,off,rfl,_,hb,hc⟩:=HR.out (by omega)
   obtain⟨cs,hcl,hRel,hcj⟩:=hc i hin
   obtain⟨t,ht⟩:=exq (xs.getD i Nd.none)
   have hkk:=HK.out i (by rw[HL.out];exact hin)
   rw[<-ht] at hRel hkk
   obtain⟨kids,hkd⟩:=exq (t.kids)
   rw[<-hkd] at hkk
   obtain⟨hk0,hk1⟩:=hkk
   have g14:wr.cell? ⟨b,off+i*15+14,none⟩=some (.int .i64 kids):=(hbel.cell (p:=⟨b,off+i*15+14,none⟩) hb).trans ((hcj 14 (by omega)).trans (by rw[show cs=_ from hRel,hkd];rfl))
   obtain⟨f,rfl⟩:∃q,f=q+1:=⟨f-1,by omega⟩
   have HST:Hid ((pre++[i])++starts xs f (i+1+kids.toNat)=Z):=hideP (by
    have h:=HP.out
    rw[show starts xs (f+1) i=i :: starts xs f (i+1+(xs.getD i Nd.none).kids.toNat) by simp only[starts];rw[if_pos (by rw[HL.out];exact hin)]] at h
    rw[<-ht,<-hkd] at h
    rw[List.append_assoc]
    exact h)
   have HI:=hideP hI
   have HB:=hideP hbel
   have hw1:w.heap.size<=wr.heap.size:=hbel.size
   have HPR:=hideP hpr
   obtain⟨i0,hi0,hy0,hy1,hy2⟩:=info_parts Tryz.info3b
   have Q14:Hid (∀x,Below w.heap.size w x->x.cell? ⟨b,off+i*15+14,none⟩=some (.int .i64 kids)):=hideP (fun x hx=>(hx.cell (p:=⟨b,off+i*15+14,none⟩) hb).trans ((hcj 14 (by omega)).trans (by rw[show cs=_ from hRel,hkd];rfl)))
   clear hc hcj hcl ht hRel hI hbel hkd g14
   go_wp2_with (at_builtin;refine wpList_append_own_at _ rfl _ _ 128 rfl w.heap.size 3 i0 (.int .i64 0) 1 8 Tryz.underlying128 hi0 hy0 hy1 hy2 rfl (by decide) _ _ _ rfl (HI.out.alloc _) ⟨wr.heap.size,0,none⟩ 1 1 [.int .i64 (i:Int)] rfl rfl (cell_one_new _ _ _) (by intro u hu;simp at hu;subst hu;rfl) (by unfold maxLen;omega) (by omega) (by simp;omega) ?_;intro v6 w6 hown6 hgrow6 hnil6 hlies6;have hg6:(wr.alloc (.cells #[.int .i64 (i:Int)] 3)).grownBy w6 (some g):=hgrow6;have hB6:Below w.heap.size w w6:=Below.grown (HB.out.alloc hw1 _) hg6 (by simp;omega) (by intro j hj;simp at hj;subst hj;exact(stk_cap HI.out).2.2.1);have hk6:=Q14.out w6 hB6;have H6:=hideP (And.intro hown6 hB6);clear hown6 hgrow6 hnil6 hlies6 hg6 hB6)
   have hI6:IR w6 w.heap.size v6 (r+1) (natI (pre++[i])):=by
    show w6.ownsRow w.heap.size 3 1 v6 (r+1) ((natI (pre++[i])).map (Value.int .i64))
    unfold natI
    rw[List.map_append,List.map_append]
    exact H6.out.1
   go_roundw
   case rel =>
    obtain⟨g6,c6,rfl⟩:∃g c,v6 = .slice (some ⟨g,0,none⟩) (r+1) c:=by
     rcases hI6.2 with ⟨_,h⟩ | ⟨g,c,cur,h,_⟩
     ·omega
     ·exact⟨g,c,h⟩
    exact⟨i+1+kids.toNat,f,pre++[i],g6,c6,r+1,congrArg _ (by omega),by omega,by omega,HST,by omega,by omega,by simp[HPR.out],rfl,hI6,H6.out.2⟩
   case measure=>simp[intOf];omega
  ·have hii:¬(i:Int)<(n:Int):=by omega
   have HE:Hid (pre=Z):=hideP (by
    have h:=HP.out
    cases f with
    | zero=>simpa [starts] using h
    | succ f =>
     rw[show starts xs (f+1) i=[] by simp only[starts];rw[if_neg (by rw[HL.out];exact hin)]] at h
     simpa using h)
   have HI:=hideP hI
   have HB:=hideP hbel
   clear hI hbel
   go_wp2
   go_ret
   refine⟨⟨_,rfl,?_⟩,HB.out⟩
   rw[<-HE.out,hpr]
   exact HI.out
structure Sole (g:Nat)(w w':World):Prop where
 below:Below g w w'
 other:∀b,b<w.heap.size->b≠g->w'.heap[b]?=w.heap[b]?
end Go.Proofs.YtbbehmcekbnkiaaGreat
namespace Go.Proofs.YtbbehmcekbnkiaaGreat
open Go.RowKit Go.Shelf
set_option linter.unusedVariables false
set_option linter.unusedSimpArgs false
attribute [local go_sem] Oper.semAt_some
theorem ok_all {len:Int}:∀(xs:List Nd) (i:Int) (T:List Int),0<=i->(∀y∈T,y<=len)->okFrom len i T xs=true->∀x∈xs,goodB x=true/\x.kids<=len
 | [],_,_,_,_,_=>by simp
 | x :: xs,i,T,hi,hT,h=>by
  simp only[okFrom,Bool.and_eq_true] at h
  obtain⟨⟨⟨hg,hk⟩,_⟩,hr⟩:=h
  have hk:=of_decide_eq_true hk
  have hh:(T.dropWhile (· == i)).headD len<=len:=by
   cases he:T.dropWhile (· == i) with
   | nil=>simp
   | cons a U=>simpa using hT a (drop_mem (by rw[he];exact List.mem_cons_self ..))
  have hU:∀y∈T.dropWhile (· == i),y<=len:=fun y hy=>hT y (drop_mem hy)
  intro y hy
  rcases List.mem_cons.1 hy with rfl|hy
  ·exact⟨hg,by omega⟩
  ·refine ok_all xs (i+1) _ (by omega) ?_ hr y hy
   intro z hz
   split at hz
   ·rcases List.mem_cons.1 hz with rfl|hz
    ·omega
    ·exact hU z hz
   ·exact hU z hz
theorem good_kids {x:Nd}(h:goodB x=true):0<=x.kids:=by
 unfold goodB at h
 simp at h
 exact h.2
theorem good_text {x:Nd}(h:goodB x=true):x.tx.size<=1000:=by
 unfold goodB specB at h
 simp only[Bool.and_eq_true,decide_eq_true_eq] at h
 have:=h.1.2
 omega
theorem own_row_kept {v:Value}{base n:Nat}{xs:List Value}{A B:World}{row:Option Nat}(h:A.ownsRow base 36 15 v n xs)(hg:A.grownBy B row)(hr:∀r,row=some r->∃o:Obj,A.heap[r]?=some o/\o.isCells=false):B.ownsRow base 36 15 v n xs:=by
 refine World.ownsRow.kept h hg ?_
 obtain⟨hl,⟨rfl,_⟩ | ⟨g,cap,cur,rfl,_,hb,_⟩⟩:=h
 ·exact .inl rfl
 ·refine .inr fun e=>?_
  obtain⟨o,ho,hc⟩:=hr g e.symm
  rw[hb] at ho
  cases ho
  cases hc
theorem Src.kept {xs:List Nd}{ao:Option Addr}{Bs b off cap:Nat}{A B:World}{row:Option Nat}(h:Src xs ao Bs b off cap A)(hg:A.grownBy B row)(hr:∀r,row=some r->∃o:Obj,A.heap[r]?=some o/\o.isCells=false):Src xs ao Bs b off cap B:=by
 refine⟨cell_kept h.box hg hr,h.some_,fun i hi=>?_⟩
 obtain⟨y,hk,hc⟩:=h.at_ i hi
 refine⟨y,hk,fun j hj=>?_⟩
 have h1:=hc j hj
 rw[List.getElem?_eq_getElem (show j<y.cells.length from hj)] at h1 ⊢
 exact cell_kept h1 hg hr
theorem own_mono {w:World}{base base' n:Nat}{v:Value}{xs:List Value}(h:w.ownsRow base 36 15 v n xs)(hb:base'<=base):w.ownsRow base' 36 15 v n xs:=by
 obtain⟨hl,h | ⟨g,cap,cur,e,hg,hr⟩⟩:=h
 ·exact⟨hl,.inl h⟩
 ·exact⟨hl,.inr ⟨g,cap,cur,e,Nat.le_trans hb hg,hr⟩⟩
theorem row_cells {w:World}{b off:Nat}{xs:List Nd}(hc:∀i,i<xs.length->∃cs:List Value,cs.length=15/\NdR 0 w cs (xs.getD i Nd.none)/\∀j,j<15->w.cell? ⟨b,off+i*15+j,none⟩=cs[j]?) :
 ∀j u,(flatN xs)[j]?=some u->w.cell? ⟨b,off+j,none⟩=some u:=by
 intro j u hj
 have hlt:j<(flatN xs).length:=(List.getElem?_eq_some_iff.1 hj).1
 rw[flatN_len] at hlt
 have hi:j / 15<xs.length:=by omega
 obtain⟨cs,hcl,hR,hcc⟩:=hc (j / 15) hi
 have h1:=flatN_get xs (j / 15) hi (j % 15) (by omega)
 rw[show j / 15*15+j % 15=j by omega,hj] at h1
 have h2:=hcc (j % 15) (by omega)
 rw[show off+j / 15*15+j % 15=off+j by omega,show cs=_ from hR,<-h1] at h2
 exact h2
theorem starts_lt (xs:List Nd):∀(f i p:Nat),p∈starts xs f i->p<xs.length
 | 0,_,_,h=>by simp[starts] at h
 | f+1,i,p,h=>by
  simp only[starts] at h
  split at h
  ·rcases List.mem_cons.1 h with rfl|h
   ·assumption
   ·exact starts_lt xs f _ p h
  ·simp at h
theorem own_NRow {w:World}{base n:Nat}{v:Value}{xs:List Nd}(h:w.ownsRow base 36 15 v n (flatN xs))(hn:xs.length=n):NRow base w v xs:=by
 obtain⟨ao,cap,rfl,hg⟩:=own_shape h
 refine⟨ao,n,cap,rfl,hn,fun hp=>?_⟩
 obtain⟨g,rfl,hb,hlt⟩:=hg hp
 refine⟨g,0,rfl,hb,hlt,fun i hi=>⟨(xs.getD i Nd.none).cells,rfl,rfl,fun j hj=>?_⟩⟩
 have h1:=flatN_get xs i (by omega) j hj
 rw[List.getElem?_eq_getElem (show j<(xs.getD i Nd.none).cells.length from hj)] at h1 ⊢
 rw[show 0+i*15+j=i*15+j by omega]
 exact(own_cell h h1).1
theorem own_cap {w:World}{base n:Nat}{v:Value}{xs:List Value}(h:w.ownsRow base 36 15 v n xs):∀a n c,v = .slice a n c->n<=c/\c<=9223372036854775807:=by
 intro a n' c e
 obtain⟨hl,⟨rfl,rfl⟩ | ⟨g,cap,cur,rfl,_,_,hn,hm,_⟩⟩:=h
 ·simp at e
  omega
 ·simp at e
  unfold maxLen at hm
  omega
theorem take_snoc {α:Type}(Z:List α)(j:Nat)(d:α)(h:j<Z.length):Z.take (j+1)=Z.take j++[Z.getD j d]:=by
 rw[List.take_add_one,List.getElem?_eq_getElem h]
 simp[List.getD,List.getElem?_eq_getElem h]
theorem natI_at {w:World}{base g r c:Nat}{Z:List Nat}(h:IR w base (.slice (some ⟨g,0,none⟩) r c) r (natI Z))(hr:Z.length=r){j:Nat}(hj:j<r):w.cell? ⟨g,j,none⟩=some (.int .i64 ((Z.getD j 0:Nat):Int)):=by
 rw[World.ownsRow.cellAt h j (by omega)]
 unfold natI
 simp[List.getElem?_map,List.getD,List.getElem?_eq_getElem (show j<Z.length by omega)]
end Go.Proofs.YtbbehmcekbnkiaaGreat
namespace Go.Proofs.YtbbehmcekbnkiaaGreat
open Go.RowKit
set_option linter.unusedVariables false
set_option linter.unusedSimpArgs false
end Go.Proofs.YtbbehmcekbnkiaaGreat
namespace Go.Proofs.YtbbehmcekbnkiaaGreat
open Go.RowKit Go.Shelf
set_option linter.unusedVariables false
set_option linter.unusedSimpArgs false
attribute [local go_sem] Oper.semAt_some
def itemAt (xs:List Nd)(p:Nat):List Nd:=(xs.drop p).take (1+(xs.getD p Nd.none).kids.toNat)
def itemsOf (xs:List Nd):List (List Nd):=if listB xs then (starts xs (xs.length+1) 0).map (itemAt xs) else []
theorem ok_end {len:Int}:∀(xs:List Nd) (i:Int) (T:List Int),0<=i->(∀y∈T,y<=len)->okFrom len i T xs=true->∀j,j<xs.length->i+j+1+(xs.getD j Nd.none).kids<=len
 | [],_,_,_,_,_,j,hj=>by simp at hj
 | x :: xs,i,T,hi,hT,h,j,hj=>by
  simp only[okFrom,Bool.and_eq_true] at h
  obtain⟨⟨⟨hg,hk⟩,_⟩,hr⟩:=h
  have hk:=of_decide_eq_true hk
  have hh:(T.dropWhile (· == i)).headD len<=len:=by
   cases he:T.dropWhile (· == i) with
   | nil=>simp
   | cons a U=>simpa using hT a (drop_mem (by rw[he];exact List.mem_cons_self ..))
  have hU:∀y∈T.dropWhile (· == i),y<=len:=fun y hy=>hT y (drop_mem hy)
  cases j with
  | zero=>simp only[List.getD_cons_zero];omega
  | succ j =>
   simp only[List.getD_cons_succ]
   have h2:=ok_end xs (i+1) _ (by omega) (by
    intro z hz
    split at hz
    ·rcases List.mem_cons.1 hz with rfl|hz
     ·omega
     ·exact hU z hz
    ·exact hU z hz) hr j (by simpa using hj)
   omega
structure AllOk (xs:List Nd):Prop where
 len:xs.length<=20000
 kids:∀i,i<xs.length->0<=(xs.getD i Nd.none).kids/\(i:Int)+1+(xs.getD i Nd.none).kids<=xs.length
 text:∀i,i<xs.length->(xs.getD i Nd.none).tx.size<=1000
theorem allOk {xs:List Nd}(h:listB xs=true):AllOk xs:=by
 unfold listB at h
 simp only[Bool.and_eq_true,decide_eq_true_eq] at h
 obtain⟨h1,h2⟩:=h
 have hmem:∀i,i<xs.length->xs.getD i Nd.none∈xs:=fun i hi=>by simp[List.getD,List.getElem?_eq_getElem hi]
 have hall:=ok_all xs 0 [] (by omega) (by simp) h2
 refine⟨h1,fun i hi=>⟨good_kids (hall _ (hmem i hi)).1,?_⟩,fun i hi=>good_text (hall _ (hmem i hi)).1⟩
 have:=ok_end xs 0 [] (by omega) (by simp) h2 i hi
 omega
theorem AllOk.weak {xs:List Nd}(h:AllOk xs):∀i,i<xs.length->0<=(xs.getD i Nd.none).kids/\(xs.getD i Nd.none).kids<=20000:=fun i hi=>by
 have h1:=h.kids i hi
 have h2:=h.len
 omega
theorem itemAt_len {xs:List Nd}(h:AllOk xs){p:Nat}(hp:p<xs.length):(itemAt xs p).length=1+(xs.getD p Nd.none).kids.toNat:=by
 have h1:=h.kids p hp
 unfold itemAt
 rw[List.length_take,List.length_drop]
 omega
theorem starts_count {xs:List Nd}:∀(f i:Nat),(starts xs f i).length<=xs.length-i
 | 0,i=>by simp[starts]
 | f+1,i=>by
  simp only[starts]
  split
  ·have:=starts_count (xs:=xs) f (i+1+(xs.getD i Nd.none).kids.toNat)
   rw[List.length_cons]
   omega
  ·simp
end Go.Proofs.YtbbehmcekbnkiaaGreat
namespace Go.Proofs.YtbbehmcekbnkiaaGreat
open Go.RowKit
set_option linter.unusedVariables false
set_option linter.unusedSimpArgs false
def f5 (gs:List Shr.Gl):List Value:=gs.flatMap (fun g=>[.int .i64 g.s,.int .i64 g.p,.int .i64 g.po,.int .i64 g.m,.int .i64 g.mo])
theorem f5_snoc (gs:List Shr.Gl)(g:Shr.Gl):f5 (gs++[g])=f5 gs++[.int .i64 g.s,.int .i64 g.p,.int .i64 g.po,.int .i64 g.m,.int .i64 g.mo]:=by simp[f5]
theorem f5_len (gs:List Shr.Gl):(f5 gs).length=gs.length*5:=by
 induction gs with
 | nil=>rfl
 | cons t r ih=>simp only[f5,List.flatMap_cons,List.length_append] at ih ⊢;rw[ih];simp only[List.length_cons,List.length_nil];omega
theorem f5_at (gs:List Shr.Gl):∀i,i<gs.length->(f5 gs)[i*5]?=some (.int .i64 (gs.getD i Shr.Gl.none).s)/\(f5 gs)[i*5+1]?=some (.int .i64 (gs.getD i Shr.Gl.none).p)/\(f5 gs)[i*5+2]?=some (.int .i64 (gs.getD i Shr.Gl.none).po)/\(f5 gs)[i*5+3]?=some (.int .i64 (gs.getD i Shr.Gl.none).m)/\(f5 gs)[i*5+4]?=some (.int .i64 (gs.getD i Shr.Gl.none).mo):=by
 induction gs with
 | nil=>intro i hi;simp at hi
 | cons t r ih =>
  intro i hi
  cases i with
  | zero=>exact⟨rfl,rfl,rfl,rfl,rfl⟩
  | succ i =>
   have h:=ih i (by simpa using hi)
   have e:f5 (t :: r)=[.int .i64 t.s,.int .i64 t.p,.int .i64 t.po,.int .i64 t.m,.int .i64 t.mo]++f5 r:=rfl
   have e2:(t :: r).getD (i+1) Shr.Gl.none=r.getD i Shr.Gl.none:=by simp[List.getD]
   rw[e,e2]
   refine⟨?_,?_,?_,?_,?_⟩<;>rw[List.getElem?_append_right (by simp;omega)]
   ·rw[<-h.1];congr 1;simp;omega
   ·rw[<-h.2.1];congr 1;simp;omega
   ·rw[<-h.2.2.1];congr 1;simp;omega
   ·rw[<-h.2.2.2.1];congr 1;simp;omega
   ·rw[<-h.2.2.2.2];congr 1;simp;omega
theorem new5 (w:World)(a b c d e:Value)(t:TypeId):∀j u,[a,b,c,d,e][j]?=some u->(w.alloc (.cells #[a,b,c,d,e] t)).cell? ((⟨w.heap.size,0,none⟩:Addr).add j)=some u:=by
 intro j u hj
 match j,hj with
 | 0,hj=>simp at hj;subst hj;simp[Addr.add,go_sem]
 | 1,hj=>simp at hj;subst hj;simp[Addr.add,go_sem]
 | 2,hj=>simp at hj;subst hj;simp[Addr.add,go_sem]
 | 3,hj=>simp at hj;subst hj;simp[Addr.add,go_sem]
 | 4,hj=>simp at hj;subst hj;simp[Addr.add,go_sem]
theorem one5 (a b c d e:Int):∀u∈[Value.int .i64 a,.int .i64 b,.int .i64 c,.int .i64 d,.int .i64 e],u.oneCell'=true:=by
 intro u hu
 simp at hu
 rcases hu with rfl|rfl|rfl|rfl|rfl<;>rfl
theorem ownG_same {w w':World}{base e size n:Nat}{v:Value}{xs:List Value}(h:w.ownsRow base e size v n xs)(hs:∀g,v.ownBlock=some g->w'.heap[g]?=w.heap[g]?):w'.ownsRow base e size v n xs:=by
 obtain⟨hl,hr⟩:=h
 refine⟨hl,?_⟩
 rcases hr with h1 | ⟨g,cap,cur,rfl,h2,h3,h4⟩
 ·exact Or.inl h1
 ·exact Or.inr ⟨g,cap,cur,rfl,h2,(hs g rfl).trans h3,h4⟩
theorem ownG_below {w w':World}{base e size n:Nat}{v:Value}{xs:List Value}(h:w.ownsRow base e size v n xs)(hb:Below w.heap.size w w'):w'.ownsRow base e size v n xs:=ownG_same h (fun g hg=>hb.block _ (h.lt g hg).2)
theorem ownG_shape {w:World}{base e size n:Nat}{v:Value}{xs:List Value}(h:w.ownsRow base e size v n xs):∃a c,v = .slice a n c:=by
 rcases h.2 with ⟨rfl,rfl⟩ | ⟨g,cap,cur,rfl,_⟩
 ·exact⟨_,_,rfl⟩
 ·exact⟨_,_,rfl⟩
theorem ownG_ne {W:World}{b1 b2 e1 e2 s1 s2 n m:Nat}{t u:Value}{xs ys:List Value}(h1:W.ownsRow b1 e1 s1 t n xs)(h2:W.ownsRow b2 e2 s2 u m ys)(hne:e1≠e2):t.ownBlock=none\/t.ownBlock≠u.ownBlock:=by
 rcases h1.2 with ⟨rfl,_⟩ | ⟨g1,cap1,cur1,rfl,_,k1,_⟩
 ·exact .inl rfl
 ·rcases h2.2 with ⟨rfl,_⟩ | ⟨g2,cap2,cur2,rfl,_,k2,_⟩
  ·exact .inr (by simp[Value.ownBlock])
  ·refine .inr fun e=>?_
   simp only[Value.ownBlock,Option.some.injEq] at e
   subst e
   rw[k1] at k2
   cases k2
   exact hne rfl
theorem ownG_mono {w:World}{base base' e size n:Nat}{v:Value}{xs:List Value}(h:w.ownsRow base e size v n xs)(hb:base'<=base):w.ownsRow base' e size v n xs:=by
 obtain⟨hl,h | ⟨g,cap,cur,e,hg,hr⟩⟩:=h
 ·exact⟨hl,.inl h⟩
 ·exact⟨hl,.inr ⟨g,cap,cur,e,Nat.le_trans hb hg,hr⟩⟩
theorem own_GRow {w:World}{base n:Nat}{v:Value}{gs:List Shr.Gl}(h:w.ownsRow base 34 5 v n (f5 gs))(hn:gs.length=n):Shr.GRow w v gs:=by
 subst hn
 have hsh:=h.2
 rcases hsh with ⟨rfl,h0⟩ | ⟨g,cap,cur,rfl,hb,hg,_⟩
 ·exact⟨none,0,0,rfl,h0,fun hp=>by omega⟩
 ·refine⟨_,gs.length,cap,rfl,rfl,fun hp=>⟨g,0,rfl,(glt hg),fun i hi=>?_⟩⟩
  obtain⟨h0,h1,h2,h3,h4⟩:=f5_at gs i hi
  have hl:=f5_len gs
  simp only[Nat.zero_add]
  exact⟨(World.ownsRow.cellAt h (i*5) (by omega)).trans h0,(World.ownsRow.cellAt h (i*5+1) (by omega)).trans h1,(World.ownsRow.cellAt h (i*5+2) (by omega)).trans h2,(World.ownsRow.cellAt h (i*5+3) (by omega)).trans h3,(World.ownsRow.cellAt h (i*5+4) (by omega)).trans h4⟩
structure RInv (w wr:World)(va:Value)(Z:List Nat)(u:Value)(gs:List Shr.Gl):Prop where
 own:wr.ownsRow w.heap.size 34 5 u gs.length (f5 gs)
 row:IR wr w.heap.size va Z.length (natI Z)
 bel:Below w.heap.size w wr
theorem RInv.own' {w wr:World}{va:Value}{Z:List Nat}{u:Value}{gs:List Shr.Gl}{m:Nat}(h:RInv w wr va Z u gs)(hm:m=gs.length):wr.ownsRow w.heap.size 34 5 u m (f5 gs):=by rw[hm];exact h.own
theorem RInv.below {w wr w':World}{va:Value}{Z:List Nat}{u:Value}{gs:List Shr.Gl}(h:RInv w wr va Z u gs)(hb:Below wr.heap.size wr w'):RInv w w' va Z u gs :=
 ⟨ownG_below h.own hb,h.row.below hb,below_more h.bel hb h.bel.size⟩
theorem RInv.put {w wr w':World}{va:Value}{Z:List Nat}{u u':Value}{gs:List Shr.Gl}{g:Shr.Gl}{o:Obj}(h:RInv w wr va Z u gs)(ho:w'.ownsRow w.heap.size 34 5 u' (gs.length+1) (f5 gs++[.int .i64 g.s,.int .i64 g.p,.int .i64 g.po,.int .i64 g.m,.int .i64 g.mo]))(hg:(wr.alloc o).grownBy w' u.ownBlock):RInv w w' va Z u' (gs++[g]):=by
 have h2:=h.below (below1 wr o)
 refine⟨by rw[f5_snoc,List.length_append];exact ho,World.ownsRow.kept h2.row hg (ownG_ne h2.row h2.own (by decide)),Below.grown h2.bel hg h2.bel.size (fun j hj=>(h.own.lt j hj).1)⟩
def okK (d:Nat)(len:Int):Int->List Int->List Nd->Bool
 | _,_,[]=>true
 | i,T,x :: xs =>
  let U:=T.dropWhile (· == i)
  decide (x.kids<=U.headD len-i-1)&&(!deepB x||decide (U.length<=d))&&okK d len (i+1) (if deepB x then (i+1+x.kids) :: U else U) xs
theorem okFrom_split (len:Int):∀(xs:List Nd) (i:Int) (T:List Int),okFrom len i T xs=(okK 40 len i T xs&&xs.all goodB)
 | [],_,_=>rfl
 | x :: xs,i,T=>by
  simp only[okFrom,okK,List.all_cons]
  rw[okFrom_split len xs]
  cases goodB x<;>simp[Bool.and_assoc]
theorem okK_in (d:Nat)(len:Int):∀(xs:List Nd) (i:Int) (T:List Int),i+xs.length<=len->(∀y∈T,y<=len)->okK (d+1) (len+1) (i+1) (T.map (· + 1)++[len+1]) xs=okK d len i T xs
 | [],_,_,_,_=>rfl
 | x :: xs,i,T,hi,hT=>by
  have hd:(T.map (· + 1)++[len+1]).dropWhile (· == (i+1))=(T.dropWhile (· == i)).map (· + 1)++[len+1]:=by
   induction T with
   | nil =>
    have h1:(len+1 == i+1)=false:=by
     have:¬len+1=i+1:=by simp at hi;omega
     simpa using this
    simp[List.dropWhile,h1]
   | cons a T ih =>
    have ih':=ih (fun y hy=>hT y (List.mem_cons_of_mem _ hy))
    by_cases ha:a=i
    ·subst ha
     simp only[List.map_cons,List.cons_append,List.dropWhile,beq_self_eq_true]
     exact ih'
    ·have h1:(a == i)=false:=by simpa using ha
     have h2:(a+1 == i+1)=false:=by
      have:¬a+1=i+1:=by omega
      simpa using this
     simp only[List.map_cons,List.cons_append,List.dropWhile,h1,h2]
  simp only[okK]
  rw[hd]
  obtain⟨U,hU⟩:=exq (T.dropWhile (· == i))
  rw[<-hU]
  have hUl:∀y∈U,y<=len:=fun y hy=>hT y (by rw[hU] at hy;exact drop_mem hy)
  have hhead:(U.map (· + 1)++[len+1]).headD (len+1)=U.headD len+1:=by cases U<;>simp
  have hlen:(U.map (· + 1)++[len+1]).length=U.length+1:=by simp
  rw[hhead,hlen]
  have e1:decide (x.kids<=U.headD len+1-(i+1)-1)=decide (x.kids<=U.headD len-i-1):=by
   rw[Bool.eq_iff_iff]
   simp only[decide_eq_true_eq]
   omega
  have e2:decide (U.length+1<=d+1)=decide (U.length<=d):=by
   rw[Bool.eq_iff_iff]
   simp
  rw[e1,e2]
  by_cases hk:x.kids<=U.headD len-i-1
  ·have hkl:U.headD len<=len:=by
    cases hu:U with
    | nil=>simp
    | cons a V=>simpa using hUl a (by rw[hu];exact List.mem_cons_self ..)
   have hi':i+1+(xs.length:Int)<=len:=by simp at hi;omega
   cases hb:deepB x
   ·have h3:=okK_in d len xs (i+1) U hi' hUl
    simp only[Bool.false_eq_true,if_false]
    rw[h3]
   ·have h3:=okK_in d len xs (i+1) ((i+1+x.kids) :: U) hi' (fun y hy=>by
     rcases List.mem_cons.1 hy with rfl|hy
     ·omega
     ·exact hUl y hy)
    simp only[if_true]
    rw[List.map_cons,List.cons_append] at h3
    have e3:i+1+1+x.kids=i+1+x.kids+1:=by omega
    rw[e3,h3]
  ·rw[decide_eq_false hk]
   simp
def Nd.wide (x:Nd)(l:Int):Nd:=⟨x.k,l,x.ht,x.dp,x.sh,x.fo,x.ch,x.nn,x.gs,x.gp,x.gpo,x.gm,x.gmo,x.tx,x.kids⟩
theorem wide_good {x:Nd}(h:goodB x=true)(hk:x.k=3)(l:Int):goodB (x.wide l)=fitsB l:=by
 obtain⟨k,wd,ht,dp,sh,fo,ch,nn,gs,gp,gpo,gm,gmo,tx,kids⟩:=x
 simp only at hk
 subst hk
 unfold goodB specB at h ⊢
 simp only[Bool.and_eq_true,decide_eq_true_eq] at h
 obtain⟨⟨⟨⟨⟨⟨h1,h2⟩,⟨⟨⟨⟨h3,h4⟩,h5⟩,h6⟩,h7⟩⟩,h8⟩,h9⟩,h10⟩,h11⟩:=h
 rw[eqNd_iff] at h2
 have hu:eqNd (Nd.wide ⟨3,wd,ht,dp,sh,fo,ch,nn,gs,gp,gpo,gm,gmo,tx,kids⟩ l) (Nd.wide ⟨3,wd,ht,dp,sh,fo,ch,nn,gs,gp,gpo,gm,gmo,tx,kids⟩ l).used=true:=by
  rw[eqNd_iff]
  simp[Nd.used,Nd.wide] at h2 ⊢
  exact h2
 rw[hu]
 have hp:penB (Nd.wide ⟨3,wd,ht,dp,sh,fo,ch,nn,gs,gp,gpo,gm,gmo,tx,kids⟩ l)=true:=h8
 rw[hp]
 simp only[Nd.wide,h4,h5,h6,h7,h9,Bool.and_true,Bool.true_and]
 simp[h10,h11]
def setL:List Nat->List Int->List Nd->List Nd
 | p :: ps,l :: ls,xs=>setL ps ls (xs.set p ((xs.getD p Nd.none).wide l))
 | [],_,xs=>xs
 | _ :: _,[],xs=>xs
theorem setL_len:∀(ps:List Nat) (ls:List Int) (xs:List Nd),(setL ps ls xs).length=xs.length
 | p :: ps,l :: ls,xs=>by rw[setL,setL_len ps ls,List.length_set]
 | [],_,xs=>by simp[setL]
 | _ :: _,[],xs=>by simp[setL]
theorem getD_set_ne {xs:List Nd}{p q:Nat}(h:q≠p)(y:Nd):(xs.set p y).getD q Nd.none=xs.getD q Nd.none:=by
 rw[List.getD_eq_getElem?_getD,List.getD_eq_getElem?_getD,List.getElem?_set_ne (by omega)]
theorem getD_set_eq {xs:List Nd}{p:Nat}(h:p<xs.length)(y:Nd):(xs.set p y).getD p Nd.none=y:=by
 rw[List.getD_eq_getElem?_getD,List.getElem?_set_self h]
 rfl
theorem setL_other:∀(ps:List Nat) (ls:List Int) (xs:List Nd) (q:Nat),(∀p∈ps,p≠q)->(setL ps ls xs).getD q Nd.none=xs.getD q Nd.none
 | p :: ps,l :: ls,xs,q,h=>by
  rw[setL,setL_other ps ls _ q (fun r hr=>h r (List.mem_cons_of_mem _ hr)),getD_set_ne (fun e=>h p (List.mem_cons_self ..) e.symm)]
 | [],_,xs,_,_=>by simp[setL]
 | _ :: _,[],xs,_,_=>by simp[setL]
theorem okK_set (d:Nat)(len:Int):∀(xs:List Nd) (i:Int) (T:List Int) (p:Nat) (l:Int),okK d len i T (xs.set p ((xs.getD p Nd.none).wide l))=okK d len i T xs
 | [],_,_,_,_=>rfl
 | x :: xs,i,T,0,l=>rfl
 | x :: xs,i,T,p+1,l=>by
  have h:=okK_set d len xs (i+1) (if deepB x then (i+1+x.kids) :: T.dropWhile (· == i) else T.dropWhile (· == i)) p l
  have e:(x :: xs).getD (p+1) Nd.none=xs.getD p Nd.none:=by simp[List.getD]
  rw[e,List.set_cons_succ]
  simp only[okK]
  rw[h]
theorem okK_setL (d:Nat)(len:Int)(i:Int)(T:List Int):∀(ps:List Nat) (ls:List Int) (xs:List Nd),okK d len i T (setL ps ls xs)=okK d len i T xs
 | p :: ps,l :: ls,xs=>by rw[setL,okK_setL d len i T ps ls,okK_set]
 | [],_,xs=>by simp[setL]
 | _ :: _,[],xs=>by simp[setL]
theorem all_getD {xs:List Nd}{f:Nd->Bool}:xs.all f=true↔∀j,j<xs.length->f (xs.getD j Nd.none)=true:=by
 rw[List.all_eq_true]
 constructor
 ·intro h j hj
  rw[List.getD_eq_getElem?_getD,List.getElem?_eq_getElem hj]
  exact h _ (List.getElem_mem hj)
 ·intro h x hx
  obtain⟨j,hj,rfl⟩:=List.getElem_of_mem hx
  have:=h j hj
  rw[List.getD_eq_getElem?_getD,List.getElem?_eq_getElem hj] at this
  exact this
theorem setL_good:∀(ps:List Nat) (ls:List Int) (xs:List Nd),ls.length=ps.length->ps.Pairwise (· < ·)->(∀p∈ps,p<xs.length/\(xs.getD p Nd.none).k=3)->xs.all goodB=true->(setL ps ls xs).all goodB=ls.all fitsB
 | p :: ps,l :: ls,xs,hl,hp,hk,hg=>by
  obtain⟨h1,h2⟩:=List.pairwise_cons.1 hp
  obtain⟨hpl,hp3⟩:=hk p (List.mem_cons_self ..)
  have hgp:=all_getD.1 hg p hpl
  have hw:=wide_good hgp hp3 l
  rw[setL,List.all_cons]
  cases hf:fitsB l
  ·rw[hf] at hw
   rw[Bool.false_and]
   rw[Bool.eq_false_iff]
   intro hall
   have h3:=all_getD.1 hall p (by rw[setL_len,List.length_set];exact hpl)
   rw[setL_other ps ls _ p (fun r hr=>by have:=h1 r hr;omega),getD_set_eq hpl,hw] at h3
   cases h3
  ·rw[hf] at hw
   rw[Bool.true_and]
   refine setL_good ps ls _ (by simpa using hl) h2 (fun r hr=>?_) ?_
   ·have h3:=hk r (List.mem_cons_of_mem _ hr)
    have h4:=h1 r hr
    rw[List.length_set,getD_set_ne (by omega)]
    exact h3
   ·rw[all_getD]
    intro j hj
    rw[List.length_set] at hj
    by_cases hjp:j=p
    ·subst hjp
     rw[getD_set_eq hpl]
     exact hw
    ·rw[getD_set_ne hjp]
     exact all_getD.1 hg j hj
 | [],[],xs,_,_,_,hg=>by simp[setL,hg]
 | [],_ :: _,xs,hl,_,_,_=>by simp at hl
 | _ :: _,[],xs,hl,_,_,_=>by simp at hl
def boxN (k wd ht dp:Int)(n:Nat):Nd:=⟨k,wd,ht,dp,0,0,0,0,0,0,0,0,0,⟨#[]⟩,n⟩
theorem boxN_good {k:Int}(hk:k=6\/k=7)(wd ht dp:Int)(n:Nat):goodB (boxN k wd ht dp n)=(fitsB wd&&fitsB ht&&fitsB dp):=by
 unfold goodB specB
 have h0:fitsB 0=true:=by decide
 have h1:glB 0 0 0 0 0=true:=by decide
 have h2:uptoB 0 15=true:=by decide
 have h3:uptoB 0 255=true:=by decide
 have hu:eqNd (boxN k wd ht dp n) (boxN k wd ht dp n).used=true:=by
  rw[eqNd_iff]
  rcases hk with rfl|rfl<;>rfl
 have hp:penB (boxN k wd ht dp n)=true:=by rcases hk with rfl|rfl<;>rfl
 rw[hu,hp]
 simp only[boxN,h0,h1,h2,h3,Bool.and_true,Bool.true_and]
 have h4:(1:Int)<=k/\k<=11:=by omega
 simp[h4,ByteArray.size]
def canB (xs:List Nd):Bool:=decide (xs.length<20000)&&okK 39 xs.length 0 [] xs&&xs.all goodB
theorem box_list {k:Int}(hk:k=6\/k=7)(wd ht dp:Int){xs:List Nd}{ps:List Nat}{ls:List Int}(hl:ls.length=ps.length)(hp:ps.Pairwise (· < ·))(h3:∀p∈ps,p<xs.length/\(xs.getD p Nd.none).k=3)(hg:xs.all goodB=true) :
 listB (boxN k wd ht dp xs.length :: setL ps ls xs)=(canB xs&&(fitsB wd&&fitsB ht&&fitsB dp)&&ls.all fitsB):=by
 unfold listB canB
 rw[okFrom_split,List.all_cons,boxN_good hk,setL_good ps ls xs hl hp h3 hg,hg,List.length_cons,setL_len]
 simp only[okK,List.dropWhile,List.headD_nil,List.length_nil]
 have hdp:deepB (boxN k wd ht dp xs.length)=true:=by rcases hk with rfl|rfl<;>rfl
 have hki:(boxN k wd ht dp xs.length).kids=(xs.length:Int):=rfl
 rw[hdp,hki]
 have e0:((xs.length+1:Nat):Int)=(xs.length:Int)+1:=by push_cast;rfl
 rw[e0]
 have e1:((xs.length:Int)<=(xs.length:Int)+1-0-1)=True:=eq_true (by omega)
 simp only[e1,decide_true]
 have e2:=okK_in 39 (xs.length:Int) xs 0 [] (by omega) (by simp)
 simp only[List.map_nil,List.nil_append] at e2
 simp only[if_true,okK_setL]
 have e3:(0:Int)+1+(xs.length:Int)=(xs.length:Int)+1:=by omega
 rw[e3]
 rw[e2]
 have e4:decide (xs.length+1<=20000)=decide (xs.length<20000):=by
  rw[Bool.eq_iff_iff]
  simp only[decide_eq_true_eq]
  omega
 rw[e4]
 cases decide (xs.length<20000)<;>cases okK 39 (xs.length:Int) 0 [] xs<;>cases fitsB wd<;>cases fitsB ht<;>cases fitsB dp<;>cases ls.all fitsB<;>rfl
def gluesAt (xs:List Nd)(Z:List Nat):List Nat:=Z.filter (fun p=>(xs.getD p Nd.none).k == 3)
theorem gluesAt_yes (xs:List Nd)(Z:List Nat){p:Nat}(h:(xs.getD p Nd.none).k=3):gluesAt xs (Z++[p])=gluesAt xs Z++[p]:=by
 unfold gluesAt
 rw[List.filter_append]
 simp only[List.filter_cons,List.filter_nil,h,beq_self_eq_true,if_true]
theorem gluesAt_no (xs:List Nd)(Z:List Nat){p:Nat}(h:(xs.getD p Nd.none).k≠3):gluesAt xs (Z++[p])=gluesAt xs Z:=by
 unfold gluesAt
 rw[List.filter_append]
 have:((xs.getD p Nd.none).k == 3)=false:=by simpa using h
 simp only[List.filter_cons,List.filter_nil,this,Bool.false_eq_true,if_false,List.append_nil]
theorem rowStep_gs (s:RS)(x:Nd):(rowStep s x).gs=if x.k=3 then s.gs++[glOf x] else s.gs:=by
 by_cases h:x.k=3
 ·rw[rowStep_3 h,if_pos h]
  rfl
 ·rw[if_neg h]
  unfold rowStep
  split
  ·rfl
  ·split
   ·rfl
   ·rfl
theorem rowTo_gs_aux (xs:List Nd):∀(Z:List Nat) (s:RS),(Z.foldl (fun s p=>rowStep s (xs.getD p Nd.none)) s).gs=s.gs++(gluesAt xs Z).map (fun p=>glOf (xs.getD p Nd.none))
 | [],s=>by simp[gluesAt]
 | p :: Z,s=>by
  rw[List.foldl_cons,rowTo_gs_aux xs Z,rowStep_gs]
  by_cases h:(xs.getD p Nd.none).k=3
  ·have:gluesAt xs (p :: Z)=p :: gluesAt xs Z:=by
    unfold gluesAt
    rw[List.filter_cons,if_pos (by rw[h];rfl)]
   rw[if_pos h,this,List.map_cons,List.append_assoc]
   rfl
  ·have:gluesAt xs (p :: Z)=gluesAt xs Z:=by
    unfold gluesAt
    rw[List.filter_cons,if_neg (by simpa using h)]
   rw[if_neg h,this]
theorem rowTo_gs (xs:List Nd)(Z:List Nat):(rowTo xs Z).gs=(gluesAt xs Z).map (fun p=>glOf (xs.getD p Nd.none)):=by
 have h:=rowTo_gs_aux xs Z RS.nil
 rw[show RS.nil.gs=[] from rfl,List.nil_append] at h
 exact h
theorem setL_snoc:∀(ps:List Nat) (ls:List Int) (xs:List Nd) (p:Nat) (l:Int),ls.length=ps.length->setL (ps++[p]) (ls++[l]) xs=(setL ps ls xs).set p (((setL ps ls xs).getD p Nd.none).wide l)
 | [],[],xs,p,l,_=>rfl
 | q :: ps,m :: ls,xs,p,l,h=>by
  simp only[List.cons_append,setL]
  exact setL_snoc ps ls _ p l (by simpa using h)
 | [],_ :: _,_,_,_,h=>by simp at h
 | _ :: _,[],_,_,_,h=>by simp at h
theorem wide_k (x:Nd)(l:Int):(x.wide l).k=x.k:=rfl
theorem set_k (xs:List Nd)(p q:Nat)(l:Int):((xs.set p ((xs.getD p Nd.none).wide l)).getD q Nd.none).k=(xs.getD q Nd.none).k:=by
 by_cases h:q=p
 ·subst h
  by_cases hq:q<xs.length
  ·rw[getD_set_eq hq,wide_k]
  ·rw[List.getD_eq_getElem?_getD,List.getElem?_eq_none (by rw[List.length_set];omega),List.getD_eq_getElem?_getD,List.getElem?_eq_none (by omega)]
 ·rw[getD_set_ne h]
theorem setL_k:∀(ps:List Nat) (ls:List Int) (xs:List Nd) (q:Nat),((setL ps ls xs).getD q Nd.none).k=(xs.getD q Nd.none).k
 | p :: ps,l :: ls,xs,q=>by rw[setL,setL_k ps ls,set_k]
 | [],_,xs,_=>by simp[setL]
 | _ :: _,[],xs,_=>by simp[setL]
theorem flatN_wide:∀(xs:List Nd) (p:Nat) (l:Int),p<xs.length->flatN (xs.set p ((xs.getD p Nd.none).wide l))=(flatN xs).set (p*15+1) (.int .i64 l)
 | [],p,l,h=>by simp at h
 | x :: xs,0,l,h=>by
  simp only[List.getD_cons_zero,List.set_cons_zero,flatN]
  rfl
 | x :: xs,p+1,l,h=>by
  simp only[List.getD_cons_succ,List.set_cons_succ,flatN]
  rw[flatN_wide xs p l (by simpa using h),List.set_append_right _ _ (by rw[cells_len];omega),cells_len,show (p+1)*15+1-15=p*15+1 by omega]
structure SInv (w wr:World)(va:Value)(Z:List Nat)(u:Value)(n:Nat)(ys:List Nd):Prop where
 own:wr.ownsRow w.heap.size 36 15 u n (flatN ys)
 len:ys.length=n
 row:IR wr w.heap.size va Z.length (natI Z)
 bel:Below w.heap.size w wr
theorem SInv.below {w wr w':World}{va:Value}{Z:List Nat}{u:Value}{n:Nat}{ys:List Nd}(h:SInv w wr va Z u n ys)(hb:Below wr.heap.size wr w'):SInv w w' va Z u n ys :=
 ⟨ownG_below h.own hb,h.len,h.row.below hb,below_more h.bel hb h.bel.size⟩
theorem SInv.put {w wr:World}{va:Value}{Z:List Nat}{g cap n:Nat}{ys:List Nd}(h:SInv w wr va Z (.slice (some ⟨g,0,none⟩) n cap) n ys){p:Nat}(hp:p<n)(l:Int):SInv w (wr.setCell ⟨g,p*15+1,none⟩ (.int .i64 l)) va Z (.slice (some ⟨g,0,none⟩) n cap) n (ys.set p ((ys.getD p Nd.none).wide l)):=by
 have hne:=ownG_ne h.row h.own (by decide)
 have hgb:w.heap.size<=g:=(h.own.lt g rfl).1
 refine⟨?_,by rw[List.length_set];exact h.len,ownG_same h.row (fun b hb=>Below.heap_setCell _ _ _ _ ?_),h.bel.setCell hgb _⟩
 ·rw[flatN_wide _ _ _ (by rw[h.len];exact hp)]
  exact own_set h.own _ _
 ·rcases hne with h1|h1
  ·rw[h1] at hb;cases hb
  ·intro e
   apply h1
   rw[hb]
   simp only[Value.ownBlock]
   simpa using e
set_option maxRecDepth 20000 in
theorem specSet_nil {lv:Value}{w:World}(hN:NRow 0 w (.slice none 0 0) []) :
 Calls Tryz.prog 92 #[.slice none 0 0,lv] w fun e w'=>∃g c,e = .returned (.slice (some ⟨g,0,none⟩) 0 c)/\w'.ownsRow w.heap.size 36 15 (.slice (some ⟨g,0,none⟩) 0 c) 0 (flatN [])/\Below w.heap.size w w':=by
 have HC:Hid (∀W,Below w.heap.size w W->Calls Tryz.prog 108 #[.slice none 0 0] W fun e w'=>(∃u,e = .returned u/\IR w' W.heap.size u 0 [])/\Below W.heap.size W w'):=hideP (fun W hW=>starts_any (hN.below ndStable hW) (by simp) (fun i hi=>by simp at hi))
 obtain⟨i0,hi,hz0,hz1,hz2⟩:=info_parts Tryz.info57c
 clear hN
 go_enter Tryz.func92,Tryz.ntmps92
 go_wp2_with (at_builtin;refine wpList_append_own_none _ rfl _ _ 24 rfl w.heap.size 36 i0 15 Tryz.underlying24 hi _ 0 [] rfl (World.ownsRow_made w #[] 0 (Nat.le_refl _) (Nat.zero_le _) (by simp)) rfl ?_)
 go_wp2_with fail
 refine(HC.out _ (below1 _ _)).mono ?_
 rintro e w1 ⟨⟨va,rfl,hI⟩,hb1⟩
 have J0:Hid (w1.ownsRow w.heap.size 36 15 (.slice (some ⟨w.heap.size,0,none⟩) 0 0) 0 []/\Below w.heap.size w w1):=hideP ⟨ownG_below (World.ownsRow_made w #[] 0 (Nat.le_refl _) (Nat.zero_le _) (by simp)) hb1,below_more (below1 _ _) hb1 (by simp)⟩
 obtain⟨aa,ca,rfl⟩:=ownG_shape hI
 clear hI hb1 HC
 go_wp2
 go_loopw [7,8] (fun kk i wr=>i = .int .i64 0/\wr=w1) (fun _ _ _=>0)
 case atStart=>exact⟨rfl,rfl⟩
 case round =>
  obtain⟨rfl,rfl⟩:=hrel
  go_wp2
  go_ret
  exact⟨_,_,rfl,J0.out.1,J0.out.2⟩
set_option maxRecDepth 20000 in
theorem specSet_some {b off cap:Nat}{lv:Value}{xs:List Nd}{ls:List Int}{w:World}(hN:NRow 0 w (.slice (some ⟨b,off,none⟩) xs.length cap) xs)(hcap:xs.length<=cap)(hok:AllOk xs)(hb:0<xs.length->b<w.heap.size)(hc:∀j u,(flatN xs)[j]?=some u->w.cell? ⟨b,off+j,none⟩=some u)(hL:Shr.Row w lv ls)(hls:ls.length=(gluesAt xs (starts xs (xs.length+1) 0)).length) :
 Calls Tryz.prog 92 #[.slice (some ⟨b,off,none⟩) xs.length cap,lv] w fun e w'=>∃g c,e = .returned (.slice (some ⟨g,0,none⟩) xs.length c)/\w'.ownsRow w.heap.size 36 15 (.slice (some ⟨g,0,none⟩) xs.length c) xs.length (flatN (setL (gluesAt xs (starts xs (xs.length+1) 0)) ls xs))/\Below w.heap.size w w':=by
 have HC:Hid (∀W,Below w.heap.size w W->Calls Tryz.prog 108 #[.slice (some ⟨b,off,none⟩) xs.length cap] W fun e w'=>(∃u,e = .returned u/\IR w' W.heap.size u (starts xs (xs.length+1) 0).length (natI (starts xs (xs.length+1) 0)))/\Below W.heap.size W w'):=hideP (fun W hW=>starts_any (hN.below ndStable hW) hok.len hok.weak)
 obtain⟨i0,hi,hz0,hz1,hz2⟩:=info_parts Tryz.info57c
 obtain⟨al,nl,cl,rfl,hll,hlr⟩:=hL
 have hn:xs.length<=20000:=hok.len
 obtain⟨n,hl⟩:=exq (xs.length)
 rw[<-hl] at HC hn hcap hb
 rw[<-hl]
 obtain⟨Z,hZ⟩:=exq (starts xs (n+1) 0)
 rw[<-hl,<-hZ] at hls
 rw[<-hZ] at HC
 rw[<-hZ]
 have HZP:Hid (∀p∈Z,p<n):=hideP (fun p hp=>by rw[hl];exact starts_lt xs _ _ p (by rw[<-hZ];exact hp))
 have HLR:Hid (0<nl->∃b off,al=some ⟨b,off,none⟩/\b<w.heap.size/\∀i,i<nl->w.cell? ⟨b,off+i,none⟩=some (.int .i64 (ls.getD i 0))):=hideP hlr
 have HLL:Hid (ls.length=nl):=hideP hll
 have HLS:Hid (ls.length=(gluesAt xs Z).length):=hideP hls
 have HFC:Hid (∀j u,(flatN xs)[j]?=some u->w.cell? ⟨b,off+j,none⟩=some u):=hideP hc
 have HLEN:Hid (n=xs.length):=hideP hl
 obtain⟨r,hrz⟩:=exq (Z.length)
 have HRZ:=hideP hrz
 have hr20:r<=20000:=by
  rw[hrz,hZ]
  have:=starts_count (xs:=xs) (n+1) 0
  omega
 clear hlr hll hls hc hl hZ hrz hN hok hb
 go_enter Tryz.func92,Tryz.ntmps92
 go_wp2_with (at_builtin;refine wpList_append_own _ rfl _ _ 24 rfl w.heap.size 36 i0 _ 15 128 Tryz.underlying24 hi hz0 hz1 hz2 rfl (by decide) _ _ _ rfl (World.ownsRow_made w #[] 0 (Nat.le_refl _) (Nat.zero_le _) (by simp)) ⟨b,off,none⟩ n cap (flatN xs) rfl ?c1 ?c2 ?c3 ?c4 ?c5 ?c6 ?_)
 case c1=>rw[flatN_len,<-HLEN.out]
 case c2 =>
  intro j u hj
  rw[Addr.add_lit]
  exact Lib.cell?_alloc_some _ (HFC.out j u hj)
 case c3=>exact flatN_one xs
 case c4=>unfold maxLen;omega
 case c5=>omega
 case c6=>simp
 intro vo w0 hown hgrow hnil
 have hown2:w0.ownsRow w.heap.size 36 15 vo n (flatN xs):=by simpa using hown
 have hsh:∃g c,vo = .slice (some ⟨g,0,none⟩) n c:=by
  rcases hown2.2 with ⟨h0,_⟩ | ⟨g,c,cur,he,_⟩
  ·exact(hnil h0).elim
  ·exact⟨g,c,he⟩
 have HO:Hid (w0.ownsRow w.heap.size 36 15 vo n (flatN xs)/\Below w.heap.size w w0):=hideP ⟨hown2,((Below.refl _ w).alloc (Nat.le_refl _) _).grown hgrow (by simp) (by intro k hk;simp[Value.ownBlock] at hk;omega)⟩
 clear hown hgrow hnil HFC hown2
 obtain⟨GO,co,rfl⟩:=hsh
 go_wp2_with fail
 refine(HC.out _ HO.out.2).mono ?_
 rintro e w1 ⟨⟨va,rfl,hI⟩,hb1⟩
 have J0:Hid (SInv w w1 va Z (.slice (some ⟨GO,0,none⟩) n co) n xs):=hideP ⟨ownG_below HO.out.1 hb1,HLEN.out.symm,ownG_mono hI HO.out.2.size,below_more HO.out.2 hb1 HO.out.2.size⟩
 obtain⟨aa,ca,rfl⟩:=ownG_shape hI
 rw[<-HRZ.out]
 clear hI hb1 HC HO
 go_wp2
 go_loopw [7,8] (fun kk i wr=>∃(k j:Nat),k<=r/\i = .int .i64 k/\kk = .int .i64 j/\Hid (j=(gluesAt xs (Z.take k)).length)/\j<=k/\Hid (SInv w wr (.slice aa r ca) Z (.slice (some ⟨GO,0,none⟩) n co) n (setL (gluesAt xs (Z.take k)) (ls.take j) xs))) (fun _ i _=>r-(intOf i).toNat)
 case atStart=>exact⟨0,0,by omega,rfl,rfl,hideP rfl,by omega,by rw[HRZ.out];exact J0⟩
 case round =>
  obtain⟨k,j,hk,rfl,rfl,HJK,hjk,HS⟩:=hrel
  by_cases hkr:k<r
  ·have hki:(k:Int)<(r:Int):=by omega
   obtain⟨p,hp⟩:=exq (Z.getD k 0)
   have hpn:p<n:=by
    rw[hp]
    refine HZP.out _ ?_
    rw[List.getD_eq_getElem?_getD,List.getElem?_eq_getElem (by rw[<-HRZ.out];exact hkr)]
    exact List.getElem_mem _
   have hpi:(p:Int)<(n:Int):=by omega
   have HTK:Hid (Z.take (k+1)=Z.take k++[p]):=hideP (by rw[hp];exact take_snoc Z k 0 (by rw[<-HRZ.out];exact hkr))
   obtain⟨GZ,rfl⟩:∃GZ,aa=some ⟨GZ,0,none⟩:=by
    rcases HS.out.row.2 with ⟨_,h0⟩ | ⟨g,c,cur,he,_⟩
    ·rw[<-HRZ.out] at h0;omega
    ·cases he;exact⟨g,rfl⟩
   have hcz:wr.cell? ⟨GZ,k,none⟩=some (.int .i64 (p:Int)):=by
    have h0:=HS.out.row
    rw[<-HRZ.out] at h0
    have h1:=natI_at (j:=k) h0 HRZ.out.symm hkr
    rw[<-hp] at h1
    exact h1
   obtain⟨ys,hys⟩:=exq (setL (gluesAt xs (Z.take k)) (ls.take j) xs)
   rw[<-hys] at HS
   have HYS:=hideP hys
   have hkk:(ys.getD p Nd.none).k=(xs.getD p Nd.none).k:=by rw[hys];exact setL_k _ _ _ _
   obtain⟨kd,hkd⟩:=exq ((xs.getD p Nd.none).k)
   have HKD:=hideP hkd
   have c0:wr.cell? ⟨GO,p*15,none⟩=some (.int .i64 kd):=(own_cell (j:=p*15) HS.out.own (flatN_at ys p (by rw[HS.out.len];exact hpn) 0 (by omega) (by rw[hkd,<-hkk];rfl))).1
   obtain⟨lw,c1⟩:∃lw,wr.cell? ⟨GO,p*15+1,none⟩=some (.int .i64 lw):=⟨_,(own_cell (j:=p*15+1) HS.out.own (flatN_at ys p (by rw[HS.out.len];exact hpn) 1 (by omega) rfl)).1⟩
   have c1f:wr.frozen? ⟨GO,p*15+1,none⟩=false:=(own_cell (j:=p*15+1) HS.out.own (flatN_at ys p (by rw[HS.out.len];exact hpn) 1 (by omega) rfl)).2
   clear hys hkk hkd hp
   by_cases h3:kd=3
   ·have HG1:Hid (gluesAt xs (Z.take (k+1))=gluesAt xs (Z.take k)++[p]):=hideP (by rw[HTK.out];exact gluesAt_yes xs _ (by rw[<-HKD.out];exact h3))
    have hjl:j<ls.length:=by
     rw[HLS.out,HJK.out]
     have h1:(gluesAt xs (Z.take (k+1))).length<=(gluesAt xs Z).length:=by
      unfold gluesAt
      exact((List.take_sublist (k+1) Z).filter _).length_le
     rw[HG1.out,List.length_append,List.length_singleton] at h1
     omega
    have hjn:j<nl:=by rw[<-HLL.out];exact hjl
    have hji:(j:Int)<(nl:Int):=by omega
    have hnl:nl<=20000:=by
     have h1:(gluesAt xs Z).length<=Z.length:=List.length_filter_le _ _
     have h2:=HLS.out
     have h3:=HLL.out
     have h4:=HRZ.out
     omega
    obtain⟨bl,ol,rfl,hbl,hcl⟩:=HLR.out (by omega)
    obtain⟨l,hl⟩:=exq (ls.getD j 0)
    have cl0:wr.cell? ⟨bl,ol+j,none⟩=some (.int .i64 l):=(HS.out.bel.cell (p:=⟨bl,ol+j,none⟩) hbl).trans (by rw[hl];exact hcl j hjn)
    have J1:Hid (SInv w (wr.setCell ⟨GO,p*15+1,none⟩ (.int .i64 l)).drew (.slice (some ⟨GZ,0,none⟩) r ca) Z (.slice (some ⟨GO,0,none⟩) n co) n (setL (gluesAt xs (Z.take (k+1))) (ls.take (j+1)) xs)):=hideP (by
     have h1:=HS.out.put hpn l
     rw[HG1.out,take_snoc ls j 0 hjl,<-hl,setL_snoc _ _ _ _ _ (by rw[List.length_take,<-HJK.out];omega),<-HYS.out]
     exact h1.below (Below.drew (Below.refl _ _)))
    have HJ1:Hid (j+1=(gluesAt xs (Z.take (k+1))).length):=hideP (by rw[HG1.out,List.length_append,<-HJK.out];rfl)
    subst h3
    clear hcl hl
    go_wp2
    go_region
    go_wp2
    go_roundw
    case rel=>exact⟨k+1,j+1,by omega,by go_num,by go_num,HJ1,by omega,J1⟩
    case measure=>simp[intOf];omega
   ·have HG1:Hid (gluesAt xs (Z.take (k+1))=gluesAt xs (Z.take k)):=hideP (by rw[HTK.out];exact gluesAt_no xs _ (by rw[<-HKD.out];exact h3))
    have J1:Hid (SInv w wr (.slice (some ⟨GZ,0,none⟩) r ca) Z (.slice (some ⟨GO,0,none⟩) n co) n (setL (gluesAt xs (Z.take (k+1))) (ls.take j) xs)):=hideP (by rw[HG1.out,<-HYS.out];exact HS.out)
    have HJ1:Hid (j=(gluesAt xs (Z.take (k+1))).length):=hideP (by rw[HG1.out];exact HJK.out)
    go_wp2
    go_roundw
    case rel=>exact⟨k+1,j,by omega,by go_num,rfl,HJ1,by omega,J1⟩
    case measure=>simp[intOf];omega
  ·have hki:¬(k:Int)<(r:Int):=by omega
   have HE:Hid (wr.ownsRow w.heap.size 36 15 (.slice (some ⟨GO,0,none⟩) n co) n (flatN (setL (gluesAt xs Z) ls xs))):=hideP (by
    have h1:=HS.out.own
    rw[show k=Z.length by rw[<-HRZ.out];omega,List.take_length] at h1
    have h2:=HJK.out
    rw[show k=Z.length by rw[<-HRZ.out];omega,List.take_length,<-HLS.out] at h2
    rw[h2,List.take_length] at h1
    exact h1)
   go_wp2
   go_ret
   exact⟨_,_,rfl,HE.out,HS.out.bel⟩
def okD (d:Nat)(len:Int):Int->List Int->List Nd->Bool
 | _,_,[]=>true
 | i,T,x :: xs =>
  let U:=T.dropWhile (· == i)
  goodB x&&decide (x.kids<=U.headD len-i-1)&&(!deepB x||decide (U.length<=d))&&okD d len (i+1) (if deepB x then (i+1+x.kids) :: U else U) xs
theorem okD_split (d:Nat)(len:Int):∀(xs:List Nd) (i:Int) (T:List Int),okD d len i T xs=(okK d len i T xs&&xs.all goodB)
 | [],_,_=>rfl
 | x :: xs,i,T=>by
  simp only[okD,okK,List.all_cons]
  rw[okD_split d len xs]
  cases goodB x<;>simp[Bool.and_assoc]
theorem okD_pad (d:Nat)(len i:Int)(T:List Int)(xs:List Nd):okD d len i (i :: T) xs=okD d len i T xs:=by
 cases xs with
 | nil=>rfl
 | cons x xs=>simp[okD]
structure LeftD (xs:List Nd)(k:Nat)(T:List Int)(m:Int):Prop where
 opn:Open k T
 most:∀y∈T,y<=xs.length
 len:T.length<=k
 pos:0<=m
 small:m<=k+1
 same:∀d:Nat,okD d xs.length 0 [] xs=(decide (m<=(d:Int)+1)&&okD d xs.length k T (xs.drop k))
theorem LeftD.start (xs:List Nd):LeftD xs 0 [] 0:=⟨⟨by simp,by simp⟩,by simp,by simp,by omega,by omega,fun d=>by simp;omega⟩
theorem LeftD.done {xs:List Nd}{T:List Int}{m:Int}(h:LeftD xs xs.length T m)  (d:Nat):okD d xs.length 0 [] xs=decide (m<=(d:Int)+1):=by
 rw[h.same]
 simp[okD]
theorem LeftD.step {xs:List Nd}{k:Nat}{T:List Int}{m:Int}(h:LeftD xs k T m)(hk:k<xs.length)  (d:Nat):okD d xs.length 0 [] xs=(decide (m<=(d:Int)+1) &&
 (goodB (xs.getD k Nd.none)&&decide ((xs.getD k Nd.none).kids<=(T.dropWhile (· == (k:Int))).headD xs.length-k-1)&&(!deepB (xs.getD k Nd.none)||decide ((T.dropWhile (· == (k:Int))).length<=d)) &&
  okD d xs.length (k+1) (if deepB (xs.getD k Nd.none) then ((k:Int)+1+(xs.getD k Nd.none).kids) :: T.dropWhile (· == (k:Int)) else T.dropWhile (· == (k:Int))) (xs.drop (k+1)))):=by
 rw[h.same,drop_at hk]
 rfl
theorem LeftD.top {xs:List Nd}{k:Nat}{T:List Int}{m:Int}(h:LeftD xs k T m)(hk:k<xs.length):(k:Int)+1<=(T.dropWhile (· == (k:Int))).headD xs.length/\(T.dropWhile (· == (k:Int))).headD xs.length<=xs.length:=by
 refine⟨h.opn.pop.head (by omega),?_⟩
 cases he:T.dropWhile (· == (k:Int)) with
 | nil=>simp
 | cons a U =>
  have:=h.most a (drop_mem (by rw[he];exact List.mem_cons_self ..))
  simpa using this
theorem LeftD.bad {xs:List Nd}{k:Nat}{T:List Int}{m:Int}(h:LeftD xs k T m)(hk:k<xs.length)(hg:goodB (xs.getD k Nd.none)=false)  (d:Nat):okD d xs.length 0 [] xs=false:=by
 rw[h.step hk,hg]
 simp
theorem LeftD.over {xs:List Nd}{k:Nat}{T:List Int}{m:Int}(h:LeftD xs k T m)(hk:k<xs.length)(hg:¬(xs.getD k Nd.none).kids<=(T.dropWhile (· == (k:Int))).headD xs.length-k-1)  (d:Nat):okD d xs.length 0 [] xs=false:=by
 rw[h.step hk,decide_eq_false hg]
 simp
theorem drop_len2 {p:Int->Bool}(T:List Int):(T.dropWhile p).length<=T.length:=(List.dropWhile_sublist p).length_le
theorem LeftD.flat {xs:List Nd}{k:Nat}{T:List Int}{m:Int}(h:LeftD xs k T m)(hk:k<xs.length)(hg:goodB (xs.getD k Nd.none)=true)(hd:deepB (xs.getD k Nd.none)=false):LeftD xs (k+1) (T.dropWhile (· == (k:Int))) m:=by
 have h0:=flat_kids hg hd
 have ht:=h.top hk
 refine⟨by simpa using h.opn.pop,fun y hy=>h.most y (drop_mem hy),Nat.le_trans (drop_len2 T) (Nat.le_succ_of_le h.len),h.pos,by have:=h.small;push_cast;omega,fun d=>?_⟩
 rw[h.step hk,hg,hd,h0,decide_eq_true (p:=(0:Int)<=(T.dropWhile (· == (k:Int))).headD xs.length-k-1) (by omega)]
 simp
theorem mostOf_leD (d:Nat)(m:Int)(q:Nat)(r:Bool):(decide (m<=(d:Int)+1)&&(decide (q<=d)&&r))=(decide (mostOf m q<=(d:Int)+1)&&r):=by
 unfold mostOf
 cases r<;>simp
 split
 ·rw[Bool.eq_iff_iff];simp;omega
 ·rw[Bool.eq_iff_iff];simp;omega
theorem LeftD.deep {xs:List Nd}{k:Nat}{T:List Int}{m:Int}(h:LeftD xs k T m)(hk:k<xs.length)(hg:goodB (xs.getD k Nd.none)=true)(hd:deepB (xs.getD k Nd.none)=true)(hle:(xs.getD k Nd.none).kids<=(T.dropWhile (· == (k:Int))).headD xs.length-k-1) :
 LeftD xs (k+1) (((k:Int)+1+(xs.getD k Nd.none).kids) :: T.dropWhile (· == (k:Int))) (mostOf m (T.dropWhile (· == (k:Int))).length):=by
 have hk0:0<=(xs.getD k Nd.none).kids:=by
  unfold goodB at hg
  simp at hg
  exact hg.2
 have ht:=h.top hk
 have hl:=drop_len2 (p:=(· == (k:Int))) T
 have hl2:=h.len
 have hs:=h.small
 have hp:=h.pos
 refine⟨Open.push (by simpa using h.opn.pop) (by push_cast;omega) fun len=>?_,fun y hy=>?_,by simp;omega,by unfold mostOf;split<;>omega,by unfold mostOf;push_cast;split<;>omega,fun d=>?_⟩
 ·cases he:T.dropWhile (· == (k:Int)) with
  | nil=>exact .inr rfl
  | cons a U =>
   rw[he] at hle
   simp at hle ⊢
   omega
 ·rcases List.mem_cons.1 hy with rfl|hy
  ·omega
  ·exact h.most y (drop_mem hy)
 ·rw[h.step hk,hg,hd,decide_eq_true hle]
  simp only[Bool.true_and,Bool.not_true,Bool.false_or,if_true]
  rw[mostOf_leD]
  push_cast
  rfl
theorem LeftD.empty {xs:List Nd}{k:Nat}{U:List Int}{m:Int}(h:LeftD xs (k+1) (((k:Int)+1) :: U) m):LeftD xs (k+1) U m:=by
 refine⟨⟨fun y hy=>h.opn.1 y (List.mem_cons_of_mem _ hy),(List.pairwise_cons.1 h.opn.2).2⟩,fun y hy=>h.most y (List.mem_cons_of_mem _ hy),by have:=h.len;simp at this;omega,h.pos,h.small,fun d=>?_⟩
 rw[h.same]
 have:=okD_pad d xs.length ((k:Int)+1) U (xs.drop (k+1))
 push_cast
 rw[this]
end Go.Proofs.YtbbehmcekbnkiaaGreat

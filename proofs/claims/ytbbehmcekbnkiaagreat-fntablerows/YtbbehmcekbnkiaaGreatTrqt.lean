import Derived.Test.YtbbehmcekbnkiaaGreatWdit
namespace Go.Proofs.YtbbehmcekbnkiaaGreat
open Go.RowKit
set_option linter.unusedVariables false
set_option linter.unusedSimpArgs false
theorem sumF_congr {f f':Nat->Int}{a:Nat}:∀{n:Nat},(∀i,i<n->f (a+i)=f' (a+i))->sumF f a n=sumF f' a n
 | 0,_=>rfl
 | n+1,h=>by
  simp only[sumF]
  rw[sumF_congr (fun i hi=>h i (by omega)),h n (by omega)]
def bas (f:Nat->Int)(g:Int)(a k:Nat):Int:=((k:Int)-a)*g+sumF f a (k-a)
theorem acr_bas (f:Nat->Int)(g:Int){a k:Nat}(h:a<=k):acr f g a k=bas f g a k+f k:=by
 unfold acr bas
 rw[show k+1-a=(k-a)+1 by omega]
 simp only[sumF]
 rw[show a+(k-a)=k by omega]
 omega
theorem bas_congr {f f':Nat->Int}{g:Int}{a k:Nat}(h:∀i,i<k->f i=f' i):bas f g a k=bas f' g a k:=by
 unfold bas
 rw[sumF_congr (fun i hi=>h (a+i) (by omega))]
structure Col (g:Int)(k:Nat)(f0 f:Nat->Int)(ask:Nat->Int->Prop):Prop where
 other:∀i,i≠k->f i=f0 i
 room:∀a nat,a<=k->ask a nat->nat<=bas f0 g a k+f k
 tight:f0 k<=f k/\(f0 k<f k->∃a nat,a<=k/\ask a nat/\nat=bas f0 g a k+f k)
theorem Col.refl (g:Int)(k:Nat)(f:Nat->Int):Col g k f f (fun _ _=>False):=⟨fun _ _=>rfl,fun _ _ _ h=>h.elim,Int.le_refl _,fun h=>by omega⟩
theorem Col.step {g:Int}{k:Nat}{f0 f:Nat->Int}{ask:Nat->Int->Prop}(h:Col g k f0 f ask){a:Nat}(ha:a<=k)(nat:Int):Col g k f0 (upd f k (grow f g a k nat)) (fun b n=>ask b n\/(b=a/\n=nat)):=by
 have hb:bas f g a k=bas f0 g a k:=bas_congr fun i hi=>h.other i (by omega)
 have hg:grow f g a k nat=max (f k) (nat-bas f0 g a k):=by
  unfold grow
  rw[acr_bas f g ha,hb]
  omega
 have hu:upd f k (grow f g a k nat) k=max (f k) (nat-bas f0 g a k):=by rw[<-hg];simp[upd]
 refine⟨fun i hi=>?_,fun b n hb' hask=>?_,?_,fun hlt=>?_⟩
 ·simp only[upd,if_neg hi]
  exact h.other i hi
 ·rw[hu]
  rcases hask with hask | ⟨rfl,rfl⟩
  ·have:=h.room b n hb' hask
   omega
  ·omega
 ·rw[hu]
  have:=h.tight.1
  omega
 ·rw[hu] at hlt ⊢
  by_cases hle:nat-bas f0 g a k<=f k
  ·rw[Int.max_eq_left hle] at hlt ⊢
   obtain⟨b,n,h1,h2,h3⟩:=h.tight.2 hlt
   exact⟨b,n,h1,.inl h2,h3⟩
  ·rw[Int.max_eq_right (by omega)] at hlt ⊢
   exact⟨a,nat,ha,.inr ⟨rfl,rfl⟩,by omega⟩
theorem Col.weak {g:Int}{k:Nat}{f0 f:Nat->Int}{ask ask':Nat->Int->Prop}(h:Col g k f0 f ask)(h1:∀a n,ask' a n->ask a n)(h2:∀a n,ask a n->ask' a n):Col g k f0 f ask' :=
 ⟨h.other,fun a n ha hn=>h.room a n ha (h1 a n hn),h.tight.1,fun hlt=>by
  obtain⟨a,n,x,y,z⟩:=h.tight.2 hlt
  exact⟨a,n,x,h2 a n y,z⟩⟩
def Ends (cs:List Cl)(k j:Nat):Prop:=spK cs (j+1)-1=(k:Int)
theorem lane_col {g:Int}{k:Nat}{f0 f:Nat->Int}{ask:Nat->Int->Prop}{cs:List Cl}(h:Col g k f0 f ask)(hsp:∀j,j<cs.length->0<=spK cs j/\spK cs j+1<=spK cs (j+1)):∀n,n<=cs.length->Col g k f0 (laneStep g k cs f n) (fun a nat=>ask a nat\/∃j,j<n/\Ends cs k j/\a=(spK cs j).toNat/\nat=natW (cs.getD j Cl.none).ns)
 | 0,_=>h.weak (fun a n hn=>by rcases hn with h | ⟨j,hj,_⟩;exact h;omega) (fun a n hn=> .inl hn)
 | n+1,hn=>by
  have ih:=lane_col h hsp n (by omega)
  have hs:=hsp n (by omega)
  simp only[laneStep,cellStep]
  split
  ·rename_i he
   refine(ih.step (a:=(spK cs n).toNat) (by omega) _).weak ?_ ?_
   ·rintro a nat (h | ⟨j,hj,hE,ha,hnat⟩)
    ·exact .inl (.inl h)
    ·by_cases hjn:j=n
     ·subst hjn
      exact .inr ⟨ha,hnat⟩
     ·exact .inl (.inr ⟨j,by omega,hE,ha,hnat⟩)
   ·rintro a nat ((h | ⟨j,hj,hE,ha,hnat⟩) | ⟨ha,hnat⟩)
    ·exact .inl h
    ·exact .inr ⟨j,by omega,hE,ha,hnat⟩
    ·exact .inr ⟨n,by omega,he,ha,hnat⟩
  ·rename_i he
   refine ih.weak ?_ ?_
   ·rintro a nat (h | ⟨j,hj,hE,ha,hnat⟩)
    ·exact .inl h
    ·by_cases hjn:j=n
     ·subst hjn
      exact absurd hE he
     ·exact .inr ⟨j,by omega,hE,ha,hnat⟩
   ·rintro a nat (h | ⟨j,hj,hE,ha,hnat⟩)
    ·exact .inl h
    ·exact .inr ⟨j,by omega,hE,ha,hnat⟩
def Asks (rs:List Rw)(k n:Nat)(a:Nat)(nat:Int):Prop:=∃i,i<n/\∃j,j<(rs.getD i Rw.none).cs.length/\Ends (rs.getD i Rw.none).cs k j/\a=(spK (rs.getD i Rw.none).cs j).toNat/\nat=natW ((rs.getD i Rw.none).cs.getD j Cl.none).ns
theorem rows_col {g:Int}{k:Nat}{f:Nat->Int}{rs:List Rw}(hsp:∀i,i<rs.length->∀j,j<(rs.getD i Rw.none).cs.length->0<=spK (rs.getD i Rw.none).cs j/\spK (rs.getD i Rw.none).cs j+1<=spK (rs.getD i Rw.none).cs (j+1)):∀n,n<=rs.length->Col g k f (rowsStep g k rs f n) (Asks rs k n)
 | 0,_=>(Col.refl g k f).weak (fun a nat ⟨i,hi,_⟩=>by omega) (fun a nat h=>h.elim)
 | n+1,hn=>by
  have ih:=rows_col (g:=g) (k:=k) (f:=f) hsp n (by omega)
  refine(lane_col ih (hsp n (by omega)) _ (Nat.le_refl _)).weak ?_ ?_
  ·rintro a nat ⟨i,hi,j,hj,hE,ha,hnat⟩
   by_cases hin:i=n
   ·subst hin
    exact .inr ⟨j,hj,hE,ha,hnat⟩
   ·exact .inl ⟨i,by omega,j,hj,hE,ha,hnat⟩
  ·rintro a nat (⟨i,hi,j,hj,hE,ha,hnat⟩ | ⟨j,hj,hE,ha,hnat⟩)
   ·exact⟨i,by omega,j,hj,hE,ha,hnat⟩
   ·exact⟨n,by omega,j,hj,hE,ha,hnat⟩
theorem cols_same {g:Int}{rs:List Rw}(hsp:∀i,i<rs.length->∀j,j<(rs.getD i Rw.none).cs.length->0<=spK (rs.getD i Rw.none).cs j/\spK (rs.getD i Rw.none).cs j+1<=spK (rs.getD i Rw.none).cs (j+1)):∀(n m:Nat),n<=m->∀i,i<n->colsStep g rs m i=colsStep g rs n i
 | n,0,h,i,hi=>by omega
 | n,m+1,h,i,hi=>by
  by_cases e:n=m+1
  ·rw[e]
  ·rw[<-cols_same hsp n m (by omega) i hi]
   exact(rows_col (g:=g) (k:=m) (f:=colsStep g rs m) hsp _ (Nat.le_refl _)).other i (by omega)
theorem cols_zero {g:Int}{rs:List Rw}(hsp:∀i,i<rs.length->∀j,j<(rs.getD i Rw.none).cs.length->0<=spK (rs.getD i Rw.none).cs j/\spK (rs.getD i Rw.none).cs j+1<=spK (rs.getD i Rw.none).cs (j+1)):∀(n:Nat),∀i,n<=i->colsStep g rs n i=0
 | 0,i,_=>rfl
 | n+1,i,hi=>((rows_col (g:=g) (k:=n) (f:=colsStep g rs n) hsp _ (Nat.le_refl _)).other i (by omega)).trans (cols_zero hsp n i (by omega))
theorem cols_fit {g:Int}{rs:List Rw}(hsp:∀i,i<rs.length->∀j,j<(rs.getD i Rw.none).cs.length->0<=spK (rs.getD i Rw.none).cs j/\spK (rs.getD i Rw.none).cs j+1<=spK (rs.getD i Rw.none).cs (j+1)){N k:Nat}(hk:k<N) :
 0<=colsStep g rs N k/\(∀a nat,a<=k->Asks rs k rs.length a nat->nat<=acr (colsStep g rs N) g a k)/\(0<colsStep g rs N k->∃a nat,a<=k/\Asks rs k rs.length a nat/\nat=acr (colsStep g rs N) g a k):=by
 have hc:=rows_col (g:=g) (k:=k) (f:=colsStep g rs k) hsp _ (Nat.le_refl _)
 have hv:colsStep g rs N k=colsStep g rs (k+1) k:=cols_same hsp (k+1) N (by omega) k (by omega)
 have h0:colsStep g rs k k=0:=cols_zero hsp k k (Nat.le_refl _)
 have hb:∀a,a<=k->acr (colsStep g rs N) g a k=bas (colsStep g rs k) g a k+colsStep g rs (k+1) k:=fun a ha=>by
  rw[acr_bas _ g ha,hv,bas_congr (f':=colsStep g rs k) (fun i hi=>cols_same hsp k N (by omega) i hi)]
 have ht:=hc.tight
 rw[h0] at ht
 refine⟨by rw[hv];exact ht.1,fun a nat ha hA=>by rw[hb a ha];exact hc.room a nat ha hA,fun hp=>?_⟩
 rw[hv] at hp
 obtain⟨a,nat,h1,h2,h3⟩:=ht.2 hp
 exact⟨a,nat,h1,h2,by rw[hb a h1];exact h3⟩
theorem tab_row {x:Tb}(h:tabB x=true){i:Nat}(hi:i<x.rs.length):RowIn (x.rs.getD i Rw.none).cs x.co:=(tabB_parts h).2.2.2.2 i hi
theorem tab_sp {x:Tb}(h:tabB x=true):∀i,i<x.rs.length->∀j,j<(x.rs.getD i Rw.none).cs.length->0<=spK (x.rs.getD i Rw.none).cs j/\spK (x.rs.getD i Rw.none).cs j+1<=spK (x.rs.getD i Rw.none).cs (j+1):=fun i hi j hj =>
 have h1:=(tab_row h hi).at (tabB_parts h).2.1 hj
 ⟨h1.1,h1.2.1⟩
def roomC (F:Nat->Int)(g:Int)(cs:List Cl)(j:Nat):Int:=g*((cs.getD j Cl.none).sp-1)+sumF F (spK cs j).toNat ((cs.getD j Cl.none).sp).toNat
theorem cols_fits {g:Int}{rs:List Rw}:∀{n k:Nat},colsOk g rs n=true->k<n->fitsB (colsStep g rs (k+1) k)=true
 | 0,k,_,hk=>by omega
 | n+1,k,h,hk=>by
  simp only[colsOk,Bool.and_eq_true] at h
  by_cases e:k=n
  ·subst e;exact h.2
  ·exact cols_fits h.1 (by omega)
theorem fit_bd {x:Tb}(h:tabB x=true)(hc:colsOk x.gs x.rs x.co.toNat=true){k:Nat}(hk:k<x.co.toNat):0<=colsStep x.gs x.rs x.co.toNat k/\colsStep x.gs x.rs x.co.toNat k<=1073741823:=by
 refine⟨(cols_fit (g:=x.gs) (tab_sp h) hk).1,?_⟩
 rw[cols_same (tab_sp h) (k+1) x.co.toNat (by omega) k (by omega)]
 have:=cols_fits hc hk
 unfold fitsB at this
 simp only[Bool.and_eq_true,decide_eq_true_eq] at this
 omega
theorem row_at {w:World}{va:Option Addr}{n c:Nat}{rs:List Rw}(h:RRowN 0 w (.slice va n c) rs){i:Nat}(hi:i<rs.length):∃b off ua uc,va=some ⟨b,off,none⟩/\b<w.heap.size/\w.cell? ⟨b,off+i*2,none⟩=some (.slice ua (rs.getD i Rw.none).cs.length uc)/\CRowN 0 w (.slice ua (rs.getD i Rw.none).cs.length uc) (rs.getD i Rw.none).cs:=by
 obtain⟨ao,m,cap,he,hl,hc⟩:=h
 simp only[Value.slice.injEq] at he
 obtain⟨rfl,rfl,rfl⟩:=he
 obtain⟨b,off,rfl,_,hb,hcell⟩:=hc (by omega)
 obtain⟨cs,h1,⟨v,rfl,hv⟩,h3⟩:=hcell i (by omega)
 obtain⟨ua,uc,rfl⟩:=hv.shape
 exact⟨b,off,ua,uc,rfl,hb,h3 0 (by omega),hv⟩
def TG (F:Nat->Int)(g:Int)(rs:List Rw)(i j:Nat)(bs:List Bool):Prop:=∀i' j',(i'<i\/(i'=i/\j'<j))->i'<rs.length->j'<(rs.getD i' Rw.none).cs.length->natW ((rs.getD i' Rw.none).cs.getD j' Cl.none).ns=roomC F g (rs.getD i' Rw.none).cs j'->bs.getD (spK (rs.getD i' Rw.none).cs (j'+1)-1).toNat false=true
def filN:Nd:=⟨3,0,0,0,0,0,0,0,0,65536,1,0,0,⟨#[]⟩,0⟩
def krnN (x:Int):Nd:=⟨2,x,0,0,0,0,0,0,0,0,0,0,0,⟨#[]⟩,0⟩
def rulN (x h:Int):Nd:=⟨5,x,h,0,0,0,0,0,0,0,0,0,0,⟨#[]⟩,0⟩
def gapN (gs gp gpo gm gmo:Int):Nd:=⟨3,0,0,0,0,0,0,0,gs,gp,gpo,gm,gmo,⟨#[]⟩,0⟩
def celN (al:Int)(ns:List Nd):List Nd:=(if al=0 then [] else [filN])++ns++(if al=2 then [] else [filN])
def celW (f:Nat->Int)(gs:Int)(cs:List Cl)(k:Nat):Int:=acr f gs (spK cs k).toNat (spK cs (k+1)-1).toNat
def celR (f:Nat->Int)(gs:Int)(cs:List Cl)(k:Nat):List Nd:=hpR (celN (cs.getD k Cl.none).al (cs.getD k Cl.none).ns) 1 (celW f gs cs k)
def celsOk (f:Nat->Int)(gs:Int)(cs:List Cl):Nat->Bool
 | 0=>true
 | k+1=>celsOk f gs cs k&&decide (0<(celR f gs cs k).length)
def aK (f:Nat->Int)(gs:Int)(gap:Nd)(cs:List Cl):Nat->List Nd
 | 0=>[]
 | k+1=>aK f gs gap cs k++celR f gs cs k++[gap]
def kK (f:Nat->Int)(gap:Nd)(a:Nat)(L:List Nd):Nat->List Nd
 | 0=>L
 | j+1=>kK f gap a L j++[krnN (f (a+j)),gap]
def rowI (f:Nat->Int)(gs:Int)(gap:Nd)(cs:List Cl)(co:Int):List Nd:=(kK f gap (spK cs cs.length).toNat (aK f gs gap cs cs.length) (co-spK cs cs.length).toNat).dropLast
def rowR (f:Nat->Int)(gs:Int)(gap:Nd)(co:Int)(r:Rw):List Nd:=if 0<r.ru then hpR [rulN (acr f gs 0 (co.toNat-1)) r.ru] 0 0 else if celsOk f gs r.cs r.cs.length=true then hpR (rowI f gs gap r.cs co) 0 0 else []
theorem hpOk_prt {xs:List Nd}{mode size:Int}(h:hpOk xs mode size=true):xs.length<20000/\xs.all goodB=true/\fitsB size=true:=by
 unfold hpOk packB canB at h
 simp only[Bool.and_eq_true,decide_eq_true_eq] at h
 exact⟨h.1.1.1.1.1.1.1.1.1,h.1.1.1.1.1.1.1.2,h.1.1.1.1.1.2⟩
theorem hpR_le {xs:List Nd}{mode size:Int}:(hpR xs mode size).length<=20000:=by
 unfold hpR
 split
 ·rename_i h
  have:=(hpOk_prt h).1
  rw[hpN_len]
  omega
 ·simp
theorem celsOk_down {f:Nat->Int}{gs:Int}{cs:List Cl}:∀{n k:Nat},k<=n->celsOk f gs cs k=false->celsOk f gs cs n=false
 | 0,k,h,h0=>by
  obtain rfl:k=0:=by omega
  exact h0
 | n+1,k,h,h0=>by
  by_cases hk:k=n+1
  ·subst hk;exact h0
  ·unfold celsOk
   rw[celsOk_down (show k<=n by omega) h0]
   rfl
theorem celsOk_no {f:Nat->Int}{gs:Int}{cs:List Cl}{k n:Nat}(hk:k<n)(h:(celR f gs cs k).length=0):celsOk f gs cs n=false:=by
 refine celsOk_down (show k+1<=n by omega) ?_
 unfold celsOk
 rw[h]
 simp
theorem aK_len (f:Nat->Int)(gs:Int)(gap:Nd)(cs:List Cl):∀k,(aK f gs gap cs k).length<=20001*k
 | 0=>by simp[aK]
 | k+1=>by
  have h1:=aK_len f gs gap cs k
  have h2:(celR f gs cs k).length<=20000:=hpR_le
  simp only[aK,List.length_append,List.length_cons,List.length_nil]
  omega
theorem kK_len (f:Nat->Int)(gap:Nd)(a:Nat)(L:List Nd):∀j,(kK f gap a L j).length=L.length+2*j
 | 0=>by simp[kK]
 | j+1=>by
  have h1:=kK_len f gap a L j
  simp only[kK,List.length_append,List.length_cons,List.length_nil]
  omega
theorem aK_end (f:Nat->Int)(gs:Int)(gap:Nd)(cs:List Cl):∀k,0<k->(aK f gs gap cs k).dropLast++[gap]=aK f gs gap cs k
 | 0,h=>by omega
 | k+1,_=>by simp[aK]
theorem kK_drop (f:Nat->Int)(gap:Nd)(a:Nat)(L:List Nd)(j:Nat):(kK f gap a L (j+1)).dropLast=kK f gap a L j++[krnN (f (a+j))]:=by
 show (kK f gap a L j++[krnN (f (a+j)),gap]).dropLast=_
 rw[show[krnN (f (a+j)),gap]=[krnN (f (a+j))]++[gap] from rfl,<-List.append_assoc,List.dropLast_concat]
theorem drop_put (f:Nat->Int)(gs:Int)(gap:Nd)(cs:List Cl)(k j a:Nat)(h:0<k\/0<j):(kK f gap a (aK f gs gap cs k) j).dropLast++[gap]=kK f gap a (aK f gs gap cs k) j:=by
 cases j with
 | zero=>exact aK_end f gs gap cs k (by omega)
 | succ j=>rw[kK_drop];simp[kK]
theorem okFrom_pads (len e:Int)(ys:List Nd):∀T:List Int,(∀t∈T,t=e)->okFrom len e T ys=okFrom len e [] ys
 | [],_=>rfl
 | t :: T,h=>by
  have h0:=h t (by simp)
  subst h0
  rw[okFrom_pad]
  exact okFrom_pads len t ys T (fun x hx=>h x (by simp[hx]))
theorem drop_gt {i:Int}:∀T:List Int,T.Pairwise (· <= ·)->(∀t∈T,i<=t)->(T.dropWhile (· == i)).Pairwise (· <= ·)/\∀t∈T.dropWhile (· == i),t∈T/\i+1<=t
 | [],_,_=>⟨List.Pairwise.nil,fun t h=>by simp at h⟩
 | t :: T,hp,hb=>by
  rw[List.pairwise_cons] at hp
  by_cases e:t=i
  ·subst e
   have h1:=drop_gt T hp.2 (fun x hx=>hb x (by simp[hx]))
   simp only[List.dropWhile,BEq.rfl]
   exact⟨h1.1,fun x hx=>⟨List.mem_cons_of_mem _ (h1.2 x hx).1,(h1.2 x hx).2⟩⟩
  ·have e2:(t == i)=false:=by simpa using e
   simp only[List.dropWhile,e2]
   have h2:=hb t (by simp)
   refine⟨List.pairwise_cons.2 hp,fun x hx=>⟨hx,?_⟩⟩
   rcases List.mem_cons.1 hx with rfl|hx
   ·omega
   ·have:=hp.1 x hx;omega
theorem head_mono {e len:Int}(h:e<=len)(U:List Int):U.headD e<=U.headD len:=by
 cases U with
 | nil=>exact h
 | cons=>exact Int.le_refl _
theorem okFrom_app (len:Int)(ys:List Nd):∀(xs:List Nd) (i e:Int) (T:List Int),e=i+xs.length->e<=len->T.Pairwise (· <= ·)->(∀t∈T,i<=t/\t<=e)->okFrom e i T xs=true->okFrom len i T (xs++ys)=okFrom len e [] ys
 | [],i,e,T,he,hl,hp,hb,_=>by
  have he2:e=i:=by simpa using he
  subst he2
  exact okFrom_pads len e ys T (fun t ht=>by have:=hb t ht;omega)
 | x :: xs,i,e,T,he,hl,hp,hb,h=>by
  simp only[okFrom,Bool.and_eq_true,decide_eq_true_eq] at h
  obtain⟨⟨⟨h1,h2⟩,h3⟩,h4⟩:=h
  obtain⟨d1,d2⟩:=drop_gt T hp (fun t ht=>(hb t ht).1)
  have hk:=good_kids h1
  have hm:=head_mono hl (T.dropWhile (· == i))
  simp only[List.cons_append,okFrom,h1,h3,Bool.true_and,decide_eq_true (show x.kids<=(T.dropWhile (· == i)).headD len-i-1 by omega)]
  simp only[List.length_cons] at he
  refine okFrom_app len ys xs (i+1) e _ (by push_cast at he;omega) hl ?_ ?_ h4
  ·split
   ·refine List.pairwise_cons.2 ⟨fun t ht=>?_,d1⟩
    revert h2 ht d1
    cases T.dropWhile (· == i) with
    | nil=>intro _ _ ht;simp at ht
    | cons u U =>
     intro h2 d1 ht
     rw[List.pairwise_cons] at d1
     simp only[List.headD_cons] at h2
     rcases List.mem_cons.1 ht with rfl|ht
     ·omega
     ·have:=d1.1 t ht;omega
   ·exact d1
  ·intro t ht
   split at ht
   ·rcases List.mem_cons.1 ht with rfl|ht
    ·refine⟨by omega,?_⟩
     have hh:(T.dropWhile (· == i)).headD e<=e:=by
      revert d2
      cases T.dropWhile (· == i) with
      | nil=>intro _;exact Int.le_refl _
      | cons u U=>intro d2;exact(hb u (d2 u (by simp)).1).2
     omega
    ·exact⟨(d2 t ht).2,(hb t (d2 t ht).1).2⟩
   ·exact⟨(d2 t ht).2,(hb t (d2 t ht).1).2⟩
theorem drop_shift (s i:Int):∀T:List Int,(T.map (· + s)).dropWhile (· == i+s)=(T.dropWhile (· == i)).map (· + s)
 | []=>rfl
 | t :: T=>by
  by_cases e:t=i
  ·subst e
   simp only[List.map_cons,List.dropWhile,BEq.rfl]
   exact drop_shift s t T
  ·have e1:(t == i)=false:=by simpa using e
   have e2:(t+s == i+s)=false:=by simp;omega
   simp only[List.map_cons,List.dropWhile,e1,e2]
theorem okFrom_shift (s len:Int):∀(xs:List Nd) (i:Int) (T:List Int),okFrom (len+s) (i+s) (T.map (· + s)) xs=okFrom len i T xs
 | [],_,_=>rfl
 | x :: xs,i,T=>by
  have hh:((T.dropWhile (· == i)).map (· + s)).headD (len+s)=(T.dropWhile (· == i)).headD len+s:=by cases T.dropWhile (· == i)<;>rfl
  have h0:=okFrom_shift s len xs (i+1) (if deepB x then (i+1+x.kids) :: T.dropWhile (· == i) else T.dropWhile (· == i))
  simp only[okFrom,drop_shift,hh,List.length_map]
  have hd:decide (x.kids<=(T.dropWhile (· == i)).headD len+s-(i+s)-1)=decide (x.kids<=(T.dropWhile (· == i)).headD len-i-1):=decide_eq_decide.2 (by constructor<;>intro h<;>omega)
  rw[hd,<-h0,show i+1+s=i+s+1 by omega]
  congr 2
  split
  ·simp only[List.map_cons]
   congr 1
   omega
  ·rfl
theorem list_app {xs ys:List Nd}(hx:listB xs=true)(hy:listB ys=true):listB (xs++ys)=decide ((xs++ys).length<=20000):=by
 unfold listB at hx hy ⊢
 rw[Bool.and_eq_true] at hx hy
 have h1:=okFrom_app ((xs++ys).length:Int) ys xs 0 (xs.length:Int) [] (by omega) (by rw[List.length_append];omega) List.Pairwise.nil (fun t ht=>by simp at ht) hx.2
 have h2:=okFrom_shift (xs.length:Int) (ys.length:Int) ys 0 []
 simp only[List.map_nil] at h2
 rw[h1,show (((xs++ys).length:Nat):Int)=(ys.length:Int)+(xs.length:Int) by rw[List.length_append];push_cast;omega,show (xs.length:Int)=0+(xs.length:Int) by omega]
 rw[show (0:Int)+(xs.length:Int)=0+(xs.length:Int) from rfl] at h2
 rw[show (ys.length:Int)+(0+(xs.length:Int))=(ys.length:Int)+(xs.length:Int) by omega,h2,hy.2,Bool.and_true]
theorem hpR_list {xs:List Nd}{mode size:Int}(h:0<(hpR xs mode size).length):listB (hpR xs mode size)=true:=by
 unfold hpR at h ⊢
 split at h
 ·rename_i hok
  rw[if_pos hok]
  have hb:=box_list (k:=6) (.inl rfl) (hpTo xs mode size) (hpS xs).h (hpS xs).d (hpL_len xs mode size) (glues_pair xs) (fun p hp=>glues_in hp) (hpOk_prt hok).2.1
  unfold hpN
  rw[hb]
  unfold hpOk packB at hok
  simp only[Bool.and_eq_true] at hok ⊢
  obtain⟨⟨⟨⟨⟨⟨⟨q1,_⟩,_⟩,_⟩,⟨q5,_⟩⟩,q6⟩,q7⟩,q8⟩:=hok
  exact⟨⟨q1,⟨⟨q5,q6⟩,q7⟩⟩,q8⟩
 ·simp at h
theorem rowR_list {f:Nat->Int}{gs:Int}{gap:Nd}{co:Int}{r:Rw}(h:0<(rowR f gs gap co r).length):listB (rowR f gs gap co r)=true:=by
 unfold rowR at h ⊢
 split at h
 ·rename_i h1
  rw[if_pos h1]
  exact hpR_list h
 ·rename_i h1
  rw[if_neg h1]
  split at h
  ·rename_i h2
   rw[if_pos h2]
   exact hpR_list h
  ·simp at h
theorem rowR_le {f:Nat->Int}{gs:Int}{gap:Nd}{co:Int}{r:Rw}:(rowR f gs gap co r).length<=20000:=by
 unfold rowR
 split
 ·exact hpR_le
 ·split
  ·exact hpR_le
  ·simp
def outK (f:Nat->Int)(gs:Int)(gap:Nd)(co:Int)(rs:List Rw):Nat->List Nd
 | 0=>[]
 | k+1=>outK f gs gap co rs k++rowR f gs gap co (rs.getD k Rw.none)
def rowsOk (f:Nat->Int)(gs:Int)(gap:Nd)(co:Int)(rs:List Rw):Nat->Bool
 | 0=>true
 | k+1=>rowsOk f gs gap co rs k&&decide (0<(rowR f gs gap co (rs.getD k Rw.none)).length)
theorem rowsOk_down {f:Nat->Int}{gs:Int}{gap:Nd}{co:Int}{rs:List Rw}:∀{n k:Nat},k<=n->rowsOk f gs gap co rs k=false->rowsOk f gs gap co rs n=false
 | 0,k,h,h0=>by
  obtain rfl:k=0:=by omega
  exact h0
 | n+1,k,h,h0=>by
  by_cases hk:k=n+1
  ·subst hk;exact h0
  ·unfold rowsOk
   rw[rowsOk_down (show k<=n by omega) h0]
   rfl
theorem outK_mono (f:Nat->Int)(gs:Int)(gap:Nd)(co:Int)(rs:List Rw):∀{n k:Nat},k<=n->(outK f gs gap co rs k).length<=(outK f gs gap co rs n).length
 | 0,k,h=>by
  obtain rfl:k=0:=by omega
  exact Nat.le_refl _
 | n+1,k,h=>by
  by_cases hk:k=n+1
  ·subst hk;exact Nat.le_refl _
  ·have:=outK_mono f gs gap co rs (show k<=n by omega)
   simp only[outK,List.length_append]
   omega
theorem outK_list {f:Nat->Int}{gs:Int}{gap:Nd}{co:Int}{rs:List Rw}:∀{k:Nat},rowsOk f gs gap co rs k=true->listB (outK f gs gap co rs k)=decide ((outK f gs gap co rs k).length<=20000)
 | 0,_=>by simp[outK,listB,okFrom]
 | k+1,h=>by
  unfold rowsOk at h
  rw[Bool.and_eq_true,decide_eq_true_eq] at h
  have h1:=outK_list h.1
  have h2:=rowR_list h.2
  by_cases hl:(outK f gs gap co rs k).length<=20000
  ·rw[decide_eq_true hl] at h1
   exact list_app h1 h2
  ·have hm:=outK_mono f gs gap co rs (show k<=k+1 by omega)
   rw[decide_eq_false (show ¬(outK f gs gap co rs (k+1)).length<=20000 by omega)]
   unfold listB
   rw[decide_eq_false (by omega)]
   rfl
def stR (x:Tb):List Nd:=if (tabB x&&(colsOk x.gs x.rs x.co.toNat&&(rowsOk (colsStep x.gs x.rs x.co.toNat) x.gs (gapN x.gs x.gp x.gpo x.gm x.gmo) x.co x.rs x.rs.length&&decide ((outK (colsStep x.gs x.rs x.co.toNat) x.gs (gapN x.gs x.gp x.gpo x.gm x.gmo) x.co x.rs x.rs.length).length<=20000))))=true then outK (colsStep x.gs x.rs x.co.toNat) x.gs (gapN x.gs x.gp x.gpo x.gm x.gmo) x.co x.rs x.rs.length else []
theorem stR_len (x:Tb):(stR x).length<=20000:=by
 unfold stR
 split
 ·rename_i h
  simp only[Bool.and_eq_true,decide_eq_true_eq] at h
  exact h.2.2.2
 ·simp
theorem dropW_map (s i:Int):∀T:List Int,(T.map (· + s)).dropWhile (· == i+s)=(T.dropWhile (· == i)).map (· + s)
 | []=>rfl
 | a :: T=>by
  rw[List.map_cons]
  by_cases h:a=i
  ·subst h
   rw[List.dropWhile_cons_of_pos (by simp),List.dropWhile_cons_of_pos (by simp)]
   exact dropW_map s a T
  ·rw[List.dropWhile_cons_of_neg (by simp;omega),List.dropWhile_cons_of_neg (by simp;omega),List.map_cons]
theorem ok_shift (len s:Int):∀(xs:List Nd) (i:Int) (T:List Int),okFrom (len+s) (i+s) (T.map (· + s)) xs=okFrom len i T xs
 | [],i,T=>rfl
 | x :: xs,i,T=>by
  have hH:∀U:List Int,(U.map (· + s)).headD (len+s)=U.headD len+s:=fun U=>by cases U<;>rfl
  have h0:=ok_shift len s xs (i+1) (if deepB x then (i+1+x.kids) :: T.dropWhile (· == i) else T.dropWhile (· == i))
  have e1:List.map (· + s) (if deepB x then (i+1+x.kids) :: T.dropWhile (· == i) else T.dropWhile (· == i))=if deepB x then (i+s+1+x.kids) :: (T.dropWhile (· == i)).map (· + s) else (T.dropWhile (· == i)).map (· + s):=by
   split
   ·rw[List.map_cons,show i+1+x.kids+s=i+s+1+x.kids by omega]
   ·rfl
  rw[e1,show i+1+s=i+s+1 by omega] at h0
  simp only[okFrom,dropW_map,hH,List.length_map,h0]
  rw[show (decide (x.kids<=List.headD (List.dropWhile (fun x=>x == i) T) len+s-(i+s)-1))=decide (x.kids<=List.headD (List.dropWhile (fun x=>x == i) T) len-i-1) by rw[decide_eq_decide];omega]
theorem ok_cut (len:Int)(ys:List Nd):∀(xs:List Nd) (i:Int) (T:List Int),okFrom len i T (xs++ys)=true->okFrom len i T xs=true
 | [],i,T,_=>rfl
 | x :: xs,i,T,h=>by
  simp only[List.cons_append,okFrom,Bool.and_eq_true] at h ⊢
  exact⟨h.1,ok_cut len ys xs _ _ h.2⟩
theorem ok_allI {L i:Int}(ys:List Nd):∀(T:List Int),(∀y∈T,y=i)->okFrom L i T ys=okFrom L i [] ys:=by
 intro T hT
 cases ys with
 | nil=>rfl
 | cons y ys =>
  have:T.dropWhile (· == i)=[]:=by
   induction T with
   | nil=>rfl
   | cons a T ih =>
    rw[List.dropWhile_cons_of_pos (by simpa using hT a (List.mem_cons_self ..))]
    exact ih fun y hy=>hT y (List.mem_cons_of_mem _ hy)
  simp only[okFrom,this,List.dropWhile_nil]
  rfl
theorem dropW_mem {i y:Int}:∀{T:List Int},y∈T.dropWhile (· == i)->y∈T
 | a :: T,h=>by
  by_cases ha:a=i
  ·rw[List.dropWhile_cons_of_pos (by simpa using ha)] at h
   exact List.mem_cons_of_mem _ (dropW_mem h)
  ·rw[List.dropWhile_cons_of_neg (by simpa using ha)] at h
   exact h
theorem dropW_gt {i:Int}:∀{T:List Int},(∀y∈T,i<=y)->T.Pairwise (· <= ·)->∀y∈T.dropWhile (· == i),i+1<=y
 | a :: T,h,hp,y,hy=>by
  by_cases ha:a=i
  ·rw[List.dropWhile_cons_of_pos (by simpa using ha)] at hy
   exact dropW_gt (fun z hz=>h z (List.mem_cons_of_mem _ hz)) (List.pairwise_cons.1 hp).2 y hy
  ·rw[List.dropWhile_cons_of_neg (by simpa using ha)] at hy
   have h0:=h a (List.mem_cons_self ..)
   rcases List.mem_cons.1 hy with rfl|hy
   ·omega
   ·have:=(List.pairwise_cons.1 hp).1 y hy
    omega
theorem dropW_pair {i:Int}:∀{T:List Int},T.Pairwise (· <= ·)->(T.dropWhile (· == i)).Pairwise (· <= ·)
 | [],h=>h
 | a :: T,hp=>by
  by_cases ha:a=i
  ·rw[List.dropWhile_cons_of_pos (by simpa using ha)]
   exact dropW_pair (List.pairwise_cons.1 hp).2
  ·rw[List.dropWhile_cons_of_neg (by simpa using ha)]
   exact hp
theorem stack_step {len i:Int}{x:Nd}{T:List Int}(hg:goodB x=true)(hk:x.kids<=(T.dropWhile (· == i)).headD len-i-1)(h0:∀y∈T,i<=y)(h1:T.Pairwise (· <= ·))(h2:∀y∈T,y<=len) :
 (∀y∈(if deepB x then (i+1+x.kids) :: T.dropWhile (· == i) else T.dropWhile (· == i)),i+1<=y)/\(if deepB x then (i+1+x.kids) :: T.dropWhile (· == i) else T.dropWhile (· == i)).Pairwise (· <= ·)/\∀y∈(if deepB x then (i+1+x.kids) :: T.dropWhile (· == i) else T.dropWhile (· == i)),y<=len:=by
 have hkn:=good_kids hg
 have a1:=dropW_gt h0 h1
 have a2:=dropW_pair (i:=i) h1
 have a3:∀y∈T.dropWhile (· == i),y<=len:=fun y hy=>h2 y (dropW_mem hy)
 generalize T.dropWhile (· == i)=U at *
 have hh:U.headD len<=len:=by
  cases U with
  | nil=>simp
  | cons a U=>simpa using a3 a (List.mem_cons_self ..)
 split
 ·refine⟨fun y hy=>?_,List.pairwise_cons.2 ⟨fun y hy=>?_,a2⟩,fun y hy=>?_⟩
  ·rcases List.mem_cons.1 hy with rfl|hy
   ·omega
   ·exact a1 y hy
  ·cases U with
   | nil=>simp at hy
   | cons a U =>
    simp only[List.headD_cons] at hk
    rcases List.mem_cons.1 hy with rfl|hy
    ·omega
    ·have:=(List.pairwise_cons.1 a2).1 y hy
     omega
  ·rcases List.mem_cons.1 hy with rfl|hy
   ·omega
   ·exact a3 y hy
 ·exact⟨a1,a2,a3⟩
theorem ok_within {len len' e:Int}:∀(xs:List Nd) (i:Int) (T:List Int),i+xs.length<=e->okFrom len i (T++[e]) xs=okFrom len' i (T++[e]) xs
 | [],_,_,_=>rfl
 | x :: xs,i,T,hl=>by
  have hdr:(T++[e]).dropWhile (· == i)=T.dropWhile (· == i)++[e]:=by
   induction T with
   | nil=>rw[List.nil_append,List.dropWhile_cons_of_neg (by simp at hl ⊢;omega)];rfl
   | cons a T ih =>
    rw[List.cons_append]
    by_cases ha:a=i
    ·rw[List.dropWhile_cons_of_pos (by simpa using ha),List.dropWhile_cons_of_pos (by simpa using ha)]
     exact ih
    ·rw[List.dropWhile_cons_of_neg (by simpa using ha),List.dropWhile_cons_of_neg (by simpa using ha),List.cons_append]
  have hh:∀l,(T.dropWhile (· == i)++[e]).headD l=(T.dropWhile (· == i)++[e]).headD 0:=fun l=>by cases T.dropWhile (· == i)<;>rfl
  have h0:=fun U=>ok_within (len:=len) (len':=len') (e:=e) xs (i+1) U (by simp at hl;omega)
  simp only[okFrom,hdr]
  rw[hh len,hh len']
  cases hd:deepB x with
  | true =>
   have:=h0 ((i+1+x.kids) :: T.dropWhile (· == i))
   simp only[List.cons_append] at this
   simp[this]
  | false=>simp[h0 (T.dropWhile (· == i))]
theorem ok_behind {len e:Int}(ys:List Nd):∀(xs:List Nd) (i:Int) (T:List Int),i+xs.length=e->e<=len->(∀y∈T++[e],i<=y)->(T++[e]).Pairwise (· <= ·)->okFrom len i (T++[e]) (xs++ys)=true->okFrom len e [] ys=true
 | [],i,T,hl,hL,h0,h1,h=>by
  have e:i=e:=by simpa using hl
  subst e
  rw[List.nil_append] at h
  rw[ok_allI ys _ (fun y hy=>?_)] at h
  ·exact h
  ·have h2:=h0 y hy
   rcases List.mem_append.1 hy with hy|hy
   ·have:=(List.pairwise_append.1 h1).2.2 y hy i (List.mem_singleton.2 rfl)
    omega
   ·simpa using hy
 | x :: xs,i,T,hl,hL,h0,h1,h=>by
  have hdr:(T++[e]).dropWhile (· == i)=T.dropWhile (· == i)++[e]:=by
   clear h0 h1 h
   induction T with
   | nil=>rw[List.nil_append,List.dropWhile_cons_of_neg (by simp at hl ⊢;omega)];rfl
   | cons a T ih =>
    rw[List.cons_append]
    by_cases ha:a=i
    ·rw[List.dropWhile_cons_of_pos (by simpa using ha),List.dropWhile_cons_of_pos (by simpa using ha)]
     exact ih
    ·rw[List.dropWhile_cons_of_neg (by simpa using ha),List.dropWhile_cons_of_neg (by simpa using ha),List.cons_append]
  simp only[List.cons_append,okFrom,Bool.and_eq_true] at h
  obtain⟨⟨⟨hg,hk⟩,hd⟩,hr⟩:=h
  have hk':=of_decide_eq_true hk
  have h2:∀y∈T++[e],y<=len:=fun y hy=>by
   rcases List.mem_append.1 hy with hy|hy
   ·have:=(List.pairwise_append.1 h1).2.2 y hy e (List.mem_singleton.2 rfl)
    omega
   ·have:y=e:=by simpa using hy
    omega
  obtain⟨b0,b1,_⟩:=stack_step hg hk' h0 h1 h2
  rw[hdr] at b0 b1 hr
  cases hdp:deepB x with
  | true =>
   rw[hdp] at b0 b1 hr
   simp only[if_true] at b0 b1 hr
   rw[<-List.cons_append] at b0 b1 hr
   exact ok_behind ys xs _ _ (by simp at hl;omega) hL b0 b1 hr
  | false =>
   rw[hdp] at b0 b1 hr
   simp only[Bool.false_eq_true,if_false] at b0 b1 hr
   exact ok_behind ys xs _ _ (by simp at hl;omega) hL b0 b1 hr
theorem ok_item {len i:Int}{x:Nd}{rest:List Nd}(hl:i+1+rest.length=len)(h:okFrom len i [] (x :: rest)=true) :
 x.kids.toNat<=rest.length/\0<=x.kids/\okFrom (((x :: rest.take x.kids.toNat).length:Nat):Int) 0 [] (x :: rest.take x.kids.toNat)=true/\okFrom len (i+1+x.kids) [] (rest.drop x.kids.toNat)=true:=by
 have h':=h
 simp only[okFrom,List.dropWhile_nil,List.headD_nil,Bool.and_eq_true] at h'
 obtain⟨⟨⟨hg,hk⟩,hd⟩,hr⟩:=h'
 have hk':=of_decide_eq_true hk
 have hkn:=good_kids hg
 obtain⟨k,hkk⟩:∃k:Nat,x.kids=k:=⟨x.kids.toNat,by omega⟩
 have hkt:x.kids.toNat=k:=by omega
 have hkl:k<=rest.length:=by omega
 rw[hkt]
 have hlen:(((x :: rest.take k).length:Nat):Int)=1+k:=by rw[List.length_cons,List.length_take];omega
 refine⟨hkl,hkn,?_,?_⟩
 ·rw[hlen]
  simp only[okFrom,List.dropWhile_nil,List.headD_nil,Bool.and_eq_true]
  refine⟨⟨⟨hg,decide_eq_true (by omega)⟩,hd⟩,?_⟩
  cases hdp:deepB x with
  | false =>
   have hk0:=flat_kids hg hdp
   have:k=0:=by omega
   subst this
   rfl
  | true =>
   rw[hdp] at hr
   simp only[if_true] at hr ⊢
   have h1:okFrom len (i+1) [i+1+x.kids] (rest.take k)=true:=ok_cut len (rest.drop k) _ _ _ (by rw[List.take_append_drop];exact hr)
   have h2:=ok_shift (1+k) i (rest.take k) (0+1) [0+1+x.kids]
   rw[<-h2]
   have h3:=ok_within (len:=len) (len':=1+k+i) (e:=i+1+x.kids) (rest.take k) (i+1) [] (by rw[List.length_take];omega)
   rw[List.nil_append,h1] at h3
   simp only[List.map_cons,List.map_nil]
   rw[show (0:Int)+1+i=i+1 by omega,show (0:Int)+1+x.kids+i=i+1+x.kids by omega]
   exact h3.symm
 ·cases hdp:deepB x with
  | false =>
   have hk0:=flat_kids hg hdp
   have:k=0:=by omega
   subst this
   rw[hdp] at hr
   simp only[Bool.false_eq_true,if_false] at hr
   rw[hk0,Int.add_zero]
   simpa using hr
  | true =>
   rw[hdp] at hr
   simp only[if_true] at hr
   refine ok_behind (rest.drop k) (rest.take k) (i+1) [] (by rw[List.length_take];omega) (by omega) ?_ (by simp) ?_
   ·intro y hy
    have:y=i+1+x.kids:=by simpa using hy
    omega
   ·rw[List.take_append_drop]
    exact hr
theorem starts_fuel {xs:List Nd}:∀(f g i:Nat),xs.length-i<f->xs.length-i<g->starts xs f i=starts xs g i
 | 0,_,i,h,_=>by omega
 | _+1,0,i,_,h=>by omega
 | f+1,g+1,i,hf,hg=>by
  simp only[starts]
  split
  ·rw[starts_fuel f g _ (by omega) (by omega)]
  ·rfl
theorem starts_app {a b:List Nd}:∀(f i:Nat),i<=a.length->okFrom a.length i [] (a.drop i)=true->a.length+b.length-i<f->starts (a++b) f i=starts a (a.length+1) i++(starts b (b.length+1) 0).map (· + a.length)
 | 0,i,_,_,h=>by omega
 | f+1,i,hi,h,hf=>by
  by_cases hlt:i<a.length
  ·have hg:a.getD i Nd.none=a[i]:=by simp[List.getD,List.getElem?_eq_getElem hlt]
   have hga:(a++b).getD i Nd.none=a.getD i Nd.none:=by simp[List.getD,List.getElem?_append_left hlt]
   rw[List.drop_eq_getElem_cons hlt] at h
   obtain⟨h1,h2,h3,h4⟩:=ok_item (rest:=a.drop (i+1)) (by rw[List.length_drop];omega) h
   rw[<-hg] at h1 h2 h4
   rw[List.length_drop] at h1
   rw[List.drop_drop] at h4
   have r:=starts_app (a:=a) (b:=b) f (i+1+(a.getD i Nd.none).kids.toNat) (by omega) (by
    rw[show ((i+1+(a.getD i Nd.none).kids.toNat:Nat):Int)=(i:Int)+1+(a.getD i Nd.none).kids by omega]
    exact h4) (by omega)
   rw[starts_fuel (xs:=a) (a.length+1) (a.length+1+1) i (by omega) (by omega)]
   have st:∀(zs:List Nd) (f i:Nat),starts zs (f+1) i=if i<zs.length then i :: starts zs f (i+1+(zs.getD i Nd.none).kids.toNat) else []:=fun _ _ _=>rfl
   rw[st (a++b) f i,st a (a.length+1) i]
   rw[if_pos (by rw[List.length_append];omega),if_pos hlt,hga,r,List.cons_append]
  ·have e:i=a.length:=by omega
   subst e
   have hz:starts a (a.length+1) a.length=[]:=by simp[starts]
   rw[hz,List.nil_append]
   have:∀(f j:Nat),j<=b.length->b.length-j<f->starts (a++b) f (a.length+j)=(starts b f j).map (· + a.length):=by
    intro f
    induction f with
    | zero=>intro j _ h;omega
    | succ f ih =>
     intro j hj hf
     simp only[starts]
     by_cases hjl:j<b.length
     ·rw[if_pos (by rw[List.length_append];omega),if_pos hjl]
      have hg:(a++b).getD (a.length+j) Nd.none=b.getD j Nd.none:=by simp[List.getD,List.getElem?_append_right]
      rw[hg,List.map_cons,Nat.add_comm a.length j]
      by_cases hz:j+1+(b.getD j Nd.none).kids.toNat<=b.length
      ·have:=ih (j+1+(b.getD j Nd.none).kids.toNat) hz (by omega)
       rw[<-this]
       congr 2
       omega
      ·have e1:∀(g q:Nat),(a++b).length<=q->starts (a++b) g q=[]:=fun g q hq=>by
        cases g with
        | zero=>rfl
        | succ g=>simp only[starts];rw[if_neg (by omega)]
       have e2:∀(g q:Nat),b.length<=q->starts b g q=[]:=fun g q hq=>by
        cases g with
        | zero=>rfl
        | succ g=>simp only[starts];rw[if_neg (by omega)]
       rw[e1 _ _ (by rw[List.length_append];omega),e2 _ _ (by omega)]
       rfl
     ·rw[if_neg (by rw[List.length_append];omega),if_neg hjl]
      rfl
   have h0:=this (f+1) 0 (Nat.zero_le _) (by omega)
   rw[show a.length+0=a.length from rfl] at h0
   rw[h0,starts_fuel (xs:=b) (f+1) (b.length+1) 0 (by omega) (by omega)]
theorem listB_iff {xs:List Nd}:listB xs=true↔xs.length<=20000/\okFrom xs.length 0 [] xs=true:=by
 unfold listB;simp
structure T3 where
 a:Int
 b:Int
 c:Int
def T3.none:T3:=⟨0,0,0⟩
abbrev t3O (t:T3):Obj:= .cells #[.int .i64 t.a,.int .i64 t.b,.int .i64 t.c] 2 (0,0)
abbrev slG (g:Nat):Value:= .slice (some ⟨g,0,none⟩) 3 3
structure SSO (base:Nat)(w:World)(v:Value)(ts:List T3)(gs:List Nat):Prop where
 own:w.ownsRow base 54 1 v gs.length (gs.map slG)
 len:gs.length=ts.length
 at_:∀i,i<gs.length->base<=gs.getD i 0/\w.heap[gs.getD i 0]?=some (t3O (ts.getD i T3.none))
 up:∀i j,i<j->j<gs.length->gs.getD i 0<gs.getD j 0
theorem SSO.below {base:Nat}{w w':World}{v:Value}{ts:List T3}{gs:List Nat}(h:SSO base w v ts gs)(hb:Below w.heap.size w w'):SSO base w' v ts gs :=
 ⟨ownG_below h.own hb,h.len,fun i hi=>⟨(h.at_ i hi).1,(hb.block _ (Array.getElem?_eq_some_iff.1 (h.at_ i hi).2).1).trans (h.at_ i hi).2⟩,h.up⟩
theorem getD_snoc {α:Type}{xs:List α}{x d:α}{i:Nat}:(xs++[x]).getD i d=if i<xs.length then xs.getD i d else if i=xs.length then x else d:=by
 simp only[List.getD_eq_getElem?_getD]
 split
 ·rename_i h
  rw[List.getElem?_append_left h]
 ·rename_i h
  split
  ·rename_i e
   subst e
   simp
  ·rw[List.getElem?_eq_none (by simp;omega)]
   rfl
theorem SSO.snoc {base:Nat}{w w':World}{v v':Value}{ts:List T3}{gs:List Nat}{t:T3}{o:Obj}(h:SSO base w v ts gs)(hb:base<=w.heap.size)
 (ho:w'.ownsRow base 54 1 v' (gs.length+1) (gs.map slG++[slG w.heap.size])) (hg:((w.alloc (t3O t)).alloc o).grownBy w' v.ownBlock):SSO base w' v' (ts++[t]) (gs++[w.heap.size]):=by
 have hkeep:∀g (t:T3),g<w.heap.size+1->((w.alloc (t3O t)).alloc o).heap[g]?=((w.alloc (t3O t)).alloc o).heap[g]?:=fun _ _ _=>rfl
 have hblk:∀g (t':T3),((w.alloc (t3O t)).alloc o).heap[g]?=some (t3O t')->w'.heap[g]?=some (t3O t'):=fun g t' hh=>by
  refine(hg.block g (glt hh) (fun e=>?_)).trans hh
  exact own_neB hh ((h.own.alloc _).alloc _) (by decide) e.symm
 have hlt:∀i,i<gs.length->gs.getD i 0<w.heap.size:=fun i hi=>(Array.getElem?_eq_some_iff.1 (h.at_ i hi).2).1
 refine⟨by simpa using ho,by simp[h.len],fun i hi=>?_,fun i j hij hj=>?_⟩
 ·simp only[List.length_append,List.length_cons,List.length_nil] at hi
  rw[getD_snoc,getD_snoc]
  by_cases e:i<gs.length
  ·rw[if_pos e,if_pos (by rw[<-h.len];exact e)]
   refine⟨(h.at_ i e).1,hblk _ _ ?_⟩
   rw[Below.heap_alloc _ _ _ (by rw[World.size_alloc];have:=hlt i e;omega),Below.heap_alloc _ _ _ (hlt i e)]
   exact(h.at_ i e).2
  ·have e2:i=gs.length:=by omega
   rw[if_neg e,if_pos e2,if_neg (by rw[<-h.len];exact e),if_pos (by rw[<-h.len];exact e2)]
   refine⟨hb,hblk _ _ ?_⟩
   rw[Below.heap_alloc _ _ _ (by simp)]
   exact heap_alloc_new w _
 ·simp only[List.length_append,List.length_cons,List.length_nil] at hj
  rw[getD_snoc,getD_snoc,if_pos (by omega)]
  by_cases e:j<gs.length
  ·rw[if_pos e]
   exact h.up i j hij e
  ·rw[if_neg e,if_pos (by omega)]
   exact hlt i (by omega)
theorem Tryz.info46s:(Tryz.prog.info? 54).map (fun i=>(i.zero,i.size,i.bytes))=some (some (.slice none 0 0),1,24):=by kernel_rfl
def cT (i:Nat)(cs:List Cl):Nat->List T3
 | 0=>[]
 | j+1=>cT i cs j++[⟨(i:Int),spK cs j,(cs.getD j Cl.none).sp⟩]
def rT (rs:List Rw):Nat->List T3
 | 0=>[]
 | i+1=>rT rs i++cT i (rs.getD i Rw.none).cs (rs.getD i Rw.none).cs.length
theorem cT_len (i:Nat)(cs:List Cl):∀j,(cT i cs j).length=j
 | 0=>rfl
 | j+1=>by unfold cT;rw[List.length_append,cT_len i cs j];rfl
theorem rT_len {rs:List Rw}:∀{i:Nat},(∀k,k<i->(rs.getD k Rw.none).cs.length<=20)->(rT rs i).length<=20*i
 | 0,_=>Nat.le_refl _
 | i+1,h=>by
  have h1:=rT_len (i:=i) (fun k hk=>h k (by omega))
  have h2:=h i (by omega)
  unfold rT
  rw[List.length_append,cT_len]
  omega
theorem RowIn.le {cs:List Cl}{cols:Int}(h:RowIn cs cols)(h20:cols<=20):cs.length<=20:=by
 have h1:=spK_bound h20 h.1
 have h2:=h.2
 omega
def celL (x:Tb):List T3:=if tabB x=true then rT x.rs x.rs.length else []
theorem celB {t:Tb}(h:tabB t=true):1<=t.co/\t.co<=20/\t.rs.length<=200/\∀i,i<t.rs.length->RowIn (t.rs.getD i Rw.none).cs t.co:=by
 unfold tabB headB at h
 simp only[Bool.and_eq_true,decide_eq_true_eq] at h
 obtain⟨⟨⟨⟨h1,h2⟩,_⟩,h4⟩,h5⟩:=h
 exact⟨h1,h2,h4,fun i hi=>rowB_in (rowsB_at h5 i hi) h1⟩
theorem new1c (w:World)(o:Obj)(a:Value)(t:TypeId):∀j u,[a][j]?=some u->((w.alloc o).alloc (.cells #[a] t)).cell? ((⟨w.heap.size+1,0,none⟩:Addr).add j)=some u:=by
 intro j u hj
 match j,hj with
 | 0,hj=>simp at hj;subst hj;simp[Addr.add,go_sem]
theorem siz_snoc (gs:List Shr.Gl)(g:Shr.Gl):Shr.siz (gs++[g])=Shr.siz gs+g.s:=by simp[Shr.siz]
def wtN (x:Nd):Int:=if tallB x then x.wd else if x.k=2 then x.wd else if x.k=3 then x.gs else 0
theorem rowStep_wt (s:RS)(x:Nd):(rowStep s x).w+Shr.siz (rowStep s x).gs=s.w+Shr.siz s.gs+wtN x:=by
 unfold rowStep wtN
 by_cases h1:tallB x=true
 ·simp only[h1,if_true,RS.tall];omega
 ·by_cases h2:x.k=2
  ·simp only[h1,h2,if_true,if_false,RS.kern,Bool.false_eq_true];omega
  ·by_cases h3:x.k=3
   ·simp only[h1,h2,h3,if_true,if_false,Bool.false_eq_true]
    rw[if_neg (by decide)]
    show s.w+Shr.siz (s.gs++[glOf x])=_
    rw[siz_snoc]
    show s.w+(Shr.siz s.gs+x.gs)=_
    omega
   ·simp only[h1,h2,h3,if_false,Bool.false_eq_true];omega
theorem fold_wt (xs:List Nd):∀(Z:List Nat) (s:RS),(Z.foldl (fun s p=>rowStep s (xs.getD p Nd.none)) s).w+Shr.siz (Z.foldl (fun s p=>rowStep s (xs.getD p Nd.none)) s).gs=s.w+Shr.siz s.gs+(Z.map (fun p=>wtN (xs.getD p Nd.none))).sum
 | [],s=>by simp
 | p :: Z,s=>by
  rw[List.foldl_cons,fold_wt xs Z,rowStep_wt,List.map_cons,List.sum_cons]
  omega
def wL (xs:List Nd):Int:=((begins xs).map (fun p=>wtN (xs.getD p Nd.none))).sum
theorem natW_wL (xs:List Nd):natW xs=wL xs:=by
 have h:=fold_wt xs (begins xs) RS.nil
 unfold natW hpTo Shr.alongI
 rw[if_neg (by decide),if_neg (by decide)]
 unfold wL
 have h0:RS.nil.w+Shr.siz RS.nil.gs=0:=by rfl
 rw[h0,Int.zero_add] at h
 exact h
def okL (a:List Nd):Prop:=okFrom a.length 0 [] a=true
theorem okL_of {a:List Nd}(h:listB a=true):okL a:=(listB_iff.1 h).2
theorem okL_app {a b:List Nd}(ha:okL a)(hb:okL b):okL (a++b):=by
 unfold okL at *
 have h1:=okFrom_app ((a++b).length:Int) b a 0 (a.length:Int) [] (by omega) (by rw[List.length_append];omega) List.Pairwise.nil (fun t ht=>by simp at ht) ha
 have h2:=okFrom_shift (a.length:Int) (b.length:Int) b 0 []
 simp only[List.map_nil] at h2
 rw[h1,show (((a++b).length:Nat):Int)=(b.length:Int)+(a.length:Int) by rw[List.length_append];push_cast;omega,show (a.length:Int)=0+(a.length:Int) by omega]
 rw[show (0:Int)+(a.length:Int)=0+(a.length:Int) from rfl] at h2
 rw[show (b.length:Int)+(0+(a.length:Int))=(b.length:Int)+(a.length:Int) by omega,h2,hb]
theorem begins_app {a b:List Nd}(ha:okL a):begins (a++b)=begins a++(begins b).map (· + a.length):=by
 have h:=starts_app (a:=a) (b:=b) ((a++b).length+1) 0 (Nat.zero_le _) (by rw[List.drop_zero];exact ha) (by rw[List.length_append];omega)
 exact h
theorem begins_lt {a:List Nd}{p:Nat}(h:p∈begins a):p<a.length:=starts_lt a _ _ p h
theorem getD_left {a b:List Nd}{p:Nat}(h:p<a.length):(a++b).getD p Nd.none=a.getD p Nd.none:=by
 rw[List.getD_eq_getElem?_getD,List.getElem?_append_left h,<-List.getD_eq_getElem?_getD]
theorem getD_right {a b:List Nd}(p:Nat):(a++b).getD (p+a.length) Nd.none=b.getD p Nd.none:=by
 rw[List.getD_eq_getElem?_getD,List.getElem?_append_right (by omega),Nat.add_sub_cancel,<-List.getD_eq_getElem?_getD]
theorem wL_app {a b:List Nd}(ha:okL a):wL (a++b)=wL a+wL b:=by
 unfold wL
 rw[begins_app ha,List.map_append,List.sum_append,List.map_map]
 congr 2
 ·exact List.map_congr_left fun p hp=>by rw[getD_left (begins_lt hp)]
 ·exact List.map_congr_left fun p hp=>by show wtN ((a++b).getD (p+a.length) Nd.none)=_;rw[getD_right]
theorem begins_one {b:Nd}{t:List Nd}(hk:b.kids=(t.length:Int)):begins (b :: t)=[0]:=by
 unfold begins
 rw[List.length_cons,starts,if_pos (by rw[List.length_cons];omega)]
 have e:(b :: t).getD 0 Nd.none=b:=rfl
 rw[e,hk,starts,if_neg (by rw[List.length_cons];omega)]
theorem wL_one {b:Nd}{t:List Nd}(hk:b.kids=(t.length:Int)):wL (b :: t)=wtN b:=by
 unfold wL
 rw[begins_one hk]
 simp
theorem hpR_cons {ys:List Nd}{mode s:Int}(h:0<(hpR ys mode s).length):∃t,hpR ys mode s=boxN 6 (hpTo ys mode s) (hpS ys).h (hpS ys).d ys.length :: t/\t.length=ys.length/\hpOk ys mode s=true:=by
 unfold hpR at h ⊢
 split at h
 ·rename_i hok
  rw[if_pos hok]
  exact⟨_,rfl,setL_len _ _ _,hok⟩
 ·simp at h
theorem wL_hpR {ys:List Nd}{mode s:Int}(h:0<(hpR ys mode s).length):wL (hpR ys mode s)=hpTo ys mode s:=by
 obtain⟨t,e,hl,_⟩:=hpR_cons h
 rw[e,wL_one (by show ((ys.length:Nat):Int)=_;rw[hl])]
 rfl
theorem gap_good {gs gp gpo gm gmo:Int}(h:glB gs gp gpo gm gmo=true):goodB (gapN gs gp gpo gm gmo)=true:=by
 unfold goodB specB gapN
 have h0:fitsB 0=true:=by decide
 have h2:uptoB 0 15=true:=by decide
 have h3:uptoB 0 255=true:=by decide
 have hu:eqNd ⟨3,0,0,0,0,0,0,0,gs,gp,gpo,gm,gmo,⟨#[]⟩,0⟩ (Nd.used ⟨3,0,0,0,0,0,0,0,gs,gp,gpo,gm,gmo,⟨#[]⟩,0⟩)=true:=by rw[eqNd_iff];rfl
 rw[hu]
 simp[h0,h,h2,h3,penB,ByteArray.size]
theorem krn_good {x:Int}(h:fitsB x=true):goodB (krnN x)=true:=by
 unfold goodB specB krnN
 have h0:fitsB 0=true:=by decide
 have h1:glB 0 0 0 0 0=true:=by decide
 have h2:uptoB 0 15=true:=by decide
 have h3:uptoB 0 255=true:=by decide
 have hu:eqNd ⟨2,x,0,0,0,0,0,0,0,0,0,0,0,⟨#[]⟩,0⟩ (Nd.used ⟨2,x,0,0,0,0,0,0,0,0,0,0,0,⟨#[]⟩,0⟩)=true:=by rw[eqNd_iff];rfl
 rw[hu]
 simp[h0,h,h1,h2,h3,penB,ByteArray.size]
theorem okL_one {x:Nd}(h:goodB x=true)(hd:deepB x=false)(hk:x.kids=0):okL [x]:=by
 unfold okL
 simp[okFrom,h,hd,hk]
theorem sumF_add (f:Nat->Int)(a n:Nat):∀m,sumF f a (n+m)=sumF f a n+sumF f (a+n) m
 | 0=>by simp[sumF]
 | m+1=>by
  rw[<-Nat.add_assoc,sumF_succ,sumF_add f a n m,sumF_succ,Nat.add_assoc]
  omega
theorem aK_sum {f:Nat->Int}{gs:Int}{gap:Nd}{cs:List Cl}(hg:okL [gap])(hw:wL [gap]=gs)(hsp:∀j,j<cs.length->0<=spK cs j/\spK cs j+1<=spK cs (j+1)) :
 ∀k,k<=cs.length->celsOk f gs cs k=true->okL (aK f gs gap cs k)/\wL (aK f gs gap cs k)=spK cs k*gs+sumF f 0 (spK cs k).toNat
 | 0,_,_=>⟨rfl,by show wL []=0*gs+sumF f 0 0;rw[Int.zero_mul];rfl⟩
 | k+1,hk,h=>by
  unfold celsOk at h
  rw[Bool.and_eq_true,decide_eq_true_eq] at h
  obtain⟨h1,h2⟩:=aK_sum hg hw hsp k (by omega) h.1
  obtain⟨p1,p2⟩:=hsp k (by omega)
  have hc:okL (celR f gs cs k):=okL_of (hpR_list h.2)
  have hcw:wL (celR f gs cs k)=celW f gs cs k:=by
   unfold celR at h ⊢
   rw[wL_hpR h.2]
   rfl
  refine⟨okL_app (okL_app h1 hc) hg,?_⟩
  show wL (aK f gs gap cs k++celR f gs cs k++[gap])=_
  rw[wL_app (okL_app h1 hc),wL_app h1,h2,hcw,hw]
  unfold celW acr
  obtain⟨A,hA⟩:∃A:Nat,spK cs k=A:=⟨(spK cs k).toNat,by omega⟩
  obtain⟨B,hB⟩:∃B:Nat,spK cs (k+1)=(A:Int)+B+1:=⟨(spK cs (k+1)-A-1).toNat,by omega⟩
  rw[hB,hA,show ((A:Int)+B+1-1).toNat=A+B by omega,show (A:Int).toNat=A by omega,show ((A:Int)+B+1).toNat=A+(B+1) by omega,sumF_add,show A+B+1-A=B+1 by omega,Nat.zero_add]
  rw[show (((A+B:Nat):Int)-A)=(B:Int) by omega,Int.add_mul,Int.add_mul,Int.one_mul]
  omega
theorem kK_sum {f:Nat->Int}{gs:Int}{gap:Nd}{a:Nat}{L:List Nd}{S:Int}(hg:okL [gap])(hw:wL [gap]=gs)(hL:okL L)(hS:wL L=S) :
 ∀j,(∀i,i<j->fitsB (f (a+i))=true)->okL (kK f gap a L j)/\wL (kK f gap a L j)=S+(j:Int)*gs+sumF f a j
 | 0,_=>⟨hL,by show wL L=_;rw[hS];simp[sumF]⟩
 | j+1,hf=>by
  obtain⟨h1,h2⟩:=kK_sum hg hw hL hS j (fun i hi=>hf i (by omega))
  have hk:okL [krnN (f (a+j))]:=okL_one (krn_good (hf j (by omega))) rfl rfl
  have hkw:wL [krnN (f (a+j))]=f (a+j):=by rw[wL_one (by rfl)];rfl
  have hkg:okL ([krnN (f (a+j))]++[gap]):=okL_app hk hg
  refine⟨okL_app h1 hkg,?_⟩
  show wL (kK f gap a L j++([krnN (f (a+j))]++[gap]))=_
  rw[wL_app h1,wL_app hk,h2,hkw,hw,sumF_succ]
  push_cast
  rw[Int.add_mul,Int.one_mul]
  omega
theorem rowI_w {f:Nat->Int}{gs:Int}{gap:Nd}{cs:List Cl}{co:Int}(hg:okL [gap])(hw:wL [gap]=gs)(hsp:∀j,j<cs.length->0<=spK cs j/\spK cs j+1<=spK cs (j+1))(h0:0<=spK cs cs.length)(hco:1<=co)(hle:spK cs cs.length<=co)(hpos:0<cs.length->0<spK cs cs.length)
 (hf:∀i:Nat,(i:Int)<co->fitsB (f i)=true) (hc:celsOk f gs cs cs.length=true) (hI:okL (rowI f gs gap cs co)):natW (rowI f gs gap cs co)=acr f gs 0 (co.toNat-1):=by
 obtain⟨A,hA⟩:∃A:Nat,spK cs cs.length=A:=⟨(spK cs cs.length).toNat,by omega⟩
 obtain⟨J,hJ⟩:∃J:Nat,co=(A:Int)+J:=⟨(co-A).toNat,by omega⟩
 obtain⟨h1,h2⟩:=aK_sum (f:=f) hg hw hsp cs.length (Nat.le_refl _) hc
 obtain⟨h3,h4⟩:=kK_sum (f:=f) (a:=(spK cs cs.length).toNat) hg hw h1 h2 (co-spK cs cs.length).toNat (fun i hi=>hf _ (by omega))
 have hd:=drop_put f gs gap cs cs.length (co-spK cs cs.length).toNat (spK cs cs.length).toNat (by
  by_cases hz:0<cs.length
  ·exact .inl hz
  ·right
   have:cs.length=0:=by omega
   rw[this] at hA
   have:spK cs 0=0:=rfl
   rw[show cs.length=0 by omega]
   omega)
 have h5:wL (rowI f gs gap cs co++[gap])=wL (rowI f gs gap cs co)+gs:=by rw[wL_app hI,hw]
 unfold rowI at h5 ⊢
 rw[hd,h4,hA,hJ,show ((A:Int)+J-A).toNat=J by omega,show ((A:Int)).toNat=A by omega] at h5
 rw[natW_wL,hA,hJ,show ((A:Int)+J-A).toNat=J by omega,show ((A:Int)).toNat=A by omega]
 unfold acr
 have h6:=sumF_add f 0 A J
 rw[Nat.zero_add] at h6
 have h7:((A:Int)+J).toNat-1+1-0=A+J:=by omega
 rw[h7,h6]
 have h8:(((((A:Int)+J).toNat-1:Nat):Int)-((0:Nat):Int))=(A:Int)+J-1:=by omega
 rw[h8,Int.sub_mul,Int.add_mul,Int.one_mul]
 omega
theorem row_box {f:Nat->Int}{gs:Int}{gap:Nd}{co:Int}{r:Rw}(hg:okL [gap])(hw:wL [gap]=gs)(hsp:∀j,j<r.cs.length->0<=spK r.cs j/\spK r.cs j+1<=spK r.cs (j+1))(h0:0<=spK r.cs r.cs.length)(hco:1<=co)(hle:spK r.cs r.cs.length<=co)(hpos:0<r.cs.length->0<spK r.cs r.cs.length)
 (hf:∀i:Nat,(i:Int)<co->fitsB (f i)=true) (h:0<(rowR f gs gap co r).length):∃b t,rowR f gs gap co r=b :: t/\b.k=6/\b.wd=acr f gs 0 (co.toNat-1)/\fitsB (acr f gs 0 (co.toNat-1))=true/\b.kids=(t.length:Int):=by
 have fits:∀{ys:List Nd},hpOk ys 0 0=true->fitsB (hpTo ys 0 0)=true:=fun h=>by
  unfold hpOk at h
  simp only[Bool.and_eq_true] at h
  exact h.1.1.1.2.1
 unfold rowR at h ⊢
 split at h
 ·rename_i h1
  rw[if_pos h1]
  obtain⟨t,e,hl,hok⟩:=hpR_cons h
  have e2:hpTo [rulN (acr f gs 0 (co.toNat-1)) r.ru] 0 0=acr f gs 0 (co.toNat-1):=by
   show natW _=_
   rw[natW_wL,wL_one (by rfl)]
   rfl
  have e3:=fits hok
  rw[e2] at e e3
  exact⟨_,t,e,rfl,rfl,e3,by rw[hl];rfl⟩
 ·rename_i h1
  rw[if_neg h1]
  split at h
  ·rename_i h2
   rw[if_pos h2]
   obtain⟨t,e,hl,hok⟩:=hpR_cons h
   have hI:okL (rowI f gs gap r.cs co):=by
    have hk:=hok
    unfold hpOk packB at hk
    simp only[Bool.and_eq_true] at hk
    exact okL_of (can_list hk.1.1.1.1.1.1.1)
   have e2:hpTo (rowI f gs gap r.cs co) 0 0=acr f gs 0 (co.toNat-1):=rowI_w hg hw hsp h0 hco hle hpos hf h2 hI
   have e3:=fits hok
   rw[e2] at e e3
   exact⟨_,t,e,rfl,rfl,e3,by rw[hl];rfl⟩
  ·simp at h
theorem items_cat {a b:List Nd}(ha:listB a=true)(hb:listB b=true)(hl:(a++b).length<=20000):itemsOf (a++b)=itemsOf a++itemsOf b:=by
 have hab:listB (a++b)=true:=by rw[list_app ha hb,decide_eq_true hl]
 have e0:itemsOf (a++b)=(begins (a++b)).map (itemAt (a++b)):=by unfold itemsOf;rw[if_pos hab];rfl
 have e1:itemsOf a=(begins a).map (itemAt a):=by unfold itemsOf;rw[if_pos ha];rfl
 have e2:itemsOf b=(begins b).map (itemAt b):=by unfold itemsOf;rw[if_pos hb];rfl
 rw[e0,e1,e2,begins_app (okL_of ha),List.map_append,List.map_map]
 congr 1
 ·refine List.map_congr_left fun p hp=>?_
  have hp:=begins_lt hp
  have hk:=(allOk ha).kids p hp
  unfold itemAt
  rw[getD_left hp,List.drop_append_of_le_length (by omega),List.take_append_of_le_length (by rw[List.length_drop];omega)]
 ·refine List.map_congr_left fun p hp=>?_
  show itemAt (a++b) (p+a.length)=_
  unfold itemAt
  rw[getD_right,Nat.add_comm p,List.drop_append,Nat.add_sub_cancel_left,List.drop_eq_nil_of_le (by omega),List.nil_append]
theorem items_box {b:Nd}{t:List Nd}(h:listB (b :: t)=true)(hk:b.kids=(t.length:Int)):itemsOf (b :: t)=[b :: t]:=by
 have e0:itemsOf (b :: t)=(begins (b :: t)).map (itemAt (b :: t)):=by unfold itemsOf;rw[if_pos h];rfl
 rw[e0,begins_one hk]
 show[itemAt (b :: t) 0]=_
 unfold itemAt
 have e:(b :: t).getD 0 Nd.none=b:=rfl
 rw[e,hk,List.drop_zero,List.take_of_length_le (by rw[List.length_cons];omega)]
theorem out_items {f:Nat->Int}{gs:Int}{gap:Nd}{co:Int}{rs:List Rw}(hb:∀i,i<rs.length->0<(rowR f gs gap co (rs.getD i Rw.none)).length->∃b t,rowR f gs gap co (rs.getD i Rw.none)=b :: t/\b.kids=(t.length:Int)) :
 ∀k,k<=rs.length->rowsOk f gs gap co rs k=true->(outK f gs gap co rs k).length<=20000->(itemsOf (outK f gs gap co rs k)).length=k/\∀i,i<k->(itemsOf (outK f gs gap co rs k)).getD i []=rowR f gs gap co (rs.getD i Rw.none)
 | 0,_,_,_=>⟨by rfl,fun i hi=>by omega⟩
 | k+1,hk,h,hl=>by
  have hm:=outK_mono f gs gap co rs (show k<=k+1 by omega)
  have h0:=h
  unfold rowsOk at h
  rw[Bool.and_eq_true,decide_eq_true_eq] at h
  obtain⟨h1,h2⟩:=out_items hb k (by omega) h.1 (by omega)
  have la:listB (outK f gs gap co rs k)=true:=by rw[outK_list h.1,decide_eq_true (by omega)]
  have lb:=rowR_list h.2
  obtain⟨b,t,e,hkd⟩:=hb k (by omega) h.2
  have hi:itemsOf (outK f gs gap co rs (k+1))=itemsOf (outK f gs gap co rs k)++[rowR f gs gap co (rs.getD k Rw.none)]:=by
   show itemsOf (outK f gs gap co rs k++rowR f gs gap co (rs.getD k Rw.none))=_
   rw[items_cat la lb hl]
   congr 1
   rw[e] at lb ⊢
   exact items_box lb hkd
  rw[hi]
  refine⟨by rw[List.length_append,h1];rfl,fun i hik=>?_⟩
  by_cases e:i<k
  ·rw[List.getD_eq_getElem?_getD,List.getElem?_append_left (by omega),<-List.getD_eq_getElem?_getD]
   exact h2 i e
  ·obtain rfl:i=k:=by omega
   rw[List.getD_eq_getElem?_getD,List.getElem?_append_right (by omega),h1,Nat.sub_self]
   rfl
theorem rows_set {x:Tb}(h:0<(itemsOf (stR x)).length):tabB x=true/\(itemsOf (stR x)).length=x.rs.length/\∀i,i<x.rs.length->∃b t,(itemsOf (stR x)).getD i []=b :: t/\b.k=6/\b.wd=twI x:=by
 unfold stR at h ⊢
 split at h
 ·rename_i hc
  rw[if_pos hc]
  simp only[Bool.and_eq_true,decide_eq_true_eq] at hc
  obtain⟨ht,hcol,hrw,hlen⟩:=hc
  obtain⟨p1,p2,p3,p4,p5⟩:=tabB_parts ht
  have hgl:glB x.gs x.gp x.gpo x.gm x.gmo=true:=by
   have h:=ht
   unfold tabB headB at h
   simp only[Bool.and_eq_true] at h
   exact h.1.1.2
  have hg:okL [gapN x.gs x.gp x.gpo x.gm x.gmo]:=okL_one (gap_good hgl) rfl rfl
  have hw:wL [gapN x.gs x.gp x.gpo x.gm x.gmo]=x.gs:=by rw[wL_one (by rfl)];rfl
  have hf:∀i:Nat,(i:Int)<x.co->fitsB (colsStep x.gs x.rs x.co.toNat i)=true:=fun i hi=>by
   have:=fit_bd ht hcol (k:=i) (by omega)
   unfold fitsB
   rw[decide_eq_true_eq]
   omega
  have hb:∀i,i<x.rs.length->0<(rowR (colsStep x.gs x.rs x.co.toNat) x.gs (gapN x.gs x.gp x.gpo x.gm x.gmo) x.co (x.rs.getD i Rw.none)).length->∃b t,rowR (colsStep x.gs x.rs x.co.toNat) x.gs (gapN x.gs x.gp x.gpo x.gm x.gmo) x.co (x.rs.getD i Rw.none)=b :: t/\b.k=6/\b.wd=acr (colsStep x.gs x.rs x.co.toNat) x.gs 0 (x.co.toNat-1)/\fitsB (acr (colsStep x.gs x.rs x.co.toNat) x.gs 0 (x.co.toNat-1))=true/\b.kids=(t.length:Int):=fun i hi hp=>by
   have hr:=p5 i hi
   have hs:=tab_sp ht i hi
   have hbd:=spK_bound p2 hr.1
   exact row_box hg hw hs (by omega) p1 hr.2 (by omega) hf hp
  obtain⟨q1,q2⟩:=out_items (fun i hi hp=>by obtain⟨b,t,e,_,_,_,hk⟩:=hb i hi hp;exact⟨b,t,e,hk⟩) x.rs.length (Nat.le_refl _) hrw hlen
  refine⟨ht,q1,fun i hi=>?_⟩
  have hp:0<(rowR (colsStep x.gs x.rs x.co.toNat) x.gs (gapN x.gs x.gp x.gpo x.gm x.gmo) x.co (x.rs.getD i Rw.none)).length:=by
   by_cases hz:0<(rowR (colsStep x.gs x.rs x.co.toNat) x.gs (gapN x.gs x.gp x.gpo x.gm x.gmo) x.co (x.rs.getD i Rw.none)).length
   ·exact hz
   ·have:=rowsOk_down (f:=colsStep x.gs x.rs x.co.toNat) (gs:=x.gs) (gap:=gapN x.gs x.gp x.gpo x.gm x.gmo) (co:=x.co) (rs:=x.rs) (show i+1<=x.rs.length by omega) (by
     unfold rowsOk
     rw[decide_eq_false hz,Bool.and_false])
    rw[hrw] at this
    cases this
  obtain⟨b,t,e,hk,hwd,hfit,_⟩:=hb i hi hp
  refine⟨b,t,(q2 i hi).trans e,hk,?_⟩
  rw[hwd]
  unfold twI
  rw[ht,hcol,if_pos (by rfl),if_pos hfit]
 ·have:itemsOf ([]:List Nd)=[]:=by rfl
  rw[this] at h
  simp at h
theorem cT_at (i:Nat)(cs:List Cl):∀m j,j<m->(cT i cs m).getD j T3.none=⟨(i:Int),spK cs j,(cs.getD j Cl.none).sp⟩
 | 0,j,h=>by omega
 | m+1,j,h=>by
  show (cT i cs m++[_]).getD j T3.none=_
  rw[getD_snoc,cT_len]
  by_cases e:j<m
  ·rw[if_pos e]
   exact cT_at i cs m j e
  ·obtain rfl:j=m:=by omega
   rw[if_neg e,if_pos rfl]
theorem rT_at (rs:List Rw)(i q:Nat):(rT rs (i+1)).getD q T3.none=if q<(rT rs i).length then (rT rs i).getD q T3.none else (cT i (rs.getD i Rw.none).cs (rs.getD i Rw.none).cs.length).getD (q-(rT rs i).length) T3.none:=by
 show (rT rs i++_).getD q T3.none=_
 split
 ·rename_i h
  rw[List.getD_eq_getElem?_getD,List.getElem?_append_left h,<-List.getD_eq_getElem?_getD]
 ·rename_i h
  rw[List.getD_eq_getElem?_getD,List.getElem?_append_right (by omega),<-List.getD_eq_getElem?_getD]
theorem rT_lt (rs:List Rw):∀i q,q<(rT rs i).length->((rT rs i).getD q T3.none).a<(i:Int)
 | 0,q,h=>by simp[rT] at h
 | i+1,q,h=>by
  rw[rT_at]
  have hl:(rT rs (i+1)).length=(rT rs i).length+(rs.getD i Rw.none).cs.length:=by show (rT rs i++_).length=_;rw[List.length_append,cT_len]
  split
  ·rename_i h2
   have:=rT_lt rs i q h2
   omega
  ·rw[cT_at _ _ _ _ (by omega)]
   show (i:Int)<_
   omega
theorem rT_next (rs:List Rw):∀i q,q<(rT rs i).length->
 (0<q->((rT rs i).getD q T3.none).a=((rT rs i).getD (q-1) T3.none).a->((rT rs i).getD q T3.none).b=((rT rs i).getD (q-1) T3.none).b+((rT rs i).getD (q-1) T3.none).c)/\
 ((q=0\/((rT rs i).getD q T3.none).a≠((rT rs i).getD (q-1) T3.none).a)->((rT rs i).getD q T3.none).b=0)
 | 0,q,h=>by simp[rT] at h
 | i+1,q,h=>by
  have hl:(rT rs (i+1)).length=(rT rs i).length+(rs.getD i Rw.none).cs.length:=by show (rT rs i++_).length=_;rw[List.length_append,cT_len]
  rw[rT_at,rT_at]
  by_cases h2:q<(rT rs i).length
  ·rw[if_pos h2,if_pos (by omega)]
   exact rT_next rs i q h2
  ·rw[if_neg h2]
   obtain⟨j,hj⟩:∃j,q=(rT rs i).length+j:=⟨q-(rT rs i).length,by omega⟩
   rw[show q-(rT rs i).length=j by omega,cT_at _ _ _ _ (by omega)]
   by_cases hj0:j=0
   ·subst hj0
    refine⟨fun hq he=>?_,fun _=>rfl⟩
    rw[if_pos (by omega)] at he
    have:=rT_lt rs i (q-1) (by omega)
    rw[<-he] at this
    exact absurd this (by show ¬(i:Int)<i;omega)
   ·rw[if_neg (by omega),show q-1-(rT rs i).length=j-1 by omega,cT_at _ _ _ _ (by omega)]
    refine⟨fun _ _=>?_,fun hq=>?_⟩
    ·show spK _ j=spK _ (j-1)+_
     obtain⟨m,rfl⟩:∃m,j=m+1:=⟨j-1,by omega⟩
     rfl
    ·rcases hq with h|h
     ·omega
     ·exact absurd rfl h
theorem rT_bd (rs:List Rw){cols:Int}(h20:cols<=20):∀i,(∀k,k<i->RowIn (rs.getD k Rw.none).cs cols)->∀q,q<(rT rs i).length->
 0<=((rT rs i).getD q T3.none).b/\((rT rs i).getD q T3.none).b<=20/\0<=((rT rs i).getD q T3.none).c/\((rT rs i).getD q T3.none).c<=20
 | 0,_,q,h=>by simp[rT] at h
 | i+1,hr,q,h=>by
  have hl:(rT rs (i+1)).length=(rT rs i).length+(rs.getD i Rw.none).cs.length:=by show (rT rs i++_).length=_;rw[List.length_append,cT_len]
  rw[rT_at]
  split
  ·rename_i h2
   exact rT_bd rs h20 i (fun k hk=>hr k (by omega)) q h2
  ·rw[cT_at _ _ _ _ (by omega)]
   have h3:=(hr i (by omega)).at h20 (j:=q-(rT rs i).length) (by omega)
   rw[spK_succ] at h3
   show 0<=spK _ _/\spK _ _<=20/\0<=Cl.sp _/\Cl.sp _<=20
   omega
def nCs (rs:List Rw):Nat->Nat
 | 0=>0
 | i+1=>nCs rs i+(rs.getD i Rw.none).cs.length
theorem rT_cnt (rs:List Rw):∀i,(rT rs i).length=nCs rs i
 | 0=>rfl
 | i+1=>by
  show (rT rs i++_).length=_
  rw[List.length_append,cT_len,rT_cnt rs i]
  rfl
end Go.Proofs.YtbbehmcekbnkiaaGreat

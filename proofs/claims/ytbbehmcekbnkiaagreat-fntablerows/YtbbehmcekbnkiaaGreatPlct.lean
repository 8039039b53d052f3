import Derived.Test.YtbbehmcekbnkiaaGreatDttt
namespace Go.Proofs.YtbbehmcekbnkiaaGreat
set_option maxHeartbeats 8000000
open Go.RowKit
set_option linter.unusedVariables false
set_option linter.unusedSimpArgs false
set_option maxRecDepth 20000 in
theorem drawWidths_any (ao:Option Addr)(len cap:Nat)(w:World)(hB:Bytes w ao len cap) :
 Calls Tryz.prog 21 #[.slice ao len cap] w fun e w'=>(∃(x:Tb) (va:Option Addr) (vc:Nat),e = .returned (tbV x (.slice va x.rs.length vc))/\RRowN 0 w' (.slice va x.rs.length vc) x.rs/\SmT x/\x.rs.length<=5)/\Below w.heap.size w w':=by
 have HB:=hideD (hB.kept (below1 w (tbO 0 0 0 0 0 0 (.slice none 0 0))))
 have BA:=hideP (below1 w (tbO 0 0 0 0 0 0 (.slice none 0 0)))
 have R0:=hideP (heap_alloc_new w (tbO 0 0 0 0 0 0 (.slice none 0 0)))
 have hsz:(w.alloc (tbO 0 0 0 0 0 0 (.slice none 0 0))).heap.size=w.heap.size+1:=by simp
 clear hB
 go_enter Tryz.func21,Tryz.ntmps21
 go_wp2_with fail
 generalize World.alloc _ _=wa at HB BA R0 hsz ⊢
 refine(new_any ao len cap wa HB.out).mono ?_
 rintro e w1 ⟨rfl,c1⟩
 have C1:=hideP c1
 have hlt:=c1.lt
 clear c1
 go_wp2_with fail
 refine(drawTable_any ao len cap wa w1 HB.out C1.out).mono ?_
 rintro e w2 ⟨co,gs,gp,gpo,gm,gmo,u,rs,rfl,ho,c2,f2⟩
 obtain⟨i,h,_,_,_,hbel⟩:=c2
 have hres:=(hbel.block w.heap.size (by omega)).trans R0.out
 have hoS:=ho.other (w':=sevT w2 w.heap.size co gs gp gpo gm gmo u) hres (by decide) (by decide) (by decide) (fun g hg=>by rw[Below.heap_setCell _ _ _ _ hg,Below.heap_setCell _ _ _ _ hg,Below.heap_setCell _ _ _ _ hg,Below.heap_setCell _ _ _ _ hg,Below.heap_setCell _ _ _ _ hg,Below.heap_setCell _ _ _ _ hg,Below.heap_setCell _ _ _ _ hg])
 have hb0:Below w.heap.size w w2:=below_more BA.out hbel BA.out.size
 have hl:=Nat.le_refl w.heap.size
 have hbS:Below w.heap.size w (sevT w2 w.heap.size co gs gp gpo gm gmo u):=((((((hb0.setCell (p:=⟨w.heap.size,0,none⟩) hl _).setCell (p:=⟨w.heap.size,1,none⟩) hl _).setCell (p:=⟨w.heap.size,2,none⟩) hl _).setCell (p:=⟨w.heap.size,3,none⟩) hl _).setCell (p:=⟨w.heap.size,4,none⟩) hl _).setCell (p:=⟨w.heap.size,5,none⟩) hl _).setCell (p:=⟨w.heap.size,6,none⟩) hl _
 have hLD:(sevT w2 w.heap.size co gs gp gpo gm gmo u).heap[w.heap.size]?=some (tbO co gs gp gpo gm gmo u):=heap_setCell_same _ _ 6 _ 52 _ (heap_setCell_same _ _ 5 _ 52 _ (heap_setCell_same _ _ 4 _ 52 _ (heap_setCell_same _ _ 3 _ 52 _ (heap_setCell_same _ _ 2 _ 52 _ (heap_setCell_same _ _ 1 _ 52 _ (heap_setCell_same _ _ 0 _ 52 _ hres))))))
 obtain⟨xs,hl,hr,hsm⟩:=hoS.read
 obtain⟨ya,yc,hu⟩:=hr.shape
 have hl5:xs.length<=5:=by rw[hl];exact ho.len
 obtain⟨q,hq⟩:=exq (xs.length)
 rw[<-hq] at hu
 subst hu
 have HX:Hid (RRowN 0 (sevT w2 w.heap.size co gs gp gpo gm gmo (.slice ya q yc)) (.slice ya xs.length yc) xs/\SmT ⟨co,gs,gp,gpo,gm,gmo,xs⟩/\xs.length<=5/\Below w.heap.size w (sevT w2 w.heap.size co gs gp gpo gm gmo (.slice ya q yc))/\(sevT w2 w.heap.size co gs gp gpo gm gmo (.slice ya q yc)).heap[w.heap.size]?=some (tbO co gs gp gpo gm gmo (.slice ya q yc))):=hideP ⟨by rw[<-hq];exact hr,⟨by simp only;omega,hsm⟩,hl5,hbS,hLD⟩
 have HQ:=hideP hq
 have z0:=cell_of_row w2 w.heap.size 0 _ 52 _ hres
 have z1:=cell_of_row w2 w.heap.size 1 _ 52 _ hres
 have z2:=cell_of_row w2 w.heap.size 2 _ 52 _ hres
 have z3:=cell_of_row w2 w.heap.size 3 _ 52 _ hres
 have z4:=cell_of_row w2 w.heap.size 4 _ 52 _ hres
 have z5:=cell_of_row w2 w.heap.size 5 _ 52 _ hres
 have z6:=cell_of_row w2 w.heap.size 6 _ 52 _ hres
 have fz:∀j,w2.frozen? ⟨w.heap.size,j,none⟩=false:=fun j=>frozen_of_row w2 _ j _ _ hres
 clear hq ho f2 hr hsm hbel hl C1 hoS hb0 hbS hLD hres hl5 R0 BA
 go_wp2
 exact bodyPost_ret (v:= .agg #[.int .i64 co,.int .i64 gs,.int .i64 gp,.int .i64 gpo,.int .i64 gm,.int .i64 gmo,.slice ya q yc]) (results_one_cell rfl _ _ w.heap.size _ rfl (loadTb HX.out.2.2.2.2)) rfl ⟨⟨⟨co,gs,gp,gpo,gm,gmo,xs⟩,ya,yc,by rw[HQ.out],HX.out.1,HX.out.2.1,HX.out.2.2.1⟩,HX.out.2.2.2.1⟩
def cellB (c:Cl)(cols:Int):Bool:=decide (1<=c.sp)&&decide (c.sp<=cols)&&decide (0<=c.al)&&decide (c.al<=2)&&hpOk c.ns 0 0
def cellsB (cs:List Cl)(cols:Int):Nat->Bool
 | 0=>true
 | k+1=>cellsB cs cols k&&cellB (cs.getD k Cl.none) cols
def spK (cs:List Cl):Nat->Int
 | 0=>0
 | k+1=>spK cs k+(cs.getD k Cl.none).sp
theorem spK_succ (cs:List Cl)(k:Nat):spK cs (k+1)=spK cs k+(cs.getD k Cl.none).sp:=rfl
def rowB (r:Rw)(cols:Int):Bool:=if r.ru=0 then cellsB r.cs cols r.cs.length&&decide (spK r.cs r.cs.length<=cols) else decide (0<r.ru)&&decide (r.ru<=1073741823)&&decide (r.cs.length=0)
def rowsB (rs:List Rw)(cols:Int):Nat->Bool
 | 0=>true
 | k+1=>rowsB rs cols k&&rowB (rs.getD k Rw.none) cols
def headB (t:Tb):Bool:=decide (1<=t.co)&&decide (t.co<=20)&&glB t.gs t.gp t.gpo t.gm t.gmo&&decide (t.rs.length<=200)
def tabB (t:Tb):Bool:=headB t&&rowsB t.rs t.co t.rs.length
theorem cellsB_down {cs:List Cl}{cols:Int}:∀{n k:Nat},k<=n->cellsB cs cols k=false->cellsB cs cols n=false
 | 0,k,h,h0=>by
  obtain rfl:k=0:=by omega
  exact h0
 | n+1,k,h,h0=>by
  by_cases hk:k=n+1
  ·subst hk;exact h0
  ·unfold cellsB
   rw[cellsB_down (show k<=n by omega) h0]
   rfl
theorem rowsB_down {rs:List Rw}{cols:Int}:∀{n k:Nat},k<=n->rowsB rs cols k=false->rowsB rs cols n=false
 | 0,k,h,h0=>by
  obtain rfl:k=0:=by omega
  exact h0
 | n+1,k,h,h0=>by
  by_cases hk:k=n+1
  ·subst hk;exact h0
  ·unfold rowsB
   rw[rowsB_down (show k<=n by omega) h0]
   rfl
theorem cellsB_at {cs:List Cl}{cols:Int}:∀{n:Nat},cellsB cs cols n=true->∀k,k<n->cellB (cs.getD k Cl.none) cols=true
 | 0,_,k,hk=>by omega
 | n+1,h,k,hk=>by
  unfold cellsB at h
  rw[Bool.and_eq_true] at h
  by_cases e:k=n
  ·subst e;exact h.2
  ·exact cellsB_at h.1 k (by omega)
theorem rowsB_at {rs:List Rw}{cols:Int}:∀{n:Nat},rowsB rs cols n=true->∀k,k<n->rowB (rs.getD k Rw.none) cols=true
 | 0,_,k,hk=>by omega
 | n+1,h,k,hk=>by
  unfold rowsB at h
  rw[Bool.and_eq_true] at h
  by_cases e:k=n
  ·subst e;exact h.2
  ·exact rowsB_at h.1 k (by omega)
theorem cellB_sp {c:Cl}{cols:Int}(h:cellB c cols=true):1<=c.sp/\c.sp<=cols:=by
 unfold cellB at h
 simp only[Bool.and_eq_true,decide_eq_true_eq] at h
 exact⟨h.1.1.1.1,h.1.1.1.2⟩
theorem cellB_hp {c:Cl}{cols:Int}(h:cellB c cols=true):hpOk c.ns 0 0=true:=by
 unfold cellB at h
 simp only[Bool.and_eq_true,decide_eq_true_eq] at h
 exact h.2
theorem spK_bound {cs:List Cl}{cols:Int}(hc:cols<=20):∀{n:Nat},cellsB cs cols n=true->(n:Int)<=spK cs n/\spK cs n<=20*n
 | 0,_=>⟨Int.le_refl _,Int.le_refl _⟩
 | n+1,h=>by
  unfold cellsB at h
  rw[Bool.and_eq_true] at h
  have h1:=spK_bound hc h.1
  have h2:=cellB_sp h.2
  rw[spK_succ]
  omega
theorem spK_mono {cs:List Cl}{cols:Int}:∀{n k:Nat},k<=n->cellsB cs cols n=true->spK cs k<=spK cs n
 | 0,k,hk,_=>by
  obtain rfl:k=0:=by omega
  exact Int.le_refl _
 | n+1,k,hk,h=>by
  by_cases e:k=n+1
  ·subst e;exact Int.le_refl _
  ·unfold cellsB at h
   rw[Bool.and_eq_true] at h
   have h1:=spK_mono (show k<=n by omega) h.1
   have h2:=cellB_sp h.2
   rw[spK_succ]
   omega
theorem hpR_none {xs:List Nd}:((hpR xs 0 0).length=0)↔hpOk xs 0 0=false:=by
 unfold hpR
 cases h:hpOk xs 0 0 with
 | false=>simp
 | true=>simp[hpN_len]
def natW (xs:List Nd):Int:=hpTo xs 0 0
theorem hpR_head {xs:List Nd}(h:hpOk xs 0 0=true):∃t,hpR xs 0 0=boxN 6 (natW xs) (hpS xs).h (hpS xs).d xs.length :: t:=by
 unfold hpR
 rw[if_pos h]
 exact⟨_,rfl⟩
theorem natW_fits {xs:List Nd}(h:hpOk xs 0 0=true) : -1073741823<=natW xs/\natW xs<=1073741823:=by
 unfold hpOk at h
 simp only[Bool.and_eq_true] at h
 have h1:=h.1.1.1.2.1
 unfold Shr.fitsB at h1
 simp only[Bool.and_eq_true,decide_eq_true_eq] at h1
 unfold natW
 omega
theorem implHN {v:Value}{xs:List Nd}{w:World}(mode size:Int)(hN:NRow 0 w v xs)(hNN:NN 0 w v xs)(hs:xs.length<=1048576) :
 Calls Tryz.prog 10 #[v,.int .i64 mode,.int .i64 size] w fun e w'=>∃u,e = .returned (packV u (hpT xs mode size))/\w'.ownsRow w.heap.size 36 15 u (hpR xs mode size).length (flatN (hpR xs mode size))/\Below w.heap.size w w':=by
 refine(implHPack_any mode size hN hNN hs).mono ?_
 rintro e w' ⟨hb,hp⟩
 cases hok:hpOk xs mode size with
 | false =>
  have e1:hpR xs mode size=[]:=by unfold hpR;rw[hok];rfl
  have e2:hpT xs mode size=⟨0,0,0,0,0,0⟩:=by unfold hpT;rw[hok];rfl
  rw[hok] at hp
  rw[e1,e2]
  exact⟨_,hp,World.ownsRow_nil _ _ _ _,hb⟩
 | true =>
  have e1:hpR xs mode size=hpN xs mode size:=by unfold hpR;rw[if_pos hok]
  have e2:hpT xs mode size=Shr.shareS (hpS xs).gs (hpQ xs mode size):=by unfold hpT;rw[if_pos hok]
  rw[hok] at hp
  obtain⟨u,he,ho⟩:=hp
  rw[e1,e2,hpN_len]
  exact⟨u,he,ho,hb⟩
def placeB (c:Cl)(first cols:Int):Bool:=decide (1<=c.sp)&&decide (c.sp<=cols-first)&&uptoB c.al 2&&hpOk c.ns 0 0
abbrev plV (fi la na al:Int)(v:Value):Value:= .agg #[.int .i64 fi,.int .i64 la,.int .i64 na,.int .i64 al,v]
abbrev plO (fi la na al:Int)(v:Value):Obj:= .cells #[.int .i64 fi,.int .i64 la,.int .i64 na,.int .i64 al,v] 122 (0,0)
theorem results_cell_tmp {fn:Func}{p q:Tmp}{ty:TypeId}(h:fn.results = #[.cell p ty,.tmp q])(tmps:Array Value)(w:World)(g:Nat)(x y:Value){P:Program}
 (hp:tmps.getD p undef = .pointer (some ⟨g,0,none⟩)) (hq:tmps.getD q undef=y) (hld:(loadVar ty ⟨g,0,none⟩).run P w = .ok x w) :
 (results fn tmps).run P w = .ok (.tuple #[x,y]) w:=by
 have hp':tmps[p]?.getD undef = .pointer (some ⟨g,0,none⟩):=by simpa using hp
 have hq':tmps[q]?.getD undef=y:=by simpa using hq
 simp[results,h,hp',hq',asAddr,hld,Result.andThen]
def PlcP (x:Cl)(first cols:Int)(v:Value)(b:Bool)(e:Ending):Prop:=match b with
 | true=>e = .returned (.tuple #[plV first (first+x.sp-1) (natW x.ns) x.al v,.bool true])
 | false=>e = .returned (.tuple #[plV 0 0 0 0 (.slice none 0 0),.bool false])
set_option maxRecDepth 20000 in
theorem placedAt_any (x:Cl){v:Value}{w:World}(first cols:Int)(hN:NRow 0 w v x.ns)(hNN:NN 0 w v x.ns)(hs:x.ns.length<=1048576)(h0:0<=first)(h1:first<=20)(h2:0<=cols)(h3:cols<=20) :
 Calls Tryz.prog 95 #[clV x v,.int .i64 first,.int .i64 cols] w fun e w'=>PlcP x first cols v (placeB x first cols) e/\Below w.heap.size w w':=by
 obtain⟨ua,un,uc,rfl⟩:∃a n c,v = .slice a n c:=by obtain⟨a,c,rfl⟩:=hN.shape;exact⟨_,_,_,rfl⟩
 obtain⟨nH,hnH⟩:=exq ((hpR x.ns 0 0).length)
 have HC:Hid (∀W:World,Below w.heap.size w W->Calls Tryz.prog 10 #[.slice ua un uc,.int .i64 0,.int .i64 0] W fun e w'=>∃a c s,e = .returned (packV (.slice a nH c) s)/\(0<nH->∃g,a=some ⟨g,0,none⟩/\g<w'.heap.size/\w'.cell? ⟨g,1,none⟩=some (.int .i64 (natW x.ns)))/\Below W.heap.size W w'):=hideP (fun W hW=>by
  refine(implHN 0 0 (hN.below ndStable hW) (hNN.abv ⟨hW.size,fun k _ hk=>hW.block k hk⟩) hs).mono ?_
  rintro e w' ⟨u,rfl,ho,hb⟩
  obtain⟨a,c,rfl⟩:=ownG_shape ho
  rw[<-hnH] at ho ⊢
  refine⟨a,c,_,rfl,fun hp=>?_,hb⟩
  have hok:hpOk x.ns 0 0=true:=by
   cases hk:hpOk x.ns 0 0 with
   | true=>rfl
   | false=>have:=hpR_none.2 hk;omega
  obtain⟨t,ht⟩:=hpR_head hok
  rcases ho.2 with ⟨e,_⟩ | ⟨g,cap,cur,e,hg,hh,_⟩
  ·simp at e;omega
  ·simp at e
   obtain⟨rfl,rfl⟩:=e
   refine⟨g,rfl,(glt hh),?_⟩
   refine(own_cell ho (j:=1) ?_).1
   rw[ht]
   rfl)
 have HN:Hid (nH=0↔hpOk x.ns 0 0=false):=hideP (by rw[hnH];exact hpR_none)
 have HQ:Hid (placeB x first cols=(decide (1<=x.sp)&&decide (x.sp<=cols-first)&&uptoB x.al 2&&hpOk x.ns 0 0)):=hideP rfl
 clear hN hNN hs hnH
 obtain⟨sp,al,ns⟩:=x
 simp only[clV]
 dsimp only at HC HN HQ ⊢
 have wsub:IntKind.i64.wrap (cols-first)=cols-first:=by rw[IntKind.wrap_i64];omega
 have HFA:Hid (∀W,Below w.heap.size w W->placeB ⟨sp,al,ns⟩ first cols=false->PlcP ⟨sp,al,ns⟩ first cols (.slice ua un uc) (placeB ⟨sp,al,ns⟩ first cols) (.returned (.tuple #[plV 0 0 0 0 (.slice none 0 0),.bool false]))/\Below w.heap.size w W):=hideP (fun W hW hf=>by rw[hf];exact⟨rfl,hW⟩)
 by_cases e1:sp<1
 ·go_enter Tryz.func95,Tryz.ntmps95
  go_wp2
  refine bodyPost_ret (v:= .tuple #[plV 0 0 0 0 (.slice none 0 0),.bool false]) (by simp[results,Tryz.results95,go_sem]) rfl (HFA.out _ ?_ ?_)
  ·repeat(first|with_reducible exact below2 _ _ _|(with_reducible refine Below.setCell ?_ ?_ _;rotate_left;focus(first|(simp;done)|(simp;omega))))
  ·rw[HQ.out];simp;omega
 by_cases e2:cols-first<sp
 ·go_enter Tryz.func95,Tryz.ntmps95
  go_wp2
  refine bodyPost_ret (v:= .tuple #[plV 0 0 0 0 (.slice none 0 0),.bool false]) (by simp[results,Tryz.results95,go_sem]) rfl (HFA.out _ ?_ ?_)
  ·repeat(first|with_reducible exact below2 _ _ _|(with_reducible refine Below.setCell ?_ ?_ _;rotate_left;focus(first|(simp;done)|(simp;omega))))
  ·rw[HQ.out];simp;omega
 have HU:Hid (∀W,Calls Tryz.prog 40 #[.int .i64 al,.int .i64 2] W fun e w'=>e = .returned (.bool (uptoB al 2))/\w'=W):=hideP (fun W=>upTo_any al 2 W)
 cases e3:uptoB al 2 with
 | false =>
  rw[e3] at HU HQ
  go_enter Tryz.func95,Tryz.ntmps95
  go_wp2_with (go_at_call 40;refine(HU.out _).mono ?_;rintro e w1 ⟨rfl,rfl⟩)
  refine bodyPost_ret (v:= .tuple #[plV 0 0 0 0 (.slice none 0 0),.bool false]) (by simp[results,Tryz.results95,go_sem]) rfl (HFA.out _ ?_ ?_)
  ·repeat(first|with_reducible exact below2 _ _ _|(with_reducible refine Below.setCell ?_ ?_ _;rotate_left;focus(first|(simp;done)|(simp;omega))))
  ·rw[HQ.out];simp
 | true =>
  rw[e3] at HU HQ
  by_cases e5:nH=0
  ·subst e5
   go_enter Tryz.func95,Tryz.ntmps95
   go_wp2_with (go_at_call 40;refine(HU.out _).mono ?_;rintro e w1 ⟨rfl,rfl⟩)
   refine(HC.out _ (below2 _ _ _)).mono ?_
   rintro e w2 ⟨ra,rc,rs,rfl,_,hb1⟩
   have hy1:w.heap.size+1<w2.heap.size:=by have:=hb1.size;simp at this;omega
   have hx1:w.heap.size<w2.heap.size:=by omega
   have B1:Hid (Below w.heap.size w w2):=hideP (below_more (below2 _ _ _) hb1 (by simp;omega))
   obtain⟨hc1,hf1⟩:=bcell hb1
   simp only[World.size_alloc,World.size_setCell] at hc1 hf1
   clear hb1
   go_wp2
   refine bodyPost_ret (v:= .tuple #[plV 0 0 0 0 (.slice none 0 0),.bool false]) (by simp[results,Tryz.results95,go_sem,hc1,hx1,hy1]) rfl (HFA.out _ ?_ ?_)
   ·have B2:=B1.out
    have S2:=B2.size
    clear hc1 hf1 B1 HC
    repeat(first|with_reducible exact B2|(with_reducible refine Below.setCell ?_ ?_ _;rotate_left;focus(first|(simp;done)|(simp;omega)))|(with_reducible refine Below.alloc ?_ ?_ _;rotate_left;focus(first|exact S2|(simp;omega))))
   ·rw[HQ.out,HN.out.1 trivial];simp
  ·have e6:¬(nH:Int)=0:=by omega
   have e7:(0:Int)<nH:=by omega
   go_enter Tryz.func95,Tryz.ntmps95
   go_wp2_with (go_at_call 40;refine(HU.out _).mono ?_;rintro e w1 ⟨rfl,rfl⟩)
   refine(HC.out _ (below2 _ _ _)).mono ?_
   rintro e w2 ⟨ra,rc,rs,rfl,hnat,hb1⟩
   obtain⟨g,rfl,hgl,hg⟩:=hnat (by omega)
   have hy1:w.heap.size+1<w2.heap.size:=by have:=hb1.size;simp at this;omega
   have hx1:w.heap.size<w2.heap.size:=by omega
   have B1:Hid (Below w.heap.size w w2):=hideP (below_more (below2 _ _ _) hb1 (by simp;omega))
   obtain⟨hc1,hf1⟩:=bcell hb1
   simp only[World.size_alloc,World.size_setCell] at hc1 hf1
   clear hb1
   have wadd:IntKind.i64.wrap (first+sp)=first+sp:=by rw[IntKind.wrap_i64];omega
   have wad2:IntKind.i64.wrap (first+sp-1)=first+sp-1:=by rw[IntKind.wrap_i64];omega
   go_wp2
   go_region
   go_wp2
   refine bodyPost_ret (v:= .tuple #[plV first (first+sp-1) (natW ns) al (.slice ua un uc),.bool true]) (by simp[results,Tryz.results95,go_sem,hc1,hx1,hy1]) rfl ⟨?_,?_⟩
   ·have hok:placeB ⟨sp,al,ns⟩ first cols=true:=by
     have h9:hpOk ns 0 0=true:=by
      cases hk:hpOk ns 0 0 with
      | true=>rfl
      | false=>exact absurd (HN.out.2 hk) e5
     rw[HQ.out,h9]
     simp
     omega
    rw[hok]
    rfl
   ·have B2:=B1.out
    have S2:=B2.size
    clear hc1 hf1 B1 HC
    refine Below.drew ?_
    repeat(first|with_reducible exact B2|(with_reducible refine Below.setCell ?_ ?_ _;rotate_left;focus(first|(simp;done)|(simp;omega)))|(with_reducible refine Below.alloc ?_ ?_ _;rotate_left;focus(first|exact S2|(simp;omega))))
end Go.Proofs.YtbbehmcekbnkiaaGreat

import Derived.Test.YtbbehmcekbnkiaaGreatVpi
import Derived.Test.YtbbehmcekbnkiaaGreatHso
import Derived.Test.YtbbehmcekbnkiaaGreatVso
import Derived.Test.YtbbehmcekbnkiaaGreatSdp
import Derived.Test.YtbbehmcekbnkiaaGreatRof
import Derived.RangeFuncNested
import Derived.RangeFuncBound
import Derived.RangeFuncCalls
import Derived.RangeFuncLeaves
import Derived.Shelf.Abstract
import Derived.OwnWalkIn
import Derived.Test.YtbbehmcekbnkiaaGreatMkc
import Derived.Deep.RegionWith
import Derived.Maps.AppendAt
import Derived.Shelf.RegionOpen
import Derived.WalkKit
import Derived.TacticsInMore
import Derived.LoopNIn
import Derived.LoopIn
import Derived.Test.YtbbehmcekbnkiaaGreatLok
import Derived.Test.YtbbehmcekbnkiaaGreatFni
import Derived.Test.YtbbehmcekbnkiaaGreatFng
import Derived.Test.YtbbehmcekbnkiaaGreatDrg
import Derived.Test.YtbbehmcekbnkiaaGreatDnd
namespace Go.Proofs.YtbbehmcekbnkiaaGreat
open Go.RowKit
set_option linter.unusedVariables false
set_option linter.unusedSimpArgs false
def hpR (xs:List Nd) (mode size:Int):List Nd:=if hpOk xs mode size=true then hpN xs mode size else []
def hpT (xs:List Nd) (mode size:Int):Shr.Sett:=if hpOk xs mode size=true then Shr.shareS (hpS xs).gs (hpQ xs mode size) else ⟨0,0,0,0,0,0⟩
theorem hpN_len (xs:List Nd) (mode size:Int):(hpN xs mode size).length=xs.length+1:=by
 unfold hpN
 rw[List.length_cons,setL_len]
theorem own_NN {w:World} {base n:Nat} {v:Value} {xs:List Nd} (h:w.ownsRow base 36 15 v n (flatN xs)) (hn:xs.length=n):NN 0 w v xs:=by
 have hc:=own_cap h
 rcases h.2 with ⟨rfl,h0⟩ | ⟨g,cap,cur,rfl,hb,hg,_⟩
 ·exact .inl ⟨rfl,List.eq_nil_of_length_eq_zero (by omega)⟩
 ·subst hn
  exact .inr ⟨g,0,cap,rfl,(hc _ _ _ rfl).1,Nat.zero_le _,fun _=>(Array.getElem?_eq_some_iff.1 hg).1,fun j u hj=>by rw[Nat.zero_add];exact (own_cell h hj).1⟩
theorem specH {v:Value} {xs:List Nd} {w:World} {base n:Nat} (mode size:Int) (h:w.ownsRow base 36 15 v n (flatN xs)) (hn:xs.length=n) (hs:n≤1048576) :
 Calls Tryz.prog 68 #[v, .int .i64 mode, .int .i64 size] w fun e w'=>∃u,e = .returned (packV u (hpT xs mode size))∧w'.ownsRow w.heap.size 36 15 u (hpR xs mode size).length (flatN (hpR xs mode size))∧Below w.heap.size w w':=by
 have hN:=SRow.mono ndStable (own_NRow h hn) (Nat.zero_le base)
 cases hok:hpOk xs mode size with
 | false =>
  have e1:hpR xs mode size=[]:=by unfold hpR;rw[hok];rfl
  have e2:hpT xs mode size=⟨0,0,0,0,0,0⟩:=by unfold hpT;rw[hok];rfl
  rw[e1,e2]
  refine (specHPack_no mode size hN (by omega) hok).mono ?_
  rintro e w' ⟨rfl,hb⟩
  exact⟨_,rfl,World.ownsRow_nil _ _ _ _,hb⟩
 | true =>
  have e1:hpR xs mode size=hpN xs mode size:=by unfold hpR;rw[if_pos hok]
  have e2:hpT xs mode size=Shr.shareS (hpS xs).gs (hpQ xs mode size):=by unfold hpT;rw[if_pos hok]
  rw[e1,e2,hpN_len]
  refine (specHPack_ok mode size hN (own_NN h hn) (by omega) hok).mono ?_
  rintro e w' ⟨u,he,ho,hb⟩
  exact⟨u,he,ho,hb⟩
theorem implH {v:Value} {xs:List Nd} {w:World} {base n:Nat} (mode size:Int) (h:w.ownsRow base 36 15 v n (flatN xs)) (hn:xs.length=n) (hs:n≤1048576) :
 Calls Tryz.prog 10 #[v, .int .i64 mode, .int .i64 size] w fun e w'=>∃u,e = .returned (packV u (hpT xs mode size))∧w'.ownsRow w.heap.size 36 15 u (hpR xs mode size).length (flatN (hpR xs mode size))∧Below w.heap.size w w':=by
 have hN:=SRow.mono ndStable (own_NRow h hn) (Nat.zero_le base)
 refine (implHPack_any mode size hN (own_NN h hn) (by omega)).mono ?_
 rintro e w' ⟨hb,hp⟩
 cases hok:hpOk xs mode size with
 | false =>
  have e1:hpR xs mode size=[]:=by unfold hpR;rw[hok];rfl
  have e2:hpT xs mode size=⟨0,0,0,0,0,0⟩:=by unfold hpT;rw[hok];rfl
  rw[hok] at hp
  rw[e1,e2]
  exact⟨_,hp,World.ownsRow_nil _ _ _ _,hb⟩
 | true =>
  have e1:hpR xs mode size=hpN xs mode size:=by unfold hpR;rw[if_pos hok]
  have e2:hpT xs mode size=Shr.shareS (hpS xs).gs (hpQ xs mode size):=by unfold hpT;rw[if_pos hok]
  rw[hok] at hp
  obtain⟨u,he,ho⟩:=hp
  rw[e1,e2,hpN_len]
  exact⟨u,he,ho,hb⟩
def vpA (xs:List Nd) (deep mode size:Int):Bool:=decide (0≤deep∧deep≤1073741823) && vpOk xs deep mode size
def vpR (xs:List Nd) (deep mode size:Int):List Nd:=if vpA xs deep mode size=true then vpN xs deep mode size else []
def vpT (xs:List Nd) (deep mode size:Int):Shr.Sett:=if vpA xs deep mode size=true then Shr.shareS (vpS xs deep).gs (vpQ xs deep mode size) else ⟨0,0,0,0,0,0⟩
theorem vpN_len (xs:List Nd) (deep mode size:Int):(vpN xs deep mode size).length=xs.length+1:=by
 unfold vpN
 rw[List.length_cons,setL_len]
theorem vpA_in {xs:List Nd} {deep mode size:Int} (h:0≤deep∧deep≤1073741823):vpA xs deep mode size=vpOk xs deep mode size:=by
 unfold vpA
 rw[decide_eq_true h,Bool.true_and]
theorem vpA_out {xs:List Nd} {deep mode size:Int} (h:¬(0≤deep∧deep≤1073741823)):vpA xs deep mode size=false:=by
 unfold vpA
 rw[decide_eq_false h,Bool.false_and]
theorem vp_no {xs:List Nd} {deep mode size:Int} (h:vpA xs deep mode size=false):vpR xs deep mode size=[]∧vpT xs deep mode size=⟨0,0,0,0,0,0⟩:=by
 unfold vpR vpT
 rw[h]
 exact⟨rfl,rfl⟩
theorem vp_yes {xs:List Nd} {deep mode size:Int} (h:vpA xs deep mode size=true):vpR xs deep mode size=vpN xs deep mode size∧vpT xs deep mode size=Shr.shareS (vpS xs deep).gs (vpQ xs deep mode size):=by
 unfold vpR vpT
 rw[if_pos h,if_pos h]
 exact⟨rfl,rfl⟩
theorem specV {v:Value} {xs:List Nd} {w:World} {base n:Nat} (deep mode size:Int) (h:w.ownsRow base 36 15 v n (flatN xs)) (hn:xs.length=n) (hs:n≤1048576) :
 Calls Tryz.prog 69 #[v, .int .i64 mode, .int .i64 size, .int .i64 deep] w fun e w'=>∃u,e = .returned (packV u (vpT xs deep mode size))∧w'.ownsRow w.heap.size 36 15 u (vpR xs deep mode size).length (flatN (vpR xs deep mode size))∧Below w.heap.size w w':=by
 have hN:=SRow.mono ndStable (own_NRow h hn) (Nat.zero_le base)
 by_cases hd:0≤deep∧deep≤1073741823
 ·cases hok:vpOk xs deep mode size with
  | false =>
   obtain⟨e1,e2⟩:=vp_no ((vpA_in hd).trans hok)
   rw[e1,e2]
   refine (specVPack_no deep mode size hd hN (by omega) hok).mono ?_
   rintro e w' ⟨rfl,hb⟩
   exact⟨_,rfl,World.ownsRow_nil _ _ _ _,hb⟩
  | true =>
   obtain⟨e1,e2⟩:=vp_yes ((vpA_in hd).trans hok)
   rw[e1,e2,vpN_len]
   refine (specVPack_ok deep mode size hd hN (own_NN h hn) (by omega) hok).mono ?_
   rintro e w' ⟨u,he,ho,hb⟩
   exact⟨u,he,ho,hb⟩
 ·obtain⟨e1,e2⟩:=vp_no (vpA_out (xs:=xs) (mode:=mode) (size:=size) hd)
  rw[e1,e2]
  refine (specVPack_out deep mode size hd hN (by omega)).mono ?_
  rintro e w' ⟨rfl,hb⟩
  exact⟨_,rfl,World.ownsRow_nil _ _ _ _,hb⟩
end Go.Proofs.YtbbehmcekbnkiaaGreat
namespace Go.Proofs.YtbbehmcekbnkiaaGreat
open Go.RowKit Go.Shelf
set_option linter.unusedVariables false
set_option linter.unusedSimpArgs false
def RR (w:World) (v:Value) (n:Nat) (f:Nat→List Nd):Prop :=
 ∃ao cap,v = .slice ao n cap∧(0<n→∃b off,ao=some ⟨b,off,none⟩∧b<w.heap.size∧∀i,i<n→∃u,w.cell? ⟨b,off+i,none⟩=some u∧NRow 0 w u (f i))
theorem RR.below {w w':World} {v:Value} {n:Nat} {f:Nat→List Nd} (h:RR w v n f) (hb:Below w.heap.size w w'):RR w' v n f:=by
 obtain⟨ao,cap,rfl,hc⟩:=h
 refine⟨ao,cap,rfl,fun hp=>?_⟩
 obtain⟨b,off,rfl,hlt,hcell⟩:=hc hp
 refine⟨b,off,rfl,Nat.lt_of_lt_of_le hlt hb.size,fun i hi=>?_⟩
 obtain⟨u,hu,hr⟩:=hcell i hi
 exact⟨u,(hb.cell (p:=⟨b,off+i,none⟩) hlt).trans hu,SRow.below ndStable hr hb⟩
structure Lsts (base:Nat) (w:World) (vs:List Value) (f:Nat→List Nd):Prop where
 own:∀(i:Nat) (u:Value),vs[i]? = some u→w.ownsRow base 36 15 u (f i).length (flatN (f i))
 apart:∀(i j:Nat) (u t:Value),i≠j→vs[i]? = some u→vs[j]? = some t→∀b,u.ownBlock=some b→t.ownBlock≠some b
theorem Lsts.below {base:Nat} {w w':World} {vs:List Value} {f:Nat→List Nd} (h:Lsts base w vs f) (hb:Below w.heap.size w w'):Lsts base w' vs f :=
 ⟨fun i u hu=>own_below (h.own i u hu) hb,h.apart⟩
theorem Lsts.kept {base:Nat} {vs:List Value} {f:Nat→List Nd} {A B:World} {row:Option Nat} (h:Lsts base A vs f) (hg:A.grownBy B row) (hr:∀r,row=some r→∃o:Obj,A.heap[r]? = some o∧o.isCells=false):Lsts base B vs f :=
 ⟨fun i u hu=>own_row_kept (h.own i u hu) hg hr,h.apart⟩
structure Round (xs:List Nd) (ao:Option Addr) (Bs b off cap base B k:Nat) (w W:World) (V u:Value) (vs:List Value) (f:Nat→List Nd):Prop where
 hbx:Boxed W base 24 V
 hbu:Boxed W B 37 u
 how:W.ownsRow base 24 1 u k vs
 hls:Lsts base W vs f
 hne:∀g,u.ownBlock=some g→g≠base∧g≠Bs
 hB:Below base w W
 hbs:Bs<W.heap.size
attribute [local go_sem] Oper.semAt_some
end Go.Proofs.YtbbehmcekbnkiaaGreat
namespace Go.Proofs.YtbbehmcekbnkiaaGreat
open Go.RowKit
set_option linter.unusedVariables false
set_option linter.unusedSimpArgs false
def OwnN (w:World) (base:Nat) (v:Value) (n:Nat):Prop:=∃xs:List Nd,xs.length=n∧w.ownsRow base 36 15 v n (flatN xs)
theorem own_keep {base n:Nat} {w w':World} {v:Value} {xs:List Value} (h:w.ownsRow base 36 15 v n xs) (hb:∀g,v.ownBlock=some g→w'.heap[g]? = w.heap[g]?):w'.ownsRow base 36 15 v n xs:=by
 obtain⟨hl,h | ⟨g,cap,cur,rfl,hg,hbk,hr⟩⟩:=h
 ·exact⟨hl, .inl h⟩
 ·exact⟨hl, .inr ⟨g,cap,cur,rfl,hg,(hb g rfl).trans hbk,hr⟩⟩
theorem own_lt {base n g:Nat} {w:World} {v:Value} {xs:List Value} (h:w.ownsRow base 36 15 v n xs) (hg:v.ownBlock=some g):base≤g∧g<w.heap.size∧∃cur,w.heap[g]? = some (.cells cur 36 (0,0)):=by
 rcases h.2 with ⟨rfl,_⟩ | ⟨g',cap,cur,rfl,hg0,hg',hr⟩
 ·cases hg
 ·simp[Value.ownBlock] at hg
  subst hg
  exact⟨hg0,(Array.getElem?_eq_some_iff.1 hg').1,cur,hg'⟩
theorem own_shp {base n:Nat} {w:World} {v:Value} {xs:List Value} (h:w.ownsRow base 36 15 v n xs):∃a c,v = .slice a n c:=by
 rcases h.2 with ⟨rfl,rfl⟩ | ⟨g,cap,cur,rfl,_⟩
 ·exact⟨_,_,rfl⟩
 ·exact⟨_,_,rfl⟩
theorem own_some {base n:Nat} {w:World} {v:Value} {xs:List Value} (h:w.ownsRow base 36 15 v n xs) (hn:0<n):∃g c,v = .slice (some ⟨g,0,none⟩) n c:=by
 rcases h.2 with ⟨rfl,rfl⟩ | ⟨g,cap,cur,rfl,_⟩
 ·omega
 ·exact⟨_,_,rfl⟩
theorem own_apart {base n T ty:Nat} {w:World} {v:Value} {xs:List Value} {c:Array Value} (h:w.ownsRow base 36 15 v n xs) (hT:w.heap[T]? = some (.cells c ty (0,0))) (hne:36≠ty):v.ownBlock≠some T:=by
 intro hg
 obtain⟨_,_,cur,hc⟩:=own_lt h hg
 rw[hc] at hT
 simp at hT
 exact hne hT.2
theorem own_fram {base n:Nat} {w wi wj:World} {v:Value} {xs:List Value} (h:wi.ownsRow base 36 15 v n xs) (hb:w.heap.size<base) (hf:Fram w wi wj):wj.ownsRow base 36 15 v n xs :=
 own_keep h fun g hg=>by
  obtain⟨h1,h2,_⟩:=own_lt h hg
  exact hf.2 g h2 (by omega)
theorem OwnN.fram {base n:Nat} {w wi wj:World} {v:Value} (h:OwnN wi base v n) (hb:w.heap.size<base) (hf:Fram w wi wj):OwnN wj base v n:=by
 obtain⟨xs,h1,h2⟩:=h
 exact⟨xs,h1,own_fram h2 hb hf⟩
theorem own_mon {base base' n:Nat} {w:World} {v:Value} {xs:List Value} (h:w.ownsRow base 36 15 v n xs) (hb:base'≤base):w.ownsRow base' 36 15 v n xs:=by
 obtain⟨hl,h | ⟨g,cap,cur,rfl,hg,hbk,hr⟩⟩:=h
 ·exact⟨hl, .inl h⟩
 ·exact⟨hl, .inr ⟨g,cap,cur,rfl,Nat.le_trans hb hg,hbk,hr⟩⟩
theorem own_node0 {base g n cap:Nat} {w:World} {x:Nd} {xs:List Nd} (h:w.ownsRow base 36 15 (.slice (some ⟨g,0,none⟩) n cap) n (flatN (x :: xs))) (k wd ht dp sh fo ch nn gs gp gpo gm gmo:Int) (tx:ByteArray) (kids:Int) :
 (fif w g k wd ht dp sh fo ch nn gs gp gpo gm gmo tx kids).ownsRow base 36 15 (.slice (some ⟨g,0,none⟩) n cap) n (flatN (⟨k,wd,ht,dp,sh,fo,ch,nn,gs,gp,gpo,gm,gmo,tx,kids⟩ :: xs)):=by
 have h0:=own_set h 0 (.int .i64 k)
 have h1:=own_set h0 1 (.int .i64 wd)
 have h2:=own_set h1 2 (.int .i64 ht)
 have h3:=own_set h2 3 (.int .i64 dp)
 have h4:=own_set h3 4 (.int .i64 sh)
 have h5:=own_set h4 5 (.int .i64 fo)
 have h6:=own_set h5 6 (.int .i64 ch)
 have h7:=own_set h6 7 (.int .i64 nn)
 have h8:=own_set h7 8 (.int .i64 gs)
 have h9:=own_set h8 9 (.int .i64 gp)
 have h10:=own_set h9 10 (.int .i64 gpo)
 have h11:=own_set h10 11 (.int .i64 gm)
 have h12:=own_set h11 12 (.int .i64 gmo)
 have h13:=own_set h12 13 (.string tx)
 have h14:=own_set h13 14 (.int .i64 kids)
 rw[show (((((((((((((((flatN (x :: xs)).set 0 (.int .i64 k)).set 1 (.int .i64 wd)).set 2 (.int .i64 ht)).set 3 (.int .i64 dp)).set 4 (.int .i64 sh)).set 5 (.int .i64 fo)).set 6 (.int .i64 ch)).set 7 (.int .i64 nn)).set 8 (.int .i64 gs)).set 9 (.int .i64 gp)).set 10 (.int .i64 gpo)).set 11 (.int .i64 gm)).set 12 (.int .i64 gmo)).set 13 (.string tx)).set 14 (.int .i64 kids)=flatN (⟨k,wd,ht,dp,sh,fo,ch,nn,gs,gp,gpo,gm,gmo,tx,kids⟩ :: xs) from rfl] at h14
 exact h14
theorem own_sh0 {base g n cap:Nat} {w:World} {x:Nd} {xs:List Nd} (h:w.ownsRow base 36 15 (.slice (some ⟨g,0,none⟩) n cap) n (flatN (x :: xs))) (s:Int) :
 (w.setCell ⟨g,4,none⟩ (.int .i64 s)).ownsRow base 36 15 (.slice (some ⟨g,0,none⟩) n cap) n (flatN (⟨x.k,x.wd,x.ht,x.dp,s,x.fo,x.ch,x.nn,x.gs,x.gp,x.gpo,x.gm,x.gmo,x.tx,x.kids⟩ :: xs)):=own_set h 4 (.int .i64 s)
theorem own_cells0 {base g n cap:Nat} {w:World} {x:Nd} {xs:List Nd} (h:w.ownsRow base 36 15 (.slice (some ⟨g,0,none⟩) n cap) n (flatN (x :: xs))) :
 (∀j,j<15→w.cell? ⟨g,j,none⟩=x.cells[j]?)∧∀j,j<15→w.frozen? ⟨g,j,none⟩=false:=by
 have key:∀j,j<15→(flatN (x :: xs))[j]? = x.cells[j]?:=fun j hj=>List.getElem?_append_left (by rw[cells_len];exact hj)
 refine⟨fun j hj=>?_,fun j hj=>?_⟩
 ·rw[List.getElem?_eq_getElem (by rw[cells_len];exact hj)]
  exact (own_cell h ((key j hj).trans (List.getElem?_eq_getElem (by rw[cells_len];exact hj)))).1
 ·exact (own_cell h ((key j hj).trans (List.getElem?_eq_getElem (by rw[cells_len];exact hj)))).2
theorem fif_other {w:World} {R b:Nat} (h:R≠b) (k wd ht dp sh fo ch nn gs gp gpo gm gmo:Int) (tx:ByteArray) (kids:Int):(fif w R k wd ht dp sh fo ch nn gs gp gpo gm gmo tx kids).heap[b]? = w.heap[b]?:=by
 unfold fif
 iterate 15 (refine (Below.heap_setCell _ _ _ _ (fun e=>h e.symm)).trans ?_)
 rfl
theorem ownN_of {base n:Nat} {w:World} {v:Value} {xs:List Nd} (h:w.ownsRow base 36 15 v n (flatN xs)) (hl:xs.length=n):OwnN w base v n:=⟨xs,hl,h⟩
theorem set_os (w:World) (p:Addr) (v:Value):(w.setCell p v).os=w.os:=rfl
theorem set_tape (w:World) (p:Addr) (v:Value):(w.setCell p v).tape=w.tape:=rfl
theorem set_output (w:World) (p:Addr) (v:Value):(w.setCell p v).output=w.output:=rfl
theorem fif_same (w:World) (R:Nat) (k wd ht dp sh fo ch nn gs gp gpo gm gmo:Int) (tx:ByteArray) (kids:Int):(fif w R k wd ht dp sh fo ch nn gs gp gpo gm gmo tx kids).heap.size=w.heap.size∧(fif w R k wd ht dp sh fo ch nn gs gp gpo gm gmo tx kids).os=w.os∧(fif w R k wd ht dp sh fo ch nn gs gp gpo gm gmo tx kids).tape=w.tape∧(fif w R k wd ht dp sh fo ch nn gs gp gpo gm gmo tx kids).output=w.output :=
 ⟨by simp only[World.size_setCell],by simp only[set_os],by simp only[set_tape],by simp only[set_output]⟩
structure DP (w wr wi:World) (ao:Option Addr) (len cap P:Nat) (v pv:Value) (n k:Nat):Prop where
 cur:Cur w wi ao len cap
 fr:Fram w wr wi
 own:OwnN wi wr.heap.size v n
 pk:∃a b c d e f,wi.heap[P]? = some (packO pv a b c d e f)
 pown:OwnN wi wr.heap.size pv k
 apart:∀g,v.ownBlock=some g→pv.ownBlock≠some g
 hP:wr.heap.size≤P
section
variable {w wr wi wj:World} {ao:Option Addr} {len cap P n k:Nat} {v pv:Value}
theorem DP.fram (h:DP w wr wi ao len cap P v pv n k) (hw:w.heap.size<wr.heap.size) (hf:Fram w wi wj) (hc:Cur w wj ao len cap):DP w wr wj ao len cap P v pv n k:=by
 refine⟨hc,h.fr.trans hf,h.own.fram hw hf,?_,h.pown.fram hw hf,h.apart,h.hP⟩
 obtain⟨a,b,c,d,e,f,hp⟩:=h.pk
 exact⟨a,b,c,d,e,f,(hf.2 P (Array.getElem?_eq_some_iff.1 hp).1 (by have:=h.hP;omega)).trans hp⟩
theorem DP.other (h:DP w wr wi ao len cap P v pv n k) (hw:w.heap.size<wr.heap.size) (ho:Other w wi wj) (hc:Cur w wj ao len cap):DP w wr wj ao len cap P v pv n k :=
 h.fram hw ⟨Other.size ho hc.lt,fun n _ hne=>ho n hne⟩ hc
theorem DP.drew (h:DP w wr wi ao len cap P v pv n k) (hw:w.heap.size<wr.heap.size):DP w wr wi.drew ao len cap P v pv n k:=h.fram hw (Fram.ofBel (Below.drew (Below.refl _ _))) (h.cur.bel (Below.drew (Below.refl _ _)))
theorem DP.cell (h:DP w wr wi ao len cap P v pv n k):wi.cell? ⟨P,0,none⟩=some pv:=by
 obtain⟨a,b,c,d,e,f,hp⟩:=h.pk
 exact cell_of_row _ _ 0 _ 30 _ hp
theorem DP.ltP (h:DP w wr wi ao len cap P v pv n k):P<wi.heap.size:=by
 obtain⟨a,b,c,d,e,f,hp⟩:=h.pk
 exact (Array.getElem?_eq_some_iff.1 hp).1
theorem DP.stored (h:DP w wr wi ao len cap P v pv n k) (hw:w.heap.size<wr.heap.size) {g:Nat} (hg:pv.ownBlock=some g) (hsz:wj.heap.size=wi.heap.size) (ho:∀b,g≠b→wj.heap[b]? = wi.heap[b]?) (hos:wj.os=wi.os∧wj.tape=wi.tape∧wj.output=wi.output) (hp:OwnN wj wr.heap.size pv k):DP w wr wj ao len cap P v pv n k:=by
 obtain⟨xs,hx,hox⟩:=h.pown
 obtain⟨hg1,hg2,cur0,hg3⟩:=own_lt hox hg
 have hfr:∀b,b<wr.heap.size→wj.heap[b]? = wi.heap[b]?:=fun b hb=>ho b (by omega)
 refine⟨?_,⟨by rw[hsz];exact h.fr.1,fun b hb hne=>(hfr b hb).trans (h.fr.2 b hb hne)⟩,?_,?_,hp,h.apart,h.hP⟩
 ·obtain⟨i,x,h1,h2,h3,h4⟩:=h.cur
  refine⟨i,x,h1,h2,(hfr _ hw).trans h3,⟨hos.1.trans h4.os,hos.2.1.trans h4.tape,hos.2.2.trans h4.output,by rw[hsz];exact h4.size,fun b hb=>(hfr b (by omega)).trans (h4.block b hb)⟩⟩
 ·obtain⟨ys,hy,hoy⟩:=h.own
  exact⟨ys,hy,own_keep hoy fun b hb=>ho b (fun e=>h.apart b hb (by rw[hg,e]))⟩
 ·obtain⟨a,b,c,d,e,f,hp⟩:=h.pk
  exact⟨a,b,c,d,e,f,(ho P (fun e=>own_apart hox hp (by decide) (by rw[hg,e]))).trans hp⟩
theorem DP.boxed {u:Value} {m:Nat} (h:DP w wr wi ao len cap P v pv n k) (hw:w.heap.size<wr.heap.size) (hu:OwnN wi wr.heap.size u m) (ha:∀g,v.ownBlock=some g→u.ownBlock≠some g) (W:World) (hfr:∀b',b'≠P→W.heap[b']? = wi.heap[b']?) (hsz:W.heap.size=wi.heap.size) (hW:∃a b c d e f,W.heap[P]? = some (packO u a b c d e f)) (hbl:∀B,B≤P→Below B w wi→Below B w W):DP w wr W ao len cap P v u n m:=by
 have hP:=h.hP
 obtain⟨a0,b0,c0,d0,e0,f0,hp⟩:=h.pk
 refine⟨?_,⟨by rw[hsz];exact h.fr.1,fun b hb hne=>(hfr b (by omega)).trans (h.fr.2 b hb hne)⟩,?_,hW,?_,ha,hP⟩
 ·obtain⟨i,x,h1,h2,h3,h4⟩:=h.cur
  exact⟨i,x,h1,h2,(hfr _ (by omega)).trans h3,hbl _ (by omega) h4⟩
 ·obtain⟨ys,hy,hoy⟩:=h.own
  exact⟨ys,hy,own_keep hoy fun b hb=>hfr b (fun e=>own_apart hoy hp (by decide) (by rw[hb,e]))⟩
 ·obtain⟨ys,hy,hoy⟩:=hu
  exact⟨ys,hy,own_keep hoy fun b hb=>hfr b (fun e=>own_apart hoy hp (by decide) (by rw[hb,e]))⟩
theorem DP.sev7 {u:Value} {m:Nat} (h:DP w wr wi ao len cap P v pv n k) (hw:w.heap.size<wr.heap.size) (hu:OwnN wi wr.heap.size u m) (ha:∀g,v.ownBlock=some g→u.ownBlock≠some g) (a b c d e f:Int):DP w wr (sev wi P u a b c d e f) ao len cap P v u n m:=by
 obtain⟨a0,b0,c0,d0,e0,f0,hp⟩:=h.pk
 have h1:∀b',b'≠P→(sev wi P u a b c d e f).heap[b']? = wi.heap[b']?:=fun b' hb=>sev_other hb
 have h2:(sev wi P u a b c d e f).heap.size=wi.heap.size:=by simp only[World.size_setCell]
 have h3:=sev_heap hp u a b c d e f
 have h4:∀B,B≤P→Below B w wi→Below B w (sev wi P u a b c d e f):=fun B hB hb=>sev_below hb hB _ _ _ _ _ _ _
 exact h.boxed hw hu ha _ h1 h2 ⟨_,_,_,_,_,_,h3⟩ h4
theorem DP.node0 {g kc:Nat} {z:Nd} {zs:List Nd} (h:DP w wr wi ao len cap P v (.slice (some ⟨g,0,none⟩) k kc) n k) (hw:w.heap.size<wr.heap.size) (ho:wi.ownsRow wr.heap.size 36 15 (.slice (some ⟨g,0,none⟩) k kc) k (flatN (z :: zs))) (hl:(z :: zs).length=k) (kk wd ht dp sh fo ch nn gs gp gpo gm gmo:Int) (tx:ByteArray) (kids:Int) :
 DP w wr (fif wi g kk wd ht dp sh fo ch nn gs gp gpo gm gmo tx kids) ao len cap P v (.slice (some ⟨g,0,none⟩) k kc) n k∧((fif wi g kk wd ht dp sh fo ch nn gs gp gpo gm gmo tx kids).cell? ⟨P,0,none⟩=some (.slice (some ⟨g,0,none⟩) k kc)∧(fif wi g kk wd ht dp sh fo ch nn gs gp gpo gm gmo tx kids).cell? ⟨g,2,none⟩=some (.int .i64 ht)∧(fif wi g kk wd ht dp sh fo ch nn gs gp gpo gm gmo tx kids).cell? ⟨g,14,none⟩=some (.int .i64 kids)):=by
 have h1:=own_node0 ho kk wd ht dp sh fo ch nn gs gp gpo gm gmo tx kids
 have h2:=fif_same wi g kk wd ht dp sh fo ch nn gs gp gpo gm gmo tx kids
 have h3:=fun b (hb:g≠b)=>fif_other (w:=wi) hb kk wd ht dp sh fo ch nn gs gp gpo gm gmo tx kids
 generalize fif wi g kk wd ht dp sh fo ch nn gs gp gpo gm gmo tx kids=W at h1 h2 h3 ⊢
 have h4:=h.stored hw (g:=g) rfl h2.1 h3 h2.2 ⟨_,(by simpa using hl),h1⟩
 have h5:=(own_cells0 h1).1
 exact⟨h4,h4.cell,h5 2 (by omega),h5 14 (by omega)⟩
end
end Go.Proofs.YtbbehmcekbnkiaaGreat

import Derived.Test.YtbbehmcekbnkiaaGreatProg
import Derived.WalkSpells
import Derived.BigQuiet
import Derived.WalkSmall
import Derived.Deep.Light
import Derived.Deep.RegionWith
namespace Go.Proofs.YtbbehmcekbnkiaaGreat.Shr
open Go.RowKit
set_option linter.unusedVariables false
set_option linter.unusedSimpArgs false
def fitsB (x:Int):Bool:=decide (-1073741823<=x/\x<=1073741823)
def orderB (x:Int):Bool:=decide (0<=x/\x<=3)
theorem fits_yes {x:Int}(h1 : -1073741823<=x)(h2:x<=1073741823):fitsB x=true:=by simp[fitsB,h1,h2]
theorem fits_no {x:Int}(h:¬(-1073741823<=x/\x<=1073741823)):fitsB x=false:=by simp[fitsB];omega
theorem order_no {x:Int}(h:¬(0<=x/\x<=3)):orderB x=false:=by simp[orderB];omega
theorem specFits_any (x:Int)(w:World):Calls Tryz.prog 89 #[.int .i64 x] w fun e w'=>e = .returned (.bool (fitsB x))/\w'=w:=by
 by_cases h1 : -1073741823<=x
 ·by_cases h2:x<=1073741823
  ·rw[fits_yes h1 h2]
   go_enter Tryz.func89,Tryz.ntmps89
   go_wp2
   go_ret
   exact⟨rfl,rfl⟩
  ·rw[fits_no (by omega)]
   go_enter Tryz.func89,Tryz.ntmps89
   go_wp2
   go_ret
   exact⟨rfl,rfl⟩
 ·rw[fits_no (by omega)]
  go_enter Tryz.func89,Tryz.ntmps89
  go_wp2
  go_ret
  exact⟨rfl,rfl⟩
theorem implFits_any (x:Int)(w:World):Calls Tryz.prog 44 #[.int .i64 x] w fun e w'=>e = .returned (.bool (fitsB x))/\w'=w:=by
 by_cases h1 : -1073741823<=x
 ·by_cases h2:x<=1073741823
  ·rw[fits_yes h1 h2]
   go_enter Tryz.func44,Tryz.ntmps44
   go_wp2
   go_ret
   exact⟨rfl,rfl⟩
  ·rw[fits_no (by omega)]
   go_enter Tryz.func44,Tryz.ntmps44
   go_wp2
   go_ret
   exact⟨rfl,rfl⟩
 ·rw[fits_no (by omega)]
  go_enter Tryz.func44,Tryz.ntmps44
  go_wp2
  go_ret
  exact⟨rfl,rfl⟩
theorem specOrder_any (x:Int)(w:World):Calls Tryz.prog 139 #[.int .i64 x] w fun e w'=>e = .returned (.bool (orderB x))/\w'=w:=by
 by_cases h1:0<=x
 ·by_cases h2:x<=3
  ·rw[show orderB x=true by simp[orderB,h1,h2]]
   go_enter Tryz.func139,Tryz.ntmps139
   go_wp2
   go_ret
   exact⟨rfl,rfl⟩
  ·rw[order_no (by omega)]
   go_enter Tryz.func139,Tryz.ntmps139
   go_wp2
   go_ret
   exact⟨rfl,rfl⟩
 ·rw[order_no (by omega)]
  go_enter Tryz.func139,Tryz.ntmps139
  go_wp2
  go_ret
  exact⟨rfl,rfl⟩
theorem implOrder_any (x:Int)(w:World):Calls Tryz.prog 94 #[.int .i64 x] w fun e w'=>e = .returned (.bool (orderB x))/\w'=w:=by
 by_cases h1:0<=x
 ·by_cases h2:x<=3
  ·rw[show orderB x=true by simp[orderB,h1,h2]]
   go_enter Tryz.func94,Tryz.ntmps94
   go_wp2
   go_ret
   exact⟨rfl,rfl⟩
  ·rw[order_no (by omega)]
   go_enter Tryz.func94,Tryz.ntmps94
   go_wp2
   go_ret
   exact⟨rfl,rfl⟩
 ·rw[order_no (by omega)]
  go_enter Tryz.func94,Tryz.ntmps94
  go_wp2
  go_ret
  exact⟨rfl,rfl⟩
def okB (s p po m mo:Int):Bool:=fitsB s&&fitsB p&&fitsB m&&orderB po&&orderB mo
abbrev glueV (s p po m mo:Int):Value:= .agg #[.int .i64 s,.int .i64 p,.int .i64 po,.int .i64 m,.int .i64 mo]
theorem specGlueOk_ex (s p po m mo:Int)(w:World):Calls Tryz.prog 122 #[glueV s p po m mo] w fun e w'=>e = .returned (.bool (okB s p po m mo))/\∃c:Array Value,w'=w.alloc (.cells c 34):=by
 unfold okB
 cases h1:fitsB s<;>cases h2:fitsB p<;>cases h3:fitsB m<;>cases h4:orderB po<;>cases h5:orderB mo
 all_goals
  go_enter Tryz.func122,Tryz.ntmps122
  go_wp2_with (first
   | (go_at_call 89;refine(specFits_any _ _).mono ?_;rintro e w' ⟨rfl,rfl⟩)
   | (go_at_call 139;refine(specOrder_any _ _).mono ?_;rintro e w' ⟨rfl,rfl⟩))
  go_ret
  exact⟨rfl,_,rfl⟩
theorem specGlueOk_any (s p po m mo:Int)(w:World):Calls Tryz.prog 122 #[glueV s p po m mo] w fun e w'=>e = .returned (.bool (okB s p po m mo))/\Below w.heap.size w w':=by
 refine(specGlueOk_ex s p po m mo w).mono ?_
 rintro e w' ⟨rfl,c,rfl⟩
 exact⟨rfl,(Below.refl _ _).alloc (Nat.le_refl _) _⟩
theorem implGlueOk_ex (s p po m mo:Int)(w:World):Calls Tryz.prog 72 #[glueV s p po m mo] w fun e w'=>e = .returned (.bool (okB s p po m mo))/\∃c:Array Value,w'=w.alloc (.cells c 34):=by
 unfold okB
 cases h1:fitsB s<;>cases h2:fitsB p<;>cases h3:fitsB m<;>cases h4:orderB po<;>cases h5:orderB mo
 all_goals
  go_enter Tryz.func72,Tryz.ntmps72
  go_wp2_with (first
   | (go_at_call 44;refine(implFits_any _ _).mono ?_;rintro e w' ⟨rfl,rfl⟩)
   | (go_at_call 94;refine(implOrder_any _ _).mono ?_;rintro e w' ⟨rfl,rfl⟩))
  go_ret
  exact⟨rfl,_,rfl⟩
theorem implGlueOk_any (s p po m mo:Int)(w:World):Calls Tryz.prog 72 #[glueV s p po m mo] w fun e w'=>e = .returned (.bool (okB s p po m mo))/\Below w.heap.size w w':=by
 refine(implGlueOk_ex s p po m mo w).mono ?_
 rintro e w' ⟨rfl,c,rfl⟩
 exact⟨rfl,(Below.refl _ _).alloc (Nat.le_refl _) _⟩
theorem bcell {W w1:World}(hb:Below W.heap.size W w1):(∀b o,b<W.heap.size->w1.cell? ⟨b,o,none⟩=W.cell? ⟨b,o,none⟩)/\(∀b o,b<W.heap.size->w1.frozen? ⟨b,o,none⟩=W.frozen? ⟨b,o,none⟩) :=
 ⟨fun b o h=>hb.cell (p:=⟨b,o,none⟩) h,fun b o h=>hb.frozen (p:=⟨b,o,none⟩) h⟩
def Row (w:World)(v:Value)(zs:List Int):Prop :=
 ∃ao n cap,v = .slice ao n cap/\zs.length=n/\(0<n->∃b off,ao=some ⟨b,off,none⟩/\b<w.heap.size/\∀i,i<n->w.cell? ⟨b,off+i,none⟩=some (.int .i64 (zs.getD i 0)))
theorem Row.below {w w':World}{v:Value}{zs:List Int}(h:Row w v zs)(hb:Below w.heap.size w w'):Row w' v zs:=by
 obtain⟨ao,n,cap,rfl,hn,hc⟩:=h
 refine⟨ao,n,cap,rfl,hn,fun hp=>?_⟩
 obtain⟨b,off,rfl,hlt,hcell⟩:=hc hp
 exact⟨b,off,rfl,Nat.lt_of_lt_of_le hlt hb.size,fun i hi=>(hb.cell (p:=⟨b,off+i,none⟩) hlt).trans (hcell i hi)⟩
theorem Row.own {w:World}{base g n cap:Nat}{zs:List Int}(h:w.ownsRow base 2 1 (.slice (some ⟨g,0,none⟩) n cap) n (zs.map (Value.int .i64)))(hn:zs.length=n)(hg:g<w.heap.size) :
 Row w (.slice (some ⟨g,0,none⟩) n cap) zs:=by
 refine⟨_,n,cap,rfl,hn,fun hp=>⟨g,0,rfl,hg,fun i hi=>?_⟩⟩
 have:=World.ownsRow.cellAt h i (by omega)
 simp only[Nat.zero_add]
 rw[this]
 simp[List.getElem?_map,List.getD,List.getElem?_eq_getElem (show i<zs.length by omega)]
theorem retB {a b:Bool}(h:a=b):Ending.returned (Value.bool a)=Ending.returned (Value.bool b):=by rw[h]
theorem ownsRow_block {w:World}{base e size g n cap:Nat}{xs:List Value}(h:w.ownsRow base e size (.slice (some ⟨g,0,none⟩) n cap) n xs):g<w.heap.size:=by
 rcases h.2 with ⟨h',_⟩ | ⟨g',cap',cur,h',_,hg,_⟩
 ·simp at h'
 ·simp only[Value.slice.injEq,Option.some.injEq,Addr.mk.injEq,and_true,true_and] at h'
  obtain⟨rfl,rfl⟩:=h'
  by_cases hb:g<w.heap.size
  ·exact hb
  ·simp[Array.getElem?_eq_none (show w.heap.size<=g by omega)] at hg
theorem getD_ext {xs ys:List Int}(hl:xs.length=ys.length)(h:∀j,j<xs.length->xs.getD j 0=ys.getD j 0):xs=ys:=by
 refine List.ext_getElem hl fun i h1 h2=>?_
 have:=h i h1
 simpa [List.getD,List.getElem?_eq_getElem h1,List.getElem?_eq_getElem h2] using this
structure Gl where
 s:Int
 p:Int
 po:Int
 m:Int
 mo:Int
abbrev Gl.v (g:Gl):Value:=glueV g.s g.p g.po g.m g.mo
def Gl.none:Gl:=⟨0,0,0,0,0⟩
def GRow (w:World)(v:Value)(gs:List Gl):Prop :=
 ∃ao n cap,v = .slice ao n cap/\gs.length=n/\(0<n->∃b off,ao=some ⟨b,off,none⟩/\b<w.heap.size/\∀i,i<n->w.cell? ⟨b,off+i*5,none⟩=some (.int .i64 (gs.getD i Gl.none).s)/\w.cell? ⟨b,off+i*5+1,none⟩=some (.int .i64 (gs.getD i Gl.none).p)/\w.cell? ⟨b,off+i*5+2,none⟩=some (.int .i64 (gs.getD i Gl.none).po)/\w.cell? ⟨b,off+i*5+3,none⟩=some (.int .i64 (gs.getD i Gl.none).m)/\w.cell? ⟨b,off+i*5+4,none⟩=some (.int .i64 (gs.getD i Gl.none).mo))
theorem GRow.below {w w':World}{v:Value}{gs:List Gl}(h:GRow w v gs)(hb:Below w.heap.size w w'):GRow w' v gs:=by
 obtain⟨ao,n,cap,rfl,hn,hc⟩:=h
 refine⟨ao,n,cap,rfl,hn,fun hp=>?_⟩
 obtain⟨b,off,rfl,hlt,hcell⟩:=hc hp
 refine⟨b,off,rfl,Nat.lt_of_lt_of_le hlt hb.size,fun i hi=>?_⟩
 obtain⟨h0,h1,h2,h3,h4⟩:=hcell i hi
 exact⟨(hb.cell (p:=⟨b,off+i*5,none⟩) hlt).trans h0,(hb.cell (p:=⟨b,off+i*5+1,none⟩) hlt).trans h1,(hb.cell (p:=⟨b,off+i*5+2,none⟩) hlt).trans h2,(hb.cell (p:=⟨b,off+i*5+3,none⟩) hlt).trans h3,(hb.cell (p:=⟨b,off+i*5+4,none⟩) hlt).trans h4⟩
theorem Tryz.info34:(Tryz.prog.info? 34).map (fun i=>(i.zero,i.size,i.bytes))=some (some (.agg #[.int .i64 0,.int .i64 0,.int .i64 0,.int .i64 0,.int .i64 0]),5,40):=by kernel_rfl
def GPart (w:World)(g n k:Nat)(gs:List Gl):Prop :=
 ∃cur:Array Value,w.heap[g]?=some (.cells cur 34 (0,0))/\cur.size=n*5/\∀i,i<k->cur[i*5]?=some (.int .i64 (gs.getD i Gl.none).s)/\cur[i*5+1]?=some (.int .i64 (gs.getD i Gl.none).p)/\cur[i*5+2]?=some (.int .i64 (gs.getD i Gl.none).po)/\cur[i*5+3]?=some (.int .i64 (gs.getD i Gl.none).m)/\cur[i*5+4]?=some (.int .i64 (gs.getD i Gl.none).mo)
set_option maxHeartbeats 2000000 in
def Only (g:Nat)(w w':World):Prop:=w'.heap.size=w.heap.size/\(∀b,b≠g->w'.heap[b]?=w.heap[b]?)/\Below g w w'
abbrev Gl.ok (g:Gl):Bool:=okB g.s g.p g.po g.m g.mo
def glsOk (gs:List Gl):Bool:=decide (gs.length<=10000)&&gs.all (fun g=>g.ok)
theorem glsOk_long {gs:List Gl}(h:10000<gs.length):glsOk gs=false:=by simp[glsOk];omega
theorem glsOk_no {gs:List Gl}{k:Nat}(hk:k<gs.length)(h:(gs.getD k Gl.none).ok=false):glsOk gs=false:=by
 cases hq:glsOk gs with
 | false=>rfl
 | true =>
  simp only[glsOk,Bool.and_eq_true,List.all_eq_true,decide_eq_true_eq] at hq
  have hm:=hq.2 _ (List.getElem_mem (l:=gs) (n:=k) hk)
  simp only[List.getD,List.getElem?_eq_getElem hk,Option.getD_some] at h
  rw[h] at hm
  cases hm
theorem glsOk_yes {gs:List Gl}(hl:gs.length<=10000)(h:∀k,k<gs.length->(gs.getD k Gl.none).ok=true):glsOk gs=true:=by
 simp only[glsOk,Bool.and_eq_true,List.all_eq_true,decide_eq_true_eq]
 refine⟨hl,fun t hm=>?_⟩
 obtain⟨i,hi,rfl⟩:=List.getElem_of_mem hm
 have:=h i hi
 simpa [List.getD,List.getElem?_eq_getElem hi] using this
theorem glsOk_each {gs:List Gl}(h:glsOk gs=true):gs.length<=10000/\∀k,k<gs.length->(gs.getD k Gl.none).ok=true:=by
 simp only[glsOk,Bool.and_eq_true,List.all_eq_true,decide_eq_true_eq] at h
 refine⟨h.1,fun k hk=>?_⟩
 have:=h.2 _ (List.getElem_mem (l:=gs) (n:=k) hk)
 simpa [List.getD,List.getElem?_eq_getElem hk] using this
theorem ok_bounds {g:Gl}(h:g.ok=true):(-1073741823<=g.s/\g.s<=1073741823)/\(-1073741823<=g.p/\g.p<=1073741823)/\(-1073741823<=g.m/\g.m<=1073741823)/\(0<=g.po/\g.po<=3)/\(0<=g.mo/\g.mo<=3):=by
 simp only[okB,fitsB,orderB,Bool.and_eq_true,decide_eq_true_eq] at h
 obtain⟨⟨⟨⟨h1,h2⟩,h3⟩,h4⟩,h5⟩:=h
 exact⟨h1,h2,h3,h4,h5⟩
def tot (f o:Gl->Int)(gs:List Gl):List Int:=gs.foldl (fun ys g=>ys.set (o g).toNat (ys.getD (o g).toNat 0+f g)) [0,0,0,0]
theorem tot_snoc (f o:Gl->Int)(gs:List Gl)(g:Gl):tot f o (gs++[g])=(tot f o gs).set (o g).toNat ((tot f o gs).getD (o g).toNat 0+f g):=by simp[tot,List.foldl_append]
theorem take_snoc {gs:List Gl}{k:Nat}(h:k<gs.length):gs.take (k+1)=gs.take k++[gs.getD k Gl.none]:=by
 rw[List.take_succ_eq_append_getElem h]
 simp[List.getD,List.getElem?_eq_getElem h]
theorem tot_length_aux (f o:Gl->Int):∀(gs:List Gl) (ys:List Int),(gs.foldl (fun ys g=>ys.set (o g).toNat (ys.getD (o g).toNat 0+f g)) ys).length=ys.length
 | [],ys=>rfl
 | g :: gs,ys=>by rw[List.foldl_cons,tot_length_aux f o gs];simp
theorem tot_length (f o:Gl->Int)(gs:List Gl):(tot f o gs).length=4:=tot_length_aux f o gs _
theorem tot_bound (f o:Gl->Int)(gs:List Gl)(h:∀k,k<gs.length-> -1073741823<=f (gs.getD k Gl.none)/\f (gs.getD k Gl.none)<=1073741823) :
 ∀k,k<=gs.length->∀j,-(1073741823*(k:Int))<=(tot f o (gs.take k)).getD j 0/\(tot f o (gs.take k)).getD j 0<=1073741823*(k:Int)
 | 0,_,j=>by
  rw[List.take_zero]
  show -(1073741823*((0:Nat):Int))<=([0,0,0,0]:List Int).getD j 0/\([0,0,0,0]:List Int).getD j 0<=1073741823*((0:Nat):Int)
  have:([0,0,0,0]:List Int).getD j 0=0:=by
   match j with
   | 0=>rfl
   | 1=>rfl
   | 2=>rfl
   | 3=>rfl
   | j+4=>rfl
  rw[this]
  simp
 | k+1,hk,j=>by
  have ih:=tot_bound f o gs h k (by omega)
  have hb:=h k (by omega)
  rw[take_snoc (by omega),tot_snoc]
  generalize gs.getD k Gl.none=g at hb
  generalize tot f o (gs.take k)=ys at ih
  by_cases hj:j=(o g).toNat
  ·subst hj
   by_cases hl:(o g).toNat<ys.length
   ·have e:(ys.set (o g).toNat (ys.getD (o g).toNat 0+f g)).getD (o g).toNat 0=ys.getD (o g).toNat 0+f g:=by simp[List.getD,hl]
    rw[e]
    have:=ih (o g).toNat
    push_cast
    omega
   ·have e:(ys.set (o g).toNat (ys.getD (o g).toNat 0+f g)).getD (o g).toNat 0=0:=by simp[List.getD,List.getElem?_set,hl]
    rw[e]
    push_cast
    omega
  ·have e:(ys.set (o g).toNat (ys.getD (o g).toNat 0+f g)).getD j 0=ys.getD j 0:=by simp[List.getD,List.getElem?_set,Ne.symm hj]
   rw[e]
   have:=ih j
   push_cast
   omega
def siz (gs:List Gl):Int:=(gs.map (fun g=>g.s)).sum
theorem siz_snoc (gs:List Gl)(g:Gl):siz (gs++[g])=siz gs+g.s:=by simp[siz]
theorem siz_bound (gs:List Gl)(h:∀k,k<gs.length-> -1073741823<=(gs.getD k Gl.none).s/\(gs.getD k Gl.none).s<=1073741823) :
 ∀k,k<=gs.length-> -(1073741823*(k:Int))<=siz (gs.take k)/\siz (gs.take k)<=1073741823*(k:Int)
 | 0,_=>by simp[siz]
 | k+1,hk=>by
  have ih:=siz_bound gs h k (by omega)
  have hb:=h k (by omega)
  rw[take_snoc (by omega),siz_snoc]
  push_cast
  omega
end Go.Proofs.YtbbehmcekbnkiaaGreat.Shr

import Derived.Test.YtbbehmcekbnkiaaGreatSpu
import Derived.Test.YtbbehmcekbnkiaaGreatThb
import Derived.Test.YtbbehmcekbnkiaaGreatCln
import Derived.Test.YtbbehmcekbnkiaaGreatDlp
import Derived.Test.YtbbehmcekbnkiaaGreatLok
namespace Go.Proofs.YtbbehmcekbnkiaaGreat
open Go.RowKit
set_option linter.unusedVariables false
set_option linter.unusedSimpArgs false
def kn (x:Int):Nd:=⟨2,x,0,0,0,0,0,0,0,0,0,0,0,⟨#[]⟩,0⟩
theorem one_parts {ns:List Nd} (h:oneB ns=true):listB ns=true∧0<ns.length∧(ns.getD 0 Nd.none).kids=(ns.length:Int) - 1∧((ns.getD 0 Nd.none).k=6∨(ns.getD 0 Nd.none).k=7):=by
 unfold oneB boxB at h
 simp only[Bool.and_eq_true,decide_eq_true_eq,Bool.or_eq_true,beq_iff_eq] at h
 exact⟨h.1.1.1,h.1.1.2,h.1.2,h.2⟩
theorem one_packed {xs:List Nd} {mode size:Int} (hA:hpOk xs mode size=true):oneB (hpN xs mode size)=true:=by
 obtain⟨hcan,hlist,hgl,hto,hw,hh,hd,hfit⟩:=hpOk_parts hA
 have hasc:(gluesAt xs (begins xs)).Pairwise (· < ·):=List.Pairwise.filter _ (starts_asc xs _ _).2
 have hin:∀p∈gluesAt xs (begins xs),p<xs.length∧(xs.getD p Nd.none).k=3:=fun p hp=>⟨starts_lt xs _ _ p (List.mem_filter.1 hp).1,by simpa using (List.mem_filter.1 hp).2⟩
 have hgood:xs.all goodB=true:=list_good hlist
 have hL:listB (hpN xs mode size)=true:=by
  unfold hpN
  rw[box_list (.inl rfl) _ _ _ (hpL_len xs mode size) hasc hin hgood,hcan,hto,hh,hd,hfit]
  rfl
 unfold oneB
 rw[hL]
 simp only[hpN,Bool.true_and,Bool.and_eq_true,decide_eq_true_eq,List.length_cons,setL_len,List.getD_cons_zero]
 refine⟨⟨by omega,?_⟩,?_⟩
 ·simp only[boxN];omega
 ·rfl
theorem kern_begins {ns:List Nd} (x:Int) (h1:oneB ns=true):begins (kn x :: ns)=[0,1]:=by
 obtain⟨hl,h0,hk,hb⟩:=one_parts h1
 unfold begins
 have e1:(kn x :: ns).length=ns.length+1:=rfl
 rw[e1,show ns.length+1+1=(ns.length - 1)+1+1+1 by omega,starts,if_pos (by rw[e1];omega)]
 have e2:(kn x :: ns).getD 0 Nd.none=kn x:=rfl
 rw[e2,show (0+1+(kn x).kids.toNat)=1 from rfl,starts,if_pos (by rw[e1];omega)]
 have e3:(kn x :: ns).getD 1 Nd.none=ns.getD 0 Nd.none:=by simp[List.getD]
 rw[e3,hk,starts,if_neg (by rw[e1];omega)]
theorem kern_glues {ns:List Nd} (x:Int) (h1:oneB ns=true):gluesAt (kn x :: ns) (begins (kn x :: ns))=[]:=by
 obtain⟨hl,h0,hk,hb⟩:=one_parts h1
 have e3:(kn x :: ns).getD 1 Nd.none=ns.getD 0 Nd.none:=by simp[List.getD]
 have e2:(kn x :: ns).getD 0 Nd.none=kn x:=rfl
 rw[kern_begins x h1]
 unfold gluesAt
 have f2:((kn x :: ns).getD 0 Nd.none).k=2:=rfl
 have f3:((kn x :: ns).getD 1 Nd.none).k≠3:=by rw[e3];omega
 rw[List.filter_cons_of_neg (by rw[f2];simp),List.filter_cons_of_neg (by simpa using f3)]
 rfl
theorem kern_spots {ns:List Nd} {x y:Int} (h1:oneB ns=true) (hx:fitsB x=true) (hy:fitsB y=true) (hs:(ns.getD 0 Nd.none).sh=0):hpR (kn x :: ns) 0 0=[]∨(hpR (kn x :: ns) 0 0≠[]∧spotsL (hpR (kn x :: ns) 0 0) 0 y=spotsL ns x y):=by
 obtain⟨hl,h0,hk,hb⟩:=one_parts h1
 by_cases hA:hpOk (kn x :: ns) 0 0=true
 ·right
  have e0:hpR (kn x :: ns) 0 0=hpN (kn x :: ns) 0 0:=by unfold hpR;rw[if_pos hA]
  have h2:=one_packed hA
  have e1:hpN (kn x :: ns) 0 0=boxN 6 (hpTo (kn x :: ns) 0 0) (hpS (kn x :: ns)).h (hpS (kn x :: ns)).d (kn x :: ns).length :: kn x :: ns:=by
   unfold hpN
   rw[kern_glues x h1]
   simp[setL]
  rw[e0]
  rw[e1] at h2 ⊢
  exact⟨by simp,spots_kern h1 hx hy hs hb rfl ⟨rfl,rfl⟩ h2 (allOk hl).kids h0 hk⟩
 ·left
  unfold hpR
  rw[if_neg hA]
theorem SRow.shape {α:Type} {sz:Nat} {R:Nat→World→List Value→α→Prop} {d:α} {lo:Nat} {w:World} {v:Value} {xs:List α} (h:SRow sz R d lo w v xs):∃ao cap,v = .slice ao xs.length cap:=by
 obtain⟨ao,n,cap,rfl,rfl,_⟩:=h
 exact⟨ao,cap,rfl⟩
structure Cl where
 sp:Int
 al:Int
 ns:List Nd
structure Rw where
 cs:List Cl
 ru:Int
structure Tb where
 co:Int
 gs:Int
 gp:Int
 gpo:Int
 gm:Int
 gmo:Int
 rs:List Rw
def Cl.none:Cl:=⟨0,0,[]⟩
def Rw.none:Rw:=⟨[],0⟩
theorem NN.abv {lo:Nat} {w w':World} {v:Value} {xs:List Nd} (h:NN lo w v xs) (ha:Abv lo w w'):NN lo w' v xs:=by
 rcases h with h | ⟨b,off,cap,rfl,h1,h2,h3,h4⟩
 ·exact .inl h
 ·refine .inr ⟨b,off,cap,rfl,h1,h2,fun hp=>Nat.lt_of_lt_of_le (h3 hp) ha.size,fun j u hj=>?_⟩
  have hp:0<xs.length:=by
   cases xs with
   | nil=>simp[flatN] at hj
   | cons a tl=>simp
  exact (World.cell?_of_block (w:=w) (a:=⟨b,off+j,none⟩) (ha.block b h2 (h3 hp))).trans (h4 j u hj)
theorem NN.mono {lo lo':Nat} {w:World} {v:Value} {xs:List Nd} (h:NN lo w v xs) (hl:lo'≤lo):NN lo' w v xs:=by
 rcases h with h | ⟨b,off,cap,rfl,h1,h2,h3,h4⟩
 ·exact .inl h
 ·exact .inr ⟨b,off,cap,rfl,h1,Nat.le_trans hl h2,h3,h4⟩
theorem results_cell_tmp {fn:Func} {p q:Tmp} {ty:TypeId} (h:fn.results = #[.cell p ty, .tmp q]) (tmps:Array Value) (w:World) (g:Nat) (x y:Value) {P:Program}
 (hp:tmps.getD p undef = .pointer (some ⟨g,0,none⟩)) (hq:tmps.getD q undef=y) (hld:(loadVar ty ⟨g,0,none⟩).run P w = .ok x w) :
 (results fn tmps).run P w = .ok (.tuple #[x,y]) w:=by
 have hp':tmps[p]?.getD undef = .pointer (some ⟨g,0,none⟩):=by simpa using hp
 have hq':tmps[q]?.getD undef=y:=by simpa using hq
 simp[results,h,hp',hq',asAddr,hld,Result.andThen]
end Go.Proofs.YtbbehmcekbnkiaaGreat

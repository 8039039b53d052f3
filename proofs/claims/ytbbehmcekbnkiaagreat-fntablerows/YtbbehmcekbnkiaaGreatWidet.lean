import Derived.Test.YtbbehmcekbnkiaaGreatBigAt
import Derived.WalkLawsBesides
namespace Go.Proofs.YtbbehmcekbnkiaaGreat.Shr
set_option maxHeartbeats 2000000
open Go.RowKit
set_option linter.unusedVariables false
set_option linter.unusedSimpArgs false
theorem sum_next {xs ys zs:List Nat}{k c da db:Nat}(hx:BigN.Digits xs)(hy:BigN.Digits ys)(tx:BigN.Trim xs)(ty:BigN.Trim ys)(hl:zs.length=k)(hd:BigN.Digits zs)(hc:c<=1)
 (hv:BigN.val zs+16777216 ^ k*c=BigN.val (xs.take k)+BigN.val (ys.take k)) (ha:da=xs.getD k 0) (hb:db=ys.getD k 0) (hgo:k<xs.length\/k<ys.length\/0<c) :
 (zs++[(c+da+db) % 16777216]).length=k+1/\BigN.Digits (zs++[(c+da+db) % 16777216])/\(c+da+db) / 16777216<=1/\
  BigN.val (zs++[(c+da+db) % 16777216])+16777216 ^ (k+1)*((c+da+db) / 16777216)=BigN.val (xs.take (k+1))+BigN.val (ys.take (k+1))/\
  (0<k+1->16777216 ^ (k+1-1)<=BigN.val xs+BigN.val ys)/\da<16777216/\db<16777216:=by
 have h1:da<16777216:=by rw[ha];exact hx.getD k
 have h2:db<16777216:=by rw[hb];exact hy.getD k
 refine⟨by simp[hl],hd.snoc (Nat.mod_lt _ (by decide)),by omega,?_,fun _=>?_,h1,h2⟩
 ·have:=BigN.sum_step zs c da db (BigN.val (xs.take k)) (BigN.val (ys.take k)) (by rw[hl];exact hv)
  rw[hl] at this
  rw[this,BigN.val_take_succ' xs,BigN.val_take_succ' ys,ha,hb]
 ·rw[Nat.add_sub_cancel]
  rcases hgo with h|h|h
  ·have:=BigN.val_ge xs tx (by intro e;simp[e] at h)
   have h3:16777216 ^ k<=16777216 ^ (xs.length-1):=Nat.pow_le_pow_right (by decide) (by omega)
   omega
  ·have:=BigN.val_ge ys ty (by intro e;simp[e] at h)
   have h3:16777216 ^ k<=16777216 ^ (ys.length-1):=Nat.pow_le_pow_right (by decide) (by omega)
   omega
  ·have h3:16777216 ^ k*1<=16777216 ^ k*c:=Nat.mul_le_mul_left _ h
   have h4:=BigN.val_take_le xs k
   have h5:=BigN.val_take_le ys k
   omega
def SumAt (xs ys:List Nat)(w wr:World)(s5 s6 s7:Value)(k c:Nat)(zs:List Nat):Prop :=
 s7 = .int .i64 (k:Int)/\s6 = .int .i64 (c:Int)/\zs.length=k/\BigN.Digits zs/\c<=1/\BigN.val zs+16777216 ^ k*c=BigN.val (xs.take k)+BigN.val (ys.take k)/\
  (0<k->16777216 ^ (k-1)<=BigN.val xs+BigN.val ys)/\(k<=xs.length\/k<=ys.length\/(c=0/\(k<=xs.length+1\/k<=ys.length+1)))/\
  wr.ownsRow w.heap.size 2 1 s5 k (zs.map numC)/\s5≠ .slice none 0 0/\Below w.heap.size w wr
theorem sum_end {xs ys zs:List Nat}{k:Nat}(hl:zs.length=k)(hd:BigN.Digits zs)(hv:BigN.val zs+16777216 ^ k*0=BigN.val (xs.take k)+BigN.val (ys.take k))
 (hp:0<k->16777216 ^ (k-1)<=BigN.val xs+BigN.val ys) (h1:¬k<xs.length) (h2:¬k<ys.length):BigN.Trim zs/\BigN.val zs=BigN.val xs+BigN.val ys:=by
 rw[BigN.take_all xs k (by omega),BigN.take_all ys k (by omega)] at hv
 have e:BigN.val zs=BigN.val xs+BigN.val ys:=by omega
 refine⟨BigN.trim_of_val zs hd fun hne=>?_,e⟩
 rw[hl,e]
 exact hp (by rw[<-hl];exact List.length_pos_iff.2 hne)
theorem numC_at {w w':World}{g cap n:Nat}{xs:List Nat}(h:∀i,i<xs.length->w.cell? ⟨g,i,none⟩=some (numC (xs.getD i 0)))(hg:g<w.heap.size)(hb:Below w.heap.size w w')(k:Nat) :
 ∃d,d=xs.getD k 0/\(k<xs.length->w'.cell? ⟨g,k,none⟩=some (.int .i64 (d:Int))) :=
 ⟨_,rfl,fun hk=>(hb.cell (p:=⟨g,k,none⟩) hg).trans (h k hk)⟩
theorem sum_num (va vb:Value)(xs ys:List Nat)(w:World)(na:IsNum w va xs)(nb:IsNum w vb ys)(hx:BigN.Digits xs)(hy:BigN.Digits ys)(tx:BigN.Trim xs)(ty:BigN.Trim ys)(lx:xs.length<=1000)(ly:ys.length<=1000) :
 Calls Tryz.prog 125 #[va,vb] w fun e w'=>∃v,e = .returned v/\IsBig w' v (BigN.val xs+BigN.val ys)/\Below w.heap.size w w':=by
 obtain⟨i0,hi,hz0,hz1,hz2⟩:=info_parts info2
 obtain⟨ga,ca,rfl,la,ma,wa,cella⟩:=na
 obtain⟨gb,cb,rfl,lb,mb,wb,cellb⟩:=nb
 have hat:SumAt xs ys w (w.alloc (.cells #[] 2)) (.slice (some ⟨w.heap.size,0,none⟩) 0 0) (.int .i64 0) (.int .i64 0) 0 0 [] :=
  ⟨rfl,rfl,rfl,BigN.Digits.nil,by omega,by simp[BigN.val],by simp,by omega,World.ownsRow_lit w #[] 0 (Nat.le_refl _) (by decide) rfl,by simp,(Below.refl _ _).alloc (Nat.le_refl _) _⟩
 have HAT:=hideB hat
 have CA:=hideB cella
 have CB:=hideB cellb
 have HX:=hideB hx
 have HY:=hideB hy
 have TX:=hideB tx
 have TY:=hideB ty
 clear hat cella cellb hx hy tx ty ma mb
 go_enter Tryz.func125,Tryz.ntmps125
 go_wp2_with fail
 go_loopw [5,6,7] (fun s5 s6 s7 wr=>∃k c zs,SumAt xs ys w wr s5 s6 s7 k c zs) (fun _ _ s7 _=>xs.length+ys.length+2-(intOf s7).toNat)
 case atStart=>exact⟨0,0,[],HAT.out⟩
 case round =>
  obtain⟨k,c,zs,rfl,rfl,hl,hd,hc,hv,hp,hk,hown,hnil,hbel⟩:=hrel
  obtain⟨da,ha,hca⟩:=numC_at (cap:=ca) (n:=0) CA.out wa hbel k
  obtain⟨db,hb,hcb⟩:=numC_at (cap:=cb) (n:=0) CB.out wb hbel k
  have HN:=hideB (fun hgo=>sum_next HX.out HY.out TX.out TY.out hl hd hc hv ha hb hgo)
  have da1:da<16777216:=by rw[ha];exact HX.out.getD k
  have db1:db<16777216:=by rw[hb];exact HY.out.getD k
  have HA:=hideB ha
  have HB:=hideB hb
  have HOWN:=hideB hown
  have HBEL:=hideB hbel
  have HNIL:=hideB hnil
  have HP:=hideB hp
  have HL:=hideB hl
  have HD:=hideB hd
  have HV:=hideB hv
  have hz:=HBEL.out.size
  clear hown hbel hnil hp hl hd hv ha hb
  have step:∀o w1 v',(k<xs.length\/k<ys.length\/0<c)->(k+1<=xs.length\/k+1<=ys.length\/((c+da+db) / 16777216=0/\(k+1<=xs.length+1\/k+1<=ys.length+1)))->w1.ownsRow w.heap.size 2 1 v' (k+1) (zs.map numC++[numC ((c+da+db) % 16777216)])->World.grownBy (wr.alloc o) w1 (Value.ownBlock u5)->v'≠ .slice none 0 0->
   SumAt xs ys w w1 v' (.int .i64 (((c+da+db) / 16777216:Nat):Int)) (.int .i64 ((k+1:Nat):Int)) (k+1) ((c+da+db) / 16777216) (zs++[(c+da+db) % 16777216]):=by
   intro o w1 v' hgo hbd h1 h2 h3
   obtain⟨n1,n2,n3,n4,n5,_,_⟩:=HN.out hgo
   exact⟨rfl,rfl,n1,n2,n3,n4,n5,hbd,by simpa using h1,h3,(HBEL.out.alloc hz _).grown h2 (by simp;omega) (fun r hr=>(HOWN.out.lt r hr).1)⟩
  have STEP:=hideB step
  clear step
  by_cases hax:k<xs.length
  ·have hca':=hca hax
   by_cases hby:k<ys.length
   ·have hcb':=hcb hby
    clear hca hcb
    go_wp2_with (at_builtin;refine wpList_append_own _ rfl _ _ 54 rfl w.heap.size 2 i0 (.int .i64 0) 1 8 Tryz.underlying54 hi hz0 hz1 hz2 rfl (by decide) _ _ _ rfl (HOWN.out.alloc _) ⟨wr.heap.size,0,none⟩ 1 1 [numC ((c+da+db) % 16777216)] rfl rfl ?c1A ?c2A ?c3A ?c4A ?c5A ?_)
    case c1A =>
     intro j u hj
     match j,hj with
     | 0,hj=>simp at hj;subst hj;simp[Addr.add]
    case c2A=>intro u hu;simp at hu;subst hu;rfl
    case c3A=>unfold maxLen;omega
    case c4A=>omega
    case c5A=>simp;omega
    intro v' w1 hown' hgrow hnil'
    have HR:=hideB (STEP.out _ w1 v' (by omega) (by omega) hown' hgrow hnil')
    clear hown' hgrow hnil' HOWN HBEL HNIL STEP HN
    go_wp2
    go_roundw
    case rel=>exact⟨k+1,_,_,by simpa using HR.out⟩
    case measure=>simp[intOf];omega
   ·obtain rfl:db=0:=by rw[HB.out];exact BigN.getD_ge' _ _ (by omega)
    clear hca hcb
    go_wp2_with (at_builtin;refine wpList_append_own _ rfl _ _ 54 rfl w.heap.size 2 i0 (.int .i64 0) 1 8 Tryz.underlying54 hi hz0 hz1 hz2 rfl (by decide) _ _ _ rfl (HOWN.out.alloc _) ⟨wr.heap.size,0,none⟩ 1 1 [numC ((c+da+0) % 16777216)] rfl rfl ?c1B ?c2B ?c3B ?c4B ?c5B ?_)
    case c1B =>
     intro j u hj
     match j,hj with
     | 0,hj=>simp at hj;subst hj;simp[Addr.add]
    case c2B=>intro u hu;simp at hu;subst hu;rfl
    case c3B=>unfold maxLen;omega
    case c4B=>omega
    case c5B=>simp;omega
    intro v' w1 hown' hgrow hnil'
    have HR:=hideB (STEP.out _ w1 v' (by omega) (by omega) hown' hgrow hnil')
    clear hown' hgrow hnil' HOWN HBEL HNIL STEP HN
    go_wp2
    go_roundw
    case rel=>exact⟨k+1,_,_,by simpa using HR.out⟩
    case measure=>simp[intOf];omega
  ·obtain rfl:da=0:=by rw[HA.out];exact BigN.getD_ge' _ _ (by omega)
   by_cases hby:k<ys.length
   ·have hcb':=hcb hby
    clear hca hcb
    go_wp2_with (at_builtin;refine wpList_append_own _ rfl _ _ 54 rfl w.heap.size 2 i0 (.int .i64 0) 1 8 Tryz.underlying54 hi hz0 hz1 hz2 rfl (by decide) _ _ _ rfl (HOWN.out.alloc _) ⟨wr.heap.size,0,none⟩ 1 1 [numC ((c+0+db) % 16777216)] rfl rfl ?c1C ?c2C ?c3C ?c4C ?c5C ?_)
    case c1C =>
     intro j u hj
     match j,hj with
     | 0,hj=>simp at hj;subst hj;simp[Addr.add]
    case c2C=>intro u hu;simp at hu;subst hu;rfl
    case c3C=>unfold maxLen;omega
    case c4C=>omega
    case c5C=>simp;omega
    intro v' w1 hown' hgrow hnil'
    have HR:=hideB (STEP.out _ w1 v' (by omega) (by omega) hown' hgrow hnil')
    clear hown' hgrow hnil' HOWN HBEL HNIL STEP HN
    go_wp2
    go_roundw
    case rel=>exact⟨k+1,_,_,by simpa using HR.out⟩
    case measure=>simp[intOf];omega
   ·obtain rfl:db=0:=by rw[HB.out];exact BigN.getD_ge' _ _ (by omega)
    clear hca hcb
    by_cases hcc:0<c
    ·obtain rfl:c=1:=by omega
     go_wp2_with (at_builtin;refine wpList_append_own _ rfl _ _ 54 rfl w.heap.size 2 i0 (.int .i64 0) 1 8 Tryz.underlying54 hi hz0 hz1 hz2 rfl (by decide) _ _ _ rfl (HOWN.out.alloc _) ⟨wr.heap.size,0,none⟩ 1 1 [numC ((1+0+0) % 16777216)] rfl rfl ?c1D ?c2D ?c3D ?c4D ?c5D ?_)
     case c1D =>
      intro j u hj
      match j,hj with
      | 0,hj=>simp at hj;subst hj;simp[Addr.add]
     case c2D=>first|rfl|(intro u hu;simp at hu;subst hu;rfl)
     case c3D=>unfold maxLen;omega
     case c4D=>omega
     case c5D=>first|omega|(simp;omega)
     intro v' w1 hown' hgrow hnil'
     have HR:=hideB (STEP.out _ w1 v' (by omega) (Or.inr (Or.inr ⟨by first|trivial|omega,by omega⟩)) hown' hgrow hnil')
     clear hown' hgrow hnil' HOWN HBEL HNIL STEP HN
     go_wp2
     go_roundw
     case rel=>exact⟨k+1,_,_,by simpa using HR.out⟩
     case measure=>simp[intOf];omega
    ·obtain rfl:c=0:=by omega
     have hend:=sum_end HL.out HD.out HV.out HP.out hax hby
     have hfin:IsBig wr _ (BigN.val xs+BigN.val ys):=⟨zs,isNum_of_own HOWN.out HNIL.out HL.out.symm,HD.out,hend.1,hend.2⟩
     have HF:=hideB (And.intro hfin HBEL.out)
     clear hend hfin HOWN HBEL HNIL STEP HN
     go_wp2
     go_ret
     exact⟨_,rfl,HF.out⟩
theorem take_pred {xs:List Nat}{n:Nat}(h0:0<n)(hn:n<=xs.length)(hz:xs.getD (n-1) 0=0):BigN.val (xs.take (n-1))=BigN.val (xs.take n):=by
 have:=BigN.val_take_succ xs (n-1) (by omega)
 rw[show n-1+1=n by omega,hz] at this
 omega
theorem trim_any (g cap:Nat)(xs:List Nat)(w:World)(hl:xs.length<=cap)(hm:cap<=maxLen)(hg:g<w.heap.size)(hc:∀i,i<xs.length->w.cell? ⟨g,i,none⟩=some (numC (xs.getD i 0)))(hd:BigN.Digits xs) :
 Calls Tryz.prog 140 #[.slice (some ⟨g,0,none⟩) xs.length cap] w fun e w'=>∃v,e = .returned v/\IsBig w v (BigN.val xs)/\w'=w:=by
 have HC:=hideB hc
 have HD:=hideB hd
 unfold maxLen at hm
 clear hc hd
 go_enter Tryz.func140,Tryz.ntmps140
 go_wp2_with fail
 go_loop [0] (fun s0=>∃n:Nat,n<=xs.length/\s0 = .slice (some ⟨g,0,none⟩) n cap/\Hid (BigN.val (xs.take n)=BigN.val xs)) (fun s0=>(match s0 with | .slice _ n _=>n|_=>0))
 case atStart=>exact⟨xs.length,Nat.le_refl _,rfl,hideB (by rw[List.take_length])⟩
 case round =>
  obtain⟨n,hn,rfl,HV⟩:=hrel
  by_cases h0:n=0
  ·subst h0
   have hfin:IsBig w (.slice (some ⟨g,0,none⟩) 0 cap) (BigN.val xs):=⟨[],⟨g,cap,rfl,by simp,by unfold maxLen;omega,hg,by simp⟩,BigN.Digits.nil,fun h=>absurd rfl h,by rw[<-HV.out];simp⟩
   have HF:=hideB hfin
   clear hfin
   go_wp2
   go_ret
   exact⟨_,rfl,HF.out,rfl⟩
  ·obtain⟨d,hdd,hcell⟩:∃d,d=xs.getD (n-1) 0/\w.cell? ⟨g,n-1,none⟩=some (.int .i64 (d:Int)):=⟨_,rfl,HC.out (n-1) (by omega)⟩
   have HDD:=hideB hdd
   clear hdd
   have hp:(0:Int)<(n:Int):=by omega
   by_cases hz:d=0
   ·subst hz
    have HN:=hideB (take_pred (by omega) hn HDD.out.symm)
    go_wp2
    exact⟨⟨n-1,by omega,rfl,hideB (HN.out.trans HV.out)⟩,by show n-1<n;omega⟩
   ·have hz':((d:Int) == 0)=false:=by simp;omega
    have hlen:(xs.take n).length=n:=by rw[List.length_take];omega
    have hget:∀i,i<n->(xs.take n).getD i 0=xs.getD i 0:=by
     intro i hi
     simp[List.getD,List.getElem?_take,hi]
    have hfin:IsBig w (.slice (some ⟨g,0,none⟩) n cap) (BigN.val xs):=by
     refine⟨xs.take n,⟨g,cap,by rw[hlen],by omega,by unfold maxLen;omega,hg,fun i hi=>?_⟩,HD.out.take n,fun _=>?_,HV.out⟩
     ·rw[hlen] at hi
      rw[hget i hi]
      exact HC.out i (by omega)
     ·rw[hlen,hget (n-1) (by omega),<-HDD.out]
      exact hz
    have HF:=hideB hfin
    clear hfin hget hlen hz
    go_wp2
    go_ret
    exact⟨_,rfl,HF.out,rfl⟩
theorem most_end {xs ys:List Nat}(hx:BigN.Digits xs)(hy:BigN.Digits ys)(hl:xs.length=ys.length)(j:Nat)(hj:j<xs.length)(hd:xs.drop (j+1)=ys.drop (j+1))(hne:xs.getD j 0≠ys.getD j 0) :
 decide (xs.getD j 0<ys.getD j 0)=decide (BigN.val xs<=BigN.val ys):=by
 by_cases h:xs.getD j 0<ys.getD j 0
 ·have:=BigN.val_decides xs ys j hx hj hl hd h
  exact decide_eq_decide.2 ⟨fun _=>by omega,fun _=>h⟩
 ·have:=BigN.val_decides ys xs j hy (by omega) hl.symm hd.symm (by omega)
  exact decide_eq_decide.2 ⟨fun k=>absurd k h,fun _=>by omega⟩
theorem drop_step {xs ys:List Nat}{j:Nat}(hl:xs.length=ys.length)(hj:j<xs.length)(hd:xs.drop (j+1)=ys.drop (j+1))(he:xs.getD j 0=ys.getD j 0):xs.drop j=ys.drop j:=by
 have hj':j<ys.length:=by omega
 rw[BigN.getD_lt' xs j hj,BigN.getD_lt' ys j hj'] at he
 rw[List.drop_eq_getElem_cons hj,List.drop_eq_getElem_cons hj',hd,he]
theorem most_len {xs ys:List Nat}(hx:BigN.Digits xs)(hy:BigN.Digits ys)(tx:BigN.Trim xs)(ty:BigN.Trim ys)(hne:xs.length≠ys.length):decide (xs.length<ys.length)=decide (BigN.val xs<=BigN.val ys):=by
 by_cases h:xs.length<ys.length
 ·have:=BigN.val_lt_of_len xs ys hx ty h
  simp[h,Nat.le_of_lt this]
 ·have:=BigN.val_lt_of_len ys xs hy tx (by omega)
  simp[h];omega
theorem most_num (va vb:Value)(xs ys:List Nat)(w:World)(na:IsNum w va xs)(nb:IsNum w vb ys)(hx:BigN.Digits xs)(hy:BigN.Digits ys)(tx:BigN.Trim xs)(ty:BigN.Trim ys)(lx:xs.length<=1000)(ly:ys.length<=1000) :
 Calls Tryz.prog 141 #[va,vb] w fun e w'=>e = .returned (.bool (decide (BigN.val xs<=BigN.val ys)))/\Below w.heap.size w w':=by
 obtain⟨ga,ca,rfl,la,ma,wa,cella⟩:=na
 obtain⟨gb,cb,rfl,lb,mb,wb,cellb⟩:=nb
 by_cases hne:xs.length=ys.length
 ·have CA:=hideB cella
  have CB:=hideB cellb
  have HX:=hideB hx
  have HY:=hideB hy
  have HL:=hideB hne
  clear cella cellb hx hy tx ty ma mb
  have hle:((xs.length:Int) == (ys.length:Int))=true:=by simp[hne]
  have hls:xs.length<=ys.length:=by omega
  have hlt:ys.length<=xs.length:=by omega
  clear hne
  generalize hb:decide (BigN.val xs<=BigN.val ys)=B
  have HB:=hideB hb
  clear hb
  go_enter Tryz.func141,Tryz.ntmps141
  go_wp2_with fail
  go_loopw [5] (fun s5 wr=>Hid (Below w.heap.size w wr)/\((s5 = .int .i64 (-1)/\Hid (xs=ys))\/∃j:Nat,j<xs.length/\s5 = .int .i64 (j:Int)/\Hid (xs.drop (j+1)=ys.drop (j+1)))) (fun s5 _=>(intOf s5+1).toNat)
  case atStart =>
   refine⟨hideB (Below.refl _ _),?_⟩
   by_cases h0:xs.length=0
   ·left
    refine⟨by rw[h0];rfl,hideB ?_⟩
    have h1:ys.length=0:=by omega
    rw[List.eq_nil_of_length_eq_zero h0,List.eq_nil_of_length_eq_zero h1]
   ·right
    refine⟨xs.length-1,by omega,by congr 1;omega,hideB ?_⟩
    rw[List.drop_of_length_le (by omega),List.drop_of_length_le (by omega)]
  case round =>
   obtain⟨HW,⟨rfl,he⟩ | ⟨j,hj,rfl,hd⟩⟩:=hrel
   ·have hB:B=true:=by rw[<-HB.out,he.out];simp
    subst hB
    go_wp2
    go_ret
    exact⟨rfl,HW.out⟩
   ·obtain⟨da,ha,hca⟩:∃d,d=xs.getD j 0/\wr.cell? ⟨ga,j,none⟩=some (.int .i64 (d:Int)):=⟨_,rfl,(HW.out.cell (p:=⟨ga,j,none⟩) wa).trans (CA.out j hj)⟩
    obtain⟨db,hb,hcb⟩:∃d,d=ys.getD j 0/\wr.cell? ⟨gb,j,none⟩=some (.int .i64 (d:Int)):=⟨_,rfl,(HW.out.cell (p:=⟨gb,j,none⟩) wb).trans (CB.out j (by omega))⟩
    have HA:=hideB ha
    have HBb:=hideB hb
    clear ha hb
    have hj1:(j:Int)<(xs.length:Int):=by omega
    have hj2:(j:Int)<(ys.length:Int):=by omega
    have hj0:(0:Int)<=(j:Int):=by omega
    by_cases hdd:da=db
    ·have hne':((da:Int) != (db:Int))=false:=by simp[hdd]
     have HDN:=hideB (drop_step HL.out hj hd.out (by rw[<-HA.out,<-HBb.out];exact hdd))
     clear hdd
     go_wp2
     go_quiet (fail)
     go_wp2
     refine⟨⟨hideB (below_drewN HW.out nq),?_⟩,by simp[intOf]<;>omega⟩
     by_cases h0:j=0
     ·subst h0
      exact .inl ⟨rfl,hideB (by simpa using HDN.out)⟩
     ·exact .inr ⟨j-1,by omega,by congr 1;omega,hideB (by rw[show j-1+1=j by omega];exact HDN.out)⟩
    ·have hne':((da:Int) != (db:Int))=true:=by simp;omega
     have hB:=most_end HX.out HY.out HL.out j hj hd.out (by rw[<-HA.out,<-HBb.out];exact hdd)
     rw[<-HA.out,<-HBb.out,HB.out] at hB
     have HBB:Hid (decide (da<db)=B):=hB
     clear hB hdd
     go_wp2
     go_quiet (fail)
     go_wp2
     go_quiet (fail)
     go_wp2
     go_ret
     exact⟨by rw[<-HBB.out];rfl,below_drewN (below_drewN HW.out _) _⟩
 ·have e:=most_len hx hy tx ty hne
  rw[<-e]
  have hle:((xs.length:Int) == (ys.length:Int))=false:=by simp;omega
  clear e cella cellb hx hy tx ty
  go_enter Tryz.func141,Tryz.ntmps141
  go_wp2
  go_ret
  exact⟨by simp,Below.refl _ _⟩
theorem mul_digits {a b:Nat}(ha:a<16777216)(hb:b<16777216):a*b<=281474943156225:=by
 have:=Nat.mul_le_mul (show a<=16777215 by omega) (show b<=16777215 by omega)
 simpa using this
theorem times_next {xs ys zs:List Nat}{i k c da db z n:Nat}(hx:BigN.Digits xs)(hy:BigN.Digits ys)(hl:zs.length=n)(hd:BigN.Digits zs)(hn:i+k<n)(hc:c<16777216)
 (ha:da=xs.getD i 0) (hb:db=ys.getD k 0) (hz:z=zs.getD (i+k) 0) (hv:BigN.val zs+16777216 ^ (i+k)*c=BigN.val (xs.take i)*BigN.val ys+16777216 ^ i*da*BigN.val (ys.take k)) :
 (zs.set (i+k) ((c+z+da*db) % 16777216)).length=n/\BigN.Digits (zs.set (i+k) ((c+z+da*db) % 16777216))/\(c+z+da*db) / 16777216<16777216/\
  BigN.val (zs.set (i+k) ((c+z+da*db) % 16777216))+16777216 ^ (i+(k+1))*((c+z+da*db) / 16777216)=BigN.val (xs.take i)*BigN.val ys+16777216 ^ i*da*BigN.val (ys.take (k+1)):=by
 have h1:da<16777216:=by rw[ha];exact hx.getD i
 have h2:db<16777216:=by rw[hb];exact hy.getD k
 have h3:z<16777216:=by rw[hz];exact hd.getD _
 have h4:=mul_digits h1 h2
 refine⟨by simp[hl],hd.set _ (Nat.mod_lt _ (by decide)),by omega,?_⟩
 have h5:=BigN.times_step zs (i+k) c (da*db) (by omega)
 rw[<-hz,Nat.add_assoc i k 1] at h5
 rw[h5,hv,BigN.val_take_succ' ys k,<-hb,Nat.mul_add,Nat.pow_add]
 have h6:16777216 ^ i*16777216 ^ k*(da*db)=16777216 ^ i*da*(16777216 ^ k*db):=by
  simp only[Nat.mul_assoc,Nat.mul_left_comm,Nat.mul_comm]
 omega
theorem times_room {xs ys:List Nat}{i k c da v:Nat}(hx:BigN.Digits xs)(hy:BigN.Digits ys)(hi:i<xs.length)(hc:0<c)(ha:da=xs.getD i 0)
 (hv:v+16777216 ^ (i+k)*c=BigN.val (xs.take i)*BigN.val ys+16777216 ^ i*da*BigN.val (ys.take k)):k<ys.length+1:=by
 refine BigN.carry_room xs ys hx hy i k c v hi hc ?_
 rw[hv,BigN.val_take_succ xs i hi,<-ha,Nat.add_mul]
 have:=Nat.mul_le_mul_left (16777216 ^ i*da) (BigN.val_take_le ys k)
 omega
theorem times_row {xs ys:List Nat}{i k da v:Nat}(hi:i<xs.length)(ha:da=xs.getD i 0)(hk:¬k<ys.length)
 (hv:v+16777216 ^ (i+k)*0=BigN.val (xs.take i)*BigN.val ys+16777216 ^ i*da*BigN.val (ys.take k)):v=BigN.val (xs.take (i+1))*BigN.val ys:=by
 rw[BigN.take_all ys k (by omega)] at hv
 rw[BigN.val_take_succ xs i hi,<-ha,Nat.add_mul]
 omega
abbrev outV (w:World)(n:Nat):Value:= .slice (some ⟨w.heap.size,0,none⟩) n n
def RowAt (w wr:World)(n:Nat)(zs:List Nat):Prop:=zs.length=n/\BigN.Digits zs/\wr.ownsRow w.heap.size 2 1 (outV w n) n (zs.map numC)/\Below w.heap.size w wr
theorem RowAt.drewN {w wr:World}{n:Nat}{zs:List Nat}(h:RowAt w wr n zs)(q:Nat):RowAt w (wr.drewN q) n zs:=⟨h.1,h.2.1,h.2.2.1,below_drewN h.2.2.2 q⟩
theorem RowAt.cell {w wr:World}{n:Nat}{zs:List Nat}(h:RowAt w wr n zs){j:Nat}(hj:j<n):wr.cell? ⟨w.heap.size,j,none⟩=some (numC (zs.getD j 0)):=by
 rw[h.2.2.1.cellAt j (by omega)]
 have:j<zs.length:=by rw[h.1];exact hj
 simp[List.getElem?_map,List.getD,this]
theorem RowAt.free {w wr:World}{n:Nat}{zs:List Nat}(h:RowAt w wr n zs)(j:Nat):wr.frozen? ⟨w.heap.size,j,none⟩=false:=h.2.2.1.frozenAt j
theorem RowAt.store {w wr:World}{n:Nat}{zs:List Nat}(h:RowAt w wr n zs){j d:Nat}(hd:d<16777216):RowAt w (wr.setCell ⟨w.heap.size,j,none⟩ (numC d)) n (zs.set j d):=by
 refine⟨by simp[h.1],h.2.1.set j hd,?_,h.2.2.2.setCell (Nat.le_refl _) _⟩
 rw[List.map_set]
 exact(h.2.2.1.stored j (numC d)).1
theorem times_num (va vb:Value)(xs ys:List Nat)(w:World)(na:IsNum w va xs)(nb:IsNum w vb ys)(hx:BigN.Digits xs)(hy:BigN.Digits ys)(lx:xs.length<=1000)(ly:ys.length<=1000) :
 Calls Tryz.prog 124 #[va,vb] w fun e w'=>∃v,e = .returned v/\IsBig w' v (BigN.val xs*BigN.val ys)/\Below w.heap.size w w':=by
 obtain⟨i0,hi,hz0,hz1,hz2⟩:=info_parts info2
 obtain⟨ga,ca,rfl,la,ma,wa,cella⟩:=na
 obtain⟨gb,cb,rfl,lb,mb,wb,cellb⟩:=nb
 have CA:=hideB cella
 have CB:=hideB cellb
 have HX:=hideB hx
 have HY:=hideB hy
 clear cella cellb hx hy ma mb
 obtain⟨n,hn⟩:=exq (xs.length+ys.length+1)
 have hn1:xs.length+ys.length+1<=n:=by omega
 have hn2:n<=xs.length+ys.length+1:=by omega
 clear hn
 go_enter Tryz.func124,Tryz.ntmps124
 go_wp2_with (at_make;refine wpList_make_full _ rfl _ _ 54 rfl w.heap.size 2 i0 (.int .i64 0) 1 Tryz.underlying54 hi hz0 hz1 _ _ _ _ n rfl rfl (by omega) (by omega) (by rw[hz2];omega) (by unfold maxLen;omega) (Nat.le_refl _) ?_)
 intro w0 hown0 hgrow0
 have hrow:RowAt w w0 n (List.replicate n 0):=by
  refine⟨by simp,BigN.Digits.zeros n,?_,(Below.refl _ _).grown hgrow0 (Nat.le_refl _) (fun r hr=>by cases hr)⟩
  have e:(madeCells #[Value.int .i64 0] n).toList=(List.replicate n 0).map numC:=(toList_madeCells_one (.int .i64 0) n).trans (by simp[numC])
  rw[<-e]
  exact hown0
 have HROW:=hideB hrow
 clear hrow hown0 hgrow0
 go_wp2_with fail
 go_loopw [6,7,8] (fun s6 _ _ wr=>∃i:Nat,i<=xs.length/\s6 = .int .i64 (i:Int)/\∃zs,Hid (RowAt w wr n zs/\BigN.val zs=BigN.val (xs.take i)*BigN.val ys)) (fun s6 _ _ _=>xs.length-(intOf s6).toNat)
 case atStart=>exact⟨0,Nat.zero_le _,rfl,_,hideB ⟨HROW.out,by simp[BigN.val,BigN.val_zeros]⟩⟩
 case round =>
  obtain⟨i,hi',rfl,zs,HZ⟩:=hrel
  clear HROW
  by_cases hlt:i<xs.length
  ·obtain⟨wo,rfl⟩:∃wo:World,wo=wr:=⟨_,rfl⟩
   obtain⟨da,hda⟩:=exq (xs.getD i 0)
   have HDA:=hideB hda
   have da1:da<16777216:=by rw[hda];exact HX.out.getD i
   clear hda
   go_wp2_with fail
   go_loopw [7,8] (fun s7 s8 wq=>∃c k:Nat,k<=ys.length+1/\c<16777216/\s7 = .int .i64 (c:Int)/\s8 = .int .i64 (k:Int)/\∃zs',Hid (RowAt w wq n zs'/\BigN.val zs'+16777216 ^ (i+k)*c=BigN.val (xs.take i)*BigN.val ys+16777216 ^ i*da*BigN.val (ys.take k))) (fun _ s8 _=>ys.length+2-(intOf s8).toNat)
   case atStart=>exact⟨0,0,by omega,by omega,rfl,rfl,zs,hideB ⟨HZ.out.1,by rw[HZ.out.2];simp[BigN.val]⟩⟩
   case round =>
    obtain⟨c,k,hk,hc,rfl,rfl,zs',HQ⟩:=hrel
    by_cases hky:k<ys.length
    ·obtain⟨db,hdb,hcb⟩:∃d,d=ys.getD k 0/\wr.cell? ⟨gb,k,none⟩=some (.int .i64 (d:Int)):=⟨_,rfl,(HQ.out.1.2.2.2.cell (p:=⟨gb,k,none⟩) wb).trans (CB.out k hky)⟩
     have hca:wr.cell? ⟨ga,i,none⟩=some (.int .i64 (da:Int)):=(HQ.out.1.2.2.2.cell (p:=⟨ga,i,none⟩) wa).trans ((CA.out i hlt).trans (by rw[<-HDA.out]))
     obtain⟨z,hz,hcz⟩:∃d,d=zs'.getD (i+k) 0/\wr.cell? ⟨w.heap.size,i+k,none⟩=some (.int .i64 (d:Int)):=⟨_,rfl,HQ.out.1.cell (by omega)⟩
     have hfz:=HQ.out.1.free (i+k)
     have hz1:z<16777216:=by rw[hz];exact HQ.out.1.2.1.getD _
     have db1:db<16777216:=by rw[hdb];exact HY.out.getD k
     have hpr:(da:Int)*(db:Int)<=281474943156225:=by have:=mul_digits da1 db1;omega
     have hpr0:(0:Int)<=(da:Int)*(db:Int):=by have:=Int.natCast_nonneg (da*db);simpa using this
     have HN:=hideB (times_next HX.out HY.out HQ.out.1.1 HQ.out.1.2.1 (by omega) hc HDA.out hdb hz HQ.out.2)
     clear hdb hz
     go_wp2
     go_quiet (fail)
     go_wp2
     go_roundw
     case rel =>
      have hr:=(HQ.out.1.drewN nq).store (j:=i+k) (d:=(c+z+da*db) % 16777216) (Nat.mod_lt _ (by decide))
      exact⟨(c+z+da*db) / 16777216,k+1,by omega,HN.out.2.2.1,by simp,by simp,_,hideB ⟨by simpa [numC] using hr,HN.out.2.2.2⟩⟩
     case measure=>simp[intOf];omega
    ·by_cases hcp:0<c
     ·have hkr:=times_room HX.out HY.out hlt hcp HDA.out HQ.out.2
      obtain⟨z,hz,hcz⟩:∃d,d=zs'.getD (i+k) 0/\wr.cell? ⟨w.heap.size,i+k,none⟩=some (.int .i64 (d:Int)):=⟨_,rfl,HQ.out.1.cell (by omega)⟩
      have hfz:=HQ.out.1.free (i+k)
      have hz1:z<16777216:=by rw[hz];exact HQ.out.1.2.1.getD _
      have HN:=hideB (times_next HX.out HY.out HQ.out.1.1 HQ.out.1.2.1 (by omega) hc HDA.out (BigN.getD_ge' ys k (by omega)).symm hz HQ.out.2)
      clear hz
      go_wp2
      go_roundw
      case rel =>
       have hr:=HQ.out.1.store (j:=i+k) (d:=(c+z+da*0) % 16777216) (Nat.mod_lt _ (by decide))
       exact⟨(c+z+da*0) / 16777216,k+1,by omega,HN.out.2.2.1,by simp,by simp,_,hideB ⟨by simpa [numC] using hr,HN.out.2.2.2⟩⟩
      case measure=>simp[intOf];omega
     ·obtain rfl:c=0:=by omega
      have HE:=hideB (times_row hlt HDA.out hky HQ.out.2)
      go_wp2
      go_roundw
      case rel=>exact⟨i+1,by omega,by simp,zs',hideB ⟨HQ.out.1,HE.out⟩⟩
      case measure=>simp[intOf];omega
  ·obtain rfl:i=xs.length:=by omega
   have hrow:=HZ.out.1
   have hv:BigN.val zs=BigN.val xs*BigN.val ys:=by rw[HZ.out.2,List.take_length]
   have hlen:=hrow.1
   have hsz:w.heap.size<wr.heap.size:=by
    rcases hrow.2.2.1.2 with ⟨h,_⟩ | ⟨g,cap,cur,h,_,hg,_⟩
    ·simp at h
    ·simp at h;have:=(glt hg);omega
   have HT:=hideB (trim_any w.heap.size n zs wr (by omega) (by unfold maxLen;omega) hsz (fun j hj=>hrow.cell (by omega)) hrow.2.1)
   rw[hlen] at HT
   have HB:=hideB hrow.2.2.2
   have HV:=hideB hv
   clear hrow hv hlen
   go_wp2_with (go_at_call 140;refine HT.out.mono ?_;rintro e w' ⟨v,rfl,hb,rfl⟩)
   go_ret
   exact⟨_,rfl,by rw[<-HV.out];assumption,HB.out⟩
def lid:Nat:=16777216 ^ 40
theorem IsBig.len {w:World}{v:Value}{N:Nat}(h:IsBig w v N)(hN:N<lid):∃xs,IsNum w v xs/\BigN.Digits xs/\BigN.Trim xs/\BigN.val xs=N/\xs.length<=1000:=by
 obtain⟨xs,h1,h2,h3,h4⟩:=h
 exact⟨xs,h1,h2,h3,h4,by have:=BigN.len_le_of_val xs h3 40 (by rw[h4];exact hN);omega⟩
theorem times_any (va vb:Value)(a b:Nat)(w:World)(na:IsBig w va a)(nb:IsBig w vb b)(ha:a<lid)(hb:b<lid) :
 Calls Tryz.prog 124 #[va,vb] w fun e w'=>∃v,e = .returned v/\IsBig w' v (a*b)/\Below w.heap.size w w':=by
 obtain⟨xs,h1,h2,h3,rfl,h5⟩:=na.len ha
 obtain⟨ys,k1,k2,k3,rfl,k5⟩:=nb.len hb
 exact times_num va vb xs ys w h1 k1 h2 k2 h5 k5
theorem sum_any (va vb:Value)(a b:Nat)(w:World)(na:IsBig w va a)(nb:IsBig w vb b)(ha:a<lid)(hb:b<lid) :
 Calls Tryz.prog 125 #[va,vb] w fun e w'=>∃v,e = .returned v/\IsBig w' v (a+b)/\Below w.heap.size w w':=by
 obtain⟨xs,h1,h2,h3,rfl,h5⟩:=na.len ha
 obtain⟨ys,k1,k2,k3,rfl,k5⟩:=nb.len hb
 exact sum_num va vb xs ys w h1 k1 h2 k2 h3 k3 h5 k5
theorem most_any (va vb:Value)(a b:Nat)(w:World)(na:IsBig w va a)(nb:IsBig w vb b)(ha:a<lid)(hb:b<lid) :
 Calls Tryz.prog 141 #[va,vb] w fun e w'=>e = .returned (.bool (decide (a<=b)))/\Below w.heap.size w w':=by
 obtain⟨xs,h1,h2,h3,rfl,h5⟩:=na.len ha
 obtain⟨ys,k1,k2,k3,rfl,k5⟩:=nb.len hb
 exact most_num va vb xs ys w h1 k1 h2 k2 h3 k3 h5 k5
theorem lid_small {x:Nat}(h:x<18446744073709551616):x<lid:=by
 have:(18446744073709551616:Nat)<=16777216 ^ 40:=by decide +kernel
 unfold lid;omega
theorem lid_d {x:Nat}(h:x<16777216 ^ 30):x<lid:=Nat.lt_of_lt_of_le h (Nat.pow_le_pow_right (by decide) (by decide))
theorem lid_mul {x d:Nat}(h:x<18446744073709551616)(hd:d<16777216 ^ 30):x*d<lid:=by
 have h1:x*d<=18446744073709551616*16777216 ^ 30:=Nat.mul_le_mul (Nat.le_of_lt h) (Nat.le_of_lt hd)
 have h2:(18446744073709551616:Nat)*16777216 ^ 30<16777216 ^ 40:=by decide +kernel
 unfold lid;omega
theorem mid_facts {low most:Nat}(h:low<most)(hm:most<18446744073709551616):low+(most-low+1) / 2<=most/\low<low+(most-low+1) / 2/\low+(most-low+1) / 2<18446744073709551616:=by omega
theorem part_any (vn vd:Value)(n d most:Nat)(w:World)(nn:IsBig w vn n)(nd:IsBig w vd d)(hn:n<lid)(hd:d<16777216 ^ 30)(hm:most<18446744073709551615) :
 Calls Tryz.prog 126 #[vn,vd,.int .u64 (most:Int)] w fun e w'=>e = .returned (.int .u64 ((BigN.part n d most:Nat):Int))/\Below w.heap.size w w':=by
 have NN:=hideB nn
 have ND:=hideB nd
 have HN:=hideB hn
 have HD:=hideB hd
 obtain⟨R,hR⟩:=exq (BigN.part n d most)
 have hRm:R<=most:=by rw[hR];exact BigN.part_le n d most
 have HR:=hideB (fun mid (h:mid<=most)=>BigN.part_iff n d most mid h)
 rw[<-hR] at HR
 rw[<-hR]
 clear nn nd hn hd hR
 go_enter Tryz.func126,Tryz.ntmps126
 go_wp2_with fail
 go_loopw [2,7,8] (fun s2 s7 _ wr=>Hid (Below w.heap.size w wr)/\∃hi lo:Nat,lo<=R/\R<=hi/\hi<=most/\s2 = .int .u64 (hi:Int)/\s7 = .int .u64 (lo:Int)) (fun s2 s7 _ _=>(intOf s2-intOf s7).toNat)
 case atStart=>exact⟨hideB (Below.refl _ _),most,0,Nat.zero_le _,hRm,Nat.le_refl _,rfl,rfl⟩
 case round =>
  obtain⟨HW,hi,lo,h1,h2,h3,rfl,rfl⟩:=hrel
  by_cases hlt:lo<hi
  ·obtain⟨mid,hmid⟩:=exq (lo+(hi-lo+1) / 2)
   have hmf:=mid_facts hlt (show hi<18446744073709551616 by omega)
   rw[<-hmid] at hmf
   obtain⟨m1,m2,m3⟩:=hmf
   have HM:Hid ((lo:Int)+((hi:Int)-(lo:Int)+1) / 2=(mid:Int)):=by show _=_;omega
   clear hmid
   go_wp2_with fail
   rw[HM.out]
   refine(big_any mid _ m3).mono ?_
   rintro e w1 ⟨v1,rfl,hv1,hb1⟩
   have HB1:=hideB (HW.out.trans (hb1.mono HW.out.size))
   have HV1:=hideB hv1
   clear hv1 hb1
   go_wp2_with fail
   refine(times_any v1 vd mid d _ HV1.out (ND.out.kept HB1.out) (lid_small m3) (lid_d HD.out)).mono ?_
   rintro e w2 ⟨v2,rfl,hv2,hb2⟩
   have HB2:=hideB (HB1.out.trans (hb2.mono HB1.out.size))
   have HV2:=hideB hv2
   clear hv2 hb2
   go_wp2_with fail
   refine(most_any v2 vn (mid*d) n _ HV2.out (NN.out.kept HB2.out) (lid_mul m3 HD.out) HN.out).mono ?_
   rintro e w3 ⟨rfl,hb3⟩
   have HB3:=hideB (HB2.out.trans (hb3.mono HB2.out.size))
   clear hb3
   have hiff:=HR.out mid (by omega)
   by_cases hle:mid*d<=n
   ·have hmr:mid<=R:=hiff.1 hle
    rw[show decide (mid*d<=n)=true by simp[hle]]
    clear hiff hle
    go_wp2
    go_roundw
    case rel=>exact⟨HB3,hi,mid,hmr,h2,h3,rfl,rfl⟩
    case measure=>simp[intOf];omega
   ·have hmr:R<mid:=by
     by_cases hh:mid<=R
     ·exact absurd (hiff.2 hh) hle
     ·omega
    rw[show decide (mid*d<=n)=false by simp[hle]]
    have HM1:Hid ((mid:Int)-1=((mid-1:Nat):Int)):=by show _=_;omega
    clear hiff hle
    go_wp2
    go_roundw
    case rel=>exact⟨HB3,mid-1,lo,h1,by omega,by omega,by rw[HM1.out],rfl⟩
    case measure=>rw[HM1.out];simp[intOf];omega
  ·obtain rfl:lo=R:=by omega
   go_wp2
   go_ret
   exact⟨rfl,HW.out⟩
theorem lid_ab {a b:Nat}(ha:a<18446744073709551616)(hb:b<18446744073709551616):a*b<lid/\a*b*2<lid:=by
 have h1:a*b<=18446744073709551616*18446744073709551616:=Nat.mul_le_mul (Nat.le_of_lt ha) (Nat.le_of_lt hb)
 have h2:(18446744073709551616:Nat)*18446744073709551616*2<16777216 ^ 40:=by decide +kernel
 unfold lid;omega
theorem lid_abc {a b c:Nat}(ha:a<18446744073709551616)(hb:b<18446744073709551616)(hc:c<18446744073709551616):a*b*2+c<lid/\c*2<16777216 ^ 30:=by
 have h1:a*b<=18446744073709551616*18446744073709551616:=Nat.mul_le_mul (Nat.le_of_lt ha) (Nat.le_of_lt hb)
 have h2:(18446744073709551616:Nat)*18446744073709551616*2+18446744073709551616<16777216 ^ 40:=by decide +kernel
 have h3:(18446744073709551616:Nat)*2<16777216 ^ 30:=by decide +kernel
 unfold lid;omega
theorem near_any (a b c most:Nat)(w:World)(ha:a<18446744073709551616)(hb:b<18446744073709551616)(hc:c<18446744073709551616)(hm:most<18446744073709551615) :
 Calls Tryz.prog 127 #[.int .u64 (a:Int),.int .u64 (b:Int),.int .u64 (c:Int),.int .u64 (most:Int)] w fun e w'=>e = .returned (.int .u64 ((BigN.near a b c most:Nat):Int))/\Below w.heap.size w w':=by
 have LD:=hideB (And.intro (lid_ab ha hb) (lid_abc ha hb hc))
 go_enter Tryz.func127,Tryz.ntmps127
 go_wp2_with fail
 refine(big_any a _ ha).mono ?_
 rintro e w1 ⟨v1,rfl,hv1,hb1⟩
 have H1:=hideB hb1
 have V1:=hideB hv1
 clear hv1 hb1
 go_wp2_with fail
 refine(big_any b _ hb).mono ?_
 rintro e w2 ⟨v2,rfl,hv2,hb2⟩
 have H2:=hideB (H1.out.trans (hb2.mono H1.out.size))
 have V2:=hideB hv2
 have W1:=hideB (V1.out.kept hb2)
 clear hv2 hb2 V1
 go_wp2_with fail
 refine(times_any v1 v2 a b _ W1.out V2.out (lid_small ha) (lid_small hb)).mono ?_
 rintro e w3 ⟨v3,rfl,hv3,hb3⟩
 have H3:=hideB (H2.out.trans (hb3.mono H2.out.size))
 have V3:=hideB hv3
 clear hv3 hb3 W1 V2
 go_wp2_with fail
 refine(big_any 2 _ (by decide)).mono ?_
 rintro e w4 ⟨v4,rfl,hv4,hb4⟩
 have H4:=hideB (H3.out.trans (hb4.mono H3.out.size))
 have V4:=hideB hv4
 have W3:=hideB (V3.out.kept hb4)
 clear hv4 hb4 V3
 go_wp2_with fail
 refine(times_any v3 v4 (a*b) 2 _ W3.out V4.out LD.out.1.1 (lid_small (by decide))).mono ?_
 rintro e w5 ⟨v5,rfl,hv5,hb5⟩
 have H5:=hideB (H4.out.trans (hb5.mono H4.out.size))
 have V5:=hideB hv5
 clear hv5 hb5 W3 V4
 go_wp2_with fail
 refine(big_any c _ hc).mono ?_
 rintro e w6 ⟨v6,rfl,hv6,hb6⟩
 have H6:=hideB (H5.out.trans (hb6.mono H5.out.size))
 have V6:=hideB hv6
 have W5:=hideB (V5.out.kept hb6)
 clear hv6 hb6 V5
 go_wp2_with fail
 refine(sum_any v5 v6 (a*b*2) c _ W5.out V6.out LD.out.1.2 (lid_small hc)).mono ?_
 rintro e w7 ⟨v7,rfl,hv7,hb7⟩
 have H7:=hideB (H6.out.trans (hb7.mono H6.out.size))
 have V7:=hideB hv7
 clear hv7 hb7 W5 V6
 go_wp2_with fail
 refine(big_any c _ hc).mono ?_
 rintro e w8 ⟨v8,rfl,hv8,hb8⟩
 have H8:=hideB (H7.out.trans (hb8.mono H7.out.size))
 have V8:=hideB hv8
 have W7:=hideB (V7.out.kept hb8)
 clear hv8 hb8 V7
 go_wp2_with fail
 refine(big_any 2 _ (by decide)).mono ?_
 rintro e w9 ⟨v9,rfl,hv9,hb9⟩
 have H9:=hideB (H8.out.trans (hb9.mono H8.out.size))
 have V9:=hideB hv9
 have W8:=hideB (V8.out.kept hb9)
 have X7:=hideB (W7.out.kept hb9)
 clear hv9 hb9 V8 W7
 go_wp2_with fail
 refine(times_any v8 v9 c 2 _ W8.out V9.out (lid_small hc) (lid_small (by decide))).mono ?_
 rintro e w10 ⟨v10,rfl,hv10,hb10⟩
 have H10:=hideB (H9.out.trans (hb10.mono H9.out.size))
 have V10:=hideB hv10
 have Y7:=hideB (X7.out.kept hb10)
 clear hv10 hb10 W8 V9 X7
 go_wp2_with fail
 refine(part_any v7 v10 (a*b*2+c) (c*2) most _ Y7.out V10.out LD.out.2.1 LD.out.2.2 hm).mono ?_
 rintro e w11 ⟨rfl,hb11⟩
 go_wp2
 go_ret
 exact⟨rfl,H10.out.trans (hb11.mono H10.out.size)⟩
theorem half_mul {a b:Nat}(ha:a<4294967296)(hb:b<4294967296):a*b<=18446744065119617025:=by
 have:=Nat.mul_le_mul (show a<=4294967295 by omega) (show b<=4294967295 by omega)
 simpa using this
theorem prod_halves (x1 x0 y1 y0:Nat)(h1:x1<4294967296)(h2:x0<4294967296)(h3:y1<4294967296)(h4:y0<4294967296) :
 x1*y1+(x1*y0+x0*y0 / 4294967296) / 4294967296+(x0*y1+(x1*y0+x0*y0 / 4294967296) % 4294967296) / 4294967296=(x1*4294967296+x0)*(y1*4294967296+y0) / 18446744073709551616:=by
 have e:(x1*4294967296+x0)*(y1*4294967296+y0)=x1*y1*18446744073709551616+(x1*y0+x0*y1)*4294967296+x0*y0:=by
  have a1:(x1*4294967296+x0)*(y1*4294967296+y0)=x1*4294967296*(y1*4294967296)+x1*4294967296*y0+(x0*(y1*4294967296)+x0*y0):=by
   rw[Nat.add_mul,Nat.mul_add,Nat.mul_add]
  have a2:x1*4294967296*(y1*4294967296)=x1*y1*18446744073709551616:=by
   rw[Nat.mul_assoc,<-Nat.mul_assoc 4294967296,Nat.mul_comm 4294967296 y1,Nat.mul_assoc y1,<-Nat.mul_assoc]
  have a3:x1*4294967296*y0=x1*y0*4294967296:=by rw[Nat.mul_assoc,Nat.mul_comm 4294967296,<-Nat.mul_assoc]
  have a4:x0*(y1*4294967296)=x0*y1*4294967296:=by rw[Nat.mul_assoc]
  rw[a1,a2,a3,a4]
  omega
 rw[e]
 have b1:=half_mul h1 h3
 have b2:=half_mul h1 h4
 have b3:=half_mul h2 h3
 have b4:=half_mul h2 h4
 generalize x1*y1=A at *
 generalize x1*y0=B at *
 generalize x0*y1=C at *
 generalize x0*y0=D at *
 omega
theorem prod_hi (x y:Nat)(hx:x<18446744073709551616)(hy:y<18446744073709551616) :
 IntKind.u64.wrap (IntKind.u64.wrap (IntKind.u64.wrap ((x:Int) / 4294967296*((y:Int) / 4294967296)) +
  IntKind.u64.wrap (IntKind.u64.wrap ((x:Int) / 4294967296*bits BinOp.and IntKind.u64 (y:Int) 4294967295)+IntKind.u64.wrap (bits BinOp.and IntKind.u64 (x:Int) 4294967295*bits BinOp.and IntKind.u64 (y:Int) 4294967295) / 4294967296) / 4294967296) +
  IntKind.u64.wrap (IntKind.u64.wrap (bits BinOp.and IntKind.u64 (x:Int) 4294967295*((y:Int) / 4294967296)) +
   bits BinOp.and IntKind.u64 (IntKind.u64.wrap (IntKind.u64.wrap ((x:Int) / 4294967296*bits BinOp.and IntKind.u64 (y:Int) 4294967295)+IntKind.u64.wrap (bits BinOp.and IntKind.u64 (x:Int) 4294967295*bits BinOp.and IntKind.u64 (y:Int) 4294967295) / 4294967296)) 4294967295) / 4294967296)
  = ((x*y / 18446744073709551616:Nat):Int):=by
 have hp:=prod_halves (x / 4294967296) (x % 4294967296) (y / 4294967296) (y % 4294967296) (by omega) (by omega) (by omega) (by omega)
 rw[show x / 4294967296*4294967296+x % 4294967296=x by omega,show y / 4294967296*4294967296+y % 4294967296=y by omega] at hp
 rw[and_low32 (x:Int) (by omega) (by omega),and_low32 (y:Int) (by omega) (by omega)]
 have e1:(x:Int) / 4294967296=((x / 4294967296:Nat):Int):=by omega
 have e2:(x:Int) % 4294967296=((x % 4294967296:Nat):Int):=by omega
 have e3:(y:Int) / 4294967296=((y / 4294967296:Nat):Int):=by omega
 have e4:(y:Int) % 4294967296=((y % 4294967296:Nat):Int):=by omega
 rw[e1,e2,e3,e4,<-hp]
 have g1:x / 4294967296<4294967296:=by omega
 have g2:x % 4294967296<4294967296:=by omega
 have g3:y / 4294967296<4294967296:=by omega
 have g4:y % 4294967296<4294967296:=by omega
 clear hp e1 e2 e3 e4
 generalize x / 4294967296=x1 at *
 generalize x % 4294967296=x0 at *
 generalize y / 4294967296=y1 at *
 generalize y % 4294967296=y0 at *
 have b1:=half_mul g1 g3
 have b2:=half_mul g1 g4
 have b3:=half_mul g2 g3
 have b4:=half_mul g2 g4
 simp only[<-Int.natCast_mul]
 generalize x1*y1=A at *
 generalize x1*y0=B at *
 generalize x0*y1=C at *
 generalize x0*y0=D at *
 rw[and_low32 _ (by rw[IntKind.wrap_u64];omega) (by rw[IntKind.wrap_u64];omega)]
 simp only[IntKind.wrap_u64]
 omega
theorem prod_lo (x y:Nat):IntKind.u64.wrap ((x:Int)*(y:Int))=((x*y % 18446744073709551616:Nat):Int):=by
 rw[IntKind.wrap_u64];simp
theorem ret2u {a b c d:Int}(h1:a=c)(h2:b=d):Ending.returned (.tuple #[.int .u64 a,.int .u64 b])=Ending.returned (.tuple #[.int .u64 c,.int .u64 d]):=by rw[h1,h2]
theorem product_any (x y:Nat)(w:World)(hx:x<18446744073709551616)(hy:y<18446744073709551616) :
 Calls Tryz.prog 134 #[.int .u64 (x:Int),.int .u64 (y:Int)] w fun e w'=>e = .returned (.tuple #[.int .u64 ((x*y / 18446744073709551616:Nat):Int),.int .u64 ((x*y % 18446744073709551616:Nat):Int)])/\w'=w:=by
 have H1:Hid _:=prod_hi x y hx hy
 have H2:Hid _:=prod_lo x y
 go_enter Tryz.func134,Tryz.ntmps134
 go_wp2
 go_ret2
 exact⟨ret2u H1.out H2.out,rfl⟩
theorem hideW {p:Prop}(h:p):Hid p:=h
abbrev cU (d:Nat):Value:= .int .u64 (d:Int)
abbrev wideV (a b c d:Nat):Value:= .agg #[cU a,cU b,cU c,cU d]
def Arr (wr:World)(n a b c d:Nat):Prop:=wr.ownsRow 0 246 1 (.slice (some ⟨n,0,none⟩) 4 4) 4 [cU a,cU b,cU c,cU d]
theorem Arr.cells {wr:World}{n a b c d:Nat}(h:Arr wr n a b c d):wr.cell? ⟨n,0,none⟩=some (cU a)/\wr.cell? ⟨n,1,none⟩=some (cU b)/\wr.cell? ⟨n,2,none⟩=some (cU c)/\wr.cell? ⟨n,3,none⟩=some (cU d) :=
 ⟨World.ownsRow.cellAt h 0 (by omega),World.ownsRow.cellAt h 1 (by omega),World.ownsRow.cellAt h 2 (by omega),World.ownsRow.cellAt h 3 (by omega)⟩
theorem Arr.free {wr:World}{n a b c d:Nat}(h:Arr wr n a b c d)(j:Nat):wr.frozen? ⟨n,j,none⟩=false:=World.ownsRow.frozenAt h j
theorem Arr.set0 {wr:World}{n a b c d:Nat}(h:Arr wr n a b c d)(x:Nat):Arr (wr.setCell ⟨n,0,none⟩ (cU x)) n x b c d:=(World.ownsRow.stored h 0 (cU x)).1
theorem Arr.set1 {wr:World}{n a b c d:Nat}(h:Arr wr n a b c d)(x:Nat):Arr (wr.setCell ⟨n,1,none⟩ (cU x)) n a x c d:=(World.ownsRow.stored h 1 (cU x)).1
theorem Arr.set2 {wr:World}{n a b c d:Nat}(h:Arr wr n a b c d)(x:Nat):Arr (wr.setCell ⟨n,2,none⟩ (cU x)) n a b x d:=(World.ownsRow.stored h 2 (cU x)).1
theorem Arr.set3 {wr:World}{n a b c d:Nat}(h:Arr wr n a b c d)(x:Nat):Arr (wr.setCell ⟨n,3,none⟩ (cU x)) n a b c x:=(World.ownsRow.stored h 3 (cU x)).1
theorem Arr.other {wr:World}{n n' a b c d:Nat}(h:Arr wr n a b c d){a' b' c' d':Nat}(h':Arr wr n' a' b' c' d')(hne:n≠n')(j:Nat)(u:Value):Arr (wr.setCell ⟨n',j,none⟩ u) n a b c d :=
 World.ownsRow.kept h (World.ownsRow.stored h' j u).2 (Or.inr (by simp[Value.ownBlock];exact hne))
theorem Arr.alloc {wr:World}{n a b c d:Nat}(h:Arr wr n a b c d)(o:Obj):Arr (wr.alloc o) n a b c d:=World.ownsRow.alloc h o
theorem arr_new (w:World)(a b c d:Nat):Arr (w.alloc (.cells #[cU a,cU b,cU c,cU d] 246)) w.heap.size a b c d:=World.ownsRow_lit w #[cU a,cU b,cU c,cU d] 4 (Nat.zero_le _) (by decide) rfl
theorem four_below {B:Nat}{T w':World}{g:Nat}(h:Below B T w')(hg:B<=g)(v0 v1 v2 v3:Value) :
 Below B T ((((w'.setCell ⟨g,0,none⟩ v0).setCell ⟨g,1,none⟩ v1).setCell ⟨g,2,none⟩ v2).setCell ⟨g,3,none⟩ v3) :=
 (((h.setCell hg v0).setCell hg v1).setCell hg v2).setCell hg v3
theorem lt_of_cellW {w:World}{b o:Nat}{v:Value}(h:w.cell? ⟨b,o,none⟩=some v):b<w.heap.size:=by
 by_cases hb:b<w.heap.size
 ·exact hb
 ·exfalso
  rw[World.cell?] at h
  simp[Array.getElem?_eq_none (show w.heap.size<=b by omega)] at h
theorem word_step {x m c:Nat}(hx:x<18446744073709551616)(hm:m<18446744073709551616)(hc:c<18446744073709551616):x*m+c<18446744073709551616*18446744073709551616:=by
 have:=Nat.mul_le_mul (show x<=18446744073709551615 by omega) (show m<=18446744073709551615 by omega)
 have e:(18446744073709551615:Nat)*18446744073709551615=340282366920938463426481119284349108225:=by decide
 have e':(18446744073709551616:Nat)*18446744073709551616=340282366920938463463374607431768211456:=by decide
 omega
theorem round_words {x m c:Nat}(hx:x<18446744073709551616)(hm:m<18446744073709551616)(hc:c<18446744073709551616) :
 ∃lo hi r,lo=x*m % 18446744073709551616/\hi=x*m / 18446744073709551616/\r=(x*m+c) % 18446744073709551616/\IntKind.u64.wrap ((lo:Int)+(c:Int))=(r:Int)/\lo<18446744073709551616/\hi<=18446744073709551614/\r<18446744073709551616/\
  ((lo<=r/\hi=(x*m+c) / 18446744073709551616)\/(r<lo/\hi+1=(x*m+c) / 18446744073709551616)):=by
 have h:=word_step hx hm hc
 have h0:=Nat.mul_le_mul (show x<=18446744073709551615 by omega) (show m<=18446744073709551615 by omega)
 have e:(18446744073709551615:Nat)*18446744073709551615=340282366920938463426481119284349108225:=by decide
 generalize x*m=p at *
 refine⟨_,_,_,rfl,rfl,rfl,?_,by omega,by omega,by omega,?_⟩
 ·rw[IntKind.wrap_u64];omega
 ·omega
def carry1 (a m:Nat):Nat:=a*m / 18446744073709551616
def carry2 (a b m:Nat):Nat:=(b*m+carry1 a m) / 18446744073709551616
def carry3 (a b c m:Nat):Nat:=(c*m+carry2 a b m) / 18446744073709551616
def out0 (a m:Nat):Nat:=a*m % 18446744073709551616
def out1 (a b m:Nat):Nat:=(b*m+carry1 a m) % 18446744073709551616
def out2 (a b c m:Nat):Nat:=(c*m+carry2 a b m) % 18446744073709551616
def out3 (a b c d m:Nat):Nat:=(d*m+carry3 a b c m) % 18446744073709551616
def wideN (a b c d:Nat):Nat:=a+18446744073709551616*(b+18446744073709551616*(c+18446744073709551616*d))
theorem wide_mul (a b c d m:Nat)(h:wideN a b c d*m<18446744073709551616 ^ 4):wideN (out0 a m) (out1 a b m) (out2 a b c m) (out3 a b c d m)=wideN a b c d*m:=by
 have e:(18446744073709551616:Nat) ^ 4=115792089237316195423570985008687907853269984665640564039457584007913129639936:=by decide
 rw[e] at h
 have e2:wideN a b c d*m=a*m+18446744073709551616*(b*m+18446744073709551616*(c*m+18446744073709551616*(d*m))):=by
  unfold wideN
  simp only[Nat.add_mul,Nat.mul_assoc]
 rw[e2] at h ⊢
 unfold wideN out0 out1 out2 out3 carry3 carry2 carry1
 generalize a*m=A at *
 generalize b*m=B at *
 generalize c*m=C at *
 generalize d*m=E at *
 omega
theorem carry_lt {x m c:Nat}(hx:x<18446744073709551616)(hm:m<18446744073709551616)(hc:c<18446744073709551616):(x*m+c) / 18446744073709551616<18446744073709551616:=by
 have:=word_step hx hm hc
 generalize x*m=p at *
 omega
theorem carry1_lt {a m:Nat}(ha:a<18446744073709551616)(hm:m<18446744073709551616):carry1 a m<18446744073709551616:=carry_lt (c:=0) ha hm (by decide)
theorem carry2_lt {a b m:Nat}(ha:a<18446744073709551616)(hb:b<18446744073709551616)(hm:m<18446744073709551616):carry2 a b m<18446744073709551616:=carry_lt hb hm (carry1_lt ha hm)
theorem carry3_lt {a b c m:Nat}(ha:a<18446744073709551616)(hb:b<18446744073709551616)(hc:c<18446744073709551616)(hm:m<18446744073709551616):carry3 a b c m<18446744073709551616:=carry_lt hc hm (carry2_lt ha hb hm)
def TimesAt (a b c d m:Nat)(w wr:World)(s5 s9:Value):Prop :=
 Below w.heap.size w wr/\Arr wr (w.heap.size+1) 0 0 0 0/\
 ((s9 = .int .i64 0/\s5=cU 0/\Arr wr w.heap.size a b c d)\/
  (s9 = .int .i64 1/\s5=cU (carry1 a m)/\Arr wr w.heap.size (out0 a m) b c d)\/
  (s9 = .int .i64 2/\s5=cU (carry2 a b m)/\Arr wr w.heap.size (out0 a m) (out1 a b m) c d)\/
  (s9 = .int .i64 3/\s5=cU (carry3 a b c m)/\Arr wr w.heap.size (out0 a m) (out1 a b m) (out2 a b c m) d)\/
  (s9 = .int .i64 4/\Arr wr w.heap.size (out0 a m) (out1 a b m) (out2 a b c m) (out3 a b c d m)))
theorem wideTimes_any (a b c d m:Nat)(w:World)(ha:a<18446744073709551616)(hb:b<18446744073709551616)(hc:c<18446744073709551616)(hd:d<18446744073709551616)(hm:m<18446744073709551616) :
 Calls Tryz.prog 148 #[wideV a b c d,cU m] w fun e w'=>e = .returned (wideV (out0 a m) (out1 a b m) (out2 a b c m) (out3 a b c d m))/\Below w.heap.size w w':=by
 have hat:TimesAt a b c d m w ((w.alloc (.cells #[cU a,cU b,cU c,cU d] 246)).alloc (.cells #[cU 0,cU 0,cU 0,cU 0] 246)) (cU 0) (.int .i64 0):=by
  refine⟨((Below.refl _ _).alloc (Nat.le_refl _) _).alloc (by simp) _,?_,.inl ⟨rfl,rfl,(arr_new w a b c d).alloc _⟩⟩
  have:=arr_new (w.alloc (.cells #[cU a,cU b,cU c,cU d] 246)) 0 0 0 0
  simpa using this
 have HAT:=hideW hat
 clear hat
 go_enter Tryz.func148,Tryz.ntmps148
 go_wp2_with fail
 go_loopw [5,6,7,8,9] (fun s5 _ _ _ s9 wr=>TimesAt a b c d m w wr s5 s9) (fun _ _ _ _ s9 _=>4-(intOf s9).toNat)
 case atStart=>exact HAT.out
 case round =>
  obtain⟨hbel,hres,h|h|h|h|h⟩:=hrel
  ·obtain⟨rfl,rfl,harr⟩:=h
   obtain⟨q0,q1,q2,q3⟩:=harr.cells
   have qf:=harr.free
   have HARR:=hideW harr
   have HRES:=hideW hres
   have HBEL:=hideW hbel
   clear harr hres hbel
   have C:=hideW (product_any a m wr ha hm)
   obtain⟨lo,e1⟩:=exq (a*m % 18446744073709551616)
   obtain⟨hi,e2⟩:=exq (a*m / 18446744073709551616)
   rw[<-e1,<-e2] at C
   have l1:lo<18446744073709551616:=by omega
   have E1:=hideW e1
   have E2:=hideW e2
   clear e1 e2
   go_wp2_with (go_at_call 134;refine C.out.mono ?_;rintro e w' ⟨rfl,rfl⟩)
   go_roundw
   case rel =>
    have e1:out0 a m=lo:=E1.out.symm
    have e2:carry1 a m=hi:=E2.out.symm
    refine⟨HBEL.out.setCell (Nat.le_refl _) _,HRES.out.other HARR.out (by omega) _ _,.inr (.inl ⟨rfl,by rw[e2],?_⟩)⟩
    rw[e1]
    exact HARR.out.set0 lo
   case measure=>simp[intOf]
  ·obtain⟨rfl,rfl,harr⟩:=h
   obtain⟨q0,q1,q2,q3⟩:=harr.cells
   have qf:=harr.free
   have HARR:=hideW harr
   have HRES:=hideW hres
   have HBEL:=hideW hbel
   clear harr hres hbel
   have hcl:=carry1_lt ha hm
   obtain⟨cy,hcy⟩:=exq (carry1 a m)
   rw[<-hcy] at hcl ⊢
   obtain⟨lo,hi,r,e1,e2,e3,hw,l1,l2,l3,hcase⟩:=round_words hb hm hcl
   have C:=hideW (product_any b m wr hb hm)
   rw[<-e1,<-e2] at C
   have E3:Hid (out1 a b m=r):=by rw[e3,hcy];rfl
   have E4:Hid ((lo<=r/\hi=(b*m+carry1 a m) / 18446744073709551616)\/(r<lo/\hi+1=(b*m+carry1 a m) / 18446744073709551616)):=by rw[<-hcy];exact hcase
   clear e1 e2 e3 hcy hcase
   rcases Nat.lt_or_ge r lo with g1|g1
   ·go_wp2_with (go_at_call 134;refine C.out.mono ?_;rintro e w' ⟨rfl,rfl⟩)
    go_roundw
    case rel =>
     have ee:(b*m+carry1 a m) / 18446744073709551616=hi+1:=by rcases E4.out with h|h<;>omega
     have e3:=E3.out
     refine⟨HBEL.out.setCell (Nat.le_refl _) _,HRES.out.other HARR.out (by omega) _ _,.inr (.inr (.inl ⟨rfl,by show _=cU ((b*m+carry1 a m) / 18446744073709551616);rw[ee];simp[cU],?_⟩))⟩
     rw[e3]
     exact HARR.out.set1 r
    case measure=>simp[intOf]
   ·go_wp2_with (go_at_call 134;refine C.out.mono ?_;rintro e w' ⟨rfl,rfl⟩)
    go_roundw
    case rel =>
     have ee:(b*m+carry1 a m) / 18446744073709551616=hi:=by rcases E4.out with h|h<;>omega
     have e3:=E3.out
     refine⟨HBEL.out.setCell (Nat.le_refl _) _,HRES.out.other HARR.out (by omega) _ _,.inr (.inr (.inl ⟨rfl,by show _=cU ((b*m+carry1 a m) / 18446744073709551616);rw[ee],?_⟩))⟩
     rw[e3]
     exact HARR.out.set1 r
    case measure=>simp[intOf]
  ·obtain⟨rfl,rfl,harr⟩:=h
   obtain⟨q0,q1,q2,q3⟩:=harr.cells
   have qf:=harr.free
   have HARR:=hideW harr
   have HRES:=hideW hres
   have HBEL:=hideW hbel
   clear harr hres hbel
   have hcl:=carry2_lt ha hb hm
   obtain⟨cy,hcy⟩:=exq (carry2 a b m)
   rw[<-hcy] at hcl ⊢
   obtain⟨lo,hi,r,e1,e2,e3,hw,l1,l2,l3,hcase⟩:=round_words hc hm hcl
   have C:=hideW (product_any c m wr hc hm)
   rw[<-e1,<-e2] at C
   have E3:Hid (out2 a b c m=r):=by rw[e3,hcy];rfl
   have E4:Hid ((lo<=r/\hi=(c*m+carry2 a b m) / 18446744073709551616)\/(r<lo/\hi+1=(c*m+carry2 a b m) / 18446744073709551616)):=by rw[<-hcy];exact hcase
   clear e1 e2 e3 hcy hcase
   rcases Nat.lt_or_ge r lo with g1|g1
   ·go_wp2_with (go_at_call 134;refine C.out.mono ?_;rintro e w' ⟨rfl,rfl⟩)
    go_roundw
    case rel =>
     have ee:(c*m+carry2 a b m) / 18446744073709551616=hi+1:=by rcases E4.out with h|h<;>omega
     have e3:=E3.out
     refine⟨HBEL.out.setCell (Nat.le_refl _) _,HRES.out.other HARR.out (by omega) _ _,.inr (.inr (.inr (.inl ⟨rfl,by show _=cU ((c*m+carry2 a b m) / 18446744073709551616);rw[ee];simp[cU],?_⟩)))⟩
     rw[e3]
     exact HARR.out.set2 r
    case measure=>simp[intOf]
   ·go_wp2_with (go_at_call 134;refine C.out.mono ?_;rintro e w' ⟨rfl,rfl⟩)
    go_roundw
    case rel =>
     have ee:(c*m+carry2 a b m) / 18446744073709551616=hi:=by rcases E4.out with h|h<;>omega
     have e3:=E3.out
     refine⟨HBEL.out.setCell (Nat.le_refl _) _,HRES.out.other HARR.out (by omega) _ _,.inr (.inr (.inr (.inl ⟨rfl,by show _=cU ((c*m+carry2 a b m) / 18446744073709551616);rw[ee],?_⟩)))⟩
     rw[e3]
     exact HARR.out.set2 r
    case measure=>simp[intOf]
  ·obtain⟨rfl,rfl,harr⟩:=h
   obtain⟨q0,q1,q2,q3⟩:=harr.cells
   have qf:=harr.free
   have HARR:=hideW harr
   have HRES:=hideW hres
   have HBEL:=hideW hbel
   clear harr hres hbel
   have hcl:=carry3_lt ha hb hc hm
   obtain⟨cy,hcy⟩:=exq (carry3 a b c m)
   rw[<-hcy] at hcl ⊢
   obtain⟨lo,hi,r,e1,e2,e3,hw,l1,l2,l3,hcase⟩:=round_words hd hm hcl
   have C:=hideW (product_any d m wr hd hm)
   rw[<-e1,<-e2] at C
   have E3:Hid (out3 a b c d m=r):=by rw[e3,hcy];rfl
   have E4:Hid ((lo<=r/\hi=(d*m+carry3 a b c m) / 18446744073709551616)\/(r<lo/\hi+1=(d*m+carry3 a b c m) / 18446744073709551616)):=by rw[<-hcy];exact hcase
   clear e1 e2 e3 hcy hcase
   rcases Nat.lt_or_ge r lo with g1|g1
   ·go_wp2_with (go_at_call 134;refine C.out.mono ?_;rintro e w' ⟨rfl,rfl⟩)
    go_roundw
    case rel =>
     have ee:(d*m+carry3 a b c m) / 18446744073709551616=hi+1:=by rcases E4.out with h|h<;>omega
     have e3:=E3.out
     refine⟨HBEL.out.setCell (Nat.le_refl _) _,HRES.out.other HARR.out (by omega) _ _,.inr (.inr (.inr (.inr ⟨rfl,?_⟩)))⟩
     rw[e3]
     exact HARR.out.set3 r
    case measure=>simp[intOf]
   ·go_wp2_with (go_at_call 134;refine C.out.mono ?_;rintro e w' ⟨rfl,rfl⟩)
    go_roundw
    case rel =>
     have ee:(d*m+carry3 a b c m) / 18446744073709551616=hi:=by rcases E4.out with h|h<;>omega
     have e3:=E3.out
     refine⟨HBEL.out.setCell (Nat.le_refl _) _,HRES.out.other HARR.out (by omega) _ _,.inr (.inr (.inr (.inr ⟨rfl,?_⟩)))⟩
     rw[e3]
     exact HARR.out.set3 r
    case measure=>simp[intOf]
  ·obtain⟨rfl,harr⟩:=h
   obtain⟨q0,q1,q2,q3⟩:=harr.cells
   obtain⟨r0,r1,r2,r3⟩:=hres.cells
   have rf:=hres.free
   have hz:=lt_of_cellW r0
   have HBEL:=hideW hbel
   clear harr hres hbel HAT
   go_wp2
   exact bodyPost_ret (v:=wideV (out0 a m) (out1 a b m) (out2 a b c m) (out3 a b c d m)) (by simp[results,Tryz.results148,go_sem,r0,r1,r2,r3]) rfl ⟨rfl,four_below HBEL.out (Nat.le_succ _) _ _ _ _⟩
end Go.Proofs.YtbbehmcekbnkiaaGreat.Shr

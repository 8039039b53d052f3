import Derived.Test.YtbbehmcekbnkiaaGreatRatiot
import Derived.Deep.CutBlock
namespace Go.Proofs.YtbbehmcekbnkiaaGreat.Shr
set_option maxHeartbeats 2000000
set_option maxRecDepth 100000
open Go.RowKit
set_option linter.unusedVariables false
set_option linter.unusedSimpArgs false
theorem bitLen_bounds:∀x:Nat,x≠0->x<18446744073709551616->1<=Lib.bitLen x/\2 ^ (Lib.bitLen x-1)<=x/\x<2 ^ Lib.bitLen x:=by
 intro x
 induction x using Nat.strongRecOn with
 | _ x ih =>
  intro h0 h1
  have hh:=Lib.bitLen_half x h0 h1
  by_cases h2:x / 2=0
  ·have hx:x=1:=by omega
   subst hx
   decide
  ·obtain⟨i1,i2,i3⟩:=ih (x / 2) (by omega) h2 (by omega)
   rw[hh]
   generalize Lib.bitLen (x / 2)=L at *
   obtain⟨k,rfl⟩:∃k,L=k+1:=⟨L-1,by omega⟩
   refine⟨by omega,?_,?_⟩
   ·rw[show 1+(k+1)-1=k+1 by omega,Nat.pow_succ]
    rw[show k+1-1=k by omega] at i2
    omega
   ·rw[show 1+(k+1)=(k+1)+1 by omega,Nat.pow_succ]
    omega
theorem norm_facts {y:Nat}(h0:0<y)(h1:y<18446744073709551616):∃s t:Nat,s<=63/\s+t=64/\(64-(Lib.bitLen y:Int))=(s:Int)/\9223372036854775808<=y*2 ^ s/\y*2 ^ s<18446744073709551616:=by
 obtain⟨i1,i2,i3⟩:=bitLen_bounds y (by omega) h1
 have hL:Lib.bitLen y<=64:=Lib.bitLen_le y 64 (by decide) (by simpa using h1)
 generalize Lib.bitLen y=L at *
 refine⟨64-L,L,by omega,by omega,by omega,?_,?_⟩
 ·have:=Nat.mul_le_mul_right (2 ^ (64-L)) i2
  rw[<-Nat.pow_add,show L-1+(64-L)=63 by omega] at this
  exact this
 ·have:=Nat.mul_lt_mul_of_pos_right i3 (show 0<2 ^ (64-L) from Nat.pow_pos (by decide))
  rw[<-Nat.pow_add,show L+(64-L)=64 by omega] at this
  exact this
theorem div_names (hi lo y s t:Nat)(hs:s<=63)(hst:s+t=64)(hhy:hi<y)(hl:lo<18446744073709551616)(hY1:9223372036854775808<=y*2 ^ s)(hY2:y*2 ^ s<18446744073709551616) :
 ∃Y H G U V yn1 yn0 un1 un0:Nat,IntKind.u64.wrap ((y:Int)*2 ^ s)=(Y:Int)/\IntKind.u64.wrap ((hi:Int)*2 ^ s)=(H:Int)/\(lo:Int) / 2 ^ t=(G:Int)/\bits BinOp.or .u64 (H:Int) (G:Int)=(U:Int)/\IntKind.u64.wrap ((lo:Int)*2 ^ s)=(V:Int)/\
  (Y:Int) / 4294967296=(yn1:Int)/\bits BinOp.and .u64 (Y:Int) 4294967295=(yn0:Int)/\(V:Int) / 4294967296=(un1:Int)/\bits BinOp.and .u64 (V:Int) 4294967295=(un0:Int)/\
  Y=y*2 ^ s/\Y=yn1*4294967296+yn0/\2147483648<=yn1/\yn1<4294967296/\yn0<4294967296/\un1<4294967296/\un0<4294967296/\U<Y/\(U*4294967296+un1)*4294967296+un0=(hi*18446744073709551616+lo)*2 ^ s:=by
 have h2s:0<2 ^ s:=Nat.pow_pos (by decide)
 have hH:hi*2 ^ s+2 ^ s<=y*2 ^ s:=by
  have:=Nat.mul_le_mul_right (2 ^ s) (show hi+1<=y by omega)
  rw[Nat.add_mul,Nat.one_mul] at this
  exact this
 have h2t:0<2 ^ t:=Nat.pow_pos (by decide)
 have hpw:2 ^ s*2 ^ t=18446744073709551616:=by rw[<-Nat.pow_add,hst]
 have hG:lo / 2 ^ t<2 ^ s:=by
  rw[Nat.div_lt_iff_lt_mul h2t,hpw]
  exact hl
 have c1:(2:Int) ^ s=((2 ^ s:Nat):Int):=by simp
 have c2:(2:Int) ^ t=((2 ^ t:Nat):Int):=by simp
 have cut:(hi*18446744073709551616+lo)*2 ^ s=(hi*2 ^ s+lo / 2 ^ t)*18446744073709551616+lo*2 ^ s % 18446744073709551616:=by
  have d1:=Nat.div_add_mod (lo*2 ^ s) 18446744073709551616
  have d2:lo*2 ^ s / 18446744073709551616=lo / 2 ^ t:=by
   rw[<-hpw,Nat.mul_comm (2 ^ s) (2 ^ t)]
   exact Nat.mul_div_mul_right _ _ h2s
  rw[d2] at d1
  rw[Nat.add_mul,Nat.add_mul,Nat.mul_right_comm]
  omega
 generalize hP:2 ^ s=P at *
 have hmodP:hi*P % P=0:=Nat.mul_mod_left hi P
 generalize hA:hi*P=A at *
 generalize hB:y*P=B at *
 generalize hC:lo*P=C at *
 generalize hD:lo / 2 ^ t=E at *
 refine⟨B,A,E,A+E,C % 18446744073709551616,B / 4294967296,B % 4294967296,C % 18446744073709551616 / 4294967296,C % 18446744073709551616 % 4294967296,?_,?_,?_,?_,?_,?_,?_,?_,?_,rfl,by omega,by omega,by omega,by omega,by omega,by omega,by omega,?_⟩
 ·rw[c1,<-Int.natCast_mul,hB,IntWalk.u64_in _ (by omega)]
 ·rw[c1,<-Int.natCast_mul,hA,IntWalk.u64_in _ (by omega)]
 ·rw[c2,<-Int.natCast_ediv,hD]
 ·rw[bits_join .u64 64 (by decide) (fun n h0 h1=>by rw[IntWalk.u64_in n ⟨h0,by simpa using Int.le_sub_one_of_lt h1⟩]) s (A:Int) (E:Int) (by omega) (by rw[c1];omega) (by simp;omega) (by omega) (by rw[c1];omega) (by simp;omega)]
  simp
 ·rw[c1,<-Int.natCast_mul,hC,IntKind.wrap_u64]
  simp
 ·simp
 ·rw[and_low32 _ (by omega) (by omega)]
  simp
 ·simp
 ·rw[and_low32 _ (by omega) (by omega)]
  simp
 ·omega
theorem digit_start (U yn1:Nat)(hU:U<18446744073709551616)(h0:0<yn1):IntKind.u64.wrap ((U:Int) / (yn1:Int))=((U / yn1:Nat):Int)/\
 IntKind.u64.wrap ((U:Int)-IntKind.u64.wrap (((U / yn1:Nat):Int)*(yn1:Int)))=((U % yn1:Nat):Int):=by
 constructor
 ·have:=Nat.div_le_self U yn1
  rw[<-Int.natCast_ediv]
  generalize U / yn1=d at *
  rw[IntWalk.u64_in _ (by omega)]
 ·have h1:=Nat.div_add_mod U yn1
  rw[Nat.mul_comm] at h1
  rw[<-Int.natCast_mul]
  generalize U / yn1*yn1=d at *
  generalize U % yn1=m at *
  rw[IntWalk.u64_in (d:Int) (by omega),IntWalk.u64_in _ (by omega)]
  omega
theorem digit_rest (U v T Y R:Nat)(h:U*4294967296+v=T*Y+R)(hR:R<18446744073709551616) :
 IntKind.u64.wrap (IntKind.u64.wrap (IntKind.u64.wrap ((U:Int)*4294967296)+(v:Int))-IntKind.u64.wrap ((T:Int)*(Y:Int)))=(R:Int):=by
 rw[<-Int.natCast_mul]
 generalize T*Y=d at *
 simp only[IntKind.wrap_u64]
 omega
theorem div_back {V y s Q R:Nat}(h:V*2 ^ s=Q*(y*2 ^ s)+R)(hR:R<y*2 ^ s):V / y=Q/\V % y=R / 2 ^ s:=by
 have h2s:0<2 ^ s:=Nat.pow_pos (by decide)
 obtain⟨q1,q2⟩:=DivN.quot_of h hR
 rw[Nat.mul_div_mul_right _ _ h2s] at q1
 rw[Nat.mul_mod_mul_right] at q2
 refine⟨q1,?_⟩
 rw[<-q2,Nat.mul_div_cancel _ h2s]
theorem div_high (hi lo y:Nat)(hh:0<hi)(hhy:hi<y)(hl:lo<18446744073709551616)(hy':y<18446744073709551616):DivAt hi lo y:=by
 intro w
 obtain⟨s,t,hs,hst,hsz,hY1,hY2⟩:=norm_facts (show 0<y by omega) hy'
 have Z:=hideR (fun w=>zeros_any (y:Int) w (by omega) (by omega))
 rw[Int.toNat_natCast,hsz] at Z
 clear hsz
 obtain⟨Y,H,G,U,V,yn1,yn0,un1,un0,e1,e2,e3,e4,e5,e6,e7,e8,e9,f1,f2,f3,f4,f5,f6,f7,f8,f9⟩:=div_names hi lo y s t hs hst hhy hl hY1 hY2
 have hi0:((hi:Int) == 0)=false:=by simp;omega
 have hy0:((y:Int) == 0)=false:=by simp;omega
 have hyh:¬(y:Int)<=(hi:Int):=by omega
 have ht:(64:Int)-(s:Int)=(t:Int):=by omega
 have hn0:((yn1:Int) == 0)=false:=by simp;omega
 have F1:=hideR f1
 have F2:=hideR f2
 have F9:=hideR f9
 obtain⟨g1,g2⟩:=digit_start U yn1 (by omega) (by omega)
 have G1:=hideR g1
 have G2:=hideR g2
 clear g1 g2
 clear f1 f2 f9 hY1 hY2
 have hU:U<yn1*4294967296+yn0:=by rw[<-F2.out];exact f8
 have HU:=hideR hU
 obtain⟨T1,t1⟩:=exq (DivN.digit U un1 (yn1*4294967296+yn0))
 obtain⟨R1,r1⟩:=exq ((U*4294967296+un1) % (yn1*4294967296+yn0))
 have hT1:T1<4294967296:=by rw[t1];exact DivN.top_lt hU f6
 have hR1:R1<yn1*4294967296+yn0:=by rw[r1];exact Nat.mod_lt _ (by omega)
 have k1:U*4294967296+un1=T1*Y+R1:=by
  have:=Nat.div_add_mod (U*4294967296+un1) (yn1*4294967296+yn0)
  rw[t1,r1,F2.out,Nat.mul_comm (DivN.digit U un1 (yn1*4294967296+yn0))]
  exact this.symm
 obtain⟨T0,t0⟩:=exq (DivN.digit R1 un0 (yn1*4294967296+yn0))
 obtain⟨R0,r0⟩:=exq ((R1*4294967296+un0) % (yn1*4294967296+yn0))
 have hT0:T0<4294967296:=by rw[t0];exact DivN.top_lt hR1 f7
 have hR0:R0<yn1*4294967296+yn0:=by rw[r0];exact Nat.mod_lt _ (by omega)
 have k0:R1*4294967296+un0=T0*Y+R0:=by
  have:=Nat.div_add_mod (R1*4294967296+un0) (yn1*4294967296+yn0)
  rw[t0,r0,F2.out,Nat.mul_comm (DivN.digit R1 un0 (yn1*4294967296+yn0))]
  exact this.symm
 have hYb:yn1*4294967296+yn0<18446744073709551616:=by omega
 have g3:=digit_rest U un1 T1 Y R1 k1 (by omega)
 have g4:=digit_rest R1 un0 T0 Y R0 k0 (by omega)
 obtain⟨g5,g6⟩:=digit_start R1 yn1 (by omega) (by omega)
 have G5:=hideR g5
 have G6:=hideR g6
 have K1:=hideR k1
 have K0:=hideR k0
 have TT1:=hideR t1
 have TT0:=hideR t0
 have HR1:=hideR hR1
 clear t1 r1 t0 r0 k1 k0 g5 g6 hU hR1
 go_enter Tryz.func135,Tryz.ntmps135
 go_wp2_with fail
 refine(Z.out _).mono ?_
 rintro e w1 ⟨rfl,rfl⟩
 go_upto_block 0 with fail
 go_cut [15,16] (fun s15 s16 wc=>s15 = .int .u64 (T1:Int)/\wc=w1)
 case first =>
  go_wp2_with fail
  go_loop [15,16] (fun s15 s16=>∃q r:Nat,s15 = .int .u64 (q:Int)/\s16 = .int .u64 (r:Int)/\r<4294967296/\Hid (DivN.Guess U un1 yn1 yn0 q r)) (fun s15 _=>(intOf s15).toNat)
  case atStart=>exact⟨U / yn1,U % yn1,by rw[G1.out],by rw[G1.out,G2.out],Nat.lt_trans (Nat.mod_lt _ (by omega)) f4,hideR (DivN.guess_init f3 f5 (HU.out) f6)⟩
  case round =>
   clear e1 e2 e3 e4 e5 e6 e7 e8 e9 ht
   obtain⟨q,r,rfl,rfl,hr,HG⟩:=hrel
   have HQB:=hideR HG.out.2.2
   obtain⟨qi,hqi⟩:∃qi:Int,qi=(q:Int):=⟨_,rfl⟩
   obtain⟨ri,hri⟩:∃ri:Int,ri=(r:Int):=⟨_,rfl⟩
   rw[<-hqi,<-hri]
   have HQI:=hideR (And.intro hqi hri)
   have qi0:0<=qi:=by omega
   have qi1:qi<=4294967297:=by have:=HQB.out;omega
   have ri0:0<=ri:=by omega
   have ri1:ri<4294967296:=by omega
   have HR:=hideR hr
   clear hr
   by_cases hq:4294967296<=q
   ·obtain⟨n1,n2,n3⟩:=DivN.guess_next f3 (HU.out) f6 HG.out (.inl hq)
    have HN:=hideR (And.intro n2 (And.intro n3 n1))
    clear n1 n2 n3
    have qi2:4294967296<=qi:=by omega
    clear hq
    by_cases hbr:4294967296<=r+yn1
    ·have HE:=hideR (DivN.guess_break f3 f5 HN.out.1 HN.out.2.1 hbr)
     have bi:4294967296<=ri+(yn1:Int):=by omega
     clear hbr hqi hri
     go_wp2
     go_meet
     case rel=>exact⟨by rw[TT1.out,<-HE.out];have:=HN.out.2.2;have:=HQI.out;congr 1;omega,rfl⟩
    ·have bi:¬4294967296<=ri+(yn1:Int):=by omega
     have bi':ri+(yn1:Int)<4294967296:=by omega
     have HBR:=hideR hbr
     clear hbr hqi hri
     go_wp2
     go_round
     case rel=>exact⟨q-1,r+yn1,by have:=HN.out.2.2;have:=HQI.out;congr 1;omega,by have:=HQI.out;congr 1;omega,by have:=HBR.out;omega,hideR HN.out.1⟩
     case measure=>have:=HN.out.2.2;have:=HQI.out;simp[intOf];omega
   ·have hpr:=half_mul (show q<4294967296 by omega) f5
    have qi2:qi<4294967296:=by omega
    have hpi:qi*(yn0:Int)<=18446744065119617025:=by rw[hqi,<-Int.natCast_mul];omega
    have hpi0:0<=qi*(yn0:Int):=by rw[hqi,<-Int.natCast_mul];omega
    by_cases ht:4294967296*r+un1<q*yn0
    ·obtain⟨n1,n2,n3⟩:=DivN.guess_next f3 (HU.out) f6 HG.out (.inr ht)
     have HN:=hideR (And.intro n2 (And.intro n3 n1))
     clear n1 n2 n3
     have hti:4294967296*ri+(un1:Int)<qi*(yn0:Int):=by rw[hqi,hri,<-Int.natCast_mul];omega
     have qi3:1<=qi:=by have:=HN.out.2.2;omega
     clear ht hpr hq
     by_cases hbr:4294967296<=r+yn1
     ·have HE:=hideR (DivN.guess_break f3 f5 HN.out.1 HN.out.2.1 hbr)
      have bi:4294967296<=ri+(yn1:Int):=by omega
      clear hbr hqi hri
      go_wp2
      go_meet
      case rel=>exact⟨by rw[TT1.out,<-HE.out];have:=HN.out.2.2;have:=HQI.out;congr 1;omega,rfl⟩
     ·have bi:¬4294967296<=ri+(yn1:Int):=by omega
      have bi':ri+(yn1:Int)<4294967296:=by omega
      have HBR:=hideR hbr
      clear hbr hqi hri
      go_wp2
      go_round
      case rel=>exact⟨q-1,r+yn1,by have:=HN.out.2.2;have:=HQI.out;congr 1;omega,by have:=HQI.out;congr 1;omega,by have:=HBR.out;omega,hideR HN.out.1⟩
      case measure=>have:=HN.out.2.2;have:=HQI.out;simp[intOf];omega
    ·have HE:=hideR (DivN.guess_end f3 HG.out (by omega))
     have hti:¬4294967296*ri+(un1:Int)<qi*(yn0:Int):=by rw[hqi,hri,<-Int.natCast_mul];omega
     have htd:decide (4294967296*ri+(un1:Int)<qi*(yn0:Int))=false:=by simp;omega
     clear ht hpr hq hqi hri
     go_wp2
     go_meet
     case rel=>exact⟨by rw[TT1.out,<-HE.out,HQI.out.1],rfl⟩
 case rest =>
  obtain⟨rfl,rfl⟩:=hcut
  go_upto_block 2 with fail
  go_cut [18,16] (fun s18 s16 wd=>s18 = .int .u64 (T0:Int)/\wd=wc)
  case first =>
   go_wp2_with fail
   go_loop [18,16] (fun s15 s16=>∃q r:Nat,s15 = .int .u64 (q:Int)/\s16 = .int .u64 (r:Int)/\r<4294967296/\Hid (DivN.Guess R1 un0 yn1 yn0 q r)) (fun s15 _=>(intOf s15).toNat)
   case atStart=>exact⟨R1 / yn1,R1 % yn1,by rw[G5.out],by rw[G5.out,G6.out],Nat.lt_trans (Nat.mod_lt _ (by omega)) f4,hideR (DivN.guess_init f3 f5 HR1.out f7)⟩
   case round =>
    obtain⟨q,r,rfl,rfl,hr,HG⟩:=hrel
    have HQB:=hideR HG.out.2.2
    obtain⟨qi,hqi⟩:∃qi:Int,qi=(q:Int):=⟨_,rfl⟩
    obtain⟨ri,hri⟩:∃ri:Int,ri=(r:Int):=⟨_,rfl⟩
    rw[<-hqi,<-hri]
    have HQI:=hideR (And.intro hqi hri)
    have qi0:0<=qi:=by omega
    have qi1:qi<=4294967297:=by have:=HQB.out;omega
    have ri0:0<=ri:=by omega
    have ri1:ri<4294967296:=by omega
    have HR:=hideR hr
    clear hr
    by_cases hq:4294967296<=q
    ·obtain⟨n1,n2,n3⟩:=DivN.guess_next f3 HR1.out f7 HG.out (.inl hq)
     have HN:=hideR (And.intro n2 (And.intro n3 n1))
     clear n1 n2 n3
     have qi2:4294967296<=qi:=by omega
     clear hq
     by_cases hbr:4294967296<=r+yn1
     ·have HE:=hideR (DivN.guess_break f3 f5 HN.out.1 HN.out.2.1 hbr)
      have bi:4294967296<=ri+(yn1:Int):=by omega
      clear hbr hqi hri
      go_wp2
      go_meet
      case rel=>exact⟨by rw[TT0.out,<-HE.out];have:=HN.out.2.2;have:=HQI.out;congr 1;omega,rfl⟩
     ·have bi:¬4294967296<=ri+(yn1:Int):=by omega
      have bi':ri+(yn1:Int)<4294967296:=by omega
      have HBR:=hideR hbr
      clear hbr hqi hri
      go_wp2
      go_round
      case rel=>exact⟨q-1,r+yn1,by have:=HN.out.2.2;have:=HQI.out;congr 1;omega,by have:=HQI.out;congr 1;omega,by have:=HBR.out;omega,hideR HN.out.1⟩
      case measure=>have:=HN.out.2.2;have:=HQI.out;simp[intOf];omega
    ·have hpr:=half_mul (show q<4294967296 by omega) f5
     have qi2:qi<4294967296:=by omega
     have hpi:qi*(yn0:Int)<=18446744065119617025:=by rw[hqi,<-Int.natCast_mul];omega
     have hpi0:0<=qi*(yn0:Int):=by rw[hqi,<-Int.natCast_mul];omega
     by_cases ht:4294967296*r+un0<q*yn0
     ·obtain⟨n1,n2,n3⟩:=DivN.guess_next f3 HR1.out f7 HG.out (.inr ht)
      have HN:=hideR (And.intro n2 (And.intro n3 n1))
      clear n1 n2 n3
      have hti:4294967296*ri+(un0:Int)<qi*(yn0:Int):=by rw[hqi,hri,<-Int.natCast_mul];omega
      have qi3:1<=qi:=by have:=HN.out.2.2;omega
      clear ht hpr hq
      by_cases hbr:4294967296<=r+yn1
      ·have HE:=hideR (DivN.guess_break f3 f5 HN.out.1 HN.out.2.1 hbr)
       have bi:4294967296<=ri+(yn1:Int):=by omega
       clear hbr hqi hri
       go_wp2
       go_meet
       case rel=>exact⟨by rw[TT0.out,<-HE.out];have:=HN.out.2.2;have:=HQI.out;congr 1;omega,rfl⟩
      ·have bi:¬4294967296<=ri+(yn1:Int):=by omega
       have bi':ri+(yn1:Int)<4294967296:=by omega
       have HBR:=hideR hbr
       clear hbr hqi hri
       go_wp2
       go_round
       case rel=>exact⟨q-1,r+yn1,by have:=HN.out.2.2;have:=HQI.out;congr 1;omega,by have:=HQI.out;congr 1;omega,by have:=HBR.out;omega,hideR HN.out.1⟩
       case measure=>have:=HN.out.2.2;have:=HQI.out;simp[intOf];omega
     ·have HE:=hideR (DivN.guess_end f3 HG.out (by omega))
      have hti:¬4294967296*ri+(un0:Int)<qi*(yn0:Int):=by rw[hqi,hri,<-Int.natCast_mul];omega
      have htd:decide (4294967296*ri+(un0:Int)<qi*(yn0:Int))=false:=by simp;omega
      clear ht hpr hq hqi hri
      go_wp2
      go_meet
      case rel=>exact⟨by rw[TT0.out,<-HE.out,HQI.out.1],rfl⟩
  case rest =>
   obtain⟨rfl,rfl⟩:=hcut
   have hfin:=DivN.two_digits (y:=Y) (q1:=T1) (r1:=R1) (q0:=T0) (r0:=R0) (u:=U) (v1:=un1) (v0:=un0) (by rw[Nat.mul_comm];exact K1.out.symm) (by rw[Nat.mul_comm];exact K0.out.symm)
   rw[F9.out] at hfin
   have hlast:=div_back (V:=hi*18446744073709551616+lo) (y:=y) (s:=s) (by rw[<-F1.out];exact hfin) (by rw[<-F1.out,F2.out];exact hR0)
   have HL:=hideR hlast
   clear hfin hlast
   go_wp2
   go_ret2
   exact⟨ret2u (by rw[HL.out.1];simp) (by rw[HL.out.2];simp),Below.refl _ _⟩
def top (xs:List Int):Nat:=if xs.getD 3 0≠0 then 3 else if xs.getD 2 0≠0 then 2 else if xs.getD 1 0≠0 then 1 else 0
theorem top_le (xs:List Int):top xs<=3:=by unfold top;split<;>(try split)<;>(try split)<;>omega
def cutN (want a have_:Int):Nat:=BigN.near want.natAbs a.natAbs have_.natAbs 1152921504606846976
def cut (want a have_:Int):Int:=if a<0 then -(cutN want a have_:Int) else (cutN want a have_:Int)
theorem cutN_le (want a have_:Int):cutN want a have_<=1152921504606846976:=BigN.part_le _ _ _
theorem cut_le (want a have_:Int) : -1152921504606846976<=cut want a have_/\cut want a have_<=1152921504606846976:=by
 have:=cutN_le want a have_
 unfold cut
 split<;>omega
theorem min_near (a b c:Nat):min (BigN.near a b c (1152921504606846976+1)) 1152921504606846976=BigN.near a b c 1152921504606846976:=by
 unfold BigN.near BigN.part
 split<;>omega
theorem div_all (hi lo y:Nat)(hhy:hi<y)(hl:lo<18446744073709551616)(hy':y<18446744073709551616):DivAt hi lo y:=by
 by_cases h:hi=0
 ·subst h
  exact div_zero lo y hl hhy hy'
 ·exact div_high hi lo y (by omega) hhy hl hy'
theorem scaledCut_any (x num den:Int)(w:World)(hx1:0<x)(hx2:x<=9223372036854775807)(hn1 : -9223372036854775808<=num)(hn2:num<=9223372036854775807)(hd1:0<den)(hd2:den<=9223372036854775807) :
 Calls Tryz.prog 119 #[.int .i64 x,.int .i64 num,.int .i64 den,.int .i64 1152921504606846976] w fun e w'=>(∃b,e = .returned (.tuple #[.int .i64 (cut x num den),.bool b]))/\Below w.heap.size w w':=by
 refine(scaled_any x num den 1152921504606846976 w (by omega) hx2 hn1 hn2 (by omega) hd2 (by omega) (Nat.le_refl _) (fun h=>div_all _ _ _ h (Nat.mod_lt _ (by decide)) (by omega))).mono ?_
 rintro e w' ⟨rfl,hb⟩
 have hneg:negB x num den=decide (num<0):=by
  have h1:decide (x<0)=false:=decide_eq_false (by omega)
  have h2:decide (den<0)=false:=decide_eq_false (by omega)
  unfold negB
  rw[h1,h2]
  cases decide (num<0)<;>rfl
 have hv:(if negB x num den=true then -((min (scaleN x.natAbs num.natAbs den.natAbs 1152921504606846976) 1152921504606846976:Nat):Int) else ((min (scaleN x.natAbs num.natAbs den.natAbs 1152921504606846976) 1152921504606846976:Nat):Int))=cut x num den:=by
  rw[hneg]
  unfold scaleN
  rw[min_near]
  unfold cut cutN
  by_cases h:num<0<;>simp[h]
 exact⟨⟨_,by rw[hv]⟩,hb⟩
theorem retI {a b:Int}(h:a=b):Ending.returned (Value.int .i64 a)=Ending.returned (Value.int .i64 b):=by rw[h]
theorem specAbs_any (x:Int)(w:World)(h1 : -9223372036854775808<=x)(h2:x<=9223372036854775807) :
 Calls Tryz.prog 128 #[.int .i64 x] w fun e w'=>e = .returned (.int .u64 ((x.natAbs:Nat):Int))/\w'=w:=by
 by_cases h:x<0
 ·have e:((x.natAbs:Nat):Int) = -(x+1)+1:=by omega
  rw[e]
  clear e
  go_enter Tryz.func128,Tryz.ntmps128
  go_wp2
  go_ret
  exact⟨rfl,rfl⟩
 ·have e:((x.natAbs:Nat):Int)=x:=by omega
  rw[e]
  clear e
  go_enter Tryz.func128,Tryz.ntmps128
  go_wp2
  go_ret
  exact⟨rfl,rfl⟩
theorem specCut_any (x num den:Int)(w:World)(hx1:0<x)(hx2:x<=9223372036854775807)(hn1 : -9223372036854775807<=num)(hn2:num<=9223372036854775807)(hd1:0<den)(hd2:den<=9223372036854775807) :
 Calls Tryz.prog 114 #[.int .i64 x,.int .i64 num,.int .i64 den] w fun e w'=>e = .returned (.int .i64 (cut x num den))/\Below w.heap.size w w':=by
 have hwx:IntKind.u64.wrap x=x:=by rw[IntKind.wrap_u64];omega
 have hwd:IntKind.u64.wrap den=den:=by rw[IntKind.wrap_u64];omega
 have hnear:=fun W=>near_any x.natAbs num.natAbs den.natAbs 1152921504606846976 W (by omega) (by omega) (by omega) (by omega)
 rw[show ((x.natAbs:Nat):Int)=x by omega,show ((den.natAbs:Nat):Int)=den by omega] at hnear
 have HN:Hid (∀W,Calls Tryz.prog 127 #[.int .u64 x,.int .u64 ((num.natAbs:Nat):Int),.int .u64 den,.int .u64 ((1152921504606846976:Nat):Int)] W fun e w'=>e = .returned (.int .u64 ((BigN.near x.natAbs num.natAbs den.natAbs 1152921504606846976:Nat):Int))/\Below W.heap.size W w'):=hnear
 clear hnear
 obtain⟨c,hc⟩:=exq (cutN x num den)
 have hcl:c<=1152921504606846976:=by rw[hc];exact cutN_le _ _ _
 obtain⟨ci,hci⟩:∃ci:Int,ci=(c:Int):=⟨_,rfl⟩
 have hci0:0<=ci:=by omega
 have hci1:ci<=1152921504606846976:=by omega
 have hwc:IntKind.i64.wrap ci=ci:=by rw[IntKind.wrap_i64];omega
 have HC:Hid (ci=((cutN x num den:Nat):Int)):=hci.trans (by rw[hc])
 clear hc hci hcl
 have hneg2 : -ci<=0:=by omega
 go_enter Tryz.func114,Tryz.ntmps114
 go_wp2_with fail
 refine(specAbs_any num _ (by omega) hn2).mono ?_
 rintro e w1 ⟨rfl,hw1⟩
 have hw1':=hw1.symm
 clear hw1
 subst hw1'
 go_wp2_with fail
 refine(HN _).mono ?_
 rintro e w2 ⟨rfl,hb2⟩
 rw[show ((BigN.near x.natAbs num.natAbs den.natAbs 1152921504606846976:Nat):Int)=ci from(show ci=((cutN x num den:Nat):Int) from HC).symm]
 have HB:Hid (Below w.heap.size w w2):=hb2
 clear hb2
 by_cases h:num<0
 ·go_wp2
  go_ret
  refine⟨?_,HB⟩
  unfold cut
  rw[if_pos h,<-show ci=((cutN x num den:Nat):Int) from HC]
  rfl
 ·go_wp2
  go_ret
  refine⟨?_,HB⟩
  unfold cut
  rw[if_neg (by omega),<-show ci=((cutN x num den:Nat):Int) from HC]
  rfl
theorem specTop_any {v:Value}{xs:List Int}{w:World}(h:Row w v xs)(hl:xs.length=4):Calls Tryz.prog 112 #[v] w fun e w'=>e = .returned (.int .i64 (top xs:Int))/\w'=w:=by
 obtain⟨ao,n,cap,rfl,hn,hr⟩:=h
 obtain rfl:n=4:=by omega
 obtain⟨b,off,rfl,hb,hc⟩:=hr (by omega)
 have HC:Hid (∀i,i<4->w.cell? ⟨b,off+i,none⟩=some (.int .i64 (xs.getD i 0))):=hc
 clear hc hr hn hl
 go_enter Tryz.func112,Tryz.ntmps112
 go_wp2
 go_loop [3] (fun i=>∃k:Nat,k<=3/\i = .int .i64 k/\∀j,k<j->j<=3->xs.getD j 0=0) (fun i=>(intOf i).toNat)
 case atStart=>exact⟨3,by omega,rfl,fun j h1 h2=>by omega⟩
 case round =>
  obtain⟨k,hk,rfl,hz⟩:=hrel
  have HZ:Hid (∀j,k<j->j<=3->xs.getD j 0=0):=hz
  clear hz
  by_cases hk0:0<k
  ·have hki:(0:Int)<(k:Int):=by omega
   have hk4:(k:Int)<4:=by omega
   obtain⟨z,hz⟩:=exq (xs.getD k 0)
   have hcell:w.cell? ⟨b,off+k,none⟩=some (.int .i64 z):=by rw[hz];exact HC k (by omega)
   have HZZ:Hid (z=xs.getD k 0):=hz
   clear hz
   by_cases hz0:z=0
   ·go_wp2
    go_round
    case rel =>
     refine⟨k-1,by omega,?_,fun j h1 h2=>?_⟩
     ·rw[show (((k-1:Nat)):Int)=(k:Int)-1 by omega]
     ·by_cases hjk:j=k
      ·subst hjk;rw[<-show z=xs.getD j 0 from HZZ];exact hz0
      ·exact HZ j (by omega) h2
    case measure=>simp[intOf];omega
   ·go_wp2
    go_ret
    refine⟨retI ?_,rfl⟩
    have hne:xs.getD k 0≠0:=by rw[<-show z=xs.getD k 0 from HZZ];exact hz0
    have:top xs=k:=by
     unfold top
     rcases (show k=1\/k=2\/k=3 by omega) with rfl|rfl|rfl
     ·rw[if_neg (by rw[HZ 3 (by omega) (by omega)];simp),if_neg (by rw[HZ 2 (by omega) (by omega)];simp),if_pos hne]
     ·rw[if_neg (by rw[HZ 3 (by omega) (by omega)];simp),if_pos hne]
     ·rw[if_pos hne]
    rw[this]
  ·obtain rfl:k=0:=by omega
   go_wp2
   go_ret
   refine⟨retI ?_,rfl⟩
   have:top xs=0:=by
    unfold top
    rw[if_neg (by rw[HZ 3 (by omega) (by omega)];simp),if_neg (by rw[HZ 2 (by omega) (by omega)];simp),if_neg (by rw[HZ 1 (by omega) (by omega)];simp)]
   rw[this]
   rfl
theorem highest_any (a0 a1 a2 a3:Int)(w:World):Calls Tryz.prog 131 #[.agg #[.int .i64 a0,.int .i64 a1,.int .i64 a2,.int .i64 a3]] w fun e w' =>
 e = .returned (.tuple #[.int .i64 (top [a0,a1,a2,a3]:Int),.int .i64 (([a0,a1,a2,a3]:List Int).getD (top [a0,a1,a2,a3]) 0)])/\Below w.heap.size w w':=by
 obtain⟨xs,hxs⟩:∃xs:List Int,xs=[a0,a1,a2,a3]:=⟨_,rfl⟩
 have hc:∀i,i<4->(w.alloc (.cells #[.int .i64 a0,.int .i64 a1,.int .i64 a2,.int .i64 a3] 197)).cell? ⟨w.heap.size,i,none⟩=some (.int .i64 (xs.getD i 0)):=by
  intro i hi
  rw[hxs,cell_of_row _ w.heap.size i _ 197 (0,0) (heap_alloc_new w _)]
  rcases (show i=0\/i=1\/i=2\/i=3 by omega) with rfl|rfl|rfl|rfl<;>rfl
 rw[<-hxs]
 have HC:Hid (∀i,i<4->(w.alloc (.cells #[.int .i64 a0,.int .i64 a1,.int .i64 a2,.int .i64 a3] 197)).cell? ⟨w.heap.size,i,none⟩=some (.int .i64 (xs.getD i 0))):=hc
 clear hc hxs
 have HB:Hid (Below w.heap.size w (w.alloc (.cells #[.int .i64 a0,.int .i64 a1,.int .i64 a2,.int .i64 a3] 197)).drew):=((Below.refl _ _).alloc (Nat.le_refl _) _).drew
 go_enter Tryz.func131,Tryz.ntmps131
 go_wp2
 obtain⟨W,hW⟩:=exq (w.alloc (.cells #[.int .i64 a0,.int .i64 a1,.int .i64 a2,.int .i64 a3] 197))
 rw[<-hW]
 have HC2:Hid (∀i,i<4->W.cell? ⟨w.heap.size,i,none⟩=some (.int .i64 (xs.getD i 0))):=by rw[hW];exact HC
 have HB2:Hid (Below w.heap.size w W.drew):=by rw[hW];exact HB
 clear HC HB hW
 go_loop [2] (fun i=>∃k:Nat,k<=3/\i = .int .i64 k/\∀j,k<j->j<=3->xs.getD j 0=0) (fun i=>(intOf i).toNat)
 case atStart=>exact⟨3,by omega,rfl,fun j h1 h2=>by omega⟩
 case round =>
  obtain⟨k,hk,rfl,hz⟩:=hrel
  have HZ:Hid (∀j,k<j->j<=3->xs.getD j 0=0):=hz
  clear hz
  have hk4:(k:Int)<4:=by omega
  obtain⟨z,hz⟩:=exq (xs.getD k 0)
  have hcell:W.cell? ⟨w.heap.size,k,none⟩=some (.int .i64 z):=by rw[hz];exact HC2 k (by omega)
  have HZZ:Hid (z=xs.getD k 0):=hz
  clear hz
  have fin:(k=0\/z≠0)->Hid (top xs=k):=by
   intro hor
   have hne:k≠0->xs.getD k 0≠0:=fun h0=>by rw[<-show z=xs.getD k 0 from HZZ];exact hor.resolve_left h0
   show top xs=k
   unfold top
   rcases (show k=0\/k=1\/k=2\/k=3 by omega) with rfl|rfl|rfl|rfl
   ·rw[if_neg (by rw[HZ 3 (by omega) (by omega)];simp),if_neg (by rw[HZ 2 (by omega) (by omega)];simp),if_neg (by rw[HZ 1 (by omega) (by omega)];simp)]
   ·rw[if_neg (by rw[HZ 3 (by omega) (by omega)];simp),if_neg (by rw[HZ 2 (by omega) (by omega)];simp),if_pos (hne (by omega))]
   ·rw[if_neg (by rw[HZ 3 (by omega) (by omega)];simp),if_pos (hne (by omega))]
   ·rw[if_pos (hne (by omega))]
  by_cases hk0:0<k
  ·have hki:(0:Int)<(k:Int):=by omega
   by_cases hz0:z=0
   ·clear fin
    go_wp2
    go_round
    case rel =>
     refine⟨k-1,by omega,?_,fun j h1 h2=>?_⟩
     ·rw[show (((k-1:Nat)):Int)=(k:Int)-1 by omega]
     ·by_cases hjk:j=k
      ·subst hjk;rw[<-show z=xs.getD j 0 from HZZ];exact hz0
      ·exact HZ j (by omega) h2
    case measure=>simp[intOf];omega
   ·have FIN:=fin (Or.inr hz0)
    clear fin
    go_wp2
    go_region
    all_goals(try go_wp2)
    all_goals go_ret2
    all_goals
     refine⟨?_,HB2⟩
     rw[show top xs=k from FIN,<-show z=xs.getD k 0 from HZZ]
     rfl
  ·have FIN:=fin (Or.inl (by omega))
   clear fin
   have hki:¬(0:Int)<(k:Int):=by omega
   go_wp2
   go_region
   all_goals(try go_wp2)
   all_goals go_ret2
   all_goals
    refine⟨?_,HB2⟩
    rw[show top xs=k from FIN,<-show z=xs.getD k 0 from HZZ]
    rfl
structure Sett where
 sign:Int
 order:Int
 want:Int
 have_:Int
 bad:Int
 over:Int
abbrev setV (a b c d e f:Int):Value:= .agg #[.int .i64 a,.int .i64 b,.int .i64 c,.int .i64 d,.int .i64 e,.int .i64 f]
theorem boundBad_any (a b c d e f:Int)(w:World)(hc:c<=9223372036854775807)(hd:d<=9223372036854775807) :
 Calls Tryz.prog 132 #[setV a b c d e f] w fun e' w'=>e' = .returned (.int .i64 (if 0<b then 0 else badV c d))/\Below w.heap.size w w':=by
 by_cases h:0<b
 ·rw[if_pos h]
  go_enter Tryz.func132,Tryz.ntmps132
  go_wp2
  go_ret
  exact⟨rfl,(Below.refl _ _).alloc (Nat.le_refl _) _⟩
 ·rw[if_neg h]
  go_enter Tryz.func132,Tryz.ntmps132
  go_wp2_with fail
  refine(implBad_any c d _ hc hd).mono ?_
  rintro e' w2 ⟨rfl,hb2⟩
  have HB:Hid (Below w.heap.size w w2):=((Below.refl _ _).alloc (Nat.le_refl _) _).trans (hb2.mono (by simp))
  clear hb2
  go_wp2
  go_ret
  exact⟨rfl,HB⟩
end Go.Proofs.YtbbehmcekbnkiaaGreat.Shr

import Derived.Test.YtbbehmcekbnkiaaGreatShq
import Derived.Test.YtbbehmcekbnkiaaGreatPlc
import Derived.Test.YtbbehmcekbnkiaaGreatSms
import Derived.Test.YtbbehmcekbnkiaaGreatSpq
import Derived.Test.YtbbehmcekbnkiaaGreatDlp
import Derived.Test.YtbbehmcekbnkiaaGreatBsl
import Derived.Test.YtbbehmcekbnkiaaGreatFni
namespace Go.Proofs.YtbbehmcekbnkiaaGreat
open Go.RowKit
set_option linter.unusedVariables false
set_option linter.unusedSimpArgs false
theorem sp_shp {base n:Nat} {w:World} {v:Value} {xs:List Value} (h:w.ownsRow base 47 6 v n xs):∃a c,v = .slice a n c:=by
 obtain⟨hl,⟨rfl,rfl⟩ | ⟨g,cap,cur,rfl,_⟩⟩:=h
 ·exact⟨none,0,rfl⟩
 ·exact⟨_,_,rfl⟩
theorem sp_some {base n:Nat} {w:World} {v:Value} {xs:List Value} (h:w.ownsRow base 47 6 v n xs) (hn:0<n):∃g c,v = .slice (some ⟨g,0,none⟩) n c∧base≤g∧g<w.heap.size∧∃cur,w.heap[g]? = some (.cells cur 47 (0,0)):=by
 obtain⟨hl,⟨rfl,rfl⟩ | ⟨g,cap,cur,rfl,hb,hg,_⟩⟩:=h
 ·omega
 ·exact⟨g,cap,rfl,hb,(Array.getElem?_eq_some_iff.1 hg).1,cur,hg⟩
theorem sp_below {base n:Nat} {w w':World} {v:Value} {xs:List Value} (h:w.ownsRow base 47 6 v n xs) (hb:Below w.heap.size w w'):w'.ownsRow base 47 6 v n xs:=by
 obtain⟨hl,h | ⟨g,cap,cur,rfl,h1,h2,h3⟩⟩:=h
 ·exact⟨hl, .inl h⟩
 ·exact⟨hl, .inr ⟨g,cap,cur,rfl,h1,(hb.block _ (Array.getElem?_eq_some_iff.1 h2).1).trans h2,h3⟩⟩
theorem sp_cap {base n:Nat} {w:World} {a:Option Addr} {c:Nat} {xs:List Value} (h:w.ownsRow base 47 6 (.slice a n c) n xs):n≤c∧c≤9223372036854775807:=by
 obtain⟨hl,⟨h,rfl⟩ | ⟨g,cap,cur,h,_,_,h1,h2,_⟩⟩:=h
 ·cases h;omega
 ·cases h;unfold maxLen at h2;omega
theorem run_bdK (W:World) (x:Int):(Instr.build 36 #[(0, .int .i64 2),(1, .int .i64 x)]).run Tryz.prog W = .ok (ndV (kn x)) W:=by kernel_rfl
abbrev nHb:Nd:=⟨6,0,0,0,0,0,0,0,0,0,0,0,0,⟨#[]⟩,1⟩
abbrev nCh:Nd:=⟨1,0,0,0,0,0,65,0,0,0,0,0,0,⟨#[]⟩,0⟩
theorem run_bdH (W:World):(Instr.build 36 #[(0, .int .i64 6),(10, .int .i64 1)]).run Tryz.prog W = .ok (ndV nHb) W:=by kernel_rfl
theorem run_bdC (W:World):(Instr.build 36 #[(0, .int .i64 1),(6, .int .i64 65)]).run Tryz.prog W = .ok (ndV nCh) W:=by kernel_rfl
theorem run_bsHC (W:World):(Instr.buildSlice 24 2 #[(0,ndV nHb),(1,ndV nCh)]).run Tryz.prog W = .ok (.slice (some ⟨W.heap.size,0,none⟩) 2 2) (W.alloc (.cells (ndA nHb ++ ndA nCh) 36)):=by kernel_rfl
theorem two_own (W:World):(W.alloc (.cells (ndA nHb ++ ndA nCh) 36)).ownsRow W.heap.size 36 15 (.slice (some ⟨W.heap.size,0,none⟩) 2 2) 2 (flatN [nHb,nCh]) :=
 ⟨rfl, .inr ⟨_,_,_,rfl,Nat.le_refl _,heap_alloc_new W _,Nat.le_refl _,by unfold maxLen;omega,rfl,rfl⟩⟩
theorem spots_const:(spotsL [nHb,nCh] 3 4).length=1:=by kernel_rfl
theorem one_ownK (W:World) (x:Int):(W.alloc (.cells (ndA (kn x)) 36)).ownsRow W.heap.size 36 15 (.slice (some ⟨W.heap.size,0,none⟩) 1 1) 1 (flatN [kn x]) :=
 ⟨rfl, .inr ⟨_,_,_,rfl,Nat.le_refl _,heap_alloc_new W _,Nat.le_refl _,by unfold maxLen;omega,rfl,rfl⟩⟩
def PartS (S T:List Spt) (i:Nat) (l:List Spt):Prop:=l.length=S.length∧∀j,l.getD j zsp=if j<i then T.getD j zsp else S.getD j zsp
theorem partS_all {S T l:List Spt} {n:Nat} (h:PartS S T n l) (hn:n=S.length) (ht:T.length=S.length):l=T:=by
 apply List.ext_getElem?
 intro j
 by_cases hj:j<n
 ·have h1:=h.2 j
  rw[if_pos hj] at h1
  simpa [List.getD,List.getElem?_eq_getElem (show j<l.length by rw[h.1];omega),List.getElem?_eq_getElem (show j<T.length by omega)] using h1
 ·rw[List.getElem?_eq_none (by rw[h.1];omega),List.getElem?_eq_none (by omega)]
theorem partS_next {S T l:List Spt} {i:Nat} {x y:Int} (h:PartS S T i l) (hi:i<S.length) (hr:relS x y (S.getD i zsp) (T.getD i zsp)):PartS S T (i+1) (l.set i (w64 ((S.getD i zsp).1+x),w64 ((S.getD i zsp).2.1+y),(l.getD i zsp).2.2)):=by
 refine⟨by rw[List.length_set];exact h.1,fun j=>?_⟩
 have h1:=h.2 i
 rw[if_neg (by omega)] at h1
 by_cases hj:j=i
 ·subst hj
  have hl:j<l.length:=by rw[h.1];omega
  rw[if_pos (by omega)]
  simp only[List.getD_eq_getElem?_getD,List.getElem?_set_self hl,Option.getD_some] at h1 ⊢
  rw[h1]
  obtain⟨r1,r2,r3⟩:=hr
  simp only[List.getD_eq_getElem?_getD] at r1 r2 r3
  rw[← r1,← r2,← r3]
 ·have h2:=h.2 j
  rw[List.getD_eq_getElem?_getD,List.getElem?_set_ne (by omega),← List.getD_eq_getElem?_getD,h2]
  by_cases hlt:j<i
  ·rw[if_pos hlt,if_pos (by omega)]
  ·rw[if_neg hlt,if_neg (by omega)]
structure LP (S T:List Spt) (w5 wi:World) (b1 g n cap i:Nat) (l:List Spt):Prop where
 part:PartS S T i l
 own:wi.ownsRow b1 47 6 (.slice (some ⟨g,0,none⟩) n cap) n (flatS l)
 gb:w5.grownBy wi (some g)
theorem LP.put {S T l:List Spt} {w5 wi:World} {b1 g n cap i:Nat} {X Y s0 s1:Int} {s2:Int×Int×Int×Int} (h:LP S T w5 wi b1 g n cap i l) (hn:n=S.length) (hi:i<n) (hr:relS X Y (S.getD i zsp) (T.getD i zsp)) (hs:S.getD i zsp=(s0,s1,s2)) :
 ∃l',LP S T w5 ((wi.setCell ⟨g,i*6,none⟩ (.int .i64 (wrap64 (s0+X)))).setCell ⟨g,i*6+1,none⟩ (.int .i64 (wrap64 (s1+Y)))) b1 g n cap (i+1) l':=by
 have h1:=partS_next h.part (by omega) hr
 have hl:i<l.length:=by rw[h.part.1];omega
 obtain⟨o1,g1⟩:=h.own.stored (i*6) (.int .i64 (wrap64 (s0+X)))
 obtain⟨o2,g2⟩:=o1.stored (i*6+1) (.int .i64 (wrap64 (s1+Y)))
 rw[flatS_set l i hl] at o2
 rw[hs] at h1
 exact⟨_,h1,o2,(h.gb.trans g1).trans g2⟩
theorem sp_cells {w:World} {b g n cap:Nat} {l:List Spt} {s:Spt} {i:Nat} (h:w.ownsRow b 47 6 (.slice (some ⟨g,0,none⟩) n cap) n (flatS l)) (hn:l.length=n) (hi:i<n) (hs:l.getD i zsp=s) (a:Value) :
 w.cell? ⟨g,i*6,none⟩=some (.int .i64 s.1)∧(w.setCell ⟨g,i*6,none⟩ a).cell? ⟨g,i*6+1,none⟩=some (.int .i64 s.2.1):=by
 refine⟨?_,?_⟩
 ·rw[h.cellAt (i*6) (by omega),← Nat.add_zero (i*6),flatS_get l i (by omega) 0 (by omega),hs]
  rfl
 ·rw[(h.stored (i*6) a).1.cellAt (i*6+1) (by omega),List.getElem?_set_ne (by omega),flatS_get l i (by omega) 1 (by omega),hs]
  rfl
theorem sp_lt {w:World} {b g n cap:Nat} {xs:List Value} (h:w.ownsRow b 47 6 (.slice (some ⟨g,0,none⟩) n cap) n xs):g<w.heap.size∧b≤g:=by
 obtain⟨hl,⟨h,_⟩ | ⟨g',cap',cur,h,hb,hg,_⟩⟩:=h
 ·cases h
 ·cases h;exact⟨(Array.getElem?_eq_some_iff.1 hg).1,hb⟩
set_option maxRecDepth 20000 in
set_option maxHeartbeats 16000000 in
theorem spotsMove_any (ao:Option Addr) (len cap:Nat) (w:World) (hB:len≤1048576→Bytes w ao len cap) (hl:len≤9223372036854775807) :
 Calls Tryz.prog 5 #[.slice ao len cap] w fun e w'=>e = .returned (.bool true)∧Below w.heap.size w w':=by
 by_cases h0:1048576<len
 ·have hd0:decide (1048576<len)=true:=by simp[h0]
  go_enter Tryz.func5,Tryz.ntmps5
  go_wp2_with fail
  refine (big_any ao len cap w hl).mono ?_
  rintro e w1 ⟨rfl,h1⟩
  have h1:=h1.symm
  subst h1
  rw[hd0]
  go_wp2
  go_ret
  exact⟨rfl,Below.refl _ _⟩
 ·have hd0:decide (1048576<len)=false:=by simp[h0]
  have HB:=hideP (hB (by omega))
  have hl1:len≤1048576:=by omega
  clear hB
  go_enter Tryz.func5,Tryz.ntmps5
  go_wp2_with fail
  refine (big_any ao len cap w hl).mono ?_
  rintro e w1 ⟨rfl,h1⟩
  have h1:=h1.symm
  subst h1
  rw[hd0]
  clear hd0 h0
  go_wp2_with fail
  refine (drawSpots_any ao len cap w HB.out).mono ?_
  rintro e w1 ⟨u,xs,x0,y0,⟨rfl,hox,hxl⟩,hb1⟩
  obtain⟨n,hn⟩:∃n,n=xs.length:=⟨_,rfl⟩
  rw[← hn] at hox
  obtain⟨ua,uc,hue⟩:=own_shp hox
  subst hue
  have HN:=hideP hn
  have hnb:n≤1000:=by omega
  have HX1:=hideP hox
  have B1:=hideP hb1
  clear hox hb1 HB hn hxl
  go_wp2_with fail
  refine (spots_any 0 0 (SRow.mono ndStable (own_NRow HX1.out HN.out.symm) (Nat.zero_le _)) (by rw[← HN.out];omega)).mono ?_
  rintro e w2 ⟨⟨u2,rfl,hs2⟩,hb2⟩
  obtain⟨S,hS⟩:∃S,S=spotsL xs 0 0:=⟨_,rfl⟩
  rw[← hS] at hs2
  have HS:=hideP hS
  obtain⟨sn,hsn⟩:∃k,k=S.length:=⟨_,rfl⟩
  rw[← hsn] at hs2
  obtain⟨sa,sc,hse⟩:=sp_shp hs2
  subst hse
  have HSN:=hideP hsn
  have HO2:=hideP hs2
  have HX2:=hideP (own_below HX1.out hb2)
  have B2:Hid (Below w.heap.size w w2):=hideP (below_more B1.out hb2 B1.out.size)
  have hsc:=sp_cap hs2
  have HZ2:Hid (w1.heap.size≤w2.heap.size):=hideP hb2.size
  have HGS:Hid (∀g,sa.map (·.block)=some g→g<w2.heap.size):=hideP (fun g hg=>by
   obtain⟨hl,⟨h,_⟩ | ⟨g',cap',cur,h,hb,hg3,_⟩⟩:=hs2
   ·cases h;cases hg
   ·cases h;cases hg;exact (Array.getElem?_eq_some_iff.1 hg3).1)
  have HB1:Hid (w.heap.size≤w1.heap.size):=hideP B1.out.size
  clear hS hsn hs2 hb2 HX1 B1
  obtain⟨X,hX⟩:∃X:Int,X=2*(len:Int)+1:=⟨_,rfl⟩
  obtain⟨Y,hY⟩:∃Y:Int,Y=(len:Int) - 9:=⟨_,rfl⟩
  have hXb : -1073741823≤X∧X≤1073741823:=by omega
  have hYb : -1073741823≤Y∧Y≤1073741823:=by omega
  have HXE:=hideP hX
  have HYE:=hideP hY
  clear hX hY
  have HXB:=hideP hXb
  have HYB:=hideP hYb
  clear hXb hYb
  go_wp2_with fail
  rw[← HXE.out,← HYE.out]
  refine (spots_any X Y (SRow.mono ndStable (own_NRow HX2.out HN.out.symm) (Nat.zero_le _)) (by rw[← HN.out];omega)).mono ?_
  rintro e w3 ⟨⟨u3,rfl,hs3⟩,hb3⟩
  obtain⟨T,hT⟩:∃T,T=spotsL xs X Y:=⟨_,rfl⟩
  rw[← hT] at hs3
  have HT:=hideP hT
  obtain⟨tn,htn⟩:∃k,k=T.length:=⟨_,rfl⟩
  rw[← htn] at hs3
  obtain⟨ta,tc,hte⟩:=sp_shp hs3
  subst hte
  have HTN:=hideP htn
  have HT3:=hideP hs3
  have HO3:=hideP (sp_below HO2.out hb3)
  have HX3:=hideP (own_below HX2.out hb3)
  have B3:Hid (Below w.heap.size w w3):=hideP (below_more B2.out hb3 B2.out.size)
  have htc:=sp_cap hs3
  have HAP:Hid (∀g,ta.map (·.block)=some g→w2.heap.size≤g):=hideP (fun g hg=>by
   obtain⟨hl,⟨h,_⟩ | ⟨g',cap',cur,h,hb,_⟩⟩:=hs3
   ·cases h;cases hg
   ·cases h;cases hg;exact hb)
  have HZ3:Hid (w2.heap.size≤w3.heap.size):=hideP hb3.size
  clear hT htn hs3 hb3 HO2 HX2 B2
  have MV:Hid (S=[]∨T=[]∨Two (relS X Y) S T):=hideP (by rw[HS.out,HT.out];exact spots_move HXB.out HYB.out)
  go_upto_region 8 with fail
  refine wp_region_lit ?_
  refine wpList_bd2 rfl 36 0 10 _ _ rfl rfl rfl (run_bdH w3) ?_
  refine wpList_bd2 rfl 36 0 6 _ _ rfl rfl rfl (run_bdC w3) ?_
  refine wpList_bs2 rfl 24 2 0 1 _ _ rfl rfl rfl (run_bsHC w3) ?_
  have HC4:=hideP (two_own w3)
  have BA:=below1 w3 (.cells (ndA nHb ++ ndA nCh) 36)
  have HT4:=hideP (sp_below HT3.out BA)
  have HO4:=hideP (sp_below HO3.out BA)
  have HX4:=hideP (own_below HX3.out BA)
  have B4:Hid (Below w.heap.size w (w3.alloc (.cells (ndA nHb ++ ndA nCh) 36))):=hideP (below_more B3.out BA B3.out.size)
  obtain⟨C,hC⟩:∃C,C=w3.heap.size:=⟨_,rfl⟩
  rw[← hC] at HC4
  rw[← hC]
  have HZ4:Hid (w2.heap.size≤(w3.alloc (.cells (ndA nHb ++ ndA nCh) 36)).heap.size):=hideP (Nat.zero_le 0 |> fun _=>by
   have h1:=BA.size
   have h2:=HZ3.out
   omega)
  generalize World.alloc _ _=w4 at HC4 HT4 HO4 HX4 B4 HZ4 ⊢
  clear BA hC HT3 HO3 HX3 B3 HZ3
  go_wp2_with fail
  refine (spots_any 3 4 (SRow.mono ndStable (own_NRow HC4.out rfl) (Nat.zero_le _)) (by decide)).mono ?_
  rintro e w5 ⟨⟨u5,rfl,hs5⟩,hb5⟩
  rw[spots_const] at hs5
  obtain⟨ka,kc,hke⟩:=sp_shp hs5
  subst hke
  have HT5:=hideP (sp_below HT4.out hb5)
  have HO5:=hideP (sp_below HO4.out hb5)
  have HX5:=hideP (own_below HX4.out hb5)
  have HZ5:Hid (w2.heap.size≤w5.heap.size):=hideP (Nat.le_trans HZ4.out hb5.size)
  have B5:Hid (Below w.heap.size w w5):=hideP (below_more B4.out hb5 B4.out.size)
  clear hs5 hb5 HC4 HT4 HO4 HX4 B4 HZ4
  rcases Nat.eq_zero_or_pos sn with hs0 | hs0
  ·subst hs0
   go_wp2
   go_ret
   exact⟨rfl,B5.out⟩
  rcases Nat.eq_zero_or_pos tn with ht0 | ht0
  ·subst ht0
   have hi0:¬(sn:Int)=0:=by omega
   go_wp2
   go_ret
   exact⟨rfl,B5.out⟩
  have htw:Two (relS X Y) S T:=by
   rcases MV.out with h | h | h
   ·have h1:=HSN.out
    rw[h] at h1
    simp at h1
    omega
   ·have h1:=HTN.out
    rw[h] at h1
    simp at h1
    omega
   ·exact h
  have hst:tn=sn:=by rw[HTN.out,HSN.out];exact htw.len.symm
  subst hst
  have HTW:=hideP htw
  have hone:oneB xs=true:=by
   by_cases h:oneB xs=true
   ·exact h
   ·have h1:=HSN.out
    rw[HS.out] at h1
    unfold spotsL at h1
    rw[if_neg (fun h2=>h h2.1)] at h1
    simp at h1
    omega
  have HONE:=hideP hone
  obtain⟨hlst,hxpos,hxk,hxb⟩:=one_parts hone
  have hn0:0<n:=by rw[HN.out];exact hxpos
  clear htw hone hlst hxk hxb MV
  obtain⟨gx,gxc,hge⟩:=own_some HX5.out hn0
  cases hge
  obtain⟨z,zs,hxz⟩:∃z zs,xs=z :: zs:=by
   cases hx:xs with
   | nil=>rw[hx] at hxpos;simp at hxpos
   | cons z zs=>exact⟨z,zs,rfl⟩
  have hsh:(xs.getD 0 Nd.none).sh=z.sh:=by rw[hxz];rfl
  obtain⟨hzc,hzf⟩:=own_cells0 (x:=z) (xs:=zs) (by rw[← hxz];exact HX5.out)
  have e4:=hzc 4 (by omega)
  simp only[Nd.cells,List.getElem?_cons_zero,List.getElem?_cons_succ] at e4
  have HSH:=hideP hsh
  clear hzc hzf hxz hsh hxpos
  obtain⟨sh,hshe⟩:∃sh,sh=z.sh:=⟨_,rfl⟩
  rw[← hshe] at e4 HSH
  clear hshe
  have hi0:¬(tn:Int)=0:=by omega
  have hxc:=own_cap HX5.out _ _ _ rfl
  have hn0i:(0:Int)<(n:Int):=by omega
  have hb1:((tn:Int) == 0)=false:=by simpa using hi0
  by_cases hz:sh=0
  rotate_left
  ·have hz2:(sh != 0)=true:=by simpa using hz
   have hz3:(sh == 0)=false:=by simpa using hz
   have hgl:gx<w5.heap.size:=(own_lt HX5.out rfl).2.1
   go_wp2
   go_ret
   exact⟨rfl,B5.out⟩
  subst hz
  have hgl:gx<w5.heap.size:=(own_lt HX5.out rfl).2.1
  obtain⟨gs,gsc,hgs,hgs1,hgs2,cur0,hgs3⟩:=sp_some HO5.out hs0
  cases hgs
  have HAPT:Hid (∀g,ta.map (·.block)=some g→gs≠g):=hideP (fun g hg e=>by
   have h1:=HAP.out g hg
   have h2:=HGS.out gs rfl
   omega)
  have HAPX:Hid (gx≠gs):=hideP (fun e=>by
   have h1:=own_apart HX5.out hgs3 (by decide)
   exact h1 (by rw[← e];rfl))
  clear HAP hgs1 hgs2 hgs3 cur0
  go_upto_region 12 with fail
  clear e4 hgl hb1 hn0i
  have HXC:=hideP hxc
  clear hxc hi0
  go_wp2_with fail
  ·go_loopw [10] (fun s10 wi=>∃(i:Nat) (l:List Spt),i≤tn∧s10 = .int .i64 (i:Int)∧Hid (LP S T w5 wi w1.heap.size gs tn sc i l)) (fun s10 _=>tn - (intOf s10).toNat)
   case atStart=>exact⟨0,S,Nat.zero_le _,rfl,hideP ⟨⟨rfl,fun j=>by rw[if_neg (by omega)]⟩,HO5.out,⟨rfl,rfl,rfl,Nat.le_refl _,fun _ _ _=>rfl⟩⟩⟩
   case round =>
    obtain⟨i,l,hi,rfl,HL⟩:=hrel
    by_cases hlt:i<tn
    ·as_aux_lemma =>
      have hli:(i:Int)<(tn:Int):=by omega
      obtain⟨⟨s0,s1,s2⟩,hse⟩:∃s:Spt,s=S.getD i zsp:=⟨_,rfl⟩
      have hld:l.getD i zsp=(s0,s1,s2):=by
       have h:=HL.out.part.2 i
       rw[if_neg (by omega)] at h
       rw[h,hse]
      have hll:l.length=tn:=by rw[HL.out.part.1,HSN.out]
      obtain⟨c0,c1⟩:=sp_cells HL.out.own hll hlt hld (.int .i64 (wrap64 (s0+X)))
      have f0:=fun j=>HL.out.own.frozenAt j
      have f1:=fun j=>(HL.out.own.stored (i*6) (.int .i64 (wrap64 (s0+X)))).1.frozenAt j
      have hgl:=(sp_lt HL.out.own).1
      obtain⟨l',hnx⟩:=HL.out.put HSN.out hlt (HTW.out.get zsp i (by rw[← HSN.out];exact hlt)) hse.symm
      have HNX:=hideP hnx
      clear hld hll hse hnx
      go_wp2
      go_roundw
      case rel=>exact⟨i+1,l',by omega,by go_num,HNX⟩
      case measure=>simp[intOf];omega
    ·as_aux_lemma =>
      have hli:¬(i:Int)<(tn:Int):=by omega
      obtain rfl:tn=i:=by omega
      have hlT:l=T:=partS_all HL.out.part HSN.out HTW.out.len.symm
      have HOC:Hid (wr.ownsRow w1.heap.size 47 6 (.slice (some ⟨gs,0,none⟩) tn sc) tn (flatS T)):=hideP (by have h:=HL.out.own;rw[hlT] at h;exact h)
      have HTC:Hid (wr.ownsRow w2.heap.size 47 6 (.slice ta tn tc) tn (flatS T)):=hideP (HT5.out.kept HL.out.gb (.inr (fun e=>by
       cases ta with
       | none=>cases e
       | some a=>simp[Value.ownBlock] at e;exact HAPT.out gs (by simp[e]) rfl)))
      have HXC2:Hid (wr.ownsRow w.heap.size 36 15 (.slice (some ⟨gx,0,none⟩) n uc) n (flatN xs)):=hideP (HX5.out.kept HL.out.gb (.inr (fun e=>by simp[Value.ownBlock] at e;exact HAPX.out e)))
      have BC:Hid (Below w.heap.size w wr):=hideP (Below.grown B5.out HL.out.gb B5.out.size (fun k hk=>by cases hk;exact Nat.le_trans HB1.out (sp_lt HO5.out).2))
      clear HL HO5 HX5 HT5 B5 hlT
      have HTR:=hideP (own_sp HTC.out HTN.out.symm)
      have HSR:=hideP (own_sp HOC.out HTN.out.symm)
      go_wp2_with fail
      refine (sameSpots_any (l:=T) HSR.out HTR.out).mono ?_
      rintro e w7 ⟨rfl,hb7⟩
      have HT7:=hideP (sp_below HTC.out hb7)
      have HX7:=hideP (own_below HXC2.out hb7)
      have B7:Hid (Below w.heap.size w w7):=hideP (below_more BC.out hb7 BC.out.size)
      clear hb7 HTC HOC HXC2 BC HTR HSR hli
      go_upto_region 19 with fail
      refine wp_region_lit ?_
      refine wpList_mv rfl _ rfl rfl ?_
      refine wpList_bd2 rfl 36 0 1 _ _ rfl rfl rfl (run_bdK w7 X) ?_
      refine wpList_bs1 rfl 24 1 0 _ rfl rfl (run_bsN w7 (kn X)) ?_
      refine wpList_mv rfl _ rfl rfl ?_
      have BA:=below1 w7 (.cells (ndA (kn X)) 36)
      have HX8:=hideP (own_below HX7.out BA)
      have HT8:=hideP (sp_below HT7.out BA)
      have B8:Hid (Below w.heap.size w (w7.alloc (.cells (ndA (kn X)) 36))):=hideP (below_more B7.out BA B7.out.size)
      refine wpList_appN rfl _ _ rfl w7.heap.size (.slice (some ⟨w7.heap.size,0,none⟩) 1 1) 1 [kn X] rfl (one_ownK w7 X) (.slice (some ⟨gx,0,none⟩) n uc) xs rfl (own_NN HX8.out HN.out.symm) (by rw[← HN.out];omega) BA.size ?_
      intro v9 w9 ho9 hg9 hat9
      have HO9:Hid (w9.ownsRow w7.heap.size 36 15 v9 (1+n) (flatN (kn X :: xs))):=hideP (by rw[← HN.out] at ho9;exact ho9)
      have HT9:=hideP (HT8.out.kept hg9 (.inr (fun e=>by
       have h1:Value.ownBlock (.slice ta tn tc)=some w7.heap.size:=e
       have h2:=HT7.out.lt _ h1
       omega)))
      have B9:Hid (Below w.heap.size w w9):=hideP (Below.grown B8.out hg9 B8.out.size (fun k hk=>by cases hk;exact B7.out.size))
      obtain⟨va,vc,hve⟩:=own_shp HO9.out
      subst hve
      clear ho9 hg9 hat9 HX7 HT7 B7 HX8 HT8 B8 BA
      go_wp2_with fail
      refine (implH 0 0 HO9.out (by simp;rw[← HN.out];omega) (by omega)).mono ?_
      rintro e w10 ⟨pv,rfl,hop,hb10⟩
      have KS:=hideP (kern_spots (x:=X) (y:=Y) HONE.out (by have:=HXB.out;unfold fitsB;rw[decide_eq_true_eq];omega) (by have:=HYB.out;unfold fitsB;rw[decide_eq_true_eq];omega) HSH.out)
      obtain⟨L,hL⟩:∃L,L=hpR (kn X :: xs) 0 0:=⟨_,rfl⟩
      rw[← hL] at hop KS
      obtain⟨k,hk⟩:∃k,k=L.length:=⟨_,rfl⟩
      rw[← hk] at hop
      obtain⟨⟨z0,z1,z2,z3,z4,z5⟩,hz⟩:∃z:Shr.Sett,z=hpT (kn X :: xs) 0 0:=⟨_,rfl⟩
      rw[← hz]
      obtain⟨pa,pc,hpe⟩:=own_shp hop
      subst hpe
      have HK:=hideP hk
      have hkb:k≤1048576:=by
       rw[hk,hL]
       unfold hpR
       split
       ·rw[hpN_len,List.length_cons,← HN.out];omega
       ·simp
      have HO10:=hideP hop
      have HT10:=hideP (sp_below HT9.out hb10)
      have B10:Hid (Below w.heap.size w w10):=hideP (below_more B9.out hb10 B9.out.size)
      clear hop hb10 hz hk hL HO9 HT9 B9
      have hpk:=heap_alloc_new w10 (packO (.slice pa k pc) z0 z1 z2 z3 z4 z5)
      have BP:=below1 w10 (packO (.slice pa k pc) z0 z1 z2 z3 z4 z5)
      have HO11:=hideP (own_below HO10.out BP)
      have HT11:=hideP (sp_below HT10.out BP)
      have B11:Hid (Below w.heap.size w (w10.alloc (packO (.slice pa k pc) z0 z1 z2 z3 z4 z5))):=hideP (below_more B10.out BP B10.out.size)
      go_upto_region 20 with fail
      obtain⟨P,hP⟩:∃P,P=w10.heap.size:=⟨_,rfl⟩
      have hPz:P<(w10.alloc (packO (.slice pa k pc) z0 z1 z2 z3 z4 z5)).heap.size:=by rw[hP];simp
      rw[← hP] at hpk
      rw[← hP]
      generalize World.alloc _ _=W at hpk HO11 HT11 B11 hPz ⊢
      clear hP BP HO10 HT10 B10
      obtain⟨r0,r1,r2,r3,r4,r5,r6⟩:=pack_cells hpk
      clear hpk r1 r2 r3 r4 r5 r6
      rcases Nat.eq_zero_or_pos k with hk0 | hk0
      ·subst hk0
       go_wp2
       go_ret
       exact⟨rfl,B11.out⟩
      ·have hki:¬(k:Int)=0:=by omega
       have hkb2:((k:Int) == 0)=false:=by simpa using hki
       have HLT:Hid (spotsL L 0 Y=T):=hideP (by
        rcases KS.out with h | ⟨_,h⟩
        ·have h1:=HK.out
         rw[h] at h1
         simp at h1
         omega
        ·rw[h,HT.out])
       go_wp2_with fail
       refine (spots_any 0 Y (SRow.mono ndStable (own_NRow HO11.out HK.out.symm) (Nat.zero_le _)) (by rw[← HK.out];exact hkb)).mono ?_
       rintro e w12 ⟨⟨u12,rfl,hs12⟩,hb12⟩
       rw[HLT.out,← HTN.out] at hs12
       obtain⟨qa,qc,hqe⟩:=sp_shp hs12
       subst hqe
       have HQ:=hideP (own_sp hs12 HTN.out.symm)
       have HT12:=hideP (own_sp (sp_below HT11.out hb12) HTN.out.symm)
       have B12:Hid (Below w.heap.size w w12):=hideP (below_more B11.out hb12 B11.out.size)
       clear hs12 hb12 HT11 B11 HO11 r0
       go_wp2_with fail
       refine (sameSpots_any (l:=T) HQ.out HT12.out).mono ?_
       rintro e w13 ⟨rfl,hb13⟩
       have B13:Hid (Below w.heap.size w w13):=hideP (below_more B12.out hb13 B12.out.size)
       clear hb13 B12
       go_wp2
       go_ret
       exact⟨rfl,B13.out⟩
end Go.Proofs.YtbbehmcekbnkiaaGreat

import Derived.Test.YtbbehmcekbnkiaaGreatWidet
import Derived.ProofKit
import Derived.OpenShut
import Derived.ShutString
import Derived.Shelf.Small.Bits
namespace Go.Proofs.YtbbehmcekbnkiaaGreat.Shr
set_option maxHeartbeats 4000000
open Go.RowKit
set_option linter.unusedVariables false
set_option linter.unusedSimpArgs false
theorem balW {w w':World}(h:Below w.heap.size w w')(o:Obj):Below w.heap.size w (w'.alloc o):=h.alloc h.size o
theorem wide_le (a b c d a' b' c' d':Nat)(ha:a<18446744073709551616)(hb:b<18446744073709551616)(hc:c<18446744073709551616)(ha':a'<18446744073709551616)(hb':b'<18446744073709551616)(hc':c'<18446744073709551616) :
 decide (wideN a b c d<=wideN a' b' c' d')=(if d≠d' then decide (d<d') else if c≠c' then decide (c<c') else if b≠b' then decide (b<b') else if a≠a' then decide (a<a') else true):=by
 unfold wideN
 split
 ·exact decide_eq_decide.2 (by omega)
 ·split
  ·exact decide_eq_decide.2 (by omega)
  ·split
   ·exact decide_eq_decide.2 (by omega)
   ·split
    ·exact decide_eq_decide.2 (by omega)
    ·simp;omega
theorem atMost_any (a b c d a' b' c' d':Nat)(w:World)(ha:a<18446744073709551616)(hb:b<18446744073709551616)(hc:c<18446744073709551616)(ha':a'<18446744073709551616)(hb':b'<18446744073709551616)(hc':c'<18446744073709551616) :
 Calls Tryz.prog 149 #[wideV a b c d,wideV a' b' c' d'] w fun e w'=>e = .returned (.bool (decide (wideN a b c d<=wideN a' b' c' d')))/\Below w.heap.size w w':=by
 rw[wide_le a b c d a' b' c' d' ha hb hc ha' hb' hc']
 have hn:∀x y:Nat,x=y->((x:Int) != (y:Int))=false:=by intro x y h;simp[h]
 have hy:∀x y:Nat,x≠y->((x:Int) != (y:Int))=true:=by intro x y h;simp;omega
 have Hn:=hideW hn
 have Hy:=hideW hy
 clear hn hy
 by_cases hdd:d=d'
 ·have nd:=Hn.out d d' hdd
  rw[if_neg (by simp[hdd])]
  by_cases hcc:c=c'
  ·have nc:=Hn.out c c' hcc
   rw[if_neg (by simp[hcc])]
   by_cases hbb:b=b'
   ·have nb:=Hn.out b b' hbb
    rw[if_neg (by simp[hbb])]
    by_cases haa:a=a'
    ·have na:=Hn.out a a' haa
     rw[if_neg (by simp[haa])]
     clear hdd hcc hbb haa
     go_enter Tryz.func149,Tryz.ntmps149
     go_wp2_with fail
     refine wp_loop_rounds 5 ?_
     rw[rounds_succ]
     go_wp2
     go_quiet (fail)
     go_wp2
     rw[rounds_succ]
     go_wp2
     go_quiet (fail)
     go_wp2
     rw[rounds_succ]
     go_wp2
     go_quiet (fail)
     go_wp2
     rw[rounds_succ]
     go_wp2
     go_quiet (fail)
     go_wp2
     rw[rounds_succ]
     go_wp2
     go_ret
     exact⟨rfl,by repeat(first|exact Below.refl _ _|apply below_drewN|apply balW)⟩
    ·have na:=Hy.out a a' haa
     rw[if_pos haa]
     clear hdd hcc hbb haa
     go_enter Tryz.func149,Tryz.ntmps149
     go_wp2_with fail
     refine wp_loop_rounds 5 ?_
     rw[rounds_succ]
     go_wp2
     go_quiet (fail)
     go_wp2
     rw[rounds_succ]
     go_wp2
     go_quiet (fail)
     go_wp2
     rw[rounds_succ]
     go_wp2
     go_quiet (fail)
     go_wp2
     rw[rounds_succ]
     go_wp2
     go_quiet (fail)
     go_wp2
     go_quiet (fail)
     go_wp2
     go_ret
     exact⟨rfl,by repeat(first|exact Below.refl _ _|apply below_drewN|apply balW)⟩
   ·have nb:=Hy.out b b' hbb
    rw[if_pos hbb]
    clear hdd hcc hbb
    go_enter Tryz.func149,Tryz.ntmps149
    go_wp2_with fail
    refine wp_loop_rounds 5 ?_
    rw[rounds_succ]
    go_wp2
    go_quiet (fail)
    go_wp2
    rw[rounds_succ]
    go_wp2
    go_quiet (fail)
    go_wp2
    rw[rounds_succ]
    go_wp2
    go_quiet (fail)
    go_wp2
    go_quiet (fail)
    go_wp2
    go_ret
    exact⟨rfl,by repeat(first|exact Below.refl _ _|apply below_drewN|apply balW)⟩
  ·have nc:=Hy.out c c' hcc
   rw[if_pos hcc]
   clear hdd hcc
   go_enter Tryz.func149,Tryz.ntmps149
   go_wp2_with fail
   refine wp_loop_rounds 5 ?_
   rw[rounds_succ]
   go_wp2
   go_quiet (fail)
   go_wp2
   rw[rounds_succ]
   go_wp2
   go_quiet (fail)
   go_wp2
   go_quiet (fail)
   go_wp2
   go_ret
   exact⟨rfl,by repeat(first|exact Below.refl _ _|apply below_drewN|apply balW)⟩
 ·have nd:=Hy.out d d' hdd
  rw[if_pos hdd]
  clear hdd
  go_enter Tryz.func149,Tryz.ntmps149
  go_wp2_with fail
  refine wp_loop_rounds 5 ?_
  rw[rounds_succ]
  go_wp2
  go_quiet (fail)
  go_wp2
  go_quiet (fail)
  go_wp2
  go_ret
  exact⟨rfl,by repeat(first|exact Below.refl _ _|apply below_drewN|apply balW)⟩
theorem Arr.below {w w':World}{B n a b c d:Nat}(h:Arr w n a b c d)(hb:Below B w w')(hn:n<B):Arr w' n a b c d:=by
 obtain⟨h1,h2⟩:=h
 refine⟨h1,?_⟩
 rcases h2 with h2 | ⟨g,cap,cur,e,x1,x2,rest⟩
 ·exact .inl h2
 ·refine .inr ⟨g,cap,cur,e,x1,?_,rest⟩
  have:g=n:=by simp at e;exact e.1.symm
  rw[hb.block g (by omega)]
  exact x2
def IsWide (v:Value)(N:Nat):Prop:=∃a b c d:Nat,v=wideV a b c d/\a<18446744073709551616/\b<18446744073709551616/\c<18446744073709551616/\d<18446744073709551616/\wideN a b c d=N
theorem timesW_any (v:Value)(N m:Nat)(w:World)(hv:IsWide v N)(hm:m<18446744073709551616)(hN:N*m<18446744073709551616 ^ 4) :
 Calls Tryz.prog 148 #[v,cU m] w fun e w'=>∃v',e = .returned v'/\IsWide v' (N*m)/\Below w.heap.size w w':=by
 obtain⟨a,b,c,d,rfl,ha,hb,hc,hd,rfl⟩:=hv
 refine(wideTimes_any a b c d m w ha hb hc hd hm).mono ?_
 rintro e w' ⟨rfl,hbel⟩
 exact⟨_,rfl,⟨_,_,_,_,rfl,Nat.mod_lt _ (by decide),Nat.mod_lt _ (by decide),Nat.mod_lt _ (by decide),Nat.mod_lt _ (by decide),wide_mul a b c d m hN⟩,hbel⟩
theorem atMostW_any (v v':Value)(N M:Nat)(w:World)(hv:IsWide v N)(hv':IsWide v' M) :
 Calls Tryz.prog 149 #[v,v'] w fun e w'=>e = .returned (.bool (decide (N<=M)))/\Below w.heap.size w w':=by
 obtain⟨a,b,c,d,rfl,ha,hb,hc,hd,rfl⟩:=hv
 obtain⟨a',b',c',d',rfl,ha',hb',hc',hd',rfl⟩:=hv'
 exact atMost_any a b c d a' b' c' d' w ha hb hc ha' hb' hc'
theorem sq_lt {x:Nat}(hx:x<9223372036854775808):x*x<=85070591730234615865843651857942052864/\x*x*x<=784637716923335095479473677900958302012794430558004314112:=by
 have h1:=Nat.mul_le_mul (Nat.le_of_lt hx) (Nat.le_of_lt hx)
 have h2:=Nat.mul_le_mul h1 (Nat.le_of_lt hx)
 have e1:(9223372036854775808:Nat)*9223372036854775808=85070591730234615865843651857942052864:=by decide
 have e2:(85070591730234615865843651857942052864:Nat)*9223372036854775808=784637716923335095479473677900958302012794430558004314112:=by decide
 omega
theorem pow4:(18446744073709551616:Nat) ^ 4=115792089237316195423570985008687907853269984665640564039457584007913129639936:=by decide
theorem cube_any (x:Nat)(w:World)(hx:x<9223372036854775808):Calls Tryz.prog 147 #[.int .i64 (x:Int)] w fun e w'=>∃v,e = .returned v/\IsWide v (x*x*x)/\Below w.heap.size w w':=by
 have hs:=sq_lt hx
 have p1:x*x<18446744073709551616 ^ 4:=by rw[pow4];omega
 have p2:x*x*x<18446744073709551616 ^ 4:=by rw[pow4];omega
 have P1:=hideW p1
 have P2:=hideW p2
 clear hs p1 p2
 go_enter Tryz.func147,Tryz.ntmps147
 go_wp2_with fail
 refine(timesW_any _ x x _ ⟨x,0,0,0,rfl,by omega,by decide,by decide,by decide,by simp[wideN]⟩ (by omega) P1.out).mono ?_
 rintro e w1 ⟨v1,rfl,hv1,hb1⟩
 have HV1:=hideW hv1
 have HB1:=hideW hb1
 clear hv1 hb1
 go_wp2_with fail
 refine(timesW_any v1 (x*x) x _ HV1.out (by omega) P2.out).mono ?_
 rintro e w2 ⟨v2,rfl,⟨a,b,c,d,rfl,hw⟩,hb2⟩
 have hbb:=HB1.out.trans (hb2.mono HB1.out.size)
 have hz:w.heap.size<w2.heap.size:=by have:=hbb.size;simp at this;omega
 have harr:=(arr_new w 0 0 0 0).below hbb (by simp)
 obtain⟨r0,r1,r2,r3⟩:=harr.cells
 have rf:=harr.free
 have HW:=hideW hw
 have HB:=hideW (((Below.refl w.heap.size w).alloc (Nat.le_refl _) _).trans (hbb.mono (by simp)))
 clear hw hb2 hbb harr
 go_wp2
 exact bodyPost_ret (v:=wideV a b c d) (by simp[results,Tryz.results147,go_sem,r0,r1,r2,r3]) rfl ⟨_,rfl,⟨a,b,c,d,rfl,HW.out⟩,four_below HB.out (Nat.le_refl _) _ _ _ _⟩
def badN (s c:Nat):Nat:=BigN.part (s*s*s*200+c*c*c) (c*c*c*2) 10000
theorem bad_iff (s c bad:Nat)(hc:0<c)(h0:0<bad)(h1:bad<=10000):c*c*c*(2*bad-1)<=s*s*s*200↔bad<=badN s c:=by
 unfold badN
 rw[<-BigN.part_iff _ _ _ _ h1]
 have e1:bad*(c*c*c*2)=c*c*c*(2*bad-1)+c*c*c:=by
  rw[Nat.mul_comm bad,Nat.mul_assoc (c*c*c) 2 bad]
  have:2*bad=(2*bad-1)+1:=by omega
  rw[this,Nat.mul_add]
  simp
 rw[e1]
 omega
theorem keepA {n:Nat}{W w1:World}{a b c d a' b' c' d':Value}
 (h:W.cell? ⟨n,0,none⟩=some a/\W.cell? ⟨n,1,none⟩=some b/\W.cell? ⟨n,2,none⟩=some c/\W.cell? ⟨n,3,none⟩=some d/\W.cell? ⟨n+1,0,none⟩=some a'/\W.cell? ⟨n+1,1,none⟩=some b'/\W.cell? ⟨n+1,2,none⟩=some c'/\W.cell? ⟨n+1,3,none⟩=some d')
 (hb:Below W.heap.size W w1) :
 w1.cell? ⟨n,0,none⟩=some a/\w1.cell? ⟨n,1,none⟩=some b/\w1.cell? ⟨n,2,none⟩=some c/\w1.cell? ⟨n,3,none⟩=some d/\w1.cell? ⟨n+1,0,none⟩=some a'/\w1.cell? ⟨n+1,1,none⟩=some b'/\w1.cell? ⟨n+1,2,none⟩=some c'/\w1.cell? ⟨n+1,3,none⟩=some d':=by
 obtain⟨h0,h1,h2,h3,h4,h5,h6,h7⟩:=h
 have z0:=lt_of_cellW h0
 have z1:=lt_of_cellW h4
 have hc:∀b o,b<W.heap.size->w1.cell? ⟨b,o,none⟩=W.cell? ⟨b,o,none⟩:=fun b o h=>hb.cell (p:=⟨b,o,none⟩) h
 exact⟨(hc _ _ z0).trans h0,(hc _ _ z0).trans h1,(hc _ _ z0).trans h2,(hc _ _ z0).trans h3,(hc _ _ z1).trans h4,(hc _ _ z1).trans h5,(hc _ _ z1).trans h6,(hc _ _ z1).trans h7⟩
theorem implBad_main (s c:Nat)(w:World)(hs:s<9223372036854775808)(hc:c<9223372036854775808)(hs0:0<s)(hc0:0<c) :
 Calls Tryz.prog 145 #[.int .i64 (s:Int),.int .i64 (c:Int)] w fun e w'=>e = .returned (.int .i64 ((badN s c:Nat):Int))/\Below w.heap.size w w':=by
 have P1:Hid (s*s*s*200<18446744073709551616 ^ 4):=by
  show _<_
  have:=sq_lt hs
  rw[pow4];omega
 have P2:Hid (∀k,k<20000->c*c*c*k<18446744073709551616 ^ 4):=by
  intro k hk
  have:=sq_lt hc
  have h2:=Nat.mul_le_mul this.2 (Nat.le_of_lt hk)
  have e:(784637716923335095479473677900958302012794430558004314112:Nat)*20000<18446744073709551616 ^ 4:=by decide
  omega
 have P3:Hid (∀bad,0<bad->bad<=10000->(c*c*c*(2*bad-1)<=s*s*s*200↔bad<=badN s c)):=fun bad h0 h1=>bad_iff s c bad hc0 h0 h1
 have P4:badN s c<=10000:=BigN.part_le _ _ _
 obtain⟨R,hR⟩:=exq (badN s c)
 rw[<-hR] at P3 P4 ⊢
 clear hR
 go_enter Tryz.func145,Tryz.ntmps145
 go_wp2_with fail
 refine(cube_any s _ hs).mono ?_
 rintro e w1 ⟨v1,rfl,hv1,hb1⟩
 have HV1:=hideW hv1
 have HB1:=hideW hb1
 clear hv1 hb1
 go_wp2_with fail
 refine(timesW_any v1 (s*s*s) 200 _ HV1.out (by decide) P1.out).mono ?_
 rintro e w2 ⟨v2,rfl,⟨a,b,c1,d,rfl,hw⟩,hb2⟩
 have HW:=hideW hw
 have HB2:=hideW (HB1.out.trans (hb2.mono HB1.out.size))
 clear hw hb2
 go_wp2_with fail
 refine(cube_any c _ hc).mono ?_
 rintro e w3 ⟨v3,rfl,⟨a',b',c1',d',rfl,hw'⟩,hb3⟩
 have HW':=hideW hw'
 have HB3:=hideW (HB2.out.trans (hb3.mono HB2.out.size))
 clear hw' hb3
 have hz0:w.heap.size<=w3.heap.size:=HB3.out.size
 have arr1:Arr ((w3.alloc (.cells #[.int .u64 (a:Int),.int .u64 (b:Int),.int .u64 (c1:Int),.int .u64 (d:Int)] 246)).alloc (.cells #[.int .u64 (a':Int),.int .u64 (b':Int),.int .u64 (c1':Int),.int .u64 (d':Int)] 246)) w3.heap.size a b c1 d:=(arr_new w3 a b c1 d).alloc _
 have arr2:Arr ((w3.alloc (.cells #[.int .u64 (a:Int),.int .u64 (b:Int),.int .u64 (c1:Int),.int .u64 (d:Int)] 246)).alloc (.cells #[.int .u64 (a':Int),.int .u64 (b':Int),.int .u64 (c1':Int),.int .u64 (d':Int)] 246)) (w3.heap.size+1) a' b' c1' d':=by
  have:=arr_new (w3.alloc (.cells #[.int .u64 (a:Int),.int .u64 (b:Int),.int .u64 (c1:Int),.int .u64 (d:Int)] 246)) a' b' c1' d'
  simpa using this
 have arr3:Below w.heap.size w ((w3.alloc (.cells #[.int .u64 (a:Int),.int .u64 (b:Int),.int .u64 (c1:Int),.int .u64 (d:Int)] 246)).alloc (.cells #[.int .u64 (a':Int),.int .u64 (b':Int),.int .u64 (c1':Int),.int .u64 (d':Int)] 246)):=(HB3.out.alloc hz0 _).alloc (by simp;omega) _
 have HA:=hideW (And.intro arr1 (And.intro arr2 arr3))
 clear arr1 arr2 arr3
 go_wp2_with fail
 go_loopw [7,8,9] (fun s7 s8 _ wr=>Hid (Arr wr w3.heap.size a b c1 d/\Arr wr (w3.heap.size+1) a' b' c1' d'/\Below w.heap.size w wr)/\∃lo hi:Nat,lo<=R/\R<=hi/\hi<=10000/\s7 = .int .i64 (lo:Int)/\s8 = .int .i64 (hi:Int)) (fun s7 s8 _ _=>(intOf s8-intOf s7).toNat)
 case atStart=>exact⟨HA,0,10000,Nat.zero_le _,P4,Nat.le_refl _,rfl,rfl⟩
 case round =>
  obtain⟨HI,lo,hi,h1,h2,h3,rfl,rfl⟩:=hrel
  by_cases hlt:lo<hi
  ·obtain⟨mid,hmid⟩:=exq ((lo+hi+1) / 2)
   have m1:mid<=hi:=by omega
   have m2:lo<mid:=by omega
   have HM:Hid (((lo:Int)+(hi:Int)+1) / 2=(mid:Int)):=by show _=_;omega
   have HK:Hid (IntKind.u64.wrap (IntKind.i64.wrap (IntKind.i64.wrap (2*(((lo:Int)+(hi:Int)+1) / 2))-1))=((2*mid-1:Nat):Int)):=by
    show _=_
    rw[HM.out,IntWalk.i64_in (2*(mid:Int)) (by omega),IntWalk.i64_in (2*(mid:Int)-1) (by omega),IntWalk.u64_in _ (by omega)]
    omega
   clear hmid
   obtain⟨q0,q1,q2,q3⟩:=HI.out.1.cells
   obtain⟨t0,t1,t2,t3⟩:=HI.out.2.1.cells
   have l1:=lt_of_cellW q0
   have l2:=lt_of_cellW t0
   go_upto_region 9 with fail
   go_cut [34] (fun s34 wc=>s34 = .bool (decide (mid<=R))/\Hid (Below wr.heap.size wr wc))
   case first =>
    go_region_held3 (fun w'=>w'.cell? ⟨w3.heap.size,0,none⟩=some (.int .u64 (a:Int))/\w'.cell? ⟨w3.heap.size,1,none⟩=some (.int .u64 (b:Int))/\w'.cell? ⟨w3.heap.size,2,none⟩=some (.int .u64 (c1:Int))/\w'.cell? ⟨w3.heap.size,3,none⟩=some (.int .u64 (d:Int))/\w'.cell? ⟨w3.heap.size+1,0,none⟩=some (.int .u64 (a':Int))/\w'.cell? ⟨w3.heap.size+1,1,none⟩=some (.int .u64 (b':Int))/\w'.cell? ⟨w3.heap.size+1,2,none⟩=some (.int .u64 (c1':Int))/\w'.cell? ⟨w3.heap.size+1,3,none⟩=some (.int .u64 (d':Int)))
     (first|exact⟨q0,q1,q2,q3,t0,t1,t2,t3⟩|(apply keepA;rotate_left;(focus assumption);(focus assumption)))
     (first
      | (go_at_call 148;rw[HK.out];refine(timesW_any _ (c*c*c) (2*mid-1) _ ⟨a',b',c1',d',rfl,HW'.out⟩ (by omega) (P2.out _ (by omega))).mono ?_;rintro e w' ⟨v5,rfl,hv5,hb5⟩)
      | (go_at_call 149;refine(atMostW_any _ _ (c*c*c*(2*mid-1)) (s*s*s*200) _ (by assumption) ⟨a,b,c1,d,rfl,HW.out⟩).mono ?_;rintro e w' ⟨rfl,hb6⟩))
    all_goals
     go_wp2_with fail
     go_meet
     case rel =>
      have hiff:=P3.out mid (by omega) (by omega)
      exact⟨by congr 1;exact decide_eq_decide.2 hiff,hideW ((((Below.refl wr.heap.size wr).drew).trans hb5).trans (hb6.mono hb5.size))⟩
   case rest =>
    obtain⟨rfl,HC⟩:=hcut
    have hi1:=HI.out.1.below HC.out l1
    have hi2:=HI.out.2.1.below HC.out l2
    have hi3:=HI.out.2.2.trans (HC.out.mono HI.out.2.2.size)
    have HI':=hideW (And.intro hi1 (And.intro hi2 hi3))
    clear hi1 hi2 hi3 q0 q1 q2 q3 t0 t1 t2 t3
    by_cases hle:mid<=R
    ·rw[show decide (mid<=R)=true by simp[hle]]
     rw[HM.out]
     go_wp2
     go_roundw
     case rel=>exact⟨HI',mid,hi,hle,h2,h3,rfl,rfl⟩
     case measure=>simp[intOf];omega
    ·rw[show decide (mid<=R)=false by simp[hle]]
     rw[HM.out]
     have HM1:Hid ((mid:Int)-1=((mid-1:Nat):Int)):=by show _=_;omega
     go_wp2
     go_roundw
     case rel=>exact⟨HI',lo,mid-1,h1,by omega,by omega,rfl,by rw[HM1.out]⟩
     case measure=>rw[HM1.out];simp[intOf];omega
  ·obtain rfl:lo=R:=by omega
   go_wp2
   go_ret
   exact⟨rfl,HI.out.2.2⟩
def badV (s c:Int):Int:=if s<=0 then 0 else if c<=0 then 10000 else ((badN s.toNat c.toNat:Nat):Int)
theorem implBad_any (s c:Int)(w:World)(hs:s<=9223372036854775807)(hc:c<=9223372036854775807) :
 Calls Tryz.prog 145 #[.int .i64 s,.int .i64 c] w fun e w'=>e = .returned (.int .i64 (badV s c))/\Below w.heap.size w w':=by
 by_cases h1:s<=0
 ·rw[show badV s c=0 by simp[badV,h1]]
  go_enter Tryz.func145,Tryz.ntmps145
  go_wp2
  go_ret
  exact⟨rfl,Below.refl _ _⟩
 ·by_cases h2:c<=0
  ·rw[show badV s c=10000 by simp[badV,h1,h2]]
   go_enter Tryz.func145,Tryz.ntmps145
   go_wp2
   go_ret
   exact⟨rfl,Below.refl _ _⟩
  ·obtain⟨s,rfl⟩:=Int.eq_ofNat_of_zero_le (show 0<=s by omega)
   obtain⟨c,rfl⟩:=Int.eq_ofNat_of_zero_le (show 0<=c by omega)
   rw[show badV (s:Int) (c:Int)=((badN s c:Nat):Int) by simp only[badV,h1,h2,if_false,Int.toNat_natCast]]
   exact implBad_main s c w (by omega) (by omega) (by omega) (by omega)
end Go.Proofs.YtbbehmcekbnkiaaGreat.Shr
namespace Go.Proofs.YtbbehmcekbnkiaaGreat.Shr
open Go.ChangeShapes Go.WideShapes Go.ChangeAt Go.RowKit
set_option linter.unusedVariables false
set_option linter.unusedSimpArgs false
theorem lid_cube {x:Nat}(hx:x<9223372036854775808):x*x<lid/\x*x*x<lid/\x*x*x*200<lid/\x*x*x*2<16777216 ^ 30:=by
 have:=sq_lt hx
 have e:(784637716923335095479473677900958302012794430558004314112:Nat)*200<16777216 ^ 40:=by decide +kernel
 have e':(784637716923335095479473677900958302012794430558004314112:Nat)*200<16777216 ^ 30:=by decide +kernel
 unfold lid
 omega
theorem lid_both {x y:Nat}(hx:x<9223372036854775808)(hy:y<9223372036854775808):x*x*x*200+y*y*y<lid:=by
 have h1:=sq_lt hx
 have h2:=sq_lt hy
 have e:(784637716923335095479473677900958302012794430558004314112:Nat)*201<16777216 ^ 40:=by decide +kernel
 unfold lid
 omega
theorem badN_top {s c:Nat}(hc:0<c)(h:c<=s / 5):badN s c=10000:=by
 have h5:5*c<=s:=by omega
 have h1:5*c*(5*c)*(5*c)<=s*s*s:=Nat.mul_le_mul (Nat.mul_le_mul h5 h5) h5
 have e:5*c*(5*c)*(5*c)=125*(c*c*c):=by
  simp only[Nat.mul_assoc,Nat.mul_left_comm,Nat.mul_comm]
 have h2:=(BigN.part_iff (s*s*s*200+c*c*c) (c*c*c*2) 10000 10000 (Nat.le_refl _)).1 (by omega)
 have h3:=BigN.part_le (s*s*s*200+c*c*c) (c*c*c*2) 10000
 unfold badN
 omega
theorem specBad_main (s c:Nat)(w:World)(hs:s<9223372036854775808)(hc:c<9223372036854775808)(hs0:0<s)(hc0:0<c)(hno:¬c<=s / 5) :
 Calls Tryz.prog 113 #[.int .i64 (s:Int),.int .i64 (c:Int)] w fun e w'=>e = .returned (.int .i64 ((badN s c:Nat):Int))/\Below w.heap.size w w':=by
 have LS:=hideB (lid_cube hs)
 have LC:=hideB (lid_cube hc)
 have LB:=hideB (lid_both hs hc)
 have P4:=BigN.part_le (s*s*s*200+c*c*c) (c*c*c*2) 10000
 go_enter Tryz.func113,Tryz.ntmps113
 go_wp2_with fail
 refine(big_any s _ (by omega)).mono ?_
 rintro e w1 ⟨v1,rfl,hv1,hb1⟩
 have H1:=hideB hb1
 have V1:=hideB hv1
 clear hv1 hb1
 go_wp2_with fail
 refine(big_any c _ (by omega)).mono ?_
 rintro e w2 ⟨v2,rfl,hv2,hb2⟩
 have H2:=hideB (H1.out.trans (hb2.mono H1.out.size))
 have S2:=hideB (V1.out.kept hb2)
 have V2:=hideB hv2
 clear hv2 hb2 V1
 go_wp2_with fail
 refine(times_any v1 v1 s s _ S2.out S2.out (lid_small (by omega)) (lid_small (by omega))).mono ?_
 rintro e w3 ⟨v3,rfl,hv3,hb3⟩
 have H3:=hideB (H2.out.trans (hb3.mono H2.out.size))
 have S3:=hideB (S2.out.kept hb3)
 have C3:=hideB (V2.out.kept hb3)
 have V3:=hideB hv3
 clear hv3 hb3 S2 V2
 go_wp2_with fail
 refine(times_any v3 v1 (s*s) (s) _ V3.out S3.out LS.out.1 (lid_small (by omega))).mono ?_
 rintro e w4 ⟨v4,rfl,hv4,hb4⟩
 have H4:=hideB (H3.out.trans (hb4.mono H3.out.size))
 have C4:=hideB (C3.out.kept hb4)
 have V4:=hideB hv4
 clear hv4 hb4 C3
 go_wp2_with fail
 refine(times_any v2 v2 c c _ C4.out C4.out (lid_small (by omega)) (lid_small (by omega))).mono ?_
 rintro e w5 ⟨v5,rfl,hv5,hb5⟩
 have H5:=hideB (H4.out.trans (hb5.mono H4.out.size))
 have C5:=hideB (C4.out.kept hb5)
 have S5:=hideB (V4.out.kept hb5)
 have V5:=hideB hv5
 clear hv5 hb5 C4 V4
 go_wp2_with fail
 refine(times_any v5 v2 (c*c) (c) _ V5.out C5.out LC.out.1 (lid_small (by omega))).mono ?_
 rintro e w6 ⟨v6,rfl,hv6,hb6⟩
 have H6:=hideB (H5.out.trans (hb6.mono H5.out.size))
 have S6:=hideB (S5.out.kept hb6)
 have V6:=hideB hv6
 clear hv6 hb6 S5
 go_wp2_with fail
 refine(big_any 200 _ (by decide)).mono ?_
 rintro e w7 ⟨v7,rfl,hv7,hb7⟩
 have H7:=hideB (H6.out.trans (hb7.mono H6.out.size))
 have S7:=hideB (S6.out.kept hb7)
 have C7:=hideB (V6.out.kept hb7)
 have V7:=hideB hv7
 clear hv7 hb7 S6 V6
 go_wp2_with fail
 refine(times_any v4 v7 (s*s*s) (200) _ S7.out V7.out LS.out.2.1 (lid_small (by decide))).mono ?_
 rintro e w8 ⟨v8,rfl,hv8,hb8⟩
 have H8:=hideB (H7.out.trans (hb8.mono H7.out.size))
 have C8:=hideB (C7.out.kept hb8)
 have V8:=hideB hv8
 clear hv8 hb8 C7
 go_wp2_with fail
 refine(sum_any v8 v6 (s*s*s*200) (c*c*c) _ V8.out C8.out LS.out.2.2.1 LC.out.2.1).mono ?_
 rintro e w9 ⟨v9,rfl,hv9,hb9⟩
 have H9:=hideB (H8.out.trans (hb9.mono H8.out.size))
 have C9:=hideB (C8.out.kept hb9)
 have V9:=hideB hv9
 clear hv9 hb9 C8
 go_wp2_with fail
 refine(big_any 2 _ (by decide)).mono ?_
 rintro e w10 ⟨v10,rfl,hv10,hb10⟩
 have H10:=hideB (H9.out.trans (hb10.mono H9.out.size))
 have C10:=hideB (C9.out.kept hb10)
 have M10:=hideB (V9.out.kept hb10)
 have V10:=hideB hv10
 clear hv10 hb10 C9 V9
 go_wp2_with fail
 refine(times_any v6 v10 (c*c*c) (2) _ C10.out V10.out LC.out.2.1 (lid_small (by decide))).mono ?_
 rintro e w11 ⟨v11,rfl,hv11,hb11⟩
 have H11:=hideB (H10.out.trans (hb11.mono H10.out.size))
 have M11:=hideB (M10.out.kept hb11)
 have V11:=hideB hv11
 clear hv11 hb11 M10
 go_wp2_with fail
 refine(part_any v9 v11 (s*s*s*200+c*c*c) (c*c*c*2) 10000 _ M11.out V11.out LB.out LC.out.2.2.2 (by decide)).mono ?_
 rintro e w12 ⟨rfl,hb12⟩
 go_wp2
 go_ret
 exact⟨rfl,H11.out.trans (hb12.mono H11.out.size)⟩
theorem specBad_any (s c:Int)(w:World)(hs:s<=9223372036854775807)(hc:c<=9223372036854775807) :
 Calls Tryz.prog 113 #[.int .i64 s,.int .i64 c] w fun e w'=>e = .returned (.int .i64 (badV s c))/\Below w.heap.size w w':=by
 by_cases h1:s<=0
 ·rw[show badV s c=0 by simp[badV,h1]]
  go_enter Tryz.func113,Tryz.ntmps113
  go_wp2
  go_ret
  exact⟨rfl,Below.refl _ _⟩
 ·by_cases h2:c<=0
  ·rw[show badV s c=10000 by simp[badV,h1,h2]]
   go_enter Tryz.func113,Tryz.ntmps113
   go_wp2
   go_ret
   exact⟨rfl,Below.refl _ _⟩
  ·obtain⟨s,rfl⟩:=Int.eq_ofNat_of_zero_le (show 0<=s by omega)
   obtain⟨c,rfl⟩:=Int.eq_ofNat_of_zero_le (show 0<=c by omega)
   have e:badV (s:Int) (c:Int)=((badN s c:Nat):Int):=by simp only[badV,h1,h2,if_false,Int.toNat_natCast]
   by_cases h3:c<=s / 5
   ·rw[e,badN_top (by omega) h3]
    have h4:(c:Int)<=(s:Int) / 5:=by omega
    clear e
    go_enter Tryz.func113,Tryz.ntmps113
    go_wp2
    go_ret
    exact⟨rfl,Below.refl _ _⟩
   ·rw[e]
    exact specBad_main s c w (by omega) (by omega) (by omega) (by omega) h3
end Go.Proofs.YtbbehmcekbnkiaaGreat.Shr
namespace Go.Proofs.YtbbehmcekbnkiaaGreat.Shr
open Go.Shelf
set_option linter.unusedVariables false
def lz_ren:Go.Shelf.Ren:=⟨fun|134=>146|129=>150|n=>n,fun|53=>222|3=>3|4=>4|46=>182|5=>5|9=>9|n=>n,fun|n=>n⟩
theorem lz_lays:Go.Proofs.Lays.n134 Tryz.prog lz_ren:={
 mixed:=by kernel_rfl
 f129:=Tryz.func150.trans (congrArg some (by kernel_rfl))
 f134:=Tryz.func146.trans (congrArg some (by kernel_rfl))
 t3:=Tryz.underlying3
 a3:=Tryz.isAgg3
 z3:=Tryz.sizeOf3
 v3:=Tryz.zeroValue3
 t4:=Tryz.underlying4
 a4:=Tryz.isAgg4
 z4:=Tryz.sizeOf4
 v4:=Tryz.zeroValue4
 t5:=Tryz.underlying5
 a5:=Tryz.isAgg5
 z5:=Tryz.sizeOf5
 v5:=Tryz.zeroValue5
 t9:=Tryz.underlying9
 a9:=Tryz.isAgg9
 z9:=Tryz.sizeOf9
 v9:=Tryz.zeroValue9
 t46:=Tryz.underlying182
 a46:=Tryz.isAgg182
 z46:=Tryz.sizeOf182
 v46:=Tryz.zeroValue182
 t53:=Tryz.underlying222
 a53:=Tryz.isAgg222
 z53:=Tryz.sizeOf222
 v53:=Tryz.zeroValue222 }
theorem zeros_any (x:Int)(w:World)(h0:0<=x)(h1:x<=18446744073709551615) :
 Calls Tryz.prog 146 #[.int .u64 x] w fun e w'=>e = .returned (.int .i64 (64-(Lib.bitLen x.toNat:Int)))/\w'=w:=Any.bits_LeadingZeros64 lz_lays x w h0 h1
end Go.Proofs.YtbbehmcekbnkiaaGreat.Shr
namespace Go.Proofs.YtbbehmcekbnkiaaGreat.DivN
set_option linter.unusedVariables false
def Guess (u d yn1 yn0 q r:Nat):Prop:=q*yn1+r=u/\(u*4294967296+d) / (yn1*4294967296+yn0)<=q/\q<=4294967297
theorem test_iff {u d yn1 yn0 q r:Nat}(h:q*yn1+r=u):q*(yn1*4294967296+yn0)<=u*4294967296+d↔q*yn0<=4294967296*r+d:=by
 have e1:q*(yn1*4294967296+yn0)=q*yn1*4294967296+q*yn0:=by rw[Nat.mul_add,Nat.mul_assoc]
 have e2:u*4294967296=q*yn1*4294967296+4294967296*r:=by rw[<-h,Nat.add_mul,Nat.mul_comm r]
 rw[e1,e2]
 omega
theorem top_lt {u d yn1 yn0:Nat}(hu:u<yn1*4294967296+yn0)(hd:d<4294967296):(u*4294967296+d) / (yn1*4294967296+yn0)<4294967296:=by
 rw[Nat.div_lt_iff_lt_mul (by omega)]
 have:(u+1)*4294967296<=(yn1*4294967296+yn0)*4294967296:=Nat.mul_le_mul_right _ hu
 rw[Nat.mul_comm 4294967296]
 omega
theorem le_top {u d yn1 yn0 q:Nat}(hy:0<yn1*4294967296+yn0):q<=(u*4294967296+d) / (yn1*4294967296+yn0)↔q*(yn1*4294967296+yn0)<=u*4294967296+d:=Nat.le_div_iff_mul_le hy
theorem guess_init {u d yn1 yn0:Nat}(h1:2147483648<=yn1)(h0:yn0<4294967296)(hu:u<yn1*4294967296+yn0)(hd:d<4294967296):Guess u d yn1 yn0 (u / yn1) (u % yn1):=by
 have hdm:=Nat.div_add_mod u yn1
 refine⟨by rw[Nat.mul_comm];exact hdm,?_,?_⟩
 ·have h2:(u*4294967296+d) / (yn1*4294967296+yn0)<=(u*4294967296+d) / (yn1*4294967296):=Nat.div_le_div_left (by omega) (by omega)
  have h3:(u*4294967296+d) / (yn1*4294967296)=u / yn1:=by
   rw[Nat.mul_comm yn1,<-Nat.div_div_eq_div_mul]
   congr 1
   omega
  omega
 ·have:u / yn1<4294967298:=by
   rw[Nat.div_lt_iff_lt_mul (by omega)]
   omega
  omega
def digit (u d y:Nat):Nat:=(u*4294967296+d) / y
theorem guess_end {u d yn1 yn0 q r:Nat}(h1:2147483648<=yn1)(h:Guess u d yn1 yn0 q r)(ht:q*yn0<=4294967296*r+d):q=digit u d (yn1*4294967296+yn0):=by
 have h2:=(test_iff (d:=d) (yn0:=yn0) h.1).2 ht
 have h3:=(le_top (u:=u) (d:=d) (q:=q) (show 0<yn1*4294967296+yn0 by omega)).2 h2
 have:=h.2.1
 unfold digit
 omega
theorem guess_next {u d yn1 yn0 q r:Nat}(h1:2147483648<=yn1)(hu:u<yn1*4294967296+yn0)(hd:d<4294967296)(h:Guess u d yn1 yn0 q r)(ht:4294967296<=q\/4294967296*r+d<q*yn0) :
 0<q/\Guess u d yn1 yn0 (q-1) (r+yn1)/\q-1<=4294967296:=by
 have hlt:(u*4294967296+d) / (yn1*4294967296+yn0)<q:=by
  rcases ht with ht|ht
  ·have:=top_lt hu hd
   omega
  ·by_cases hh:q<=(u*4294967296+d) / (yn1*4294967296+yn0)
   ·have h2:=(le_top (u:=u) (d:=d) (q:=q) (show 0<yn1*4294967296+yn0 by omega)).1 hh
    have h3:=(test_iff (d:=d) (yn0:=yn0) h.1).1 h2
    omega
   ·omega
 have hq:0<q:=Nat.lt_of_le_of_lt (Nat.zero_le _) hlt
 have h3:=h.1
 have h4:=h.2.2
 refine⟨hq,⟨?_,by omega,by omega⟩,by omega⟩
 have e:q*yn1=(q-1)*yn1+yn1:=by
  rw[<-Nat.succ_mul]
  congr 1
  omega
 omega
theorem guess_break {u d yn1 yn0 q r:Nat}(h1:2147483648<=yn1)(h0:yn0<4294967296)(h:Guess u d yn1 yn0 q r)(hq:q<=4294967296)(hr:4294967296<=r):q=digit u d (yn1*4294967296+yn0):=by
 refine guess_end h1 h ?_
 have h2:q*yn0<=18446744069414584320:=by
  have:=Nat.mul_le_mul hq (show yn0<=4294967295 by omega)
  simpa using this
 omega
theorem two_digits {u v0 v1 y q1 r1 q0 r0:Nat}(h1:y*q1+r1=u*4294967296+v1)(h2:y*q0+r0=r1*4294967296+v0):(u*4294967296+v1)*4294967296+v0=(q1*4294967296+q0)*y+r0:=by
 rw[<-h1,Nat.add_mul (q1*4294967296) q0 y]
 have e:q1*4294967296*y=y*q1*4294967296:=by rw[Nat.mul_comm y q1,Nat.mul_right_comm]
 rw[e,Nat.add_mul,Nat.mul_comm q0 y]
 generalize y*q1=A at *
 generalize y*q0=B at *
 omega
theorem quot_of {U q r y:Nat}(h:U=q*y+r)(hr:r<y):U / y=q/\U % y=r:=by
 have e:U=r+q*y:=by omega
 constructor
 ·rw[e,Nat.add_mul_div_right _ _ (by omega),Nat.div_eq_of_lt hr];omega
 ·rw[e,Nat.add_mul_mod_self_right,Nat.mod_eq_of_lt hr]
end Go.Proofs.YtbbehmcekbnkiaaGreat.DivN
namespace Go.Proofs.YtbbehmcekbnkiaaGreat.Shr
open Go.RowKit
set_option linter.unusedVariables false
set_option linter.unusedSimpArgs false
theorem hideR {p:Prop}(h:p):Hid p:=h
theorem magnitude_any (x:Int)(w:World)(h1 : -9223372036854775808<=x)(h2:x<=9223372036854775807) :
 Calls Tryz.prog 133 #[.int .i64 x] w fun e w'=>e = .returned (.int .u64 ((x.natAbs:Nat):Int))/\w'=w:=by
 by_cases h:x<0
 ·have e:IntKind.u64.wrap (-IntKind.u64.wrap x)=((x.natAbs:Nat):Int):=by rw[IntKind.wrap_u64,IntKind.wrap_u64];omega
  have E:=hideR e
  clear e
  go_enter Tryz.func133,Tryz.ntmps133
  go_wp2
  go_ret
  exact⟨by rw[<-E.out];rfl,rfl⟩
 ·have e:((x.natAbs:Nat):Int)=x:=by omega
  rw[e]
  clear e
  go_enter Tryz.func133,Tryz.ntmps133
  go_wp2
  go_ret
  exact⟨rfl,rfl⟩
theorem nearest_any (r c:Nat)(w:World)(hc:0<c)(h:r<c)(hc':c<18446744073709551616) :
 Calls Tryz.prog 136 #[.int .u64 (r:Int),.int .u64 (c:Int)] w fun e w'=>e = .returned (.int .u64 ((if c<=2*r then 1 else 0:Nat):Int))/\Below w.heap.size w w':=by
 have e1:(r:Int) / (c:Int)=0:=Int.ediv_eq_zero_of_lt (by omega) (by omega)
 have e2:(r:Int) % (c:Int)=(r:Int):=Int.emod_eq_of_lt (by omega) (by omega)
 by_cases hh:c<=2*r
 ·rw[if_pos hh]
  have g:(c:Int)-(r:Int)<=(r:Int):=by omega
  go_enter Tryz.func136,Tryz.ntmps136
  go_wp2
  go_quiet (fail)
  go_wp2
  go_ret
  exact⟨rfl,below_drewN (Below.refl _ _) _⟩
 ·rw[if_neg hh]
  have g:¬(c:Int)-(r:Int)<=(r:Int):=by omega
  have g':decide ((c:Int)-(r:Int)<=(r:Int))=false:=by simp;omega
  go_enter Tryz.func136,Tryz.ntmps136
  go_wp2
  go_quiet (fail)
  go_wp2
  go_ret
  exact⟨rfl,below_drewN (Below.refl _ _) _⟩
def DivAt (hi lo y:Nat):Prop:=∀w,Calls Tryz.prog 135 #[.int .u64 (hi:Int),.int .u64 (lo:Int),.int .u64 (y:Int)] w fun e w' =>
 e = .returned (.tuple #[.int .u64 (((hi*18446744073709551616+lo) / y:Nat):Int),.int .u64 (((hi*18446744073709551616+lo) % y:Nat):Int)])/\Below w.heap.size w w'
theorem div_zero (lo y:Nat)(hl:lo<18446744073709551616)(hy:0<y)(hy':y<18446744073709551616):DivAt 0 lo y:=by
 intro w
 rw[Nat.zero_mul,Nat.zero_add]
 have e1:IntKind.u64.wrap ((lo:Int) / (y:Int))=((lo / y:Nat):Int):=by
  have:=Nat.div_le_self lo y
  rw[<-Int.natCast_ediv]
  generalize lo / y=d at *
  rw[IntWalk.u64_in _ (by omega)]
 have E1:=hideR e1
 clear e1
 go_enter Tryz.func135,Tryz.ntmps135
 go_wp2
 go_quiet (fail)
 go_wp2
 go_ret2
 exact⟨ret2u E1.out (by simp),below_drewN (Below.refl _ _) _⟩
def scaleN (a b c bound:Nat):Nat:=BigN.near a b c (bound+1)
theorem scale_top {a b c bound:Nat}(hc:0<c)(hb:bound<18446744073709551615)(h:c<=a*b / 18446744073709551616):scaleN a b c bound=bound+1:=by
 unfold scaleN
 rw[BigN.near_eq a b c _ hc]
 have h1:c*18446744073709551616<=a*b:=(Nat.le_div_iff_mul_le (by decide)).1 h
 have h2:18446744073709551616<=a*b / c:=(Nat.le_div_iff_mul_le hc).2 (by rw[Nat.mul_comm];exact h1)
 omega
theorem scale_big {a b c bound:Nat}(hc:0<c)(h:bound<a*b / c):scaleN a b c bound=bound+1:=by
 unfold scaleN
 rw[BigN.near_eq a b c _ hc]
 omega
theorem scale_in {a b c bound:Nat}(hc:0<c)(h:a*b / c<=bound):scaleN a b c bound=a*b / c+if c<=2*(a*b % c) then 1 else 0:=by
 unfold scaleN
 rw[BigN.near_eq a b c _ hc]
 split<;>omega
def negB (x num den:Int):Bool:=!((!(decide (x<0) == decide (num<0))) == decide (den<0))
theorem scaled_any (x num den:Int)(bound:Nat)(w:World)(hx1 : -9223372036854775808<=x)(hx2:x<=9223372036854775807)(hn1 : -9223372036854775808<=num)(hn2:num<=9223372036854775807)(hd1 : -9223372036854775808<=den)(hd2:den<=9223372036854775807)
 (hd0:den≠0) (hbd:bound<=1152921504606846976)
 (hdiv:x.natAbs*num.natAbs / 18446744073709551616<den.natAbs->DivAt (x.natAbs*num.natAbs / 18446744073709551616) (x.natAbs*num.natAbs % 18446744073709551616) den.natAbs) :
 Calls Tryz.prog 119 #[.int .i64 x,.int .i64 num,.int .i64 den,.int .i64 (bound:Int)] w fun e w' =>
  e = .returned (.tuple #[.int .i64 (if negB x num den then -((min (scaleN x.natAbs num.natAbs den.natAbs bound) bound:Nat):Int) else ((min (scaleN x.natAbs num.natAbs den.natAbs bound) bound:Nat):Int)),.bool (decide (scaleN x.natAbs num.natAbs den.natAbs bound<=bound))])/\Below w.heap.size w w':=by
 have M1:=hideR (magnitude_any x)
 have M2:=hideR (magnitude_any num)
 have M3:=hideR (magnitude_any den)
 have hc0:0<den.natAbs:=by omega
 have ha:x.natAbs<18446744073709551616:=by omega
 have hb:num.natAbs<18446744073709551616:=by omega
 have hc:den.natAbs<18446744073709551616:=by omega
 generalize hA:x.natAbs=a at *
 generalize hBb:num.natAbs=b at *
 generalize hC:den.natAbs=c at *
 clear hA hBb hC
 have PR:=hideR (product_any a b)
 have HDIV:=hideR hdiv
 clear hdiv
 obtain⟨hi,hhi⟩:=exq (a*b / 18446744073709551616)
 obtain⟨lo,hlo⟩:=exq (a*b % 18446744073709551616)
 rw[<-hhi,<-hlo] at PR HDIV
 have HHI:=hideR hhi
 have HLO:=hideR hlo
 have hi1:hi<18446744073709551616:=by
  rw[hhi]
  have h2:=Nat.mul_le_mul (show a<=18446744073709551615 by omega) (show b<=18446744073709551615 by omega)
  generalize a*b=p at *
  omega
 have lo1:lo<18446744073709551616:=by rw[hlo];exact Nat.mod_lt _ (by decide)
 clear hhi hlo
 by_cases h1:c<=hi
 ·have e:=scale_top (a:=a) (b:=b) (c:=c) (bound:=bound) hc0 (by omega) (by rw[<-HHI.out];exact h1)
  rw[e,show min (bound+1) bound=bound by omega,show decide (bound+1<=bound)=false by simp]
  clear e
  cases hneg:negB x num den
  ·unfold negB at hneg
   go_enter Tryz.func119,Tryz.ntmps119
   go_wp2_with fail
   refine(M3.out _ hd1 hd2).mono ?_
   rintro e w1 ⟨rfl,rfl⟩
   go_wp2_with fail
   refine(M1.out _ hx1 hx2).mono ?_
   rintro e w1 ⟨rfl,rfl⟩
   go_wp2_with fail
   refine(M2.out _ hn1 hn2).mono ?_
   rintro e w1 ⟨rfl,rfl⟩
   go_wp2_with fail
   refine(PR.out _ ha hb).mono ?_
   rintro e w1 ⟨rfl,rfl⟩
   go_wp2
   go_ret2
   exact⟨rfl,Below.refl _ _⟩
  ·unfold negB at hneg
   go_enter Tryz.func119,Tryz.ntmps119
   go_wp2_with fail
   refine(M3.out _ hd1 hd2).mono ?_
   rintro e w1 ⟨rfl,rfl⟩
   go_wp2_with fail
   refine(M1.out _ hx1 hx2).mono ?_
   rintro e w1 ⟨rfl,rfl⟩
   go_wp2_with fail
   refine(M2.out _ hn1 hn2).mono ?_
   rintro e w1 ⟨rfl,rfl⟩
   go_wp2_with fail
   refine(PR.out _ ha hb).mono ?_
   rintro e w1 ⟨rfl,rfl⟩
   go_wp2
   go_ret2
   exact⟨rfl,Below.refl _ _⟩
 have hd:=HDIV.out (by omega)
 unfold DivAt at hd
 rw[show hi*18446744073709551616+lo=a*b by rw[HHI.out,HLO.out,Nat.mul_comm];exact Nat.div_add_mod _ _] at hd
 have hr1:a*b % c<c:=Nat.mod_lt _ hc0
 have NE:=hideR (fun w=>nearest_any (a*b % c) c w hc0 hr1 hc)
 have hbig:=fun h=>scale_big (a:=a) (b:=b) (c:=c) (bound:=bound) hc0 h
 have hin:=fun h=>scale_in (a:=a) (b:=b) (c:=c) (bound:=bound) hc0 h
 clear HDIV
 generalize hq:a*b / c=q at hd hbig hin
 generalize hr:a*b % c=r at hd hin NE
 clear hq hr hr1
 obtain⟨n,hn⟩:∃n:Nat,n=if c<=2*r then 1 else 0:=⟨_,rfl⟩
 rw[<-hn] at NE hin
 have hn1':n<=1:=by rw[hn];split<;>omega
 clear hn
 have HD:=hideR hd
 clear hd
 by_cases h2:bound<q
 ·have e:=hbig h2
  rw[e,show min (bound+1) bound=bound by omega,show decide (bound+1<=bound)=false by simp]
  clear e hbig hin
  cases hneg:negB x num den
  ·unfold negB at hneg
   go_enter Tryz.func119,Tryz.ntmps119
   go_wp2_with fail
   refine(M3.out _ hd1 hd2).mono ?_
   rintro e w1 ⟨rfl,rfl⟩
   go_wp2_with fail
   refine(M1.out _ hx1 hx2).mono ?_
   rintro e w1 ⟨rfl,rfl⟩
   go_wp2_with fail
   refine(M2.out _ hn1 hn2).mono ?_
   rintro e w1 ⟨rfl,rfl⟩
   go_wp2_with fail
   refine(PR.out _ ha hb).mono ?_
   rintro e w1 ⟨rfl,rfl⟩
   go_wp2_with fail
   refine(HD.out _).mono ?_
   rintro e w2 ⟨rfl,hb2⟩
   have B2:=hideR hb2
   clear hb2
   go_wp2
   go_ret2
   exact⟨rfl,B2.out⟩
  ·unfold negB at hneg
   go_enter Tryz.func119,Tryz.ntmps119
   go_wp2_with fail
   refine(M3.out _ hd1 hd2).mono ?_
   rintro e w1 ⟨rfl,rfl⟩
   go_wp2_with fail
   refine(M1.out _ hx1 hx2).mono ?_
   rintro e w1 ⟨rfl,rfl⟩
   go_wp2_with fail
   refine(M2.out _ hn1 hn2).mono ?_
   rintro e w1 ⟨rfl,rfl⟩
   go_wp2_with fail
   refine(PR.out _ ha hb).mono ?_
   rintro e w1 ⟨rfl,rfl⟩
   go_wp2_with fail
   refine(HD.out _).mono ?_
   rintro e w2 ⟨rfl,hb2⟩
   have B2:=hideR hb2
   clear hb2
   go_wp2
   go_ret2
   exact⟨rfl,B2.out⟩
 have e:=hin (by omega)
 rw[e]
 clear e hbig hin
 by_cases h3:bound<q+n
 ·rw[show min (q+n) bound=bound by omega,show decide (q+n<=bound)=false by simp;omega]
  cases hneg:negB x num den
  ·unfold negB at hneg
   go_enter Tryz.func119,Tryz.ntmps119
   go_wp2_with fail
   refine(M3.out _ hd1 hd2).mono ?_
   rintro e w1 ⟨rfl,rfl⟩
   go_wp2_with fail
   refine(M1.out _ hx1 hx2).mono ?_
   rintro e w1 ⟨rfl,rfl⟩
   go_wp2_with fail
   refine(M2.out _ hn1 hn2).mono ?_
   rintro e w1 ⟨rfl,rfl⟩
   go_wp2_with fail
   refine(PR.out _ ha hb).mono ?_
   rintro e w1 ⟨rfl,rfl⟩
   go_wp2_with fail
   refine(HD.out _).mono ?_
   rintro e w2 ⟨rfl,hb2⟩
   have B2:=hideR hb2
   clear hb2
   go_wp2_with fail
   refine(NE.out _).mono ?_
   rintro e w3 ⟨rfl,hb3⟩
   have B3:=hideR (B2.out.trans (hb3.mono B2.out.size))
   clear hb3
   go_wp2
   go_ret2
   exact⟨rfl,B3.out⟩
  ·unfold negB at hneg
   go_enter Tryz.func119,Tryz.ntmps119
   go_wp2_with fail
   refine(M3.out _ hd1 hd2).mono ?_
   rintro e w1 ⟨rfl,rfl⟩
   go_wp2_with fail
   refine(M1.out _ hx1 hx2).mono ?_
   rintro e w1 ⟨rfl,rfl⟩
   go_wp2_with fail
   refine(M2.out _ hn1 hn2).mono ?_
   rintro e w1 ⟨rfl,rfl⟩
   go_wp2_with fail
   refine(PR.out _ ha hb).mono ?_
   rintro e w1 ⟨rfl,rfl⟩
   go_wp2_with fail
   refine(HD.out _).mono ?_
   rintro e w2 ⟨rfl,hb2⟩
   have B2:=hideR hb2
   clear hb2
   go_wp2_with fail
   refine(NE.out _).mono ?_
   rintro e w3 ⟨rfl,hb3⟩
   have B3:=hideR (B2.out.trans (hb3.mono B2.out.size))
   clear hb3
   go_wp2
   go_ret2
   exact⟨rfl,B3.out⟩
 ·rw[show min (q+n) bound=q+n by omega,show decide (q+n<=bound)=true by simp;omega]
  cases hneg:negB x num den
  ·unfold negB at hneg
   go_enter Tryz.func119,Tryz.ntmps119
   go_wp2_with fail
   refine(M3.out _ hd1 hd2).mono ?_
   rintro e w1 ⟨rfl,rfl⟩
   go_wp2_with fail
   refine(M1.out _ hx1 hx2).mono ?_
   rintro e w1 ⟨rfl,rfl⟩
   go_wp2_with fail
   refine(M2.out _ hn1 hn2).mono ?_
   rintro e w1 ⟨rfl,rfl⟩
   go_wp2_with fail
   refine(PR.out _ ha hb).mono ?_
   rintro e w1 ⟨rfl,rfl⟩
   go_wp2_with fail
   refine(HD.out _).mono ?_
   rintro e w2 ⟨rfl,hb2⟩
   have B2:=hideR hb2
   clear hb2
   go_wp2_with fail
   refine(NE.out _).mono ?_
   rintro e w3 ⟨rfl,hb3⟩
   have B3:=hideR (B2.out.trans (hb3.mono B2.out.size))
   clear hb3
   go_wp2
   go_ret2
   exact⟨by simp,B3.out⟩
  ·unfold negB at hneg
   go_enter Tryz.func119,Tryz.ntmps119
   go_wp2_with fail
   refine(M3.out _ hd1 hd2).mono ?_
   rintro e w1 ⟨rfl,rfl⟩
   go_wp2_with fail
   refine(M1.out _ hx1 hx2).mono ?_
   rintro e w1 ⟨rfl,rfl⟩
   go_wp2_with fail
   refine(M2.out _ hn1 hn2).mono ?_
   rintro e w1 ⟨rfl,rfl⟩
   go_wp2_with fail
   refine(PR.out _ ha hb).mono ?_
   rintro e w1 ⟨rfl,rfl⟩
   go_wp2_with fail
   refine(HD.out _).mono ?_
   rintro e w2 ⟨rfl,hb2⟩
   have B2:=hideR hb2
   clear hb2
   go_wp2_with fail
   refine(NE.out _).mono ?_
   rintro e w3 ⟨rfl,hb3⟩
   have B3:=hideR (B2.out.trans (hb3.mono B2.out.size))
   clear hb3
   go_wp2
   go_ret2
   exact⟨by simp,B3.out⟩
end Go.Proofs.YtbbehmcekbnkiaaGreat.Shr

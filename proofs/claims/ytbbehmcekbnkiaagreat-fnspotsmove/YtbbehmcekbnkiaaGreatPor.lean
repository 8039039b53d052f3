import Derived.Test.YtbbehmcekbnkiaaGreatBigA
import Derived.Test.YtbbehmcekbnkiaaGreatRatio
import Derived.Test.YtbbehmcekbnkiaaGreatDiv
namespace Go.Proofs.YtbbehmcekbnkiaaGreat.Shr
open Go.RowKit
set_option linter.unusedVariables false
set_option linter.unusedSimpArgs false
def top (xs:List Int):Nat:=if xs.getD 3 0≠0 then 3 else if xs.getD 2 0≠0 then 2 else if xs.getD 1 0≠0 then 1 else 0
theorem top_le (xs:List Int):top xs≤3:=by unfold top;split <;> (try split) <;> (try split) <;> omega
def cutN (want a have_:Int):Nat:=BigN.near want.natAbs a.natAbs have_.natAbs 1152921504606846976
def cut (want a have_:Int):Int:=if a<0 then -(cutN want a have_:Int) else (cutN want a have_:Int)
theorem cutN_le (want a have_:Int):cutN want a have_≤1152921504606846976:=BigN.part_le _ _ _
theorem cut_le (want a have_:Int) : -1152921504606846976≤cut want a have_∧cut want a have_≤1152921504606846976:=by
 have:=cutN_le want a have_
 unfold cut
 split <;> omega
theorem min_near (a b c:Nat):min (BigN.near a b c (1152921504606846976+1)) 1152921504606846976=BigN.near a b c 1152921504606846976:=by
 unfold BigN.near BigN.part
 split <;> omega
theorem div_all (hi lo y:Nat) (hhy:hi<y) (hl:lo<18446744073709551616) (hy':y<18446744073709551616):DivAt hi lo y:=by
 by_cases h:hi=0
 ·subst h
  exact div_zero lo y hl hhy hy'
 ·exact div_high hi lo y (by omega) hhy hl hy'
theorem scaledCut_any (x num den:Int) (w:World) (hx1:0<x) (hx2:x≤9223372036854775807) (hn1 : -9223372036854775808≤num) (hn2:num≤9223372036854775807) (hd1:0<den) (hd2:den≤9223372036854775807) :
 Calls Tryz.prog 119 #[.int .i64 x, .int .i64 num, .int .i64 den, .int .i64 1152921504606846976] w fun e w'=>(∃b,e = .returned (.tuple #[.int .i64 (cut x num den), .bool b]))∧Below w.heap.size w w':=by
 refine (scaled_any x num den 1152921504606846976 w (by omega) hx2 hn1 hn2 (by omega) hd2 (by omega) (Nat.le_refl _) (fun h=>div_all _ _ _ h (Nat.mod_lt _ (by decide)) (by omega))).mono ?_
 rintro e w' ⟨rfl,hb⟩
 have hneg:negB x num den=decide (num<0):=by
  have h1:decide (x<0)=false:=decide_eq_false (by omega)
  have h2:decide (den<0)=false:=decide_eq_false (by omega)
  unfold negB
  rw[h1,h2]
  cases decide (num<0) <;> rfl
 have hv:(if negB x num den=true then -((min (scaleN x.natAbs num.natAbs den.natAbs 1152921504606846976) 1152921504606846976:Nat):Int) else ((min (scaleN x.natAbs num.natAbs den.natAbs 1152921504606846976) 1152921504606846976:Nat):Int))=cut x num den:=by
  rw[hneg]
  unfold scaleN
  rw[min_near]
  unfold cut cutN
  by_cases h:num<0 <;> simp[h]
 exact⟨⟨_,by rw[hv]⟩,hb⟩
theorem retI {a b:Int} (h:a=b):Ending.returned (Value.int .i64 a)=Ending.returned (Value.int .i64 b):=by rw[h]
theorem specAbs_any (x:Int) (w:World) (h1 : -9223372036854775808≤x) (h2:x≤9223372036854775807) :
 Calls Tryz.prog 128 #[.int .i64 x] w fun e w'=>e = .returned (.int .u64 ((x.natAbs:Nat):Int))∧w'=w:=by
 by_cases h:x<0
 ·have e:((x.natAbs:Nat):Int) = -(x+1)+1:=by omega
  rw[e]
  clear e
  go_enter Tryz.func128,Tryz.ntmps128
  go_wp2
  go_ret
  exact⟨rfl,rfl⟩
 ·have e:((x.natAbs:Nat):Int)=x:=by omega
  rw[e]
  clear e
  go_enter Tryz.func128,Tryz.ntmps128
  go_wp2
  go_ret
  exact⟨rfl,rfl⟩
set_option maxHeartbeats 1000000 in
theorem specCut_any (x num den:Int) (w:World) (hx1:0<x) (hx2:x≤9223372036854775807) (hn1 : -9223372036854775807≤num) (hn2:num≤9223372036854775807) (hd1:0<den) (hd2:den≤9223372036854775807) :
 Calls Tryz.prog 114 #[.int .i64 x, .int .i64 num, .int .i64 den] w fun e w'=>e = .returned (.int .i64 (cut x num den))∧Below w.heap.size w w':=by
 have hwx:IntKind.u64.wrap x=x:=by rw[IntKind.wrap_u64];omega
 have hwd:IntKind.u64.wrap den=den:=by rw[IntKind.wrap_u64];omega
 have hnear:=fun W=>near_any x.natAbs num.natAbs den.natAbs 1152921504606846976 W (by omega) (by omega) (by omega) (by omega)
 rw[show ((x.natAbs:Nat):Int)=x by omega,show ((den.natAbs:Nat):Int)=den by omega] at hnear
 have HN:Hid (∀W,Calls Tryz.prog 127 #[.int .u64 x, .int .u64 ((num.natAbs:Nat):Int), .int .u64 den, .int .u64 ((1152921504606846976:Nat):Int)] W fun e w'=>e = .returned (.int .u64 ((BigN.near x.natAbs num.natAbs den.natAbs 1152921504606846976:Nat):Int))∧Below W.heap.size W w'):=hnear
 clear hnear
 obtain⟨c,hc⟩:∃c,c=cutN x num den:=⟨_,rfl⟩
 have hcl:c≤1152921504606846976:=by rw[hc];exact cutN_le _ _ _
 obtain⟨ci,hci⟩:∃ci:Int,ci=(c:Int):=⟨_,rfl⟩
 have hci0:0≤ci:=by omega
 have hci1:ci≤1152921504606846976:=by omega
 have hwc:IntKind.i64.wrap ci=ci:=by rw[IntKind.wrap_i64];omega
 have HC:Hid (ci=((cutN x num den:Nat):Int)):=hci.trans (by rw[hc])
 clear hc hci hcl
 have hneg2 : -ci≤0:=by omega
 go_enter Tryz.func114,Tryz.ntmps114
 go_wp2_with fail
 refine (specAbs_any num _ (by omega) hn2).mono ?_
 rintro e w1 ⟨rfl,hw1⟩
 have hw1':=hw1.symm
 clear hw1
 subst hw1'
 go_wp2_with fail
 refine (HN _).mono ?_
 rintro e w2 ⟨rfl,hb2⟩
 rw[show ((BigN.near x.natAbs num.natAbs den.natAbs 1152921504606846976:Nat):Int)=ci from (show ci=((cutN x num den:Nat):Int) from HC).symm]
 have HB:Hid (Below w.heap.size w w2):=hb2
 clear hb2
 by_cases h:num<0
 ·go_wp2
  go_ret
  refine⟨?_,HB⟩
  unfold cut
  rw[if_pos h,← show ci=((cutN x num den:Nat):Int) from HC]
  rfl
 ·go_wp2
  go_ret
  refine⟨?_,HB⟩
  unfold cut
  rw[if_neg (by omega),← show ci=((cutN x num den:Nat):Int) from HC]
  rfl
set_option maxHeartbeats 1000000 in
theorem specTop_any {v:Value} {xs:List Int} {w:World} (h:Row w v xs) (hl:xs.length=4):Calls Tryz.prog 112 #[v] w fun e w'=>e = .returned (.int .i64 (top xs:Int))∧w'=w:=by
 obtain⟨ao,n,cap,rfl,hn,hr⟩:=h
 obtain rfl:n=4:=by omega
 obtain⟨b,off,rfl,hb,hc⟩:=hr (by omega)
 have HC:Hid (∀i,i<4→w.cell? ⟨b,off+i,none⟩=some (.int .i64 (xs.getD i 0))):=hc
 clear hc hr hn hl
 go_enter Tryz.func112,Tryz.ntmps112
 go_wp2
 go_loop [3] (fun i=>∃k:Nat,k≤3∧i = .int .i64 k∧∀j,k<j→j≤3→xs.getD j 0=0) (fun i=>(intOf i).toNat)
 case atStart=>exact⟨3,by omega,rfl,fun j h1 h2=>by omega⟩
 case round =>
  obtain⟨k,hk,rfl,hz⟩:=hrel
  have HZ:Hid (∀j,k<j→j≤3→xs.getD j 0=0):=hz
  clear hz
  by_cases hk0:0<k
  ·have hki:(0:Int)<(k:Int):=by omega
   have hk4:(k:Int)<4:=by omega
   obtain⟨z,hz⟩:∃z,z=xs.getD k 0:=⟨_,rfl⟩
   have hcell:w.cell? ⟨b,off+k,none⟩=some (.int .i64 z):=by rw[hz];exact HC k (by omega)
   have HZZ:Hid (z=xs.getD k 0):=hz
   clear hz
   by_cases hz0:z=0
   ·go_wp2
    go_round
    case rel =>
     refine⟨k - 1,by omega,?_,fun j h1 h2=>?_⟩
     ·rw[show (((k - 1:Nat)):Int)=(k:Int) - 1 by omega]
     ·by_cases hjk:j=k
      ·subst hjk;rw[← show z=xs.getD j 0 from HZZ];exact hz0
      ·exact HZ j (by omega) h2
    case measure=>simp[intOf];omega
   ·go_wp2
    go_ret
    refine⟨retI ?_,rfl⟩
    have hne:xs.getD k 0≠0:=by rw[← show z=xs.getD k 0 from HZZ];exact hz0
    have:top xs=k:=by
     unfold top
     rcases (show k=1∨k=2∨k=3 by omega) with rfl | rfl | rfl
     ·rw[if_neg (by rw[HZ 3 (by omega) (by omega)];simp),if_neg (by rw[HZ 2 (by omega) (by omega)];simp),if_pos hne]
     ·rw[if_neg (by rw[HZ 3 (by omega) (by omega)];simp),if_pos hne]
     ·rw[if_pos hne]
    rw[this]
  ·obtain rfl:k=0:=by omega
   go_wp2
   go_ret
   refine⟨retI ?_,rfl⟩
   have:top xs=0:=by
    unfold top
    rw[if_neg (by rw[HZ 3 (by omega) (by omega)];simp),if_neg (by rw[HZ 2 (by omega) (by omega)];simp),if_neg (by rw[HZ 1 (by omega) (by omega)];simp)]
   rw[this]
   rfl
set_option maxHeartbeats 2000000 in
theorem highest_any (a0 a1 a2 a3:Int) (w:World):Calls Tryz.prog 131 #[.agg #[.int .i64 a0, .int .i64 a1, .int .i64 a2, .int .i64 a3]] w fun e w' =>
 e = .returned (.tuple #[.int .i64 (top [a0,a1,a2,a3]:Int), .int .i64 (([a0,a1,a2,a3]:List Int).getD (top [a0,a1,a2,a3]) 0)])∧Below w.heap.size w w':=by
 obtain⟨xs,hxs⟩:∃xs:List Int,xs=[a0,a1,a2,a3]:=⟨_,rfl⟩
 have hc:∀i,i<4→(w.alloc (.cells #[.int .i64 a0, .int .i64 a1, .int .i64 a2, .int .i64 a3] 197)).cell? ⟨w.heap.size,i,none⟩=some (.int .i64 (xs.getD i 0)):=by
  intro i hi
  rw[hxs,cell_of_row _ w.heap.size i _ 197 (0,0) (heap_alloc_new w _)]
  rcases (show i=0∨i=1∨i=2∨i=3 by omega) with rfl | rfl | rfl | rfl <;> rfl
 rw[← hxs]
 have HC:Hid (∀i,i<4→(w.alloc (.cells #[.int .i64 a0, .int .i64 a1, .int .i64 a2, .int .i64 a3] 197)).cell? ⟨w.heap.size,i,none⟩=some (.int .i64 (xs.getD i 0))):=hc
 clear hc hxs
 have HB:Hid (Below w.heap.size w (w.alloc (.cells #[.int .i64 a0, .int .i64 a1, .int .i64 a2, .int .i64 a3] 197)).drew):=((Below.refl _ _).alloc (Nat.le_refl _) _).drew
 go_enter Tryz.func131,Tryz.ntmps131
 go_wp2
 obtain⟨W,hW⟩:∃W,W=w.alloc (.cells #[.int .i64 a0, .int .i64 a1, .int .i64 a2, .int .i64 a3] 197):=⟨_,rfl⟩
 rw[← hW]
 have HC2:Hid (∀i,i<4→W.cell? ⟨w.heap.size,i,none⟩=some (.int .i64 (xs.getD i 0))):=by rw[hW];exact HC
 have HB2:Hid (Below w.heap.size w W.drew):=by rw[hW];exact HB
 clear HC HB hW
 go_loop [2] (fun i=>∃k:Nat,k≤3∧i = .int .i64 k∧∀j,k<j→j≤3→xs.getD j 0=0) (fun i=>(intOf i).toNat)
 case atStart=>exact⟨3,by omega,rfl,fun j h1 h2=>by omega⟩
 case round =>
  obtain⟨k,hk,rfl,hz⟩:=hrel
  have HZ:Hid (∀j,k<j→j≤3→xs.getD j 0=0):=hz
  clear hz
  have hk4:(k:Int)<4:=by omega
  obtain⟨z,hz⟩:∃z,z=xs.getD k 0:=⟨_,rfl⟩
  have hcell:W.cell? ⟨w.heap.size,k,none⟩=some (.int .i64 z):=by rw[hz];exact HC2 k (by omega)
  have HZZ:Hid (z=xs.getD k 0):=hz
  clear hz
  have fin:(k=0∨z≠0)→Hid (top xs=k):=by
   intro hor
   have hne:k≠0→xs.getD k 0≠0:=fun h0=>by rw[← show z=xs.getD k 0 from HZZ];exact hor.resolve_left h0
   show top xs=k
   unfold top
   rcases (show k=0∨k=1∨k=2∨k=3 by omega) with rfl | rfl | rfl | rfl
   ·rw[if_neg (by rw[HZ 3 (by omega) (by omega)];simp),if_neg (by rw[HZ 2 (by omega) (by omega)];simp),if_neg (by rw[HZ 1 (by omega) (by omega)];simp)]
   ·rw[if_neg (by rw[HZ 3 (by omega) (by omega)];simp),if_neg (by rw[HZ 2 (by omega) (by omega)];simp),if_pos (hne (by omega))]
   ·rw[if_neg (by rw[HZ 3 (by omega) (by omega)];simp),if_pos (hne (by omega))]
   ·rw[if_pos (hne (by omega))]
  by_cases hk0:0<k
  ·have hki:(0:Int)<(k:Int):=by omega
   by_cases hz0:z=0
   ·clear fin
    go_wp2
    go_round
    case rel =>
     refine⟨k - 1,by omega,?_,fun j h1 h2=>?_⟩
     ·rw[show (((k - 1:Nat)):Int)=(k:Int) - 1 by omega]
     ·by_cases hjk:j=k
      ·subst hjk;rw[← show z=xs.getD j 0 from HZZ];exact hz0
      ·exact HZ j (by omega) h2
    case measure=>simp[intOf];omega
   ·have FIN:=fin (Or.inr hz0)
    clear fin
    go_wp2
    go_region
    all_goals (try go_wp2)
    all_goals go_ret2
    all_goals
     refine⟨?_,HB2⟩
     rw[show top xs=k from FIN,← show z=xs.getD k 0 from HZZ]
     rfl
  ·have FIN:=fin (Or.inl (by omega))
   clear fin
   have hki:¬(0:Int)<(k:Int):=by omega
   go_wp2
   go_region
   all_goals (try go_wp2)
   all_goals go_ret2
   all_goals
    refine⟨?_,HB2⟩
    rw[show top xs=k from FIN,← show z=xs.getD k 0 from HZZ]
    rfl
structure Sett where
 sign:Int
 order:Int
 want:Int
 have_:Int
 bad:Int
 over:Int
abbrev setV (a b c d e f:Int):Value:= .agg #[.int .i64 a, .int .i64 b, .int .i64 c, .int .i64 d, .int .i64 e, .int .i64 f]
set_option maxHeartbeats 1000000 in
theorem boundBad_any (a b c d e f:Int) (w:World) (hc:c≤9223372036854775807) (hd:d≤9223372036854775807) :
 Calls Tryz.prog 132 #[setV a b c d e f] w fun e' w'=>e' = .returned (.int .i64 (if 0<b then 0 else badV c d))∧Below w.heap.size w w':=by
 by_cases h:0<b
 ·rw[if_pos h]
  go_enter Tryz.func132,Tryz.ntmps132
  go_wp2
  go_ret
  exact⟨rfl,(Below.refl _ _).alloc (Nat.le_refl _) _⟩
 ·rw[if_neg h]
  go_enter Tryz.func132,Tryz.ntmps132
  go_wp2_with fail
  refine (implBad_any c d _ hc hd).mono ?_
  rintro e' w2 ⟨rfl,hb2⟩
  have HB:Hid (Below w.heap.size w w2):=((Below.refl _ _).alloc (Nat.le_refl _) _).trans (hb2.mono (by simp))
  clear hb2
  go_wp2
  go_ret
  exact⟨rfl,HB⟩
def stp (f o:Gl→Int) (ord want have_:Int) (gs:List Gl):Int×Int×List Int :=
 gs.foldl (fun st g=>if o g=ord then (st.1+f g,cut want (st.1+f g) have_,st.2.2 ++ [cut want (st.1+f g) have_ - st.2.1]) else (st.1,st.2.1,st.2.2 ++ [0])) (0,0,[])
theorem stp_yes {f o:Gl→Int} {ord want have_:Int} {gs:List Gl} {g:Gl} (h:o g=ord):stp f o ord want have_ (gs ++ [g])=((stp f o ord want have_ gs).1+f g,cut want ((stp f o ord want have_ gs).1+f g) have_,(stp f o ord want have_ gs).2.2 ++ [cut want ((stp f o ord want have_ gs).1+f g) have_ - (stp f o ord want have_ gs).2.1]):=by
 simp[stp,List.foldl_append,h]
theorem stp_no {f o:Gl→Int} {ord want have_:Int} {gs:List Gl} {g:Gl} (h:o g≠ord):stp f o ord want have_ (gs ++ [g])=((stp f o ord want have_ gs).1,(stp f o ord want have_ gs).2.1,(stp f o ord want have_ gs).2.2 ++ [0]):=by
 simp[stp,List.foldl_append,h]
theorem stp_bound (f o:Gl→Int) (ord want have_:Int) (gs:List Gl) (h:∀k,k<gs.length→ -1073741823≤f (gs.getD k Gl.none)∧f (gs.getD k Gl.none)≤1073741823) :
 ∀k,k≤gs.length→(-(1073741823*(k:Int))≤(stp f o ord want have_ (gs.take k)).1∧(stp f o ord want have_ (gs.take k)).1≤1073741823*(k:Int))∧(-1152921504606846976≤(stp f o ord want have_ (gs.take k)).2.1∧(stp f o ord want have_ (gs.take k)).2.1≤1152921504606846976)∧(stp f o ord want have_ (gs.take k)).2.2.length=k∧
  ∀j,-2305843009213693952≤(stp f o ord want have_ (gs.take k)).2.2.getD j 0∧(stp f o ord want have_ (gs.take k)).2.2.getD j 0≤2305843009213693952
 | 0,_=>by simp[stp]
 | k+1,hk=>by
  obtain⟨ih1,ih2,ih3,ih4⟩:=stp_bound f o ord want have_ gs h k (by omega)
  have hb:=h k (by omega)
  rw[take_snoc (by omega)]
  generalize gs.getD k Gl.none=g at hb
  by_cases hg:o g=ord
  ·rw[stp_yes hg]
   have hc:=cut_le want ((stp f o ord want have_ (gs.take k)).1+f g) have_
   refine⟨by push_cast;omega,hc,by simp[ih3],fun j=>?_⟩
   by_cases hj:j<k
   ·have:=ih4 j
    simpa [List.getD,List.getElem?_append_left (show j<(stp f o ord want have_ (gs.take k)).2.2.length by omega)] using this
   ·by_cases hjk:j=k
    ·subst hjk
     have e:((stp f o ord want have_ (gs.take j)).2.2 ++ [cut want ((stp f o ord want have_ (gs.take j)).1+f g) have_ - (stp f o ord want have_ (gs.take j)).2.1]).getD j 0=cut want ((stp f o ord want have_ (gs.take j)).1+f g) have_ - (stp f o ord want have_ (gs.take j)).2.1:=by
      simp[List.getD,List.getElem?_append_right (show (stp f o ord want have_ (gs.take j)).2.2.length≤j by omega),ih3]
     rw[e]
     omega
    ·have e:((stp f o ord want have_ (gs.take k)).2.2 ++ [cut want ((stp f o ord want have_ (gs.take k)).1+f g) have_ - (stp f o ord want have_ (gs.take k)).2.1]).getD j 0=0:=by
      rw[List.getD,List.getElem?_eq_none (by simp[ih3];omega)]
      rfl
     rw[e]
     omega
  ·rw[stp_no hg]
   refine⟨by push_cast;omega,ih2,by simp[ih3],fun j=>?_⟩
   by_cases hj:j<k
   ·have:=ih4 j
    simpa [List.getD,List.getElem?_append_left (show j<(stp f o ord want have_ (gs.take k)).2.2.length by omega)] using this
   ·have e:((stp f o ord want have_ (gs.take k)).2.2 ++ [0]).getD j 0=0:=by
     by_cases hjk:j=k
     ·subst hjk
      simp[List.getD,List.getElem?_append_right (show (stp f o ord want have_ (gs.take j)).2.2.length≤j by omega),ih3]
     ·rw[List.getD,List.getElem?_eq_none (by simp[ih3];omega)]
      rfl
    rw[e]
    omega
theorem rep_set {ps:List Int} {n k:Nat} (hl:ps.length=k) (hk:k<n) (z:Int):(ps ++ List.replicate (n - k) 0).set k z=(ps ++ [z]) ++ List.replicate (n - (k+1)) 0:=by
 obtain⟨m,hm⟩:∃m,n - k=m+1:=⟨n - k - 1,by omega⟩
 rw[hm,show n - (k+1)=m by omega,List.replicate_succ]
 subst hl
 rw[List.set_append_right _ _ (Nat.le_refl _),Nat.sub_self]
 simp
theorem rep_skip {ps:List Int} {n k:Nat} (hk:k<n):ps ++ List.replicate (n - k) 0=(ps ++ [0]) ++ List.replicate (n - (k+1)) 0:=by
 obtain⟨m,hm⟩:∃m,n - k=m+1:=⟨n - k - 1,by omega⟩
 rw[hm,show n - (k+1)=m by omega,List.replicate_succ]
 simp
theorem made_ints (n:Nat):(madeCells (Value.cells (.int .i64 0)) (n*1)).toList=(List.replicate n (0:Int)).map (Value.int .i64):=by
 rw[Nat.mul_one]
 show (madeCells #[Value.int .i64 0] n).toList=_
 rw[toList_madeCells_one]
 simp
theorem owns_keep {w w':World} {base e size n:Nat} {v:Value} {xs:List Value} (h:w.ownsRow base e size v n xs) (hb:Below w.heap.size w w'):w'.ownsRow base e size v n xs:=by
 refine⟨h.1,?_⟩
 rcases h.2 with h' | ⟨g,cap,cur,hv,hg0,hg,hr⟩
 ·exact .inl h'
 ·exact .inr ⟨g,cap,cur,hv,hg0,(hb.block g (Array.getElem?_eq_some_iff.1 hg).1).trans hg,hr⟩
theorem block_keep {w w':World} {g:Nat} {o:Obj} (h:w.heap[g]? = some o) (hb:Below w.heap.size w w'):w'.heap[g]? = some o:=(hb.block g (Array.getElem?_eq_some_iff.1 h).1).trans h
theorem set_cells {w:World} {g:Nat} {a b c d e f:Int} (h:w.heap[g]? = some (.cells #[.int .i64 a, .int .i64 b, .int .i64 c, .int .i64 d, .int .i64 e, .int .i64 f] 28 (0,0))) :
 w.cell? ⟨g,0,none⟩=some (.int .i64 a)∧w.cell? ⟨g,1,none⟩=some (.int .i64 b)∧w.cell? ⟨g,2,none⟩=some (.int .i64 c)∧w.cell? ⟨g,3,none⟩=some (.int .i64 d)∧w.cell? ⟨g,4,none⟩=some (.int .i64 e)∧w.cell? ⟨g,5,none⟩=some (.int .i64 f) :=
 ⟨by rw[cell_of_row w g 0 _ _ _ h];rfl,by rw[cell_of_row w g 1 _ _ _ h];rfl,by rw[cell_of_row w g 2 _ _ _ h];rfl,by rw[cell_of_row w g 3 _ _ _ h];rfl,by rw[cell_of_row w g 4 _ _ _ h];rfl,by rw[cell_of_row w g 5 _ _ _ h];rfl⟩
set_option maxRecDepth 20000 in
set_option maxHeartbeats 4000000 in
theorem portionsP_any {v:Value} {gs:List Gl} {w:World} (sa sb sc sd se sf:Int) (h:GRow w v gs) (hok:glsOk gs=true) (hsc0:0<sc) (hsc1:sc≤9223372036854775807) (hsd0:0<sd) (hsd1:sd≤9223372036854775807) :
 Calls Tryz.prog 106 #[v, .func (.func 104) #[] #[],setV sa sb sc sd se sf] w fun e w'=>∃O:Nat,e = .returned (.slice (some ⟨O,0,none⟩) gs.length gs.length)∧
  w'.ownsRow w.heap.size 2 1 (.slice (some ⟨O,0,none⟩) gs.length gs.length) gs.length ((stp Gl.p Gl.po sb sc sd gs).2.2.map (Value.int .i64))∧Below w.heap.size w w':=by
 obtain⟨ao,n,cap,rfl,hl,hr⟩:=h
 have heach:=glsOk_each hok
 have hn2:n≤10000:=by have:=heach.1;omega
 have HE:Hid (∀k,k<gs.length→(gs.getD k Gl.none).ok=true):=heach.2
 have HBD:=stp_bound Gl.p Gl.po sb sc sd gs (fun k hk=>(ok_bounds (HE k hk)).2.1)
 rw[hl] at HBD
 have HBP:Hid (_):=HBD
 have HR:Hid (0<n→∃b off,ao=some ⟨b,off,none⟩∧b<w.heap.size∧∀i,i<n→w.cell? ⟨b,off+i*5,none⟩=some (.int .i64 (gs.getD i Gl.none).s)∧w.cell? ⟨b,off+i*5+1,none⟩=some (.int .i64 (gs.getD i Gl.none).p)∧w.cell? ⟨b,off+i*5+2,none⟩=some (.int .i64 (gs.getD i Gl.none).po)∧w.cell? ⟨b,off+i*5+3,none⟩=some (.int .i64 (gs.getD i Gl.none).m)∧w.cell? ⟨b,off+i*5+4,none⟩=some (.int .i64 (gs.getD i Gl.none).mo)):=hr
 have HL:Hid (gs.length=n):=hl
 rw[hl]
 clear hr hl hok heach HBD
 obtain⟨i0,hi,hz0,hz1,hz2⟩:=info_parts Tryz.info2
 have HI:Hid (i0.bytes=8):=hz2
 clear hz2
 have hbox:(w.alloc (.cells #[.int .i64 sa, .int .i64 sb, .int .i64 sc, .int .i64 sd, .int .i64 se, .int .i64 sf] 28)).heap[w.heap.size]? = some (.cells #[.int .i64 sa, .int .i64 sb, .int .i64 sc, .int .i64 sd, .int .i64 se, .int .i64 sf] 28 (0,0)):=heap_alloc_new w _
 have HX:Hid ((w.alloc (.cells #[.int .i64 sa, .int .i64 sb, .int .i64 sc, .int .i64 sd, .int .i64 se, .int .i64 sf] 28)).heap[w.heap.size]? = some (.cells #[.int .i64 sa, .int .i64 sb, .int .i64 sc, .int .i64 sd, .int .i64 se, .int .i64 sf] 28 (0,0))):=hbox
 clear hbox
 go_enter Tryz.func106,Tryz.ntmps106
 go_wp2_with (first
  | (refine wpList_make_full _ rfl _ _ 54 rfl w.heap.size 2 i0 (.int .i64 0) 1 Tryz.underlying54 hi hz0 hz1 _ _ _ _ n rfl rfl rfl rfl (by rw[show i0.bytes=8 from HI];omega) (by unfold maxLen;omega) (by simp) ?_;intro w1 hown hgrow))
 have hO:(w.alloc (.cells #[.int .i64 sa, .int .i64 sb, .int .i64 sc, .int .i64 sd, .int .i64 se, .int .i64 sf] 28)).heap.size=w.heap.size+1:=by simp
 have H0:Hid (w1.heap[w.heap.size]? = some (.cells #[.int .i64 sa, .int .i64 sb, .int .i64 sc, .int .i64 sd, .int .i64 se, .int .i64 sf] 28 (0,0))∧w1.ownsRow w.heap.size 2 1 (.slice (some ⟨w.heap.size+1,0,none⟩) n n) n (([] ++ List.replicate (n - 0) (0:Int)).map (Value.int .i64))∧Below w.heap.size w w1):=by
  refine⟨(hgrow.block _ (by simp) (by simp)).trans HX,?_,Below.grown ((Below.refl _ _).alloc (Nat.le_refl _) _) hgrow (by simp) (by simp)⟩
  rw[List.nil_append,Nat.sub_zero,← made_ints,← hO]
  exact hown
 clear hown hgrow
 clear hO
 obtain⟨O,hOO⟩:∃O,O=w.heap.size+1:=⟨_,rfl⟩
 have hOB:w.heap.size≤O:=by omega
 have hOne:w.heap.size≠O:=by omega
 rw[← hOO]
 have H1:Hid (w1.heap[w.heap.size]? = some (.cells #[.int .i64 sa, .int .i64 sb, .int .i64 sc, .int .i64 sd, .int .i64 se, .int .i64 sf] 28 (0,0))∧w1.ownsRow w.heap.size 2 1 (.slice (some ⟨O,0,none⟩) n n) n (([] ++ List.replicate (n - 0) (0:Int)).map (Value.int .i64))∧Below w.heap.size w w1):=by rw[hOO];exact H0
 clear H0 hOO
 obtain⟨X,hX⟩:∃X,X=w.heap.size:=⟨_,rfl⟩
 go_wp2
 go_loopw [8,9,20] (fun s8 s9 s20 wr=>∃k:Nat,k≤n∧s20 = .int .i64 k∧s8 = .int .i64 (stp Gl.p Gl.po sb sc sd (gs.take k)).1∧s9 = .int .i64 (stp Gl.p Gl.po sb sc sd (gs.take k)).2.1∧
  wr.heap[w.heap.size]? = some (.cells #[.int .i64 sa, .int .i64 sb, .int .i64 sc, .int .i64 sd, .int .i64 se, .int .i64 sf] 28 (0,0))∧wr.ownsRow w.heap.size 2 1 (.slice (some ⟨O,0,none⟩) n n) n (((stp Gl.p Gl.po sb sc sd (gs.take k)).2.2 ++ List.replicate (n - k) (0:Int)).map (Value.int .i64))∧Below w.heap.size w wr) (fun _ _ s _=>n - (intOf s).toNat)
 case atStart=>exact⟨0,by omega,rfl,rfl,rfl,H1.1,H1.2.1,H1.2.2⟩
 case round =>
  obtain⟨k,hk,rfl,rfl,rfl,hbx,hown,hbel⟩:=hrel
  have hlen:gs.length=n:=HL
  obtain⟨bd1,bd2,bd3,bd4⟩:=HBP k hk
  by_cases hkn:k<n
  ·have hki:(k:Int)<(n:Int):=by omega
   obtain⟨b,off,rfl,hb,hc⟩:=HR (by omega)
   obtain⟨t,ht⟩:∃t,t=gs.getD k Gl.none:=⟨_,rfl⟩
   obtain⟨hc0,hc1,hc2,hc3,hc4⟩:=hc k hkn
   rw[← ht] at hc0 hc1 hc2 hc3 hc4
   have hob:=ok_bounds (HE k (by omega))
   rw[← ht] at hob
   have hfb : -1073741823≤t.p∧t.p≤1073741823:=hob.2.1
   obtain⟨st,hst⟩:∃st,st=stp Gl.p Gl.po sb sc sd (gs.take k):=⟨_,rfl⟩
   have eyes:t.po=sb→stp Gl.p Gl.po sb sc sd (gs.take (k+1))=(st.1+t.p,cut sc (st.1+t.p) sd,st.2.2 ++ [cut sc (st.1+t.p) sd - st.2.1]):=fun hh=>by rw[take_snoc (by omega),← ht,stp_yes hh,← hst]
   have eno:t.po≠sb→stp Gl.p Gl.po sb sc sd (gs.take (k+1))=(st.1,st.2.1,st.2.2 ++ [0]):=fun hh=>by rw[take_snoc (by omega),← ht,stp_no hh,← hst]
   rw[← hst] at bd1 bd2 bd3 bd4 hown ⊢
   clear hst
   obtain⟨s0,d0,ps⟩:=st
   simp only at *
   have g0:=(hbel.cell (p:=⟨b,off+k*5,none⟩) hb).trans hc0
   have g1:=(hbel.cell (p:=⟨b,off+k*5+1,none⟩) hb).trans hc1
   have g2:=(hbel.cell (p:=⟨b,off+k*5+2,none⟩) hb).trans hc2
   have g3:=(hbel.cell (p:=⟨b,off+k*5+3,none⟩) hb).trans hc3
   have g4:=(hbel.cell (p:=⟨b,off+k*5+4,none⟩) hb).trans hc4
   have HY:Hid (t.po=sb→stp Gl.p Gl.po sb sc sd (gs.take (k+1))=(s0+t.p,cut sc (s0+t.p) sd,ps ++ [cut sc (s0+t.p) sd - d0])):=eyes
   have HNO:Hid (t.po≠sb→stp Gl.p Gl.po sb sc sd (gs.take (k+1))=(s0,d0,ps ++ [0])):=eno
   have H2:Hid (wr.heap[w.heap.size]? = some (.cells #[.int .i64 sa, .int .i64 sb, .int .i64 sc, .int .i64 sd, .int .i64 se, .int .i64 sf] 28 (0,0))∧wr.ownsRow w.heap.size 2 1 (.slice (some ⟨O,0,none⟩) n n) n ((ps ++ List.replicate (n - k) (0:Int)).map (Value.int .i64))∧Below w.heap.size w wr):=⟨hbx,hown,hbel⟩
   have HPS:Hid (ps.length=k):=bd3
   clear hc hc0 hc1 hc2 hc3 hc4 ht hbx hown hbel eyes eno hob bd3 bd4
   go_wp2_with fail
   refine (plusOf_any _ _ _ _ _ _).mono ?_
   rintro e w2 ⟨rfl,hb2⟩
   have B2:Below w.heap.size w w2:=(H2.2.2.alloc H2.2.2.size _).trans (hb2.mono (by have:=H2.2.2.size;simp;omega))
   have X2:w2.heap[w.heap.size]? = some (.cells #[.int .i64 sa, .int .i64 sb, .int .i64 sc, .int .i64 sd, .int .i64 se, .int .i64 sf] 28 (0,0)):=block_keep ((Below.heap_alloc wr _ _ (Array.getElem?_eq_some_iff.1 H2.1).1).trans H2.1) hb2
   have O2:=owns_keep (H2.2.1.alloc _) hb2
   obtain⟨x0,x1,x2,x3,x4,x5⟩:=set_cells X2
   have hXl:w.heap.size<w2.heap.size:=(Array.getElem?_eq_some_iff.1 X2).1
   have H3:Hid (w2.heap[w.heap.size]? = some (.cells #[.int .i64 sa, .int .i64 sb, .int .i64 sc, .int .i64 sd, .int .i64 se, .int .i64 sf] 28 (0,0))∧w2.ownsRow w.heap.size 2 1 (.slice (some ⟨O,0,none⟩) n n) n ((ps ++ List.replicate (n - k) (0:Int)).map (Value.int .i64))∧Below w.heap.size w w2):=⟨X2,O2,B2⟩
   clear B2 X2 O2 hb2 H2 g0 g1 g2 g3 g4
   by_cases hord:t.po=sb
   ·have hw2:IntKind.i64.wrap (s0+t.p)=s0+t.p:=by rw[IntKind.wrap_i64];omega
    have hcl:=cut_le sc (s0+t.p) sd
    go_wp2_with fail
    refine (scaledCut_any sc (s0+t.p) sd _ hsc0 hsc1 (by omega) (by omega) hsd0 hsd1).mono ?_
    rintro e w3 ⟨⟨bb,rfl⟩,hb3⟩
    obtain⟨cc,hcc⟩:∃cc,cc=cut sc (s0+t.p) sd:=⟨_,rfl⟩
    rw[← hcc] at hcl ⊢
    have hw3:IntKind.i64.wrap (cc - d0)=cc - d0:=by rw[IntKind.wrap_i64];omega
    have X3:=block_keep ((Below.heap_alloc w2 _ _ (Array.getElem?_eq_some_iff.1 H3.1).1).trans H3.1) hb3
    have O3:=owns_keep (H3.2.1.alloc _) hb3
    have B3:Below w.heap.size w w3:=(H3.2.2.alloc H3.2.2.size _).trans (hb3.mono (by have:=H3.2.2.size;simp;omega))
    have hfz:w3.frozen? ⟨O,k,none⟩=false:=World.ownsRow.frozenAt O3 k
    obtain⟨zz,hzz⟩:∃zz,w3.cell? ⟨O,k,none⟩=some zz:=by
     rw[World.ownsRow.cellAt O3 k (by omega)]
     have hpl:ps.length=k:=HPS
     exact⟨_,List.getElem?_eq_getElem (by simp[hpl];omega)⟩
    have HF:Hid ((w3.setCell ⟨O,k,none⟩ (.int .i64 (cc - d0))).heap[w.heap.size]? = some (.cells #[.int .i64 sa, .int .i64 sb, .int .i64 sc, .int .i64 sd, .int .i64 se, .int .i64 sf] 28 (0,0))∧(w3.setCell ⟨O,k,none⟩ (.int .i64 (cc - d0))).ownsRow w.heap.size 2 1 (.slice (some ⟨O,0,none⟩) n n) n (((ps ++ [cc - d0]) ++ List.replicate (n - (k+1)) (0:Int)).map (Value.int .i64))∧Below w.heap.size w (w3.setCell ⟨O,k,none⟩ (.int .i64 (cc - d0)))∧cc=cut sc (s0+t.p) sd):=by
     refine⟨(Below.heap_setCell _ _ _ _ hOne).trans X3,?_,B3.setCell (p:=⟨O,k,none⟩) hOB _,hcc⟩
     rw[← rep_set HPS hkn,List.map_set]
     exact (World.ownsRow.stored O3 k _).1
    clear X3 O3 B3 hb3 H3 hcc
    go_wp2
    go_roundw
    case rel =>
     have hy:=HY hord
     rw[← show cc=cut sc (s0+t.p) sd from HF.2.2.2] at hy
     refine⟨k+1,by omega,by go_num,by rw[hy],by rw[hy],HF.1,?_,HF.2.2.1⟩
     rw[hy]
     exact HF.2.1
    case measure=>simp[intOf];omega
   ·go_wp2
    go_roundw
    case rel =>
     have hy:=HNO hord
     refine⟨k+1,by omega,by go_num,by rw[hy],by rw[hy],(Below.heap_alloc _ _ _ (Array.getElem?_eq_some_iff.1 H3.1).1).trans H3.1,?_,H3.2.2.alloc H3.2.2.size _⟩
     rw[hy,← rep_skip hkn]
     exact H3.2.1.alloc _
    case measure=>simp[intOf];omega
  ·have hki:¬(k:Int)<(n:Int):=by omega
   obtain rfl:k=n:=by omega
   have et:gs.take k=gs:=by rw[← hlen,List.take_length]
   rw[et,Nat.sub_self,List.replicate_zero,List.append_nil] at hown
   have HF:Hid (wr.ownsRow w.heap.size 2 1 (.slice (some ⟨O,0,none⟩) k k) k ((stp Gl.p Gl.po sb sc sd gs).2.2.map (Value.int .i64))∧Below w.heap.size w wr):=⟨hown,hbel⟩
   clear hown hbel hbx bd1 bd2 bd3 bd4 et hlen
   go_wp2
   go_ret
   exact⟨O,rfl,HF⟩
set_option maxRecDepth 20000 in
set_option maxHeartbeats 4000000 in
theorem portionsM_any {v:Value} {gs:List Gl} {w:World} (sa sb sc sd se sf:Int) (h:GRow w v gs) (hok:glsOk gs=true) (hsc0:0<sc) (hsc1:sc≤9223372036854775807) (hsd0:0<sd) (hsd1:sd≤9223372036854775807) :
 Calls Tryz.prog 106 #[v, .func (.func 105) #[] #[],setV sa sb sc sd se sf] w fun e w'=>∃O:Nat,e = .returned (.slice (some ⟨O,0,none⟩) gs.length gs.length)∧
  w'.ownsRow w.heap.size 2 1 (.slice (some ⟨O,0,none⟩) gs.length gs.length) gs.length ((stp Gl.m Gl.mo sb sc sd gs).2.2.map (Value.int .i64))∧Below w.heap.size w w':=by
 obtain⟨ao,n,cap,rfl,hl,hr⟩:=h
 have heach:=glsOk_each hok
 have hn2:n≤10000:=by have:=heach.1;omega
 have HE:Hid (∀k,k<gs.length→(gs.getD k Gl.none).ok=true):=heach.2
 have HBD:=stp_bound Gl.m Gl.mo sb sc sd gs (fun k hk=>(ok_bounds (HE k hk)).2.2.1)
 rw[hl] at HBD
 have HBP:Hid (_):=HBD
 have HR:Hid (0<n→∃b off,ao=some ⟨b,off,none⟩∧b<w.heap.size∧∀i,i<n→w.cell? ⟨b,off+i*5,none⟩=some (.int .i64 (gs.getD i Gl.none).s)∧w.cell? ⟨b,off+i*5+1,none⟩=some (.int .i64 (gs.getD i Gl.none).p)∧w.cell? ⟨b,off+i*5+2,none⟩=some (.int .i64 (gs.getD i Gl.none).po)∧w.cell? ⟨b,off+i*5+3,none⟩=some (.int .i64 (gs.getD i Gl.none).m)∧w.cell? ⟨b,off+i*5+4,none⟩=some (.int .i64 (gs.getD i Gl.none).mo)):=hr
 have HL:Hid (gs.length=n):=hl
 rw[hl]
 clear hr hl hok heach HBD
 obtain⟨i0,hi,hz0,hz1,hz2⟩:=info_parts Tryz.info2
 have HI:Hid (i0.bytes=8):=hz2
 clear hz2
 have hbox:(w.alloc (.cells #[.int .i64 sa, .int .i64 sb, .int .i64 sc, .int .i64 sd, .int .i64 se, .int .i64 sf] 28)).heap[w.heap.size]? = some (.cells #[.int .i64 sa, .int .i64 sb, .int .i64 sc, .int .i64 sd, .int .i64 se, .int .i64 sf] 28 (0,0)):=heap_alloc_new w _
 have HX:Hid ((w.alloc (.cells #[.int .i64 sa, .int .i64 sb, .int .i64 sc, .int .i64 sd, .int .i64 se, .int .i64 sf] 28)).heap[w.heap.size]? = some (.cells #[.int .i64 sa, .int .i64 sb, .int .i64 sc, .int .i64 sd, .int .i64 se, .int .i64 sf] 28 (0,0))):=hbox
 clear hbox
 go_enter Tryz.func106,Tryz.ntmps106
 go_wp2_with (first
  | (refine wpList_make_full _ rfl _ _ 54 rfl w.heap.size 2 i0 (.int .i64 0) 1 Tryz.underlying54 hi hz0 hz1 _ _ _ _ n rfl rfl rfl rfl (by rw[show i0.bytes=8 from HI];omega) (by unfold maxLen;omega) (by simp) ?_;intro w1 hown hgrow))
 have hO:(w.alloc (.cells #[.int .i64 sa, .int .i64 sb, .int .i64 sc, .int .i64 sd, .int .i64 se, .int .i64 sf] 28)).heap.size=w.heap.size+1:=by simp
 have H0:Hid (w1.heap[w.heap.size]? = some (.cells #[.int .i64 sa, .int .i64 sb, .int .i64 sc, .int .i64 sd, .int .i64 se, .int .i64 sf] 28 (0,0))∧w1.ownsRow w.heap.size 2 1 (.slice (some ⟨w.heap.size+1,0,none⟩) n n) n (([] ++ List.replicate (n - 0) (0:Int)).map (Value.int .i64))∧Below w.heap.size w w1):=by
  refine⟨(hgrow.block _ (by simp) (by simp)).trans HX,?_,Below.grown ((Below.refl _ _).alloc (Nat.le_refl _) _) hgrow (by simp) (by simp)⟩
  rw[List.nil_append,Nat.sub_zero,← made_ints,← hO]
  exact hown
 clear hown hgrow
 clear hO
 obtain⟨O,hOO⟩:∃O,O=w.heap.size+1:=⟨_,rfl⟩
 have hOB:w.heap.size≤O:=by omega
 have hOne:w.heap.size≠O:=by omega
 rw[← hOO]
 have H1:Hid (w1.heap[w.heap.size]? = some (.cells #[.int .i64 sa, .int .i64 sb, .int .i64 sc, .int .i64 sd, .int .i64 se, .int .i64 sf] 28 (0,0))∧w1.ownsRow w.heap.size 2 1 (.slice (some ⟨O,0,none⟩) n n) n (([] ++ List.replicate (n - 0) (0:Int)).map (Value.int .i64))∧Below w.heap.size w w1):=by rw[hOO];exact H0
 clear H0 hOO
 obtain⟨X,hX⟩:∃X,X=w.heap.size:=⟨_,rfl⟩
 go_wp2
 go_loopw [8,9,20] (fun s8 s9 s20 wr=>∃k:Nat,k≤n∧s20 = .int .i64 k∧s8 = .int .i64 (stp Gl.m Gl.mo sb sc sd (gs.take k)).1∧s9 = .int .i64 (stp Gl.m Gl.mo sb sc sd (gs.take k)).2.1∧
  wr.heap[w.heap.size]? = some (.cells #[.int .i64 sa, .int .i64 sb, .int .i64 sc, .int .i64 sd, .int .i64 se, .int .i64 sf] 28 (0,0))∧wr.ownsRow w.heap.size 2 1 (.slice (some ⟨O,0,none⟩) n n) n (((stp Gl.m Gl.mo sb sc sd (gs.take k)).2.2 ++ List.replicate (n - k) (0:Int)).map (Value.int .i64))∧Below w.heap.size w wr) (fun _ _ s _=>n - (intOf s).toNat)
 case atStart=>exact⟨0,by omega,rfl,rfl,rfl,H1.1,H1.2.1,H1.2.2⟩
 case round =>
  obtain⟨k,hk,rfl,rfl,rfl,hbx,hown,hbel⟩:=hrel
  have hlen:gs.length=n:=HL
  obtain⟨bd1,bd2,bd3,bd4⟩:=HBP k hk
  by_cases hkn:k<n
  ·have hki:(k:Int)<(n:Int):=by omega
   obtain⟨b,off,rfl,hb,hc⟩:=HR (by omega)
   obtain⟨t,ht⟩:∃t,t=gs.getD k Gl.none:=⟨_,rfl⟩
   obtain⟨hc0,hc1,hc2,hc3,hc4⟩:=hc k hkn
   rw[← ht] at hc0 hc1 hc2 hc3 hc4
   have hob:=ok_bounds (HE k (by omega))
   rw[← ht] at hob
   have hfb : -1073741823≤t.m∧t.m≤1073741823:=hob.2.2.1
   obtain⟨st,hst⟩:∃st,st=stp Gl.m Gl.mo sb sc sd (gs.take k):=⟨_,rfl⟩
   have eyes:t.mo=sb→stp Gl.m Gl.mo sb sc sd (gs.take (k+1))=(st.1+t.m,cut sc (st.1+t.m) sd,st.2.2 ++ [cut sc (st.1+t.m) sd - st.2.1]):=fun hh=>by rw[take_snoc (by omega),← ht,stp_yes hh,← hst]
   have eno:t.mo≠sb→stp Gl.m Gl.mo sb sc sd (gs.take (k+1))=(st.1,st.2.1,st.2.2 ++ [0]):=fun hh=>by rw[take_snoc (by omega),← ht,stp_no hh,← hst]
   rw[← hst] at bd1 bd2 bd3 bd4 hown ⊢
   clear hst
   obtain⟨s0,d0,ps⟩:=st
   simp only at *
   have g0:=(hbel.cell (p:=⟨b,off+k*5,none⟩) hb).trans hc0
   have g1:=(hbel.cell (p:=⟨b,off+k*5+1,none⟩) hb).trans hc1
   have g2:=(hbel.cell (p:=⟨b,off+k*5+2,none⟩) hb).trans hc2
   have g3:=(hbel.cell (p:=⟨b,off+k*5+3,none⟩) hb).trans hc3
   have g4:=(hbel.cell (p:=⟨b,off+k*5+4,none⟩) hb).trans hc4
   have HY:Hid (t.mo=sb→stp Gl.m Gl.mo sb sc sd (gs.take (k+1))=(s0+t.m,cut sc (s0+t.m) sd,ps ++ [cut sc (s0+t.m) sd - d0])):=eyes
   have HNO:Hid (t.mo≠sb→stp Gl.m Gl.mo sb sc sd (gs.take (k+1))=(s0,d0,ps ++ [0])):=eno
   have H2:Hid (wr.heap[w.heap.size]? = some (.cells #[.int .i64 sa, .int .i64 sb, .int .i64 sc, .int .i64 sd, .int .i64 se, .int .i64 sf] 28 (0,0))∧wr.ownsRow w.heap.size 2 1 (.slice (some ⟨O,0,none⟩) n n) n ((ps ++ List.replicate (n - k) (0:Int)).map (Value.int .i64))∧Below w.heap.size w wr):=⟨hbx,hown,hbel⟩
   have HPS:Hid (ps.length=k):=bd3
   clear hc hc0 hc1 hc2 hc3 hc4 ht hbx hown hbel eyes eno hob bd3 bd4
   go_wp2_with fail
   refine (minusOf_any _ _ _ _ _ _).mono ?_
   rintro e w2 ⟨rfl,hb2⟩
   have B2:Below w.heap.size w w2:=(H2.2.2.alloc H2.2.2.size _).trans (hb2.mono (by have:=H2.2.2.size;simp;omega))
   have X2:w2.heap[w.heap.size]? = some (.cells #[.int .i64 sa, .int .i64 sb, .int .i64 sc, .int .i64 sd, .int .i64 se, .int .i64 sf] 28 (0,0)):=block_keep ((Below.heap_alloc wr _ _ (Array.getElem?_eq_some_iff.1 H2.1).1).trans H2.1) hb2
   have O2:=owns_keep (H2.2.1.alloc _) hb2
   obtain⟨x0,x1,x2,x3,x4,x5⟩:=set_cells X2
   have hXl:w.heap.size<w2.heap.size:=(Array.getElem?_eq_some_iff.1 X2).1
   have H3:Hid (w2.heap[w.heap.size]? = some (.cells #[.int .i64 sa, .int .i64 sb, .int .i64 sc, .int .i64 sd, .int .i64 se, .int .i64 sf] 28 (0,0))∧w2.ownsRow w.heap.size 2 1 (.slice (some ⟨O,0,none⟩) n n) n ((ps ++ List.replicate (n - k) (0:Int)).map (Value.int .i64))∧Below w.heap.size w w2):=⟨X2,O2,B2⟩
   clear B2 X2 O2 hb2 H2 g0 g1 g2 g3 g4
   by_cases hord:t.mo=sb
   ·have hw2:IntKind.i64.wrap (s0+t.m)=s0+t.m:=by rw[IntKind.wrap_i64];omega
    have hcl:=cut_le sc (s0+t.m) sd
    go_wp2_with fail
    refine (scaledCut_any sc (s0+t.m) sd _ hsc0 hsc1 (by omega) (by omega) hsd0 hsd1).mono ?_
    rintro e w3 ⟨⟨bb,rfl⟩,hb3⟩
    obtain⟨cc,hcc⟩:∃cc,cc=cut sc (s0+t.m) sd:=⟨_,rfl⟩
    rw[← hcc] at hcl ⊢
    have hw3:IntKind.i64.wrap (cc - d0)=cc - d0:=by rw[IntKind.wrap_i64];omega
    have X3:=block_keep ((Below.heap_alloc w2 _ _ (Array.getElem?_eq_some_iff.1 H3.1).1).trans H3.1) hb3
    have O3:=owns_keep (H3.2.1.alloc _) hb3
    have B3:Below w.heap.size w w3:=(H3.2.2.alloc H3.2.2.size _).trans (hb3.mono (by have:=H3.2.2.size;simp;omega))
    have hfz:w3.frozen? ⟨O,k,none⟩=false:=World.ownsRow.frozenAt O3 k
    obtain⟨zz,hzz⟩:∃zz,w3.cell? ⟨O,k,none⟩=some zz:=by
     rw[World.ownsRow.cellAt O3 k (by omega)]
     have hpl:ps.length=k:=HPS
     exact⟨_,List.getElem?_eq_getElem (by simp[hpl];omega)⟩
    have HF:Hid ((w3.setCell ⟨O,k,none⟩ (.int .i64 (cc - d0))).heap[w.heap.size]? = some (.cells #[.int .i64 sa, .int .i64 sb, .int .i64 sc, .int .i64 sd, .int .i64 se, .int .i64 sf] 28 (0,0))∧(w3.setCell ⟨O,k,none⟩ (.int .i64 (cc - d0))).ownsRow w.heap.size 2 1 (.slice (some ⟨O,0,none⟩) n n) n (((ps ++ [cc - d0]) ++ List.replicate (n - (k+1)) (0:Int)).map (Value.int .i64))∧Below w.heap.size w (w3.setCell ⟨O,k,none⟩ (.int .i64 (cc - d0)))∧cc=cut sc (s0+t.m) sd):=by
     refine⟨(Below.heap_setCell _ _ _ _ hOne).trans X3,?_,B3.setCell (p:=⟨O,k,none⟩) hOB _,hcc⟩
     rw[← rep_set HPS hkn,List.map_set]
     exact (World.ownsRow.stored O3 k _).1
    clear X3 O3 B3 hb3 H3 hcc
    go_wp2
    go_roundw
    case rel =>
     have hy:=HY hord
     rw[← show cc=cut sc (s0+t.m) sd from HF.2.2.2] at hy
     refine⟨k+1,by omega,by go_num,by rw[hy],by rw[hy],HF.1,?_,HF.2.2.1⟩
     rw[hy]
     exact HF.2.1
    case measure=>simp[intOf];omega
   ·go_wp2
    go_roundw
    case rel =>
     have hy:=HNO hord
     refine⟨k+1,by omega,by go_num,by rw[hy],by rw[hy],(Below.heap_alloc _ _ _ (Array.getElem?_eq_some_iff.1 H3.1).1).trans H3.1,?_,H3.2.2.alloc H3.2.2.size _⟩
     rw[hy,← rep_skip hkn]
     exact H3.2.1.alloc _
    case measure=>simp[intOf];omega
  ·have hki:¬(k:Int)<(n:Int):=by omega
   obtain rfl:k=n:=by omega
   have et:gs.take k=gs:=by rw[← hlen,List.take_length]
   rw[et,Nat.sub_self,List.replicate_zero,List.append_nil] at hown
   have HF:Hid (wr.ownsRow w.heap.size 2 1 (.slice (some ⟨O,0,none⟩) k k) k ((stp Gl.m Gl.mo sb sc sd gs).2.2.map (Value.int .i64))∧Below w.heap.size w wr):=⟨hown,hbel⟩
   clear hown hbel hbx bd1 bd2 bd3 bd4 et hlen
   go_wp2
   go_ret
   exact⟨O,rfl,HF⟩
end Go.Proofs.YtbbehmcekbnkiaaGreat.Shr

import Derived.Test.YtbbehmcekbnkiaaGreatThb
import Derived.WalkSmall
import Derived.Test.YtbbehmcekbnkiaaGreatSpo
import Derived.Maps.AppendAt
import Derived.OwnWalk
import Derived.Test.YtbbehmcekbnkiaaGreatCln
import Derived.Deep.RegionWith
import Derived.Deep.RegionHeld3
import Derived.Laws.BytesArg
namespace Go.Proofs.YtbbehmcekbnkiaaGreat
open Go.RowKit
set_option linter.unusedVariables false
set_option linter.unusedSimpArgs false
def listB (xs:List Nd):Bool:=decide (xs.length≤20000) && okFrom xs.length 0 [] xs
def stk (T:List Int) (N:Int):List Int:=(T ++ [N]).reverse
theorem stk_len (T:List Int) (N:Int):(stk T N).length=T.length+1:=by simp[stk]
theorem stk_cons (e:Int) (T:List Int) (N:Int):stk (e :: T) N=stk T N ++ [e]:=by simp[stk]
abbrev IR (w:World) (base:Nat) (v:Value) (m:Nat) (S:List Int):Prop:=w.ownsRow base 3 1 v m (S.map (Value.int .i64))
theorem stk_top {w:World} {base g q c:Nat} {U:List Int} {N:Int} (h:IR w base (.slice (some ⟨g,0,none⟩) (q+1) c) (q+1) (stk U N)) (hU:U.length=q):w.cell? ⟨g,q,none⟩=some (.int .i64 (U.headD N)):=by
 rw[World.ownsRow.cellAt h q (by omega)]
 rw[List.getElem?_map]
 have:(stk U N)[q]? = some (U.headD N):=by
  subst hU
  unfold stk
  rw[List.getElem?_reverse (by simp)]
  cases U <;> simp
 rw[this]
 rfl
theorem stk_pop {w:World} {base g q c:Nat} {e:Int} {U:List Int} {N:Int} (h:IR w base (.slice (some ⟨g,0,none⟩) (q+1+1) c) (q+1+1) (stk (e :: U) N)) (hU:U.length=q):IR w base (.slice (some ⟨g,0,none⟩) (q+1) c) (q+1) (stk U N):=by
 rw[stk_cons,IR,List.map_append] at h
 exact ownsRow_pop (by simp[stk_len,hU]) h
theorem stk_cap {w:World} {base g m c:Nat} {S:List Int} (h:IR w base (.slice (some ⟨g,0,none⟩) m c) m S):m≤c∧c≤9223372036854775807∧base≤g∧g<w.heap.size:=by
 rcases h.2 with ⟨h0,_⟩ | ⟨g',cap',cur,h0,hb,hg,hm,hc,_⟩
 ·simp at h0
 ·simp at h0
  obtain⟨rfl,rfl⟩:=h0
  unfold maxLen at hc
  exact⟨hm,hc,hb,(Array.getElem?_eq_some_iff.1 hg).1⟩
theorem IR.below {w w':World} {base:Nat} {v:Value} {m:Nat} {S:List Int} (h:IR w base v m S) (hb:Below w.heap.size w w'):IR w' base v m S:=by
 obtain⟨h1,h2⟩:=h
 refine⟨h1,?_⟩
 rcases h2 with h2 | ⟨g,cap,cur,hv,hg,hh,hr⟩
 ·exact .inl h2
 ·exact .inr ⟨g,cap,cur,hv,hg,(hb.block g (Array.getElem?_eq_some_iff.1 hh).1).trans hh,hr⟩
structure Left (xs:List Nd) (k:Nat) (T:List Int):Prop where
 opn:Open k T
 most:∀y∈T,y≤xs.length
 same:okFrom xs.length 0 [] xs=okFrom xs.length k T (xs.drop k)
theorem Left.start (xs:List Nd):Left xs 0 []:=⟨⟨by simp,by simp⟩,by simp,rfl⟩
theorem Left.done {xs:List Nd} {T:List Int} (h:Left xs xs.length T):okFrom xs.length 0 [] xs=true:=by
 rw[h.same]
 simp[okFrom]
theorem drop_at {xs:List Nd} {k:Nat} (hk:k<xs.length):xs.drop k=xs.getD k Nd.none :: xs.drop (k+1):=by
 rw[List.drop_eq_getElem_cons hk]
 simp[List.getD,List.getElem?_eq_getElem hk]
theorem Left.step {xs:List Nd} {k:Nat} {T:List Int} (h:Left xs k T) (hk:k<xs.length):okFrom xs.length 0 [] xs =
 (goodB (xs.getD k Nd.none) && decide ((xs.getD k Nd.none).kids≤(T.dropWhile (· == (k:Int))).headD xs.length - k - 1) && (!deepB (xs.getD k Nd.none) || decide ((T.dropWhile (· == (k:Int))).length≤40)) &&
  okFrom xs.length (k+1) (if deepB (xs.getD k Nd.none) then ((k:Int)+1+(xs.getD k Nd.none).kids) :: T.dropWhile (· == (k:Int)) else T.dropWhile (· == (k:Int))) (xs.drop (k+1))):=by
 rw[h.same,drop_at hk]
 rfl
theorem drop_mem {p:Int→Bool} {T:List Int} {y:Int} (h:y∈T.dropWhile p):y∈T:=(List.dropWhile_sublist p).subset h
theorem Left.top {xs:List Nd} {k:Nat} {T:List Int} (h:Left xs k T) (hk:k<xs.length):(k:Int)+1≤(T.dropWhile (· == (k:Int))).headD xs.length∧(T.dropWhile (· == (k:Int))).headD xs.length≤xs.length:=by
 refine⟨h.opn.pop.head (by omega),?_⟩
 cases he:T.dropWhile (· == (k:Int)) with
 | nil=>simp
 | cons a U =>
  have:=h.most a (drop_mem (by rw[he];exact List.mem_cons_self ..))
  simpa using this
theorem Left.bad {xs:List Nd} {k:Nat} {T:List Int} (h:Left xs k T) (hk:k<xs.length) (hg:goodB (xs.getD k Nd.none)=false):okFrom xs.length 0 [] xs=false:=by
 rw[h.step hk,hg]
 rfl
theorem Left.over {xs:List Nd} {k:Nat} {T:List Int} (h:Left xs k T) (hk:k<xs.length) (hg:¬(xs.getD k Nd.none).kids≤(T.dropWhile (· == (k:Int))).headD xs.length - k - 1):okFrom xs.length 0 [] xs=false:=by
 rw[h.step hk,decide_eq_false hg]
 simp
theorem Left.nest {xs:List Nd} {k:Nat} {T:List Int} (h:Left xs k T) (hk:k<xs.length) (hd:deepB (xs.getD k Nd.none)=true) (hg:¬(T.dropWhile (· == (k:Int))).length≤40):okFrom xs.length 0 [] xs=false:=by
 rw[h.step hk,hd,decide_eq_false hg]
 simp
theorem Left.flat {xs:List Nd} {k:Nat} {T:List Int} (h:Left xs k T) (hk:k<xs.length) (hg:goodB (xs.getD k Nd.none)=true) (hd:deepB (xs.getD k Nd.none)=false):Left xs (k+1) (T.dropWhile (· == (k:Int))):=by
 refine⟨by simpa using h.opn.pop,fun y hy=>h.most y (drop_mem hy),?_⟩
 have h0:=flat_kids hg hd
 have ht:=h.top hk
 rw[h.step hk,hg,hd,h0,decide_eq_true (by omega)]
 simp
theorem Left.deep {xs:List Nd} {k:Nat} {T:List Int} (h:Left xs k T) (hk:k<xs.length) (hg:goodB (xs.getD k Nd.none)=true) (hd:deepB (xs.getD k Nd.none)=true) (hle:(xs.getD k Nd.none).kids≤(T.dropWhile (· == (k:Int))).headD xs.length - k - 1) (hn:(T.dropWhile (· == (k:Int))).length≤40) :
 Left xs (k+1) (((k:Int)+1+(xs.getD k Nd.none).kids) :: T.dropWhile (· == (k:Int))):=by
 have hk0:0≤(xs.getD k Nd.none).kids:=by
  unfold goodB at hg
  simp at hg
  exact hg.2
 have ht:=h.top hk
 refine⟨Open.push (by simpa using h.opn.pop) (by push_cast;omega) fun len=>?_,fun y hy=>?_,?_⟩
 ·cases he:T.dropWhile (· == (k:Int)) with
  | nil=>exact .inr rfl
  | cons a U =>
   rw[he] at hle
   simp at hle ⊢
   omega
 ·rcases List.mem_cons.1 hy with rfl | hy
  ·omega
  ·exact h.most y (drop_mem hy)
 ·rw[h.step hk,hg,hd,decide_eq_true hle,decide_eq_true hn]
  simp
theorem popped {k:Int} {n:Int} {U T:List Int} (h:U.dropWhile (· == k)=T.dropWhile (· == k)) (hne:U.headD n≠k):U=T.dropWhile (· == k):=by
 rw[← h]
 cases U with
 | nil=>rfl
 | cons a U =>
  have:(a == k)=false:=by simpa using hne
  simp[List.dropWhile,this]
theorem rev_top {w:World} {base g q c:Nat} {a:Int} {U:List Int} (h:IR w base (.slice (some ⟨g,0,none⟩) (q+1) c) (q+1) (a :: U).reverse) (hU:U.length=q):w.cell? ⟨g,q,none⟩=some (.int .i64 a):=by
 rw[World.ownsRow.cellAt h q (by omega),List.getElem?_map]
 have:((a :: U).reverse)[q]? = some a:=by
  subst hU
  rw[List.getElem?_reverse (by simp)]
  simp
 rw[this]
 rfl
theorem rev_pop {w:World} {base g q c:Nat} {a:Int} {U:List Int} (h:IR w base (.slice (some ⟨g,0,none⟩) (q+1) c) (q+1) (a :: U).reverse) (hU:U.length=q):IR w base (.slice (some ⟨g,0,none⟩) q c) q U.reverse:=by
 rw[List.reverse_cons,IR,List.map_append] at h
 exact ownsRow_pop (by simp[hU]) h
structure LeftS (xs:List Nd) (k:Nat) (T:List Int) (m:Int):Prop where
 opn:Open k T
 most:∀y∈T,y≤xs.length
 len:T.length≤k
 pos:0≤m
 small:m≤k+1
 same:okFrom xs.length 0 [] xs=(decide (m≤41) && okFrom xs.length k T (xs.drop k))
theorem LeftS.start (xs:List Nd):LeftS xs 0 [] 0:=⟨⟨by simp,by simp⟩,by simp,by simp,by omega,by omega,by simp⟩
theorem LeftS.done {xs:List Nd} {T:List Int} {m:Int} (h:LeftS xs xs.length T m):okFrom xs.length 0 [] xs=decide (m≤41):=by
 rw[h.same]
 simp[okFrom]
theorem LeftS.step {xs:List Nd} {k:Nat} {T:List Int} {m:Int} (h:LeftS xs k T m) (hk:k<xs.length):okFrom xs.length 0 [] xs=(decide (m≤41) &&
 (goodB (xs.getD k Nd.none) && decide ((xs.getD k Nd.none).kids≤(T.dropWhile (· == (k:Int))).headD xs.length - k - 1) && (!deepB (xs.getD k Nd.none) || decide ((T.dropWhile (· == (k:Int))).length≤40)) &&
  okFrom xs.length (k+1) (if deepB (xs.getD k Nd.none) then ((k:Int)+1+(xs.getD k Nd.none).kids) :: T.dropWhile (· == (k:Int)) else T.dropWhile (· == (k:Int))) (xs.drop (k+1)))):=by
 rw[h.same,drop_at hk]
 rfl
theorem LeftS.top {xs:List Nd} {k:Nat} {T:List Int} {m:Int} (h:LeftS xs k T m) (hk:k<xs.length):(k:Int)+1≤(T.dropWhile (· == (k:Int))).headD xs.length∧(T.dropWhile (· == (k:Int))).headD xs.length≤xs.length:=by
 refine⟨h.opn.pop.head (by omega),?_⟩
 cases he:T.dropWhile (· == (k:Int)) with
 | nil=>simp
 | cons a U =>
  have:=h.most a (drop_mem (by rw[he];exact List.mem_cons_self ..))
  simpa using this
theorem LeftS.bad {xs:List Nd} {k:Nat} {T:List Int} {m:Int} (h:LeftS xs k T m) (hk:k<xs.length) (hg:goodB (xs.getD k Nd.none)=false):okFrom xs.length 0 [] xs=false:=by
 rw[h.step hk,hg]
 simp
theorem LeftS.over {xs:List Nd} {k:Nat} {T:List Int} {m:Int} (h:LeftS xs k T m) (hk:k<xs.length) (hg:¬(xs.getD k Nd.none).kids≤(T.dropWhile (· == (k:Int))).headD xs.length - k - 1):okFrom xs.length 0 [] xs=false:=by
 rw[h.step hk,decide_eq_false hg]
 simp
theorem drop_len {p:Int→Bool} (T:List Int):(T.dropWhile p).length≤T.length:=(List.dropWhile_sublist p).length_le
theorem LeftS.flat {xs:List Nd} {k:Nat} {T:List Int} {m:Int} (h:LeftS xs k T m) (hk:k<xs.length) (hg:goodB (xs.getD k Nd.none)=true) (hd:deepB (xs.getD k Nd.none)=false):LeftS xs (k+1) (T.dropWhile (· == (k:Int))) m:=by
 have h0:=flat_kids hg hd
 have ht:=h.top hk
 refine⟨by simpa using h.opn.pop,fun y hy=>h.most y (drop_mem hy),Nat.le_trans (drop_len T) (Nat.le_succ_of_le h.len),h.pos,by have:=h.small;push_cast;omega,?_⟩
 rw[h.step hk,hg,hd,h0,decide_eq_true (p:=(0:Int)≤(T.dropWhile (· == (k:Int))).headD xs.length - k - 1) (by omega)]
 simp
def mostOf (m:Int) (q:Nat):Int:=if m<(q:Int)+1 then (q:Int)+1 else m
theorem mostOf_le (m:Int) (q:Nat) (r:Bool):(decide (m≤41) && (decide (q≤40) && r))=(decide (mostOf m q≤41) && r):=by
 unfold mostOf
 cases r <;> simp
 split
 ·rw[Bool.eq_iff_iff];simp;omega
 ·rw[Bool.eq_iff_iff];simp;omega
theorem LeftS.deep {xs:List Nd} {k:Nat} {T:List Int} {m:Int} (h:LeftS xs k T m) (hk:k<xs.length) (hg:goodB (xs.getD k Nd.none)=true) (hd:deepB (xs.getD k Nd.none)=true) (hle:(xs.getD k Nd.none).kids≤(T.dropWhile (· == (k:Int))).headD xs.length - k - 1) :
 LeftS xs (k+1) (((k:Int)+1+(xs.getD k Nd.none).kids) :: T.dropWhile (· == (k:Int))) (mostOf m (T.dropWhile (· == (k:Int))).length):=by
 have hk0:0≤(xs.getD k Nd.none).kids:=by
  unfold goodB at hg
  simp at hg
  exact hg.2
 have ht:=h.top hk
 have hl:=drop_len (p:=(· == (k:Int))) T
 have hl2:=h.len
 have hs:=h.small
 have hp:=h.pos
 refine⟨Open.push (by simpa using h.opn.pop) (by push_cast;omega) fun len=>?_,fun y hy=>?_,by simp;omega,by unfold mostOf;split <;> omega,by unfold mostOf;push_cast;split <;> omega,?_⟩
 ·cases he:T.dropWhile (· == (k:Int)) with
  | nil=>exact .inr rfl
  | cons a U =>
   rw[he] at hle
   simp at hle ⊢
   omega
 ·rcases List.mem_cons.1 hy with rfl | hy
  ·omega
  ·exact h.most y (drop_mem hy)
 ·rw[h.step hk,hg,hd,decide_eq_true hle]
  simp only[Bool.true_and,Bool.not_true,Bool.false_or,if_true]
  rw[mostOf_le]
  push_cast
  rfl
theorem LeftS.empty {xs:List Nd} {k:Nat} {U:List Int} {m:Int} (h:LeftS xs (k+1) (((k:Int)+1) :: U) m):LeftS xs (k+1) U m:=by
 refine⟨⟨fun y hy=>h.opn.1 y (List.mem_cons_of_mem _ hy),(List.pairwise_cons.1 h.opn.2).2⟩,fun y hy=>h.most y (List.mem_cons_of_mem _ hy),by have:=h.len;simp at this;omega,h.pos,h.small,?_⟩
 rw[h.same]
 have:=okFrom_pad xs.length ((k:Int)+1) U (xs.drop (k+1))
 push_cast
 rw[this]
theorem Tryz.info3b:(Tryz.prog.info? 3).map (fun i=>(i.zero,i.size,i.bytes))=some (some (.int .i64 0),1,8):=by kernel_rfl
def sliceLenB:Value→Nat
 | .slice _ n _=>n
 | _=>0
def natI (ps:List Nat):List Int:=ps.map (fun p:Nat=>(p:Int))
set_option maxRecDepth 20000 in
set_option maxHeartbeats 4000000 in
theorem starts_any {v:Value} {xs:List Nd} {w:World} (h:NRow 0 w v xs) (hlen:xs.length≤20000) (hkids:∀i,i<xs.length→0≤(xs.getD i Nd.none).kids∧(xs.getD i Nd.none).kids≤20000) :
 Calls Tryz.prog 108 #[v] w fun e w'=>(∃u,e = .returned u∧IR w' w.heap.size u (starts xs (xs.length+1) 0).length (natI (starts xs (xs.length+1) 0)))∧Below w.heap.size w w':=by
 obtain⟨ao,n,cap,rfl,hl,hr⟩:=h
 have HL:=hideP hl
 have HR:Hid (0<n→∃b off,ao=some ⟨b,off,none⟩∧0≤b∧b<w.heap.size∧∀i,i<n→∃cs:List Value,cs.length=15∧NdR 0 w cs (xs.getD i Nd.none)∧∀j,j<15→w.cell? ⟨b,off+i*15+j,none⟩=cs[j]?):=hideP hr
 have HK:=hideP hkids
 have hn:n≤20000:=by rw[← hl];exact hlen
 obtain⟨Z,hZ⟩:∃Z,Z=starts xs (xs.length+1) 0:=⟨_,rfl⟩
 rw[← hZ]
 have HZ:=hideP hZ
 clear hr hl hkids hlen hZ
 go_enter Tryz.func108,Tryz.ntmps108
 go_wp2
 go_loopw [3,4] (fun s a wr=>∃(i f:Nat) (pre:List Nat) (g c r:Nat),a = .int .i64 (i:Int)∧i≤40001∧n<i+f∧Hid (pre ++ starts xs f i=Z)∧r≤i∧r≤20001∧pre.length=r∧s = .slice (some ⟨g,0,none⟩) r c∧IR wr w.heap.size (.slice (some ⟨g,0,none⟩) r c) r (natI pre)∧Below w.heap.size w wr) (fun _ a _=>n - (intOf a).toNat)
 case atStart =>
  exact⟨0,n+1,[],w.heap.size,0,0,rfl,by omega,by omega,hideP (by rw[HZ.out,← HL.out];rfl),by omega,by omega,rfl,rfl,⟨rfl, .inr ⟨_,_,_,rfl,Nat.le_refl _,heap_alloc_new w _,by omega,by decide,rfl,rfl⟩⟩,below1 _ _⟩
 case round =>
  obtain⟨i,f,pre,g,c,r,rfl,hi,hf,HP,hri,hr2,hpr,rfl,hI,hbel⟩:=hrel
  by_cases hin:i<n
  ·have hii:(i:Int)<(n:Int):=by omega
   obtain⟨b,off,rfl,_,hb,hc⟩:=HR.out (by omega)
   obtain⟨cs,hcl,hRel,hcj⟩:=hc i hin
   obtain⟨t,ht⟩:∃t,t=xs.getD i Nd.none:=⟨_,rfl⟩
   have hkk:=HK.out i (by rw[HL.out];exact hin)
   rw[← ht] at hRel hkk
   obtain⟨kids,hkd⟩:∃z,z=t.kids:=⟨_,rfl⟩
   rw[← hkd] at hkk
   obtain⟨hk0,hk1⟩:=hkk
   have g14:wr.cell? ⟨b,off+i*15+14,none⟩=some (.int .i64 kids):=(hbel.cell (p:=⟨b,off+i*15+14,none⟩) hb).trans ((hcj 14 (by omega)).trans (by rw[show cs=_ from hRel,hkd];rfl))
   obtain⟨f,rfl⟩:∃q,f=q+1:=⟨f - 1,by omega⟩
   have HST:Hid ((pre ++ [i]) ++ starts xs f (i+1+kids.toNat)=Z):=hideP (by
    have h:=HP.out
    rw[show starts xs (f+1) i=i :: starts xs f (i+1+(xs.getD i Nd.none).kids.toNat) by simp only[starts];rw[if_pos (by rw[HL.out];exact hin)]] at h
    rw[← ht,← hkd] at h
    rw[List.append_assoc]
    exact h)
   have HI:=hideP hI
   have HB:=hideP hbel
   have hw1:w.heap.size≤wr.heap.size:=hbel.size
   have HPR:=hideP hpr
   obtain⟨i0,hi0,hy0,hy1,hy2⟩:=info_parts Tryz.info3b
   have Q14:Hid (∀x,Below w.heap.size w x→x.cell? ⟨b,off+i*15+14,none⟩=some (.int .i64 kids)):=hideP (fun x hx=>(hx.cell (p:=⟨b,off+i*15+14,none⟩) hb).trans ((hcj 14 (by omega)).trans (by rw[show cs=_ from hRel,hkd];rfl)))
   clear hc hcj hcl ht hRel hI hbel hkd g14
   go_wp2_with (at_builtin;refine wpList_append_own_at _ rfl _ _ 128 rfl w.heap.size 3 i0 (.int .i64 0) 1 8 Tryz.underlying128 hi0 hy0 hy1 hy2 rfl (by decide) _ _ _ rfl (HI.out.alloc _) ⟨wr.heap.size,0,none⟩ 1 1 [.int .i64 (i:Int)] rfl rfl (cell_one_new _ _ _) (by intro u hu;simp at hu;subst hu;rfl) (by unfold maxLen;omega) (by omega) (by simp;omega) ?_;intro v6 w6 hown6 hgrow6 hnil6 hlies6;have hg6:(wr.alloc (.cells #[.int .i64 (i:Int)] 3)).grownBy w6 (some g):=hgrow6;have hB6:Below w.heap.size w w6:=Below.grown (HB.out.alloc hw1 _) hg6 (by simp;omega) (by intro j hj;simp at hj;subst hj;exact (stk_cap HI.out).2.2.1);have hk6:=Q14.out w6 hB6;have H6:=hideP (And.intro hown6 hB6);clear hown6 hgrow6 hnil6 hlies6 hg6 hB6)
   have hI6:IR w6 w.heap.size v6 (r+1) (natI (pre ++ [i])):=by
    show w6.ownsRow w.heap.size 3 1 v6 (r+1) ((natI (pre ++ [i])).map (Value.int .i64))
    unfold natI
    rw[List.map_append,List.map_append]
    exact H6.out.1
   go_roundw
   case rel =>
    obtain⟨g6,c6,rfl⟩:∃g c,v6 = .slice (some ⟨g,0,none⟩) (r+1) c:=by
     rcases hI6.2 with ⟨_,h⟩ | ⟨g,c,cur,h,_⟩
     ·omega
     ·exact⟨g,c,h⟩
    exact⟨i+1+kids.toNat,f,pre ++ [i],g6,c6,r+1,congrArg _ (by omega),by omega,by omega,HST,by omega,by omega,by simp[HPR.out],rfl,hI6,H6.out.2⟩
   case measure=>simp[intOf];omega
  ·have hii:¬(i:Int)<(n:Int):=by omega
   have HE:Hid (pre=Z):=hideP (by
    have h:=HP.out
    cases f with
    | zero=>simpa [starts] using h
    | succ f =>
     rw[show starts xs (f+1) i=[] by simp only[starts];rw[if_neg (by rw[HL.out];exact hin)]] at h
     simpa using h)
   have HI:=hideP hI
   have HB:=hideP hbel
   clear hI hbel
   go_wp2
   go_ret
   refine⟨⟨_,rfl,?_⟩,HB.out⟩
   rw[← HE.out,hpr]
   exact HI.out
theorem SPart.own {w:World} {g n:Nat} {xs:List Nd} (h:SPart 15 NdR Nd.none 36 w g n n xs) (hn:xs.length=n) (hm:n≤1048576):w.ownsRow g 36 15 (.slice (some ⟨g,0,none⟩) n n) n (flatN xs):=by
 obtain⟨cur,hg,hs,hc⟩:=h
 refine⟨by rw[flatN_len,hn], .inr ⟨g,n,cur,rfl,Nat.le_refl _,hg,Nat.le_refl _,by unfold maxLen;omega,hs,?_⟩⟩
 apply List.ext_getElem?
 intro j
 by_cases hj:j<n*15
 ·rw[List.getElem?_take_of_lt hj,Array.getElem?_toList]
  obtain⟨cs,_,hR,hcj⟩:=hc (j / 15) (by omega)
  have h1:=hcj (j % 15) (by omega)
  rw[show j / 15*15+j % 15=j by omega,show cs=_ from hR] at h1
  have h2:=flatN_get xs (j / 15) (by omega) (j % 15) (by omega)
  rw[show j / 15*15+j % 15=j by omega] at h2
  rw[h1,h2]
 ·rw[List.getElem?_eq_none (by simp;omega),List.getElem?_eq_none (by rw[flatN_len,hn];omega)]
structure Sole (g:Nat) (w w':World):Prop where
 below:Below g w w'
 other:∀b,b<w.heap.size→b≠g→w'.heap[b]? = w.heap[b]?
theorem Sole.refl (g:Nat) (w:World):Sole g w w:=⟨Below.refl _ _,fun _ _ _=>rfl⟩
theorem Sole.set {g o:Nat} {w w':World} (h:Sole g w w') (x:Value):Sole g w (w'.setCell ⟨g,o,none⟩ x) :=
 ⟨h.below.setCell (Nat.le_refl _) _,fun b hb hn=>(Below.heap_setCell _ _ _ _ (by simpa using hn)).trans (h.other b hb hn)⟩
theorem Sole.below_more {g:Nat} {w w' w2:World} (h:Sole g w w') (hb:Below w'.heap.size w' w2) (hg:g<w'.heap.size):Sole g w w2 :=
 ⟨h.below.trans (hb.mono (by omega)),fun b hb2 hn=>(hb.block b (Nat.lt_of_lt_of_le hb2 h.below.size)).trans (h.other b hb2 hn)⟩
end Go.Proofs.YtbbehmcekbnkiaaGreat

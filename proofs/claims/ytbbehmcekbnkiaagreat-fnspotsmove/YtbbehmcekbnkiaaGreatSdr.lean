import Derived.Test.YtbbehmcekbnkiaaGreatSms
import Derived.Deep.CutBlock
import Derived.WalkMore
import Derived.Deep.LoopGhost
namespace Go.Proofs.YtbbehmcekbnkiaaGreat
open Go.RowKit
set_option linter.unusedVariables false
set_option linter.unusedSimpArgs false
structure PSt (w0 X:World) (u:Value) (zs:List (Nat×Pn)):Prop where
 own:X.ownsRow w0.heap.size 97 1 u zs.length (zs.map (fun z=> .pointer (some ⟨z.1,0,none⟩)))
 pens:∀z∈zs,PenAt X z.1 z.2
 lo:∀z∈zs,w0.heap.size≤z.1
 asc:zs.Pairwise (fun a b=>a.1<b.1)
structure DR (w0 X:World) (ns:List Nd) (R:List Spt) (f at_:Nat) (zs:List (Nat×Pn)) (acc:List Spt) (s5 s6:Value):Prop where
 bel:Below w0.heap.size w0 X
 ps:PSt w0 X s6 zs
 sp:X.ownsRow w0.heap.size 47 6 s5 acc.length (flatS acc)
 run:runS ns f at_ ((zs.map Prod.snd).reverse) acc=R
 fuel:2*(ns.length - at_)+zs.length<f
 es:∀z∈zs,z.2.e≤ns.length
 len:at_≤ns.length∧zs.length≤at_∧acc.length≤at_
theorem own_kd {w:World} {base e s n g:Nat} {v:Value} {xs:List Value} (h:w.ownsRow base e s v n xs) (hg:v.ownBlock=some g):base≤g∧g<w.heap.size∧∃cur,w.heap[g]? = some (.cells cur e (0,0)):=by
 rcases h.2 with ⟨rfl,_⟩ | ⟨g',cap,cur,rfl,hg0,hg',_⟩
 ·cases hg
 ·simp[Value.ownBlock] at hg
  subst hg
  exact⟨hg0,(Array.getElem?_eq_some_iff.1 hg').1,cur,hg'⟩
theorem own_st {w w':World} {base e s n:Nat} {v:Value} {xs:List Value} (h:w.ownsRow base e s v n xs) (hs:∀g o,v.ownBlock=some g→w.heap[g]? = some o→w'.heap[g]? = some o):w'.ownsRow base e s v n xs:=by
 obtain⟨hl,h | ⟨g,cap,cur,rfl,hg,hb,hr⟩⟩:=h
 ·exact⟨hl, .inl h⟩
 ·exact⟨hl, .inr ⟨g,cap,cur,rfl,hg,hs g _ rfl hb,hr⟩⟩
theorem rev_snoc (zs:List (Nat×Pn)) (b:Nat) (p:Pn):((zs ++ [(b,p)]).map Prod.snd).reverse=p :: (zs.map Prod.snd).reverse:=by simp
def Sty (X Y:World) (b:Nat) (s5:Value):Prop:=∀c o,X.heap[c]? = some o→c≠b→s5.ownBlock≠some c→Y.heap[c]? = some o
theorem sty_pf {X Y:World} {b:Nat} (s5:Value) (h:PF b X Y):Sty X Y b s5:=fun c o ho hn _=>(h.2.2.2.2 c (Array.getElem?_eq_some_iff.1 ho).1 hn).trans ho
theorem PSt.step {w0 X Y:World} {u s5:Value} {zs:List (Nat×Pn)} {b n:Nat} {p p':Pn} {L:List Value} (h:PSt w0 X u (zs ++ [(b,p)])) (hs:X.ownsRow w0.heap.size 47 6 s5 n L) (hst:Sty X Y b s5) (hp:PenAt Y b p'):PSt w0 Y u (zs ++ [(b,p')]):=by
 have hn5:∀c cur ty,ty≠47→X.heap[c]? = some (.cells cur ty (0,0))→s5.ownBlock≠some c:=fun c cur ty hty hc e=>by
  obtain⟨_,_,cur2,h2⟩:=own_kd hs e
  rw[hc] at h2
  cases h2
  exact hty rfl
 have hpb:=h.pens (b,p) (by simp)
 refine⟨?_,fun z hz=>?_,fun z hz=>?_,?_⟩
 ·have h1:=own_st (w':=Y) h.own (fun g o hg ho=>by
   obtain⟨_,_,cur,h2⟩:=own_kd h.own hg
   refine hst g o ho (fun e=>?_) (hn5 g cur 97 (by decide) h2)
   subst e
   rw[show X.heap[g]? = _ from hpb] at h2
   cases h2)
  simpa using h1
 ·rcases List.mem_append.1 hz with hz | hz
  ·have h1:=h.pens z (List.mem_append_left _ hz)
   have hlt:=(List.pairwise_append.1 h.asc).2.2 z hz (b,p) (by simp)
   exact hst z.1 _ h1 (by omega) (hn5 z.1 _ 155 (by decide) h1)
  ·rw[List.mem_singleton.1 hz]
   exact hp
 ·rcases List.mem_append.1 hz with hz | hz
  ·exact h.lo z (List.mem_append_left _ hz)
  ·rw[List.mem_singleton.1 hz]
   exact h.lo (b,p) (by simp)
 ·have h1:=List.pairwise_append.1 h.asc
  refine List.pairwise_append.2 ⟨h1.1,by simp,fun a ha c hc=>?_⟩
  rw[List.mem_singleton.1 hc]
  exact h1.2.2 a ha (b,p) (by simp)
theorem DR.step {w0 X Y:World} {ns:List Nd} {R:List Spt} {f at_ at' b:Nat} {zs:List (Nat×Pn)} {p p':Pn} {acc acc':List Spt} {s5 s5' s6:Value} (h:DR w0 X ns R (f+1) at_ (zs ++ [(b,p)]) acc s5 s6) (hrun:runS ns f at' (p' :: (zs.map Prod.snd).reverse) acc'=R) (hat:at_<at'∧at'≤ns.length) (hac:acc'.length≤acc.length+1) (he:p'.e=p.e)
 (hb:Below w0.heap.size w0 Y) (hst:Sty X Y b s5) (hp:PenAt Y b p') (hs:Y.ownsRow w0.heap.size 47 6 s5' acc'.length (flatS acc')):DR w0 Y ns R f at' (zs ++ [(b,p')]) acc' s5' s6:=by
 have hfu:=h.fuel
 have hle:=h.len
 simp only[List.length_append,List.length_singleton] at hfu hle
 refine⟨hb,h.ps.step h.sp hst hp,hs,by rw[rev_snoc];exact hrun,by simp only[List.length_append,List.length_singleton];omega,fun z hz=>?_,by simp only[List.length_append,List.length_singleton];omega⟩
 rcases List.mem_append.1 hz with hz | hz
 ·exact h.es z (List.mem_append_left _ hz)
 ·rw[List.mem_singleton.1 hz]
  have:=h.es (b,p) (by simp)
  simp only at this ⊢
  omega
theorem own_sl {w:World} {base n:Nat} {v:Value} {xs:List Spt} {s:Spt} (h:w.ownsRow base 47 6 v n (flatS (xs ++ [s]))):∃u c,v = .slice u n c:=by
 rcases h.2 with ⟨h2,h3⟩ | ⟨g,cap,cur,h2,_⟩
 ·have h4:=h.1
  simp_all [flatS,spC]
 ·exact⟨_,_,h2⟩
theorem own_new2 {w:World} {base:Nat} {a b:Obj} (hb:b = .cells #[] 47) (h:base≤w.heap.size):((w.alloc a).alloc b).ownsRow base 47 6 (.slice (some ⟨w.heap.size+1,0,none⟩) 0 0) ([]:List Spt).length (flatS []):=by
 subst hb
 exact⟨rfl, .inr ⟨_,_,_,rfl,by omega,heap_alloc_new2 w _ _,by simp,by unfold maxLen;simp,rfl,rfl⟩⟩
theorem DR.bel2 {w0 X Y Z:World} {ns:List Nd} {R:List Spt} {f at_ b:Nat} {zs:List (Nat×Pn)} {p:Pn} {acc:List Spt} {s5 s6:Value} (h:DR w0 X ns R f at_ (zs ++ [(b,p)]) acc s5 s6) (hf:PF b X Y) (hb:Below Y.heap.size Y Z):Below w0.heap.size w0 Z:=by
 have hlo:=h.ps.lo (b,p) (by simp)
 simp only at hlo
 exact⟨hb.os.trans (hf.1.trans h.bel.os),hb.tape.trans (hf.2.1.trans h.bel.tape),hb.output.trans (hf.2.2.1.trans h.bel.output),Nat.le_trans (Nat.le_trans h.bel.size hf.2.2.2.1) hb.size,fun c hc=>(hb.block c (Nat.lt_of_lt_of_le (Nat.lt_of_lt_of_le hc h.bel.size) hf.2.2.2.1)).trans ((hf.2.2.2.2 c (Nat.lt_of_lt_of_le hc h.bel.size) (by omega)).trans (h.bel.block c hc))⟩
theorem own_sl1 {w:World} {base n:Nat} {v:Value} {xs:List Value} (h:w.ownsRow base 97 1 v (n+1) xs):∃u c,v = .slice u (n+1) c:=by
 rcases h.2 with ⟨h2,h3⟩ | ⟨g,cap,cur,h2,_⟩
 ·omega
 ·exact⟨_,_,h2⟩
theorem DR.pn2 {w0 X Y Z:World} {ns:List Nd} {R:List Spt} {f at_ b:Nat} {zs:List (Nat×Pn)} {p:Pn} {acc:List Spt} {s5 s6:Value} (h:DR w0 X ns R f at_ (zs ++ [(b,p)]) acc s5 s6) (hf:PF b X Y) (hb:Below Y.heap.size Y Z):Z.ownsRow w0.heap.size 97 1 s6 (zs.length+1) ((zs ++ [(b,p)]).map (fun z=> .pointer (some ⟨z.1,0,none⟩))):=by
 have hpb:=h.ps.pens (b,p) (by simp)
 simp only at hpb
 have h0:=h.ps.own
 rw[show (zs ++ [(b,p)]).length=zs.length+1 by simp] at h0
 refine own_st h0 (fun g o hg ho=>?_)
 obtain⟨_,h2,cur,h3⟩:=own_kd h.ps.own hg
 refine (hb.block g (Nat.lt_of_lt_of_le h2 hf.2.2.2.1)).trans ((hf.2.2.2.2 g h2 (fun e=>?_)).trans ho)
 subst e
 rw[show X.heap[g]? = _ from hpb] at h3
 cases h3
theorem DR.push {w0 X Y Y2 Y3 Z:World} {ns:List Nd} {R:List Spt} {f at_ b b2 kn:Nat} {k ht x y:Int} {zs:List (Nat×Pn)} {p p':Pn} {acc:List Spt} {s5 s6 s6':Value} (h:DR w0 X ns R (f+1) at_ (zs ++ [(b,p)]) acc s5 s6) (hf:PF b X Y) (hp:PenAt Y b p') (hrun:runS ns f (at_+1) (inP k ht x y (at_+1+kn) :: p' :: (zs.map Prod.snd).reverse) acc=R) (hat:at_+1≤ns.length) (hkn:at_+1+kn≤ns.length) (he:p'.e=p.e)
 (hb:Below Y.heap.size Y Y2) (hb2:Y.heap.size≤b2) (hp2:PenAt Y2 b2 (inP k ht x y (at_+1+kn))) (hb3:Below Y2.heap.size Y2 Y3) (hg:Y3.grownBy Z s6.ownBlock) (ho:Z.ownsRow w0.heap.size 97 1 s6' (zs.length+1+1) ((zs ++ [(b,p)]).map (fun z=> .pointer (some ⟨z.1,0,none⟩)) ++ [.pointer (some ⟨b2,0,none⟩)])):DR w0 Z ns R f (at_+1) (zs ++ [(b,p')] ++ [(b2,inP k ht x y (at_+1+kn))]) acc s5 s6':=by
 have hpb:=h.ps.pens (b,p) (by simp)
 have hlo:=h.ps.lo (b,p) (by simp)
 simp only at hpb hlo
 have hbX:=(Array.getElem?_eq_some_iff.1 hpb).1
 have hfu:=h.fuel
 have hle:=h.len
 have hes:=h.es (b,p) (by simp)
 simp only[List.length_append,List.length_singleton] at hfu hle
 have h6:∀c cur ty,ty≠97→X.heap[c]? = some (.cells cur ty (0,0))→s6.ownBlock≠some c:=fun c cur ty hty hc e=>by
  obtain⟨_,_,cur2,h2⟩:=own_kd h.ps.own e
  rw[hc] at h2
  cases h2
  exact hty rfl
 have hXY:=hf.2.2.2.1
 have hY23:Y.heap.size≤Y3.heap.size:=Nat.le_trans hb.size hb3.size
 have hYZ:∀c,c<Y.heap.size→s6.ownBlock≠some c→Z.heap[c]? = Y.heap[c]?:=fun c hc hcs=>(hg.block c (Nat.lt_of_lt_of_le hc hY23) (fun e=>hcs e.symm)).trans ((hb3.block c (Nat.lt_of_lt_of_le hc hb.size)).trans (hb.block c hc))
 have hXZ:∀c,c<X.heap.size→c≠b→s6.ownBlock≠some c→Z.heap[c]? = X.heap[c]?:=fun c hc hcb hcs=>(hYZ c (Nat.lt_of_lt_of_le hc hXY) hcs).trans (hf.2.2.2.2 c hc hcb)
 have hs6:∀g,s6.ownBlock=some g→w0.heap.size≤g∧g<X.heap.size:=fun g hg=>⟨(own_kd h.ps.own hg).1,(own_kd h.ps.own hg).2.1⟩
 refine⟨⟨hg.os.trans (hb3.os.trans (hb.os.trans (hf.1.trans h.bel.os))),hg.tape.trans (hb3.tape.trans (hb.tape.trans (hf.2.1.trans h.bel.tape))),hg.output.trans (hb3.output.trans (hb.output.trans (hf.2.2.1.trans h.bel.output))),Nat.le_trans (Nat.le_trans h.bel.size hXY) (Nat.le_trans hY23 hg.size),fun c hc=>(hXZ c (Nat.lt_of_lt_of_le hc h.bel.size) (by omega) (fun e=>by have:=(hs6 c e).1;omega)).trans (h.bel.block c hc)⟩,⟨?_,fun z hz=>?_,fun z hz=>?_,?_⟩,own_st h.sp (fun g o hg ho=>?_),?_,?_,fun z hz=>?_,?_⟩
 ·rw[show (zs ++ [(b,p')] ++ [(b2,inP k ht x y (at_+1+kn))]).length=zs.length+1+1 by simp]
  simpa using ho
 ·rcases List.mem_append.1 hz with hz | hz
  ·rcases List.mem_append.1 hz with hz | hz
   ·have h1:=h.ps.pens z (List.mem_append_left _ hz)
    have hlt:=(List.pairwise_append.1 h.ps.asc).2.2 z hz (b,p) (by simp)
    exact (hXZ z.1 (Array.getElem?_eq_some_iff.1 h1).1 (by omega) (h6 z.1 _ 155 (by decide) h1)).trans h1
   ·rw[List.mem_singleton.1 hz]
    exact (hYZ b (Nat.lt_of_lt_of_le hbX hXY) (h6 b _ 155 (by decide) hpb)).trans hp
  ·rw[List.mem_singleton.1 hz]
   have hl2:=(Array.getElem?_eq_some_iff.1 hp2).1
   exact (hg.block b2 (Nat.lt_of_lt_of_le hl2 hb3.size) (fun e=>by have:=(hs6 b2 e.symm).2;omega)).trans ((hb3.block b2 hl2).trans hp2)
 ·rcases List.mem_append.1 hz with hz | hz
  ·rcases List.mem_append.1 hz with hz | hz
   ·exact h.ps.lo z (List.mem_append_left _ hz)
   ·rw[List.mem_singleton.1 hz];exact hlo
  ·rw[List.mem_singleton.1 hz]
   simp only
   omega
 ·have h1:=List.pairwise_append.1 h.ps.asc
  refine List.pairwise_append.2 ⟨List.pairwise_append.2 ⟨h1.1,by simp,fun a ha c hc=>?_⟩,by simp,fun a ha c hc=>?_⟩
  ·rw[List.mem_singleton.1 hc]
   exact h1.2.2 a ha (b,p) (by simp)
  ·rw[List.mem_singleton.1 hc]
   simp only
   rcases List.mem_append.1 ha with ha | ha
   ·have:=(Array.getElem?_eq_some_iff.1 (h.ps.pens a (List.mem_append_left _ ha))).1
    omega
   ·rw[List.mem_singleton.1 ha]
    simp only
    omega
 ·obtain⟨_,h2,cur,h3⟩:=own_kd h.sp hg
  exact (hXZ g h2 (fun e=>by subst e;rw[show X.heap[g]? = _ from hpb] at h3;cases h3) (h6 g cur 47 (by decide) h3)).trans ho
 ·simpa using hrun
 ·simp only[List.length_append,List.length_singleton]
  omega
 ·rcases List.mem_append.1 hz with hz | hz
  ·rcases List.mem_append.1 hz with hz | hz
   ·exact h.es z (List.mem_append_left _ hz)
   ·rw[List.mem_singleton.1 hz]
    simp only at hes ⊢
    omega
  ·rw[List.mem_singleton.1 hz]
   simp only
   rw[inP_e]
   omega
 ·simp only[List.length_append,List.length_singleton]
  omega
theorem DR.stepP {w0 X Y:World} {ns:List Nd} {R:List Spt} {f at_ at' b:Nat} {zs:List (Nat×Pn)} {p p':Pn} {acc:List Spt} {s5 s6:Value} (h:DR w0 X ns R (f+1) at_ (zs ++ [(b,p)]) acc s5 s6) (hf:PF b X Y) (hp:PenAt Y b p') (hrun:runS ns f at' (p' :: (zs.map Prod.snd).reverse) acc=R) (hat:at_<at'∧at'≤ns.length) (he:p'.e=p.e):DR w0 Y ns R f at' (zs ++ [(b,p')]) acc s5 s6:=by
 have hpb:=h.ps.pens (b,p) (by simp)
 have hlo:=h.ps.lo (b,p) (by simp)
 simp only at hpb hlo
 refine h.step hrun hat (by omega) he ⟨hf.1.trans h.bel.os,hf.2.1.trans h.bel.tape,hf.2.2.1.trans h.bel.output,Nat.le_trans h.bel.size hf.2.2.2.1,fun c hc=>(hf.2.2.2.2 c (Nat.lt_of_lt_of_le hc h.bel.size) (by omega)).trans (h.bel.block c hc)⟩ (sty_pf s5 hf) hp ?_
 refine own_st h.sp (fun g o hg ho=>?_)
 obtain⟨_,h2,cur,h3⟩:=own_kd h.sp hg
 refine (hf.2.2.2.2 g h2 (fun e=>?_)).trans ho
 subst e
 rw[show X.heap[g]? = _ from hpb] at h3
 cases h3
theorem DR.sp2 {w0 X Y Z:World} {ns:List Nd} {R:List Spt} {f at_ b:Nat} {zs:List (Nat×Pn)} {p:Pn} {acc:List Spt} {s5 s6:Value} (h:DR w0 X ns R f at_ (zs ++ [(b,p)]) acc s5 s6) (hf:PF b X Y) (hb:Below Y.heap.size Y Z):Z.ownsRow w0.heap.size 47 6 s5 acc.length (flatS acc):=by
 have hpb:=h.ps.pens (b,p) (by simp)
 simp only at hpb
 refine own_st h.sp (fun g o hg ho=>?_)
 obtain⟨_,h2,cur,h3⟩:=own_kd h.sp hg
 refine (hb.block g (Nat.lt_of_lt_of_le h2 hf.2.2.2.1)).trans ((hf.2.2.2.2 g h2 (fun e=>?_)).trans ho)
 subst e
 rw[show X.heap[g]? = _ from hpb] at h3
 cases h3
theorem DR.app {w0 X Y Y2 Z:World} {ns:List Nd} {R:List Spt} {f at_ at' b:Nat} {zs:List (Nat×Pn)} {p p':Pn} {acc:List Spt} {s:Spt} {s5 s5' s6:Value} (h:DR w0 X ns R (f+1) at_ (zs ++ [(b,p)]) acc s5 s6) (hf:PF b X Y) (hp:PenAt Y b p') (hrun:runS ns f at' (p' :: (zs.map Prod.snd).reverse) (acc ++ [s])=R) (hat:at_<at'∧at'≤ns.length) (he:p'.e=p.e)
 (hb:Below Y.heap.size Y Y2) (hg:Y2.grownBy Z s5.ownBlock) (ho:Z.ownsRow w0.heap.size 47 6 s5' (acc.length+1) (flatS (acc ++ [s]))):DR w0 Z ns R f at' (zs ++ [(b,p')]) (acc ++ [s]) s5' s6:=by
 have hpb:=h.ps.pens (b,p) (by simp)
 have hlo:=h.ps.lo (b,p) (by simp)
 simp only at hpb hlo
 have hbX:=(Array.getElem?_eq_some_iff.1 hpb).1
 have hb5:s5.ownBlock≠some b:=fun e=>by
  obtain⟨_,_,cur,h3⟩:=own_kd h.sp e
  rw[show X.heap[b]? = _ from hpb] at h3
  cases h3
 have hfar:∀c,c<X.heap.size→c≠b→s5.ownBlock≠some c→Z.heap[c]? = X.heap[c]?:=fun c hc hcb hcs=>(hg.block c (Nat.lt_of_lt_of_le (Nat.lt_of_lt_of_le hc hf.2.2.2.1) hb.size) (fun e=>hcs e.symm)).trans ((hb.block c (Nat.lt_of_lt_of_le hc hf.2.2.2.1)).trans (hf.2.2.2.2 c hc hcb))
 refine h.step hrun hat (by simp) he ⟨hg.os.trans (hb.os.trans (hf.1.trans h.bel.os)),hg.tape.trans (hb.tape.trans (hf.2.1.trans h.bel.tape)),hg.output.trans (hb.output.trans (hf.2.2.1.trans h.bel.output)),Nat.le_trans (Nat.le_trans h.bel.size hf.2.2.2.1) (Nat.le_trans hb.size hg.size),fun c hc=>(hfar c (Nat.lt_of_lt_of_le hc h.bel.size) (by omega) (fun e=>?_)).trans (h.bel.block c hc)⟩ (fun c o ho hcb hcs=>(hfar c (Array.getElem?_eq_some_iff.1 ho).1 hcb hcs).trans ho) ((hg.block b (Nat.lt_of_lt_of_le (Nat.lt_of_lt_of_le hbX hf.2.2.2.1) hb.size) (fun e=>hb5 e.symm)).trans ((hb.block b (Nat.lt_of_lt_of_le hbX hf.2.2.2.1)).trans hp)) (by rw[List.length_append];exact ho)
 have:=(own_kd h.sp e).1
 omega
theorem DR.pop {w0 X:World} {ns:List Nd} {R:List Spt} {f at_ b gp cp:Nat} {zs:List (Nat×Pn)} {p:Pn} {acc:List Spt} {s5:Value} (h:DR w0 X ns R (f+1) at_ (zs ++ [(b,p)]) acc s5 (.slice (some ⟨gp,0,none⟩) (zs.length+1) cp)) (hp:¬at_<p.e):DR w0 X ns R f at_ zs acc s5 (.slice (some ⟨gp,0,none⟩) zs.length cp):=by
 have hfu:=h.fuel
 have hle:=h.len
 have hr:=h.run
 rw[rev_snoc,run_step] at hr
 unfold stepS at hr
 rw[if_neg hp] at hr
 simp only[List.length_append,List.length_singleton] at hfu hle
 refine⟨h.bel,⟨?_,fun z hz=>h.ps.pens z (List.mem_append_left _ hz),fun z hz=>h.ps.lo z (List.mem_append_left _ hz),(List.pairwise_append.1 h.ps.asc).1⟩,h.sp,hr,by omega,fun z hz=>h.es z (List.mem_append_left _ hz),by omega⟩
 have h1:=h.ps.own
 obtain⟨hl,h2 | ⟨g,cap,cur,e,hg,hbk,hn,hc,hsz,hr2⟩⟩:=h1
 ·exact absurd h2.1 (by simp)
 ·simp only[Value.slice.injEq,Option.some.injEq,Addr.mk.injEq,and_true] at e
  obtain⟨rfl,_,rfl⟩:=e
  simp only[List.length_append,List.length_singleton] at hn hr2
  refine⟨by simp, .inr ⟨gp,cp,cur,rfl,hg,hbk,by omega,hc,hsz,?_⟩⟩
  have h3:=congrArg (List.take zs.length) hr2
  rw[List.take_take,Nat.min_eq_left (by omega),List.map_append,List.take_append_of_le_length (by simp)] at h3
  rw[Nat.mul_one]
  exact h3.trans (List.take_of_length_le (by simp))
set_option maxRecDepth 100000 in
set_option maxHeartbeats 8000000 in
theorem drawn_any {w0 w:World} {v:Value} {ns:List Nd} {b0:Nat} {p0:Pn} (hN:NRow 0 w0 v ns) (hl:0<ns.length∧ns.length≤20000) (hk:∀i,i<ns.length→0≤(ns.getD i Nd.none).kids∧(i:Int)+1+(ns.getD i Nd.none).kids≤ns.length) (hkd:∀i,i<ns.length→1≤(ns.getD i Nd.none).k∧(ns.getD i Nd.none).k≤11) (hB:Below w0.heap.size w0 w) (hb0:w0.heap.size≤b0) (hP:PenAt w b0 p0) (he:p0.e=ns.length) :
 Calls Tryz.prog 45 #[v, .pointer (some ⟨b0,0,none⟩)] w fun e w'=>(∃u,e = .returned u∧w'.ownsRow w0.heap.size 47 6 u (runS ns (2*ns.length+2) 1 [p0] []).length (flatS (runS ns (2*ns.length+2) 1 [p0] [])))∧Below w0.heap.size w0 w':=by
 obtain⟨R,hR⟩:∃R,R=runS ns (2*ns.length+2) 1 [p0] []:=⟨_,rfl⟩
 rw[← hR]
 have HR:=hideP hR
 have HNR:=hideP hN
 obtain⟨va,n,vc,rfl,hln,_⟩:=hN
 have HL:=hideP hln
 rw[hln] at hl
 obtain⟨hl0,hl1⟩:=hl
 have HB:=hideP hB
 have HP:=hideP hP
 have HK:=hideP hk
 have HKD:=hideP hkd
 have HE:=hideP he
 clear hR hB hP hk he hln hkd
 go_enter Tryz.func45,Tryz.ntmps45
 go_wp2
 go_step3
 go_wp2
 go_step3
 go_wp2
 obtain⟨W2,hW2⟩:∃W2,W2=(w.alloc (.cells #[] 47)).alloc (.cells #[.pointer (some ⟨b0,0,none⟩)] 97):=⟨_,rfl⟩
 have HD0:Hid (DR w0 W2 ns R (2*ns.length+2) 1 [(b0,p0)] [] (.slice (some ⟨w.heap.size,0,none⟩) 0 0) (.slice (some ⟨w.heap.size+1,0,none⟩) 1 1)):=hideP (by
  have hbw:Below w.heap.size w W2:=by rw[hW2];exact below2 _ _ _
  have hsz:=HB.out.size
  have q0:W2.heap[w.heap.size]? = some (.cells #[] 47 (0,0)):=by rw[hW2];exact (Below.heap_alloc _ _ _ (by simp)).trans (heap_alloc_new w _)
  have q1:W2.heap[w.heap.size+1]? = some (.cells #[.pointer (some ⟨b0,0,none⟩)] 97 (0,0)):=by rw[hW2];exact heap_alloc_new2 w _ _
  have hll:=HL.out
  refine⟨below_more HB.out hbw hsz,⟨⟨rfl, .inr ⟨_,_,_,rfl,by omega,q1,by simp,by unfold maxLen;simp,rfl,rfl⟩⟩,fun z hz=>?_,fun z hz=>?_,by simp⟩,⟨rfl, .inr ⟨_,_,_,rfl,by omega,q0,by simp,by unfold maxLen;simp,rfl,rfl⟩⟩,HR.out.symm,by simp;omega,fun z hz=>?_,by simp;omega⟩
  ·rw[List.mem_singleton.1 hz];exact HP.out.bel hbw
  ·rw[List.mem_singleton.1 hz];exact hb0
  ·rw[List.mem_singleton.1 hz];exact Nat.le_of_eq HE.out)
 rw[← hW2]
 clear hW2
 go_loopg [5,6,7] (2*ns.length+2) (fun gf s5 s6 s7 wr=>∃(at_:Nat) (zs:List (Nat×Pn)) (acc:List Spt) (u6:Option Addr) (c6:Nat) (u5:Option Addr) (c5:Nat),s7 = .int .i64 (at_:Int)∧s5 = .slice u5 acc.length c5∧s6 = .slice u6 zs.length c6∧Hid (DR w0 wr ns R gf at_ zs acc (.slice u5 acc.length c5) (.slice u6 zs.length c6)))
 case atStart=>exact⟨1,[(b0,p0)],[],_,_,_,_,rfl,rfl,rfl,HD0⟩
 case round =>
  obtain⟨at_,zs,acc,u6,c6,u5,c5,rfl,rfl,rfl,HD⟩:=hrel
  have hfu:=HD.out.fuel
  obtain⟨go,rfl⟩:∃go,gk=go+1:=⟨gk - 1,by omega⟩
  rcases List.eq_nil_or_concat zs with rfl | ⟨zs',⟨b,p⟩,rfl⟩
  ·have HRA:Hid (R=acc):=hideP HD.out.run.symm
   clear hfu
   simp only[List.length_nil]
   go_wp2
   try rw[Exit.noGoto_ret]
   go_ret
   exact⟨⟨_,rfl,by rw[HRA.out];exact HD.out.sp⟩,HD.out.bel⟩
  ·simp only[List.concat_eq_append] at HD ⊢
   rw[show (zs' ++ [(b,p)]).length=zs'.length+1 by simp] at HD ⊢
   obtain⟨q,hq⟩:∃q,q=zs'.length:=⟨_,rfl⟩
   have HQ:=hideP hq
   have hq20:q+1≤20000:=by
    have h1:=HD.out.len
    have h2:=HL.out
    simp only[List.length_append,List.length_singleton] at h1
    omega
   obtain⟨gp,hgp,hcell⟩:∃gp,u6=some ⟨gp,0,none⟩∧wr.cell? ⟨gp,q,none⟩=some (.pointer (some ⟨b,0,none⟩)):=by
    have h1:=HD.out.ps.own
    rcases h1.2 with ⟨h2,h3⟩ | ⟨g',cap',cur,e,_⟩
    ·simp at h3
    ·have e2:u6=some ⟨g',0,none⟩:=by simp only[Value.slice.injEq] at e;exact e.1
     subst e2
     refine⟨g',rfl,?_⟩
     rw[show (zs' ++ [(b,p)]).length=zs'.length+1 by simp] at h1
     rw[World.ownsRow.cellAt h1 q (by omega)]
     simp[hq]
   subst hgp
   rw[← hq]
   have hpen:=HD.out.ps.pens (b,p) (by simp)
   clear hq hfu
   go_wp2
   have HPE:Hid (p.e≤ns.length):=hideP (HD.out.es (b,p) (by simp))
   clear hpen
   go_loopg [5,6,7] (go+1) (fun gi s5 s6 s7 wr=>∃(at_:Nat) (p':Pn) (acc:List Spt) (u5:Option Addr) (c5:Nat),s7 = .int .i64 (at_:Int)∧s6 = .slice (some ⟨gp,0,none⟩) (q+1) c6∧s5 = .slice u5 acc.length c5∧p'.e=p.e∧gi≤go+1∧Hid (DR w0 wr ns R gi at_ (zs' ++ [(b,p')]) acc (.slice u5 acc.length c5) (.slice (some ⟨gp,0,none⟩) (zs'.length+1) c6)))
   case atStart=>exact⟨at_,p,acc,_,_,rfl,rfl,rfl,rfl,Nat.le_refl _,HD⟩
   case round =>
    clear HD
    obtain⟨at_,p',acc,u5,c5,rfl,rfl,rfl,hpe,hgi,HD⟩:=hrel
    have hfu:=HD.out.fuel
    obtain⟨gi,rfl⟩:∃gi,gk=gi+1:=⟨gk - 1,by omega⟩
    have hpen:=HD.out.ps.pens (b,p') (by simp)
    obtain⟨pc0,pc1,pc2,pc3,pfz⟩:=hpen.cells
    have hbl:=hpen.lt
    simp only at pc0 pc1 pc2 pc3
    have hen:p'.e≤ns.length:=HD.out.es (b,p') (by simp)
    by_cases hat:at_<p'.e
    ·have hati:(at_:Int)<(p'.e:Int):=by omega
     obtain⟨va2,n2,vc2,hv,hln2,hrr⟩:=SRow.below ndStable HNR.out HD.out.bel
     simp only[Value.slice.injEq] at hv
     obtain⟨rfl,rfl,rfl⟩:=hv
     have hnl:=HL.out
     obtain⟨nb,off,rfl,_,hnb,hc⟩:=hrr (by omega)
     obtain⟨cs,hcl,hRel,hcj⟩:=hc at_ (by omega)
     have hkx:=HK.out at_ (by omega)
     have hkdx:=HKD.out at_ (by omega)
     have HRUN:=hideP HD.out.run
     rw[rev_snoc,run_step] at HRUN
     unfold stepS at HRUN
     rw[if_pos hat] at HRUN
     obtain⟨x,hx⟩:∃x,x=ns.getD at_ Nd.none:=⟨_,rfl⟩
     rw[← hx] at hRel hkx hkdx HRUN
     obtain⟨k,wd,ht,dp,sh,fo,ch,nn,gs,gp_,gpo,gm,gmo,tx,kids⟩:=x
     rw[show cs=_ from hRel] at hcj
     simp only[Nd.cells] at hcj
     simp only at hkx hkdx
     obtain⟨kn,rfl⟩:∃kn:Nat,kids=(kn:Int):=⟨kids.toNat,by omega⟩
     have hkn:at_+1+kn≤ns.length:=by omega
     have hatn:(at_:Int)<(n:Int):=by omega
     have hat1:at_+1≤20000:=by omega
     have hatn2:at_+1≤ns.length:=by omega
     have n100:wr.cell? ⟨nb,off+at_*15,none⟩=some (.int .i64 k):=by simpa using hcj 0 (by omega)
     have n101:wr.cell? ⟨nb,off+at_*15+1,none⟩=some (.int .i64 wd):=by simpa using hcj 1 (by omega)
     have n102:wr.cell? ⟨nb,off+at_*15+2,none⟩=some (.int .i64 ht):=by simpa using hcj 2 (by omega)
     have n103:wr.cell? ⟨nb,off+at_*15+3,none⟩=some (.int .i64 dp):=by simpa using hcj 3 (by omega)
     have n104:wr.cell? ⟨nb,off+at_*15+4,none⟩=some (.int .i64 sh):=by simpa using hcj 4 (by omega)
     have n105:wr.cell? ⟨nb,off+at_*15+5,none⟩=some (.int .i64 fo):=by simpa using hcj 5 (by omega)
     have n106:wr.cell? ⟨nb,off+at_*15+6,none⟩=some (.int .i64 ch):=by simpa using hcj 6 (by omega)
     have n107:wr.cell? ⟨nb,off+at_*15+7,none⟩=some (.int .i64 nn):=by simpa using hcj 7 (by omega)
     have n108:wr.cell? ⟨nb,off+at_*15+8,none⟩=some (.int .i64 gs):=by simpa using hcj 8 (by omega)
     have n109:wr.cell? ⟨nb,off+at_*15+9,none⟩=some (.int .i64 gp_):=by simpa using hcj 9 (by omega)
     have n110:wr.cell? ⟨nb,off+at_*15+10,none⟩=some (.int .i64 gpo):=by simpa using hcj 10 (by omega)
     have n111:wr.cell? ⟨nb,off+at_*15+11,none⟩=some (.int .i64 gm):=by simpa using hcj 11 (by omega)
     have n112:wr.cell? ⟨nb,off+at_*15+12,none⟩=some (.int .i64 gmo):=by simpa using hcj 12 (by omega)
     have n113:wr.cell? ⟨nb,off+at_*15+13,none⟩=some (.string tx):=by simpa using hcj 13 (by omega)
     have n114:wr.cell? ⟨nb,off+at_*15+14,none⟩=some (.int .i64 (kn:Int)):=by simpa using hcj 14 (by omega)
     clear hcj hRel hcl hc hrr hx hkx hnl
     obtain⟨hk1,hk2⟩:=hkdx
     rcases (show k=1∨k=2∨k=3∨k=4∨k=5∨k=6∨k=7∨k=8∨k=9∨k=10∨k=11 by omega) with rfl | rfl | rfl | rfl | rfl | rfl | rfl | rfl | rfl | rfl | rfl
     ·as_aux_lemma =>
       have TC:Hid (∀W:World,Calls Tryz.prog 62 #[.agg #[.int .i64 1, .int .i64 wd, .int .i64 ht, .int .i64 dp, .int .i64 sh, .int .i64 fo, .int .i64 ch, .int .i64 nn, .int .i64 gs, .int .i64 gp_, .int .i64 gpo, .int .i64 gm, .int .i64 gmo, .string tx, .int .i64 (kn:Int)]] W fun r w'=>r = .returned (.iface 132 (.agg #[.int .i64 fo, .int .i64 ch, .int .i64 wd, .int .i64 ht, .int .i64 dp]))∧Below W.heap.size W w'):=hideP (fun W=>(thing_q ⟨1,wd,ht,dp,sh,fo,ch,nn,gs,gp_,gpo,gm,gmo,tx,(kn:Int)⟩ W).mono (fun e w' ⟨⟨v,h1,h2⟩,h3⟩=>⟨by rw[h1,h2.2.2];rfl,h3⟩))
       have a0:∀W:World,(Instr.typeAssert (.iface 132 (.agg #[.int .i64 fo, .int .i64 ch, .int .i64 wd, .int .i64 ht, .int .i64 dp])) 85 78 true).run Tryz.prog W = .ok (.tuple #[.agg #[.int .i64 0, .int .i64 0, .int .i64 0, .int .i64 0, .int .i64 0, .int .i64 0], .bool false]) W:=fun _=>by kernel_rfl
       have a1:∀W:World,(Instr.typeAssert (.iface 132 (.agg #[.int .i64 fo, .int .i64 ch, .int .i64 wd, .int .i64 ht, .int .i64 dp])) 85 158 true).run Tryz.prog W = .ok (.tuple #[.agg #[.int .i64 0, .int .i64 0, .int .i64 0], .bool false]) W:=fun _=>by kernel_rfl
       have a2:∀W:World,(Instr.typeAssert (.iface 132 (.agg #[.int .i64 fo, .int .i64 ch, .int .i64 wd, .int .i64 ht, .int .i64 dp])) 85 137 true).run Tryz.prog W = .ok (.tuple #[.agg #[.int .i64 0], .bool false]) W:=fun _=>by kernel_rfl
       have a3:∀W:World,(Instr.typeAssert (.iface 132 (.agg #[.int .i64 fo, .int .i64 ch, .int .i64 wd, .int .i64 ht, .int .i64 dp])) 85 87 true).run Tryz.prog W = .ok (.tuple #[.agg #[.int .i64 0, .int .i64 0, .int .i64 0, .int .i64 0, .int .i64 0, .int .i64 0], .bool false]) W:=fun _=>by kernel_rfl
       have a4:∀W:World,(Instr.typeAssert (.iface 132 (.agg #[.int .i64 fo, .int .i64 ch, .int .i64 wd, .int .i64 ht, .int .i64 dp])) 85 161 true).run Tryz.prog W = .ok (.tuple #[.iface 132 (.agg #[.int .i64 fo, .int .i64 ch, .int .i64 wd, .int .i64 ht, .int .i64 dp]), .bool true]) W:=fun W=>run_typeAssert_hasB Tryz.underlying161 (by kernel_rfl) _ 85 W
       go_wp2_with fail
       refine (TC.out wr).mono ?_
       rintro e w3 ⟨rfl,hb3⟩
       have B3:=hideP hb3
       have hbl3:b<w3.heap.size:=Nat.lt_of_lt_of_le hbl hb3.size
       clear hb3 n100 n101 n102 n103 n104 n105 n106 n107 n108 n109 n110 n111 n112 n113 n114 TC pc0 pc1 pc2 pc3 pfz
       have mh:∀W:World,(method 370 132 (.agg #[.int .i64 fo, .int .i64 ch, .int .i64 wd, .int .i64 ht, .int .i64 dp]) "loop.example/g00014/impl.spot").run Tryz.prog W = .ok (172, .agg #[.int .i64 fo, .int .i64 ch, .int .i64 wd, .int .i64 ht, .int .i64 dp]) W:=fun _=>by kernel_rfl
       have fh:∀W:World,(callFunc 172 #[.agg #[.int .i64 fo, .int .i64 ch, .int .i64 wd, .int .i64 ht, .int .i64 dp], .pointer (some ⟨b,0,none⟩)]).run Tryz.prog W = .ok (.enter 172 #[.agg #[.int .i64 fo, .int .i64 ch, .int .i64 wd, .int .i64 ht, .int .i64 dp], .pointer (some ⟨b,0,none⟩)]) W:=fun _=>by kernel_rfl
       have SC:Hid (∀W,PenAt W b p'→Calls Tryz.prog 172 #[.agg #[.int .i64 fo, .int .i64 ch, .int .i64 wd, .int .i64 ht, .int .i64 dp], .pointer (some ⟨b,0,none⟩)] W fun e w'=>SeenR p' ⟨1,wd,ht,dp,sh,fo,ch,nn,gs,gp_,gpo,gm,gmo,tx,(kn:Int)⟩ e∧PenAt w' b (if p'.dn=true then p' else byP p' ⟨1,wd,ht,dp,sh,fo,ch,nn,gs,gp_,gpo,gm,gmo,tx,(kn:Int)⟩)∧PF b W w'):=hideP (fun W hW=>spotL_any ⟨1,wd,ht,dp,sh,fo,ch,nn,gs,gp_,gpo,gm,gmo,tx,(kn:Int)⟩ rfl hW)
       obtain⟨p2,hp2⟩:∃q,q=(if p'.dn=true then p' else byP p' ⟨1,wd,ht,dp,sh,fo,ch,nn,gs,gp_,gpo,gm,gmo,tx,(kn:Int)⟩):=⟨_,rfl⟩
       have he2:p2.e=p'.e:=by rw[hp2];split <;> (first | rfl | exact byP_e _ _)
       have HN0:Hid (seenP p' ⟨1,wd,ht,dp,sh,fo,ch,nn,gs,gp_,gpo,gm,gmo,tx,(kn:Int)⟩=none→runS ns gi (at_+1) (p2 :: (zs'.map Prod.snd).reverse) acc=R):=hideP (fun h=>by have h2:=HRUN.out;simp[h] at h2;rw[hp2,← h2];unfold seenP at h;simp at h;simp[h])
       have HS0:Hid (∀s,seenP p' ⟨1,wd,ht,dp,sh,fo,ch,nn,gs,gp_,gpo,gm,gmo,tx,(kn:Int)⟩=some s→(if fitP s=true then runS ns gi (at_+1) (p2 :: (zs'.map Prod.snd).reverse) (acc ++ [s]) else [])=R):=hideP (fun s h=>by have h2:=HRUN.out;simp[h] at h2;rw[hp2,← h2];unfold seenP at h;simp at h;simp[h.1])
       rw[← hp2] at SC
       clear hp2 HRUN
       have FC:Hid (∀(x:Int) W,Calls Tryz.prog 44 #[.int .i64 x] W fun e w'=>e = .returned (.bool (fitsB x))∧w'=W):=hideP implFits_any
       go_wp2_with fail
       refine (SC.out w3 (hpen.bel B3.out)).mono ?_
       rintro e w5 ⟨⟨s,bb,rfl,hsn⟩,hp5,hf5⟩
       have P5:=hideP hp5
       have F5:Hid (PF b wr w5):=hideP (((PF.refl b wr).below B3.out).trans hf5)
       have hsz5:w3.heap.size≤w5.heap.size:=hf5.2.2.2.1
       clear hp5 hf5 SC mh fh a0 a1 a2 a3 a4
       obtain⟨s1,s2,s3,s4,s5,s6⟩:=s
       simp only[sptV]
       cases bb with
       | false =>
        have DS:Hid (∀Y,Below w5.heap.size w5 Y→DR w0 Y ns R gi (at_+1) (zs' ++ [(b,p2)]) acc (.slice u5 acc.length c5) (.slice (some ⟨gp,0,none⟩) (zs'.length+1) c6)):=hideP (fun Y hY=>HD.out.stepP (F5.out.below hY) (P5.out.bel hY) (HN0.out (by rw[hsn];rfl)) ⟨by omega,by omega⟩ he2)
        clear HN0 HS0 hsn HD hpen FC
        go_wp2
        go_roundg gi
        case measure=>omega
        case rel=>exact⟨at_+1,p2,acc,_,_,by go_num,rfl,rfl,he2.trans hpe,by omega,hideP (DS.out _ (below1 _ _))⟩
       | true =>
        have HR1:=HS0.out _ (by rw[hsn];rfl)
        unfold fitP at HR1
        simp only at HR1
        have HR2:=hideP HR1
        clear HR1 HN0 HS0 hsn
        have hac:acc.length≤20000:=by have h1:=HD.out.len;have h2:=HL.out;omega
        have h05:w0.heap.size≤w5.heap.size:=Nat.le_trans HD.out.bel.size F5.out.2.2.2.1
        by_cases f1:fitsB s1=true
        ·by_cases f2:fitsB s2=true
         ·have HRR:Hid (runS ns gi (at_+1) (p2 :: (zs'.map Prod.snd).reverse) (acc ++ [(s1,s2,s3,s4,s5,s6)])=R):=hideP (by have h:=HR2.out;simpa [f1,f2] using h)
          have F1:Hid (∀W,Calls Tryz.prog 44 #[.int .i64 s1] W fun e w'=>e = .returned (.bool true)∧w'=W):=hideP (fun W=>by have h:=FC.out s1 W;rw[f1] at h;exact h)
          have F2:Hid (∀W,Calls Tryz.prog 44 #[.int .i64 s2] W fun e w'=>e = .returned (.bool true)∧w'=W):=hideP (fun W=>by have h:=FC.out s2 W;rw[f2] at h;exact h)
          clear FC HR2
          go_wp2_with fail
          obtain⟨w6,hw6⟩:∃W,W=w5.alloc (.cells #[.int .i64 s1, .int .i64 s2, .int .i64 s3, .int .i64 s4, .int .i64 s5, .int .i64 s6] 47):=⟨_,rfl⟩
          rw[← hw6]
          have G6:w6.heap[w5.heap.size]? = some (.cells #[.int .i64 s1, .int .i64 s2, .int .i64 s3, .int .i64 s4, .int .i64 s5, .int .i64 s6] 47 (0,0)):=by rw[hw6];exact heap_alloc_new _ _
          have c60:w6.cell? ⟨w5.heap.size,0,none⟩=some (.int .i64 s1):=by rw[cell_of_row _ _ 0 _ 47 _ G6];rfl
          have c61:w6.cell? ⟨w5.heap.size,1,none⟩=some (.int .i64 s2):=by rw[cell_of_row _ _ 1 _ 47 _ G6];rfl
          have c62:w6.cell? ⟨w5.heap.size,2,none⟩=some (.int .i64 s3):=by rw[cell_of_row _ _ 2 _ 47 _ G6];rfl
          have c63:w6.cell? ⟨w5.heap.size,3,none⟩=some (.int .i64 s4):=by rw[cell_of_row _ _ 3 _ 47 _ G6];rfl
          have c64:w6.cell? ⟨w5.heap.size,4,none⟩=some (.int .i64 s5):=by rw[cell_of_row _ _ 4 _ 47 _ G6];rfl
          have c65:w6.cell? ⟨w5.heap.size,5,none⟩=some (.int .i64 s6):=by rw[cell_of_row _ _ 5 _ 47 _ G6];rfl
          have B6:Hid (Below w5.heap.size w5 w6):=hideP (by rw[hw6];exact below1 _ _)
          have hl6:w5.heap.size<w6.heap.size:=(Array.getElem?_eq_some_iff.1 G6).1
          clear hw6
          refine (F1.out _).mono ?_
          rintro e w7 ⟨rfl,h7⟩
          rw[h7]
          clear h7 w7 F1
          go_wp2_with fail
          refine (F2.out _).mono ?_
          rintro e w7 ⟨rfl,h7⟩
          rw[h7]
          clear h7 w7 F2
          go_upto_region 29 with fail
          refine wp_region_lit ?_
          refine wpList_mv rfl _ rfl rfl ?_
          refine wpList_ldr rfl 47 _ rfl w5.heap.size rfl (spA (s1,s2,s3,s4,s5,s6)) 47 (0,0) G6 _ Tryz.underlying47 rfl size47 ?_
          refine wpList_bs1 rfl 44 1 0 _ rfl rfl (run_bsP w6 (s1,s2,s3,s4,s5,s6)) ?_
          refine wpList_appP rfl _ _ rfl w0.heap.size (.slice u5 acc.length c5) acc.length acc rfl (HD.out.sp2 F5.out (below_more B6.out (below1 w6 _) (Nat.le_of_lt hl6))) w6.heap.size (s1,s2,s3,s4,s5,s6) rfl (heap_alloc_new _ _) (by omega) (Nat.le_trans (Nat.le_trans h05 (Nat.le_of_lt hl6)) (below1 _ _).size) ?_
          intro v9 w9 ho9 hg9 hat9
          have D9:=hideP (HD.out.app F5.out P5.out HRR.out ⟨Nat.lt_succ_self _,hatn2⟩ he2 (below_more B6.out (below1 w6 _) (Nat.le_of_lt hl6)) hg9 ho9)
          obtain⟨u9,c9,rfl⟩:=own_sl ho9
          clear ho9 hg9 hat9 HRR P5 F5 HD hpen G6
          go_wp2
          go_roundg gi
          case measure=>omega
          case rel =>
           refine⟨at_+1,p2,acc ++ [(s1,s2,s3,s4,s5,s6)],u9,c9,by go_num,rfl,by simp,he2.trans hpe,by omega,?_⟩
           rw[show (acc ++ [(s1,s2,s3,s4,s5,s6)]).length=acc.length+1 by simp]
           exact D9
         ·have HRE:Hid (R=[]):=hideP (by have h:=HR2.out;rw[Bool.eq_false_iff.2 f2] at h;simpa using h.symm)
          have F1:Hid (∀W,Calls Tryz.prog 44 #[.int .i64 s1] W fun e w'=>e = .returned (.bool true)∧w'=W):=hideP (fun W=>by have h:=FC.out s1 W;rw[f1] at h;exact h)
          have F2:Hid (∀W,Calls Tryz.prog 44 #[.int .i64 s2] W fun e w'=>e = .returned (.bool false)∧w'=W):=hideP (fun W=>by have h:=FC.out s2 W;rw[Bool.eq_false_iff.2 f2] at h;exact h)
          clear FC HR2
          go_wp2_with (go_at_call 44;(first | refine (F1.out _).mono ?_ | refine (F2.out _).mono ?_);rintro e w6 ⟨rfl,rfl⟩)
          try rw[Exit.noGoto_ret]
          go_ret
          exact⟨⟨_,rfl,by rw[HRE.out];exact own_new2 rfl h05⟩,HD.out.bel2 F5.out (below2 _ _ _)⟩
        ·have HRE:Hid (R=[]):=hideP (by have h:=HR2.out;rw[Bool.eq_false_iff.2 f1] at h;simpa using h.symm)
         have F1:Hid (∀W,Calls Tryz.prog 44 #[.int .i64 s1] W fun e w'=>e = .returned (.bool false)∧w'=W):=hideP (fun W=>by have h:=FC.out s1 W;rw[Bool.eq_false_iff.2 f1] at h;exact h)
         clear FC HR2
         go_wp2_with (go_at_call 44;refine (F1.out _).mono ?_;rintro e w6 ⟨rfl,rfl⟩)
         try rw[Exit.noGoto_ret]
         go_ret
         exact⟨⟨_,rfl,by rw[HRE.out];exact own_new2 rfl h05⟩,HD.out.bel2 F5.out (below2 _ _ _)⟩
     ·as_aux_lemma =>
       have TC:Hid (∀W:World,Calls Tryz.prog 62 #[.agg #[.int .i64 2, .int .i64 wd, .int .i64 ht, .int .i64 dp, .int .i64 sh, .int .i64 fo, .int .i64 ch, .int .i64 nn, .int .i64 gs, .int .i64 gp_, .int .i64 gpo, .int .i64 gm, .int .i64 gmo, .string tx, .int .i64 (kn:Int)]] W fun r w'=>r = .returned (.iface 137 (.agg #[.int .i64 wd]))∧Below W.heap.size W w'):=hideP (fun W=>(thing_q ⟨2,wd,ht,dp,sh,fo,ch,nn,gs,gp_,gpo,gm,gmo,tx,(kn:Int)⟩ W).mono (fun e w' ⟨⟨v,h1,h2⟩,h3⟩=>⟨by rw[h1,h2.2.2];rfl,h3⟩))
       have a0:∀W:World,(Instr.typeAssert (.iface 137 (.agg #[.int .i64 wd])) 85 78 true).run Tryz.prog W = .ok (.tuple #[.agg #[.int .i64 0, .int .i64 0, .int .i64 0, .int .i64 0, .int .i64 0, .int .i64 0], .bool false]) W:=fun _=>by kernel_rfl
       have a1:∀W:World,(Instr.typeAssert (.iface 137 (.agg #[.int .i64 wd])) 85 158 true).run Tryz.prog W = .ok (.tuple #[.agg #[.int .i64 0, .int .i64 0, .int .i64 0], .bool false]) W:=fun _=>by kernel_rfl
       have a2:∀W:World,(Instr.typeAssert (.iface 137 (.agg #[.int .i64 wd])) 85 137 true).run Tryz.prog W = .ok (.tuple #[.agg #[.int .i64 wd], .bool true]) W:=fun _=>by kernel_rfl
       go_wp2_with fail
       refine (TC.out wr).mono ?_
       rintro e w3 ⟨rfl,hb3⟩
       have B3:=hideP hb3
       have hbl3:b<w3.heap.size:=Nat.lt_of_lt_of_le hbl hb3.size
       clear hb3 n100 n101 n102 n103 n104 n105 n106 n107 n108 n109 n110 n111 n112 n113 n114 TC pc0 pc1 pc2 pc3 pfz
       have MC:Hid (∀W,Below w3.heap.size w3 W→Calls Tryz.prog 71 #[.pointer (some ⟨b,0,none⟩), .int .i64 wd] W fun e w'=>(∃v,e = .returned v)∧PenAt w' b (mvP p' wd)∧PF b W w'):=hideP (fun W hW=>move_any wd ((hpen.bel B3.out).bel hW))
       go_wp2_with fail
       refine (MC.out _ (below1 _ _)).mono ?_
       rintro e w5 ⟨⟨vr,rfl⟩,hp5,hf5⟩
       have DS:Hid (DR w0 w5 ns R gi (at_+1) (zs' ++ [(b,mvP p' wd)]) acc (.slice u5 acc.length c5) (.slice (some ⟨gp,0,none⟩) (zs'.length+1) c6)):=hideP (HD.out.stepP ((((PF.refl b wr).below B3.out).below (below1 _ _)).trans hf5) hp5 (by have h:=HRUN.out;simpa using h) ⟨by omega,by omega⟩ (mvP_e _ _))
       clear HRUN HD hpen hp5 hf5
       go_wp2
       go_roundg gi
       case measure=>omega
       case rel=>exact⟨at_+1,mvP p' wd,acc,_,_,by go_num,rfl,rfl,(mvP_e _ _).trans hpe,by omega,DS⟩
     ·as_aux_lemma =>
       have TC:Hid (∀W:World,Calls Tryz.prog 62 #[.agg #[.int .i64 3, .int .i64 wd, .int .i64 ht, .int .i64 dp, .int .i64 sh, .int .i64 fo, .int .i64 ch, .int .i64 nn, .int .i64 gs, .int .i64 gp_, .int .i64 gpo, .int .i64 gm, .int .i64 gmo, .string tx, .int .i64 (kn:Int)]] W fun r w'=>r = .returned (.iface 87 (.agg #[.int .i64 gs, .int .i64 gp_, .int .i64 gpo, .int .i64 gm, .int .i64 gmo, .int .i64 wd]))∧Below W.heap.size W w'):=hideP (fun W=>(thing_q ⟨3,wd,ht,dp,sh,fo,ch,nn,gs,gp_,gpo,gm,gmo,tx,(kn:Int)⟩ W).mono (fun e w' ⟨⟨v,h1,h2⟩,h3⟩=>⟨by rw[h1,h2.2.2];rfl,h3⟩))
       have a0:∀W:World,(Instr.typeAssert (.iface 87 (.agg #[.int .i64 gs, .int .i64 gp_, .int .i64 gpo, .int .i64 gm, .int .i64 gmo, .int .i64 wd])) 85 78 true).run Tryz.prog W = .ok (.tuple #[.agg #[.int .i64 0, .int .i64 0, .int .i64 0, .int .i64 0, .int .i64 0, .int .i64 0], .bool false]) W:=fun _=>by kernel_rfl
       have a1:∀W:World,(Instr.typeAssert (.iface 87 (.agg #[.int .i64 gs, .int .i64 gp_, .int .i64 gpo, .int .i64 gm, .int .i64 gmo, .int .i64 wd])) 85 158 true).run Tryz.prog W = .ok (.tuple #[.agg #[.int .i64 0, .int .i64 0, .int .i64 0], .bool false]) W:=fun _=>by kernel_rfl
       have a2:∀W:World,(Instr.typeAssert (.iface 87 (.agg #[.int .i64 gs, .int .i64 gp_, .int .i64 gpo, .int .i64 gm, .int .i64 gmo, .int .i64 wd])) 85 137 true).run Tryz.prog W = .ok (.tuple #[.agg #[.int .i64 0], .bool false]) W:=fun _=>by kernel_rfl
       have a3:∀W:World,(Instr.typeAssert (.iface 87 (.agg #[.int .i64 gs, .int .i64 gp_, .int .i64 gpo, .int .i64 gm, .int .i64 gmo, .int .i64 wd])) 85 87 true).run Tryz.prog W = .ok (.tuple #[.agg #[.int .i64 gs, .int .i64 gp_, .int .i64 gpo, .int .i64 gm, .int .i64 gmo, .int .i64 wd], .bool true]) W:=fun _=>by kernel_rfl
       go_wp2_with fail
       refine (TC.out wr).mono ?_
       rintro e w3 ⟨rfl,hb3⟩
       have B3:=hideP hb3
       have hbl3:b<w3.heap.size:=Nat.lt_of_lt_of_le hbl hb3.size
       clear hb3 n100 n101 n102 n103 n104 n105 n106 n107 n108 n109 n110 n111 n112 n113 n114 TC pc0 pc1 pc2 pc3 pfz
       have MC:Hid (∀W,Below w3.heap.size w3 W→Calls Tryz.prog 71 #[.pointer (some ⟨b,0,none⟩), .int .i64 wd] W fun e w'=>(∃v,e = .returned v)∧PenAt w' b (mvP p' wd)∧PF b W w'):=hideP (fun W hW=>move_any wd ((hpen.bel B3.out).bel hW))
       go_wp2_with fail
       refine (MC.out _ (below1 _ _)).mono ?_
       rintro e w5 ⟨⟨vr,rfl⟩,hp5,hf5⟩
       have DS:Hid (DR w0 w5 ns R gi (at_+1) (zs' ++ [(b,mvP p' wd)]) acc (.slice u5 acc.length c5) (.slice (some ⟨gp,0,none⟩) (zs'.length+1) c6)):=hideP (HD.out.stepP ((((PF.refl b wr).below B3.out).below (below1 _ _)).trans hf5) hp5 (by have h:=HRUN.out;simpa using h) ⟨by omega,by omega⟩ (mvP_e _ _))
       clear HRUN HD hpen hp5 hf5
       go_wp2
       go_roundg gi
       case measure=>omega
       case rel=>exact⟨at_+1,mvP p' wd,acc,_,_,by go_num,rfl,rfl,(mvP_e _ _).trans hpe,by omega,DS⟩
     ·as_aux_lemma =>
       have TC:Hid (∀W:World,Calls Tryz.prog 62 #[.agg #[.int .i64 4, .int .i64 wd, .int .i64 ht, .int .i64 dp, .int .i64 sh, .int .i64 fo, .int .i64 ch, .int .i64 nn, .int .i64 gs, .int .i64 gp_, .int .i64 gpo, .int .i64 gm, .int .i64 gmo, .string tx, .int .i64 (kn:Int)]] W fun r w'=>r = .returned (.iface 177 (.agg #[.int .i64 nn]))∧Below W.heap.size W w'):=hideP (fun W=>(thing_q ⟨4,wd,ht,dp,sh,fo,ch,nn,gs,gp_,gpo,gm,gmo,tx,(kn:Int)⟩ W).mono (fun e w' ⟨⟨v,h1,h2⟩,h3⟩=>⟨by rw[h1,h2.2.2];rfl,h3⟩))
       have a0:∀W:World,(Instr.typeAssert (.iface 177 (.agg #[.int .i64 nn])) 85 78 true).run Tryz.prog W = .ok (.tuple #[.agg #[.int .i64 0, .int .i64 0, .int .i64 0, .int .i64 0, .int .i64 0, .int .i64 0], .bool false]) W:=fun _=>by kernel_rfl
       have a1:∀W:World,(Instr.typeAssert (.iface 177 (.agg #[.int .i64 nn])) 85 158 true).run Tryz.prog W = .ok (.tuple #[.agg #[.int .i64 0, .int .i64 0, .int .i64 0], .bool false]) W:=fun _=>by kernel_rfl
       have a2:∀W:World,(Instr.typeAssert (.iface 177 (.agg #[.int .i64 nn])) 85 137 true).run Tryz.prog W = .ok (.tuple #[.agg #[.int .i64 0], .bool false]) W:=fun _=>by kernel_rfl
       have a3:∀W:World,(Instr.typeAssert (.iface 177 (.agg #[.int .i64 nn])) 85 87 true).run Tryz.prog W = .ok (.tuple #[.agg #[.int .i64 0, .int .i64 0, .int .i64 0, .int .i64 0, .int .i64 0, .int .i64 0], .bool false]) W:=fun _=>by kernel_rfl
       have a4:∀W:World,(Instr.typeAssert (.iface 177 (.agg #[.int .i64 nn])) 85 161 true).run Tryz.prog W = .ok (.tuple #[.nilIface, .bool false]) W:=fun W=>run_typeAssert_lacksB Tryz.underlying161 (by kernel_rfl) (by kernel_rfl) _ 85 W
       go_wp2_with fail
       refine (TC.out wr).mono ?_
       rintro e w3 ⟨rfl,hb3⟩
       have B3:=hideP hb3
       have hbl3:b<w3.heap.size:=Nat.lt_of_lt_of_le hbl hb3.size
       clear hb3 n100 n101 n102 n103 n104 n105 n106 n107 n108 n109 n110 n111 n112 n113 n114 TC pc0 pc1 pc2 pc3 pfz
       have DS:Hid (DR w0 w3 ns R gi (at_+1) (zs' ++ [(b,p')]) acc (.slice u5 acc.length c5) (.slice (some ⟨gp,0,none⟩) (zs'.length+1) c6)):=hideP (HD.out.stepP ((PF.refl b wr).below B3.out) (hpen.bel B3.out) (by have h:=HRUN.out;simpa using h) ⟨by omega,by omega⟩ rfl)
       clear HRUN HD hpen
       go_wp2
       go_roundg gi
       case measure=>omega
       case rel=>exact⟨at_+1,p',acc,_,_,by go_num,rfl,rfl,hpe,by omega,DS⟩
     ·as_aux_lemma =>
       have TC:Hid (∀W:World,Calls Tryz.prog 62 #[.agg #[.int .i64 5, .int .i64 wd, .int .i64 ht, .int .i64 dp, .int .i64 sh, .int .i64 fo, .int .i64 ch, .int .i64 nn, .int .i64 gs, .int .i64 gp_, .int .i64 gpo, .int .i64 gm, .int .i64 gmo, .string tx, .int .i64 (kn:Int)]] W fun r w'=>r = .returned (.iface 135 (.agg #[.int .i64 wd, .int .i64 ht, .int .i64 dp]))∧Below W.heap.size W w'):=hideP (fun W=>(thing_q ⟨5,wd,ht,dp,sh,fo,ch,nn,gs,gp_,gpo,gm,gmo,tx,(kn:Int)⟩ W).mono (fun e w' ⟨⟨v,h1,h2⟩,h3⟩=>⟨by rw[h1,h2.2.2];rfl,h3⟩))
       have a0:∀W:World,(Instr.typeAssert (.iface 135 (.agg #[.int .i64 wd, .int .i64 ht, .int .i64 dp])) 85 78 true).run Tryz.prog W = .ok (.tuple #[.agg #[.int .i64 0, .int .i64 0, .int .i64 0, .int .i64 0, .int .i64 0, .int .i64 0], .bool false]) W:=fun _=>by kernel_rfl
       have a1:∀W:World,(Instr.typeAssert (.iface 135 (.agg #[.int .i64 wd, .int .i64 ht, .int .i64 dp])) 85 158 true).run Tryz.prog W = .ok (.tuple #[.agg #[.int .i64 0, .int .i64 0, .int .i64 0], .bool false]) W:=fun _=>by kernel_rfl
       have a2:∀W:World,(Instr.typeAssert (.iface 135 (.agg #[.int .i64 wd, .int .i64 ht, .int .i64 dp])) 85 137 true).run Tryz.prog W = .ok (.tuple #[.agg #[.int .i64 0], .bool false]) W:=fun _=>by kernel_rfl
       have a3:∀W:World,(Instr.typeAssert (.iface 135 (.agg #[.int .i64 wd, .int .i64 ht, .int .i64 dp])) 85 87 true).run Tryz.prog W = .ok (.tuple #[.agg #[.int .i64 0, .int .i64 0, .int .i64 0, .int .i64 0, .int .i64 0, .int .i64 0], .bool false]) W:=fun _=>by kernel_rfl
       have a4:∀W:World,(Instr.typeAssert (.iface 135 (.agg #[.int .i64 wd, .int .i64 ht, .int .i64 dp])) 85 161 true).run Tryz.prog W = .ok (.tuple #[.iface 135 (.agg #[.int .i64 wd, .int .i64 ht, .int .i64 dp]), .bool true]) W:=fun W=>run_typeAssert_hasB Tryz.underlying161 (by kernel_rfl) _ 85 W
       go_wp2_with fail
       refine (TC.out wr).mono ?_
       rintro e w3 ⟨rfl,hb3⟩
       have B3:=hideP hb3
       have hbl3:b<w3.heap.size:=Nat.lt_of_lt_of_le hbl hb3.size
       clear hb3 n100 n101 n102 n103 n104 n105 n106 n107 n108 n109 n110 n111 n112 n113 n114 TC pc0 pc1 pc2 pc3 pfz
       have mh:∀W:World,(method 370 135 (.agg #[.int .i64 wd, .int .i64 ht, .int .i64 dp]) "loop.example/g00014/impl.spot").run Tryz.prog W = .ok (174, .agg #[.int .i64 wd, .int .i64 ht, .int .i64 dp]) W:=fun _=>by kernel_rfl
       have fh:∀W:World,(callFunc 174 #[.agg #[.int .i64 wd, .int .i64 ht, .int .i64 dp], .pointer (some ⟨b,0,none⟩)]).run Tryz.prog W = .ok (.enter 174 #[.agg #[.int .i64 wd, .int .i64 ht, .int .i64 dp], .pointer (some ⟨b,0,none⟩)]) W:=fun _=>by kernel_rfl
       have SC:Hid (∀W,PenAt W b p'→Calls Tryz.prog 174 #[.agg #[.int .i64 wd, .int .i64 ht, .int .i64 dp], .pointer (some ⟨b,0,none⟩)] W fun e w'=>SeenR p' ⟨5,wd,ht,dp,sh,fo,ch,nn,gs,gp_,gpo,gm,gmo,tx,(kn:Int)⟩ e∧PenAt w' b (byP p' ⟨5,wd,ht,dp,sh,fo,ch,nn,gs,gp_,gpo,gm,gmo,tx,(kn:Int)⟩)∧PF b W w'):=hideP (fun W hW=>spotR_any ⟨5,wd,ht,dp,sh,fo,ch,nn,gs,gp_,gpo,gm,gmo,tx,(kn:Int)⟩ (by simp) hW)
       obtain⟨p2,hp2⟩:∃q,q=(byP p' ⟨5,wd,ht,dp,sh,fo,ch,nn,gs,gp_,gpo,gm,gmo,tx,(kn:Int)⟩):=⟨_,rfl⟩
       have he2:p2.e=p'.e:=by rw[hp2];exact byP_e _ _
       have HN0:Hid (seenP p' ⟨5,wd,ht,dp,sh,fo,ch,nn,gs,gp_,gpo,gm,gmo,tx,(kn:Int)⟩=none→runS ns gi (at_+1) (p2 :: (zs'.map Prod.snd).reverse) acc=R):=hideP (fun h=>by have h2:=HRUN.out;simp[h] at h2;rw[hp2,← h2])
       have HS0:Hid (∀s,seenP p' ⟨5,wd,ht,dp,sh,fo,ch,nn,gs,gp_,gpo,gm,gmo,tx,(kn:Int)⟩=some s→(if fitP s=true then runS ns gi (at_+1) (p2 :: (zs'.map Prod.snd).reverse) (acc ++ [s]) else [])=R):=hideP (fun s h=>by have h2:=HRUN.out;simp[h] at h2;rw[hp2,← h2])
       rw[← hp2] at SC
       clear hp2 HRUN
       have FC:Hid (∀(x:Int) W,Calls Tryz.prog 44 #[.int .i64 x] W fun e w'=>e = .returned (.bool (fitsB x))∧w'=W):=hideP implFits_any
       go_wp2_with fail
       refine (SC.out w3 (hpen.bel B3.out)).mono ?_
       rintro e w5 ⟨⟨s,bb,rfl,hsn⟩,hp5,hf5⟩
       have P5:=hideP hp5
       have F5:Hid (PF b wr w5):=hideP (((PF.refl b wr).below B3.out).trans hf5)
       have hsz5:w3.heap.size≤w5.heap.size:=hf5.2.2.2.1
       clear hp5 hf5 SC mh fh a0 a1 a2 a3 a4
       obtain⟨s1,s2,s3,s4,s5,s6⟩:=s
       simp only[sptV]
       cases bb with
       | false =>
        have DS:Hid (∀Y,Below w5.heap.size w5 Y→DR w0 Y ns R gi (at_+1) (zs' ++ [(b,p2)]) acc (.slice u5 acc.length c5) (.slice (some ⟨gp,0,none⟩) (zs'.length+1) c6)):=hideP (fun Y hY=>HD.out.stepP (F5.out.below hY) (P5.out.bel hY) (HN0.out (by rw[hsn];rfl)) ⟨by omega,by omega⟩ he2)
        clear HN0 HS0 hsn HD hpen FC
        go_wp2
        go_roundg gi
        case measure=>omega
        case rel=>exact⟨at_+1,p2,acc,_,_,by go_num,rfl,rfl,he2.trans hpe,by omega,hideP (DS.out _ (below1 _ _))⟩
       | true =>
        have HR1:=HS0.out _ (by rw[hsn];rfl)
        unfold fitP at HR1
        simp only at HR1
        have HR2:=hideP HR1
        clear HR1 HN0 HS0 hsn
        have hac:acc.length≤20000:=by have h1:=HD.out.len;have h2:=HL.out;omega
        have h05:w0.heap.size≤w5.heap.size:=Nat.le_trans HD.out.bel.size F5.out.2.2.2.1
        by_cases f1:fitsB s1=true
        ·by_cases f2:fitsB s2=true
         ·have HRR:Hid (runS ns gi (at_+1) (p2 :: (zs'.map Prod.snd).reverse) (acc ++ [(s1,s2,s3,s4,s5,s6)])=R):=hideP (by have h:=HR2.out;simpa [f1,f2] using h)
          have F1:Hid (∀W,Calls Tryz.prog 44 #[.int .i64 s1] W fun e w'=>e = .returned (.bool true)∧w'=W):=hideP (fun W=>by have h:=FC.out s1 W;rw[f1] at h;exact h)
          have F2:Hid (∀W,Calls Tryz.prog 44 #[.int .i64 s2] W fun e w'=>e = .returned (.bool true)∧w'=W):=hideP (fun W=>by have h:=FC.out s2 W;rw[f2] at h;exact h)
          clear FC HR2
          go_wp2_with fail
          obtain⟨w6,hw6⟩:∃W,W=w5.alloc (.cells #[.int .i64 s1, .int .i64 s2, .int .i64 s3, .int .i64 s4, .int .i64 s5, .int .i64 s6] 47):=⟨_,rfl⟩
          rw[← hw6]
          have G6:w6.heap[w5.heap.size]? = some (.cells #[.int .i64 s1, .int .i64 s2, .int .i64 s3, .int .i64 s4, .int .i64 s5, .int .i64 s6] 47 (0,0)):=by rw[hw6];exact heap_alloc_new _ _
          have c60:w6.cell? ⟨w5.heap.size,0,none⟩=some (.int .i64 s1):=by rw[cell_of_row _ _ 0 _ 47 _ G6];rfl
          have c61:w6.cell? ⟨w5.heap.size,1,none⟩=some (.int .i64 s2):=by rw[cell_of_row _ _ 1 _ 47 _ G6];rfl
          have c62:w6.cell? ⟨w5.heap.size,2,none⟩=some (.int .i64 s3):=by rw[cell_of_row _ _ 2 _ 47 _ G6];rfl
          have c63:w6.cell? ⟨w5.heap.size,3,none⟩=some (.int .i64 s4):=by rw[cell_of_row _ _ 3 _ 47 _ G6];rfl
          have c64:w6.cell? ⟨w5.heap.size,4,none⟩=some (.int .i64 s5):=by rw[cell_of_row _ _ 4 _ 47 _ G6];rfl
          have c65:w6.cell? ⟨w5.heap.size,5,none⟩=some (.int .i64 s6):=by rw[cell_of_row _ _ 5 _ 47 _ G6];rfl
          have B6:Hid (Below w5.heap.size w5 w6):=hideP (by rw[hw6];exact below1 _ _)
          have hl6:w5.heap.size<w6.heap.size:=(Array.getElem?_eq_some_iff.1 G6).1
          clear hw6
          refine (F1.out _).mono ?_
          rintro e w7 ⟨rfl,h7⟩
          rw[h7]
          clear h7 w7 F1
          go_wp2_with fail
          refine (F2.out _).mono ?_
          rintro e w7 ⟨rfl,h7⟩
          rw[h7]
          clear h7 w7 F2
          go_upto_region 29 with fail
          refine wp_region_lit ?_
          refine wpList_mv rfl _ rfl rfl ?_
          refine wpList_ldr rfl 47 _ rfl w5.heap.size rfl (spA (s1,s2,s3,s4,s5,s6)) 47 (0,0) G6 _ Tryz.underlying47 rfl size47 ?_
          refine wpList_bs1 rfl 44 1 0 _ rfl rfl (run_bsP w6 (s1,s2,s3,s4,s5,s6)) ?_
          refine wpList_appP rfl _ _ rfl w0.heap.size (.slice u5 acc.length c5) acc.length acc rfl (HD.out.sp2 F5.out (below_more B6.out (below1 w6 _) (Nat.le_of_lt hl6))) w6.heap.size (s1,s2,s3,s4,s5,s6) rfl (heap_alloc_new _ _) (by omega) (Nat.le_trans (Nat.le_trans h05 (Nat.le_of_lt hl6)) (below1 _ _).size) ?_
          intro v9 w9 ho9 hg9 hat9
          have D9:=hideP (HD.out.app F5.out P5.out HRR.out ⟨Nat.lt_succ_self _,hatn2⟩ he2 (below_more B6.out (below1 w6 _) (Nat.le_of_lt hl6)) hg9 ho9)
          obtain⟨u9,c9,rfl⟩:=own_sl ho9
          clear ho9 hg9 hat9 HRR P5 F5 HD hpen G6
          go_wp2
          go_roundg gi
          case measure=>omega
          case rel =>
           refine⟨at_+1,p2,acc ++ [(s1,s2,s3,s4,s5,s6)],u9,c9,by go_num,rfl,by simp,he2.trans hpe,by omega,?_⟩
           rw[show (acc ++ [(s1,s2,s3,s4,s5,s6)]).length=acc.length+1 by simp]
           exact D9
         ·have HRE:Hid (R=[]):=hideP (by have h:=HR2.out;rw[Bool.eq_false_iff.2 f2] at h;simpa using h.symm)
          have F1:Hid (∀W,Calls Tryz.prog 44 #[.int .i64 s1] W fun e w'=>e = .returned (.bool true)∧w'=W):=hideP (fun W=>by have h:=FC.out s1 W;rw[f1] at h;exact h)
          have F2:Hid (∀W,Calls Tryz.prog 44 #[.int .i64 s2] W fun e w'=>e = .returned (.bool false)∧w'=W):=hideP (fun W=>by have h:=FC.out s2 W;rw[Bool.eq_false_iff.2 f2] at h;exact h)
          clear FC HR2
          go_wp2_with (go_at_call 44;(first | refine (F1.out _).mono ?_ | refine (F2.out _).mono ?_);rintro e w6 ⟨rfl,rfl⟩)
          try rw[Exit.noGoto_ret]
          go_ret
          exact⟨⟨_,rfl,by rw[HRE.out];exact own_new2 rfl h05⟩,HD.out.bel2 F5.out (below2 _ _ _)⟩
        ·have HRE:Hid (R=[]):=hideP (by have h:=HR2.out;rw[Bool.eq_false_iff.2 f1] at h;simpa using h.symm)
         have F1:Hid (∀W,Calls Tryz.prog 44 #[.int .i64 s1] W fun e w'=>e = .returned (.bool false)∧w'=W):=hideP (fun W=>by have h:=FC.out s1 W;rw[Bool.eq_false_iff.2 f1] at h;exact h)
         clear FC HR2
         go_wp2_with (go_at_call 44;refine (F1.out _).mono ?_;rintro e w6 ⟨rfl,rfl⟩)
         try rw[Exit.noGoto_ret]
         go_ret
         exact⟨⟨_,rfl,by rw[HRE.out];exact own_new2 rfl h05⟩,HD.out.bel2 F5.out (below2 _ _ _)⟩
     ·as_aux_lemma =>
       have TC:Hid (∀W:World,Calls Tryz.prog 62 #[.agg #[.int .i64 6, .int .i64 wd, .int .i64 ht, .int .i64 dp, .int .i64 sh, .int .i64 fo, .int .i64 ch, .int .i64 nn, .int .i64 gs, .int .i64 gp_, .int .i64 gpo, .int .i64 gm, .int .i64 gmo, .string tx, .int .i64 (kn:Int)]] W fun r w'=>r = .returned (.iface 78 (.agg #[.int .i64 6, .int .i64 wd, .int .i64 ht, .int .i64 dp, .int .i64 sh, .int .i64 (kn:Int)]))∧Below W.heap.size W w'):=hideP (fun W=>(thing_q ⟨6,wd,ht,dp,sh,fo,ch,nn,gs,gp_,gpo,gm,gmo,tx,(kn:Int)⟩ W).mono (fun e w' ⟨⟨v,h1,h2⟩,h3⟩=>⟨by rw[h1,h2.2.2];rfl,h3⟩))
       have a0:∀W:World,(Instr.typeAssert (.iface 78 (.agg #[.int .i64 6, .int .i64 wd, .int .i64 ht, .int .i64 dp, .int .i64 sh, .int .i64 (kn:Int)])) 85 78 true).run Tryz.prog W = .ok (.tuple #[.agg #[.int .i64 6, .int .i64 wd, .int .i64 ht, .int .i64 dp, .int .i64 sh, .int .i64 (kn:Int)], .bool true]) W:=fun _=>by kernel_rfl
       go_wp2_with fail
       refine (TC.out wr).mono ?_
       rintro e w3 ⟨rfl,hb3⟩
       have B3:=hideP hb3
       have hbl3:b<w3.heap.size:=Nat.lt_of_lt_of_le hbl hb3.size
       clear hb3 n100 n101 n102 n103 n104 n105 n106 n107 n108 n109 n110 n111 n112 n113 n114 TC pc0 pc1 pc2 pc3 pfz
       have PC:Hid (∀W,PenAt W b p'→Calls Tryz.prog 70 #[.pointer (some ⟨b,0,none⟩), .agg #[.int .i64 wd, .int .i64 ht, .int .i64 dp], .int .i64 sh] W fun e w'=>e = .returned (.tuple #[.int .i64 (atX p' sh), .int .i64 (atY p' sh ht)])∧PenAt w' b (byP p' ⟨6,wd,ht,dp,sh,fo,ch,nn,gs,gp_,gpo,gm,gmo,tx,(kn:Int)⟩)∧PF b W w'):=hideP (fun W hW=>put_any ⟨6,wd,ht,dp,sh,fo,ch,nn,gs,gp_,gpo,gm,gmo,tx,(kn:Int)⟩ sh hW)
       obtain⟨p2,hp2⟩:∃q,q=byP p' ⟨6,wd,ht,dp,sh,fo,ch,nn,gs,gp_,gpo,gm,gmo,tx,(kn:Int)⟩:=⟨_,rfl⟩
       have he2:p2.e=p'.e:=by rw[hp2];exact byP_e _ _
       obtain⟨X,hX⟩:∃q,q=atX p' sh:=⟨_,rfl⟩
       obtain⟨Y,hY⟩:∃q,q=atY p' sh ht:=⟨_,rfl⟩
       have HRR:Hid (runS ns gi (at_+1) (inP 6 ht X Y (at_+1+kn) :: p2 :: (zs'.map Prod.snd).reverse) acc=R):=hideP (by have h:=HRUN.out;rw[if_pos (by simp)] at h;rw[hX,hY,hp2];exact h)
       rw[← hp2,← hX,← hY] at PC
       have PI:Hid (∀W,Calls Tryz.prog 46 #[.agg #[.int .i64 6, .int .i64 wd, .int .i64 ht, .int .i64 dp, .int .i64 sh, .int .i64 (kn:Int)], .int .i64 X, .int .i64 Y, .int .i64 ((at_:Int)+1+(kn:Int))] W fun r w'=>∃b,r = .returned (.pointer (some ⟨b,0,none⟩))∧W.heap.size≤b∧PenAt w' b (inP 6 ht X Y (at_+1+kn))∧Below W.heap.size W w'):=hideP (fun W=>by rw[show ((at_:Int)+1+(kn:Int))=((at_+1+kn:Nat):Int) by push_cast;rfl];exact penIn_any 6 wd ht dp sh kn X Y (at_+1+kn) W)
       clear hp2 hX hY HRUN
       have hne3:w3.heap.size≠b:=by omega
       go_wp2_with fail
       refine (PC.out _ ((hpen.bel B3.out).bel (below1 _ _))).mono ?_
       rintro e w5 ⟨rfl,hp5,hf5⟩
       have P5:=hideP hp5
       have F5:Hid (PF b wr w5):=hideP ((((PF.refl b wr).below B3.out).below (below1 _ _)).trans hf5)
       have G5:w5.heap[w3.heap.size]? = some (.cells #[.int .i64 6, .int .i64 wd, .int .i64 ht, .int .i64 dp, .int .i64 sh, .int .i64 (kn:Int)] 78 (0,0)):=(hf5.2.2.2.2 _ (Array.getElem?_eq_some_iff.1 (heap_alloc_new w3 _)).1 hne3).trans (heap_alloc_new w3 _)
       have c50:w5.cell? ⟨w3.heap.size,0,none⟩=some (.int .i64 6):=by rw[cell_of_row _ _ 0 _ 78 _ G5];rfl
       have c51:w5.cell? ⟨w3.heap.size,1,none⟩=some (.int .i64 wd):=by rw[cell_of_row _ _ 1 _ 78 _ G5];rfl
       have c52:w5.cell? ⟨w3.heap.size,2,none⟩=some (.int .i64 ht):=by rw[cell_of_row _ _ 2 _ 78 _ G5];rfl
       have c53:w5.cell? ⟨w3.heap.size,3,none⟩=some (.int .i64 dp):=by rw[cell_of_row _ _ 3 _ 78 _ G5];rfl
       have c54:w5.cell? ⟨w3.heap.size,4,none⟩=some (.int .i64 sh):=by rw[cell_of_row _ _ 4 _ 78 _ G5];rfl
       have c55:w5.cell? ⟨w3.heap.size,5,none⟩=some (.int .i64 (kn:Int)):=by rw[cell_of_row _ _ 5 _ 78 _ G5];rfl
       have OW:Hid (∀Z,Below w5.heap.size w5 Z→Z.ownsRow w0.heap.size 97 1 (.slice (some ⟨gp,0,none⟩) (q+1) c6) (q+1) ((zs' ++ [(b,p')]).map (fun z=> .pointer (some ⟨z.1,0,none⟩)))):=hideP (fun Z hZ=>by rw[HQ.out];exact HD.out.pn2 F5.out hZ)
       have h05:w0.heap.size≤w5.heap.size:=Nat.le_trans HD.out.bel.size F5.out.2.2.2.1
       clear hp5 hf5 PC G5
       go_wp2_with (first | (go_at_call 46;refine (PI.out _).mono ?_;rintro e w6 ⟨b2,rfl,hb2,hp6,hb6⟩;have P6:=hideP hp6;have B6:=hideP hb6;have hsz6:=hb6.size;clear hp6 hb6) | (at_builtin;refine wpList_appB rfl _ _ rfl w0.heap.size (.slice (some ⟨gp,0,none⟩) (q+1) c6) (q+1) _ rfl (OW.out _ (below_more B6.out (below1 w6 _) hsz6)) w6.heap.size b2 rfl (heap_alloc_new _ _) (by omega) (Nat.le_trans (Nat.le_trans h05 hsz6) (below1 _ _).size) ?_;intro v9 w9 ho9 hg9 hat9;have D9:=hideP (HD.out.push F5.out P5.out HRR.out hatn2 hkn he2 B6.out hb2 P6.out (below1 _ _) hg9 (by rw[← HQ.out];exact ho9));obtain⟨u9,c9,rfl⟩:=own_sl1 ho9;clear ho9 hg9 hat9 HRR P5 F5 HD hpen P6 B6 OW))
       go_roundg gi
       case measure=>omega
       case rel =>
        refine⟨at_+1,zs' ++ [(b,p2)] ++ [(b2,inP 6 ht X Y (at_+1+kn))],acc,u9,c9,u5,c5,by go_num,rfl,by simp[HQ.out],?_⟩
        rw[show (zs' ++ [(b,p2)] ++ [(b2,inP 6 ht X Y (at_+1+kn))]).length=q+1+1 by simp[HQ.out]]
        exact D9
     ·as_aux_lemma =>
       have TC:Hid (∀W:World,Calls Tryz.prog 62 #[.agg #[.int .i64 7, .int .i64 wd, .int .i64 ht, .int .i64 dp, .int .i64 sh, .int .i64 fo, .int .i64 ch, .int .i64 nn, .int .i64 gs, .int .i64 gp_, .int .i64 gpo, .int .i64 gm, .int .i64 gmo, .string tx, .int .i64 (kn:Int)]] W fun r w'=>r = .returned (.iface 78 (.agg #[.int .i64 7, .int .i64 wd, .int .i64 ht, .int .i64 dp, .int .i64 sh, .int .i64 (kn:Int)]))∧Below W.heap.size W w'):=hideP (fun W=>(thing_q ⟨7,wd,ht,dp,sh,fo,ch,nn,gs,gp_,gpo,gm,gmo,tx,(kn:Int)⟩ W).mono (fun e w' ⟨⟨v,h1,h2⟩,h3⟩=>⟨by rw[h1,h2.2.2];rfl,h3⟩))
       have a0:∀W:World,(Instr.typeAssert (.iface 78 (.agg #[.int .i64 7, .int .i64 wd, .int .i64 ht, .int .i64 dp, .int .i64 sh, .int .i64 (kn:Int)])) 85 78 true).run Tryz.prog W = .ok (.tuple #[.agg #[.int .i64 7, .int .i64 wd, .int .i64 ht, .int .i64 dp, .int .i64 sh, .int .i64 (kn:Int)], .bool true]) W:=fun _=>by kernel_rfl
       go_wp2_with fail
       refine (TC.out wr).mono ?_
       rintro e w3 ⟨rfl,hb3⟩
       have B3:=hideP hb3
       have hbl3:b<w3.heap.size:=Nat.lt_of_lt_of_le hbl hb3.size
       clear hb3 n100 n101 n102 n103 n104 n105 n106 n107 n108 n109 n110 n111 n112 n113 n114 TC pc0 pc1 pc2 pc3 pfz
       have PC:Hid (∀W,PenAt W b p'→Calls Tryz.prog 70 #[.pointer (some ⟨b,0,none⟩), .agg #[.int .i64 wd, .int .i64 ht, .int .i64 dp], .int .i64 sh] W fun e w'=>e = .returned (.tuple #[.int .i64 (atX p' sh), .int .i64 (atY p' sh ht)])∧PenAt w' b (byP p' ⟨7,wd,ht,dp,sh,fo,ch,nn,gs,gp_,gpo,gm,gmo,tx,(kn:Int)⟩)∧PF b W w'):=hideP (fun W hW=>put_any ⟨7,wd,ht,dp,sh,fo,ch,nn,gs,gp_,gpo,gm,gmo,tx,(kn:Int)⟩ sh hW)
       obtain⟨p2,hp2⟩:∃q,q=byP p' ⟨7,wd,ht,dp,sh,fo,ch,nn,gs,gp_,gpo,gm,gmo,tx,(kn:Int)⟩:=⟨_,rfl⟩
       have he2:p2.e=p'.e:=by rw[hp2];exact byP_e _ _
       obtain⟨X,hX⟩:∃q,q=atX p' sh:=⟨_,rfl⟩
       obtain⟨Y,hY⟩:∃q,q=atY p' sh ht:=⟨_,rfl⟩
       have HRR:Hid (runS ns gi (at_+1) (inP 7 ht X Y (at_+1+kn) :: p2 :: (zs'.map Prod.snd).reverse) acc=R):=hideP (by have h:=HRUN.out;rw[if_pos (by simp)] at h;rw[hX,hY,hp2];exact h)
       rw[← hp2,← hX,← hY] at PC
       have PI:Hid (∀W,Calls Tryz.prog 46 #[.agg #[.int .i64 7, .int .i64 wd, .int .i64 ht, .int .i64 dp, .int .i64 sh, .int .i64 (kn:Int)], .int .i64 X, .int .i64 Y, .int .i64 ((at_:Int)+1+(kn:Int))] W fun r w'=>∃b,r = .returned (.pointer (some ⟨b,0,none⟩))∧W.heap.size≤b∧PenAt w' b (inP 7 ht X Y (at_+1+kn))∧Below W.heap.size W w'):=hideP (fun W=>by rw[show ((at_:Int)+1+(kn:Int))=((at_+1+kn:Nat):Int) by push_cast;rfl];exact penIn_any 7 wd ht dp sh kn X Y (at_+1+kn) W)
       clear hp2 hX hY HRUN
       have hne3:w3.heap.size≠b:=by omega
       go_wp2_with fail
       refine (PC.out _ ((hpen.bel B3.out).bel (below1 _ _))).mono ?_
       rintro e w5 ⟨rfl,hp5,hf5⟩
       have P5:=hideP hp5
       have F5:Hid (PF b wr w5):=hideP ((((PF.refl b wr).below B3.out).below (below1 _ _)).trans hf5)
       have G5:w5.heap[w3.heap.size]? = some (.cells #[.int .i64 7, .int .i64 wd, .int .i64 ht, .int .i64 dp, .int .i64 sh, .int .i64 (kn:Int)] 78 (0,0)):=(hf5.2.2.2.2 _ (Array.getElem?_eq_some_iff.1 (heap_alloc_new w3 _)).1 hne3).trans (heap_alloc_new w3 _)
       have c50:w5.cell? ⟨w3.heap.size,0,none⟩=some (.int .i64 7):=by rw[cell_of_row _ _ 0 _ 78 _ G5];rfl
       have c51:w5.cell? ⟨w3.heap.size,1,none⟩=some (.int .i64 wd):=by rw[cell_of_row _ _ 1 _ 78 _ G5];rfl
       have c52:w5.cell? ⟨w3.heap.size,2,none⟩=some (.int .i64 ht):=by rw[cell_of_row _ _ 2 _ 78 _ G5];rfl
       have c53:w5.cell? ⟨w3.heap.size,3,none⟩=some (.int .i64 dp):=by rw[cell_of_row _ _ 3 _ 78 _ G5];rfl
       have c54:w5.cell? ⟨w3.heap.size,4,none⟩=some (.int .i64 sh):=by rw[cell_of_row _ _ 4 _ 78 _ G5];rfl
       have c55:w5.cell? ⟨w3.heap.size,5,none⟩=some (.int .i64 (kn:Int)):=by rw[cell_of_row _ _ 5 _ 78 _ G5];rfl
       have OW:Hid (∀Z,Below w5.heap.size w5 Z→Z.ownsRow w0.heap.size 97 1 (.slice (some ⟨gp,0,none⟩) (q+1) c6) (q+1) ((zs' ++ [(b,p')]).map (fun z=> .pointer (some ⟨z.1,0,none⟩)))):=hideP (fun Z hZ=>by rw[HQ.out];exact HD.out.pn2 F5.out hZ)
       have h05:w0.heap.size≤w5.heap.size:=Nat.le_trans HD.out.bel.size F5.out.2.2.2.1
       clear hp5 hf5 PC G5
       go_wp2_with (first | (go_at_call 46;refine (PI.out _).mono ?_;rintro e w6 ⟨b2,rfl,hb2,hp6,hb6⟩;have P6:=hideP hp6;have B6:=hideP hb6;have hsz6:=hb6.size;clear hp6 hb6) | (at_builtin;refine wpList_appB rfl _ _ rfl w0.heap.size (.slice (some ⟨gp,0,none⟩) (q+1) c6) (q+1) _ rfl (OW.out _ (below_more B6.out (below1 w6 _) hsz6)) w6.heap.size b2 rfl (heap_alloc_new _ _) (by omega) (Nat.le_trans (Nat.le_trans h05 hsz6) (below1 _ _).size) ?_;intro v9 w9 ho9 hg9 hat9;have D9:=hideP (HD.out.push F5.out P5.out HRR.out hatn2 hkn he2 B6.out hb2 P6.out (below1 _ _) hg9 (by rw[← HQ.out];exact ho9));obtain⟨u9,c9,rfl⟩:=own_sl1 ho9;clear ho9 hg9 hat9 HRR P5 F5 HD hpen P6 B6 OW))
       go_roundg gi
       case measure=>omega
       case rel =>
        refine⟨at_+1,zs' ++ [(b,p2)] ++ [(b2,inP 7 ht X Y (at_+1+kn))],acc,u9,c9,u5,c5,by go_num,rfl,by simp[HQ.out],?_⟩
        rw[show (zs' ++ [(b,p2)] ++ [(b2,inP 7 ht X Y (at_+1+kn))]).length=q+1+1 by simp[HQ.out]]
        exact D9
     ·as_aux_lemma =>
       have TC:Hid (∀W:World,Calls Tryz.prog 62 #[.agg #[.int .i64 8, .int .i64 wd, .int .i64 ht, .int .i64 dp, .int .i64 sh, .int .i64 fo, .int .i64 ch, .int .i64 nn, .int .i64 gs, .int .i64 gp_, .int .i64 gpo, .int .i64 gm, .int .i64 gmo, .string tx, .int .i64 (kn:Int)]] W fun r w'=>r = .returned (.iface 179 (.agg #[.int .i64 fo, .int .i64 ch, .int .i64 wd, .int .i64 ht, .int .i64 dp]))∧Below W.heap.size W w'):=hideP (fun W=>(thing_q ⟨8,wd,ht,dp,sh,fo,ch,nn,gs,gp_,gpo,gm,gmo,tx,(kn:Int)⟩ W).mono (fun e w' ⟨⟨v,h1,h2⟩,h3⟩=>⟨by rw[h1,h2.2.2];rfl,h3⟩))
       have a0:∀W:World,(Instr.typeAssert (.iface 179 (.agg #[.int .i64 fo, .int .i64 ch, .int .i64 wd, .int .i64 ht, .int .i64 dp])) 85 78 true).run Tryz.prog W = .ok (.tuple #[.agg #[.int .i64 0, .int .i64 0, .int .i64 0, .int .i64 0, .int .i64 0, .int .i64 0], .bool false]) W:=fun _=>by kernel_rfl
       have a1:∀W:World,(Instr.typeAssert (.iface 179 (.agg #[.int .i64 fo, .int .i64 ch, .int .i64 wd, .int .i64 ht, .int .i64 dp])) 85 158 true).run Tryz.prog W = .ok (.tuple #[.agg #[.int .i64 0, .int .i64 0, .int .i64 0], .bool false]) W:=fun _=>by kernel_rfl
       have a2:∀W:World,(Instr.typeAssert (.iface 179 (.agg #[.int .i64 fo, .int .i64 ch, .int .i64 wd, .int .i64 ht, .int .i64 dp])) 85 137 true).run Tryz.prog W = .ok (.tuple #[.agg #[.int .i64 0], .bool false]) W:=fun _=>by kernel_rfl
       have a3:∀W:World,(Instr.typeAssert (.iface 179 (.agg #[.int .i64 fo, .int .i64 ch, .int .i64 wd, .int .i64 ht, .int .i64 dp])) 85 87 true).run Tryz.prog W = .ok (.tuple #[.agg #[.int .i64 0, .int .i64 0, .int .i64 0, .int .i64 0, .int .i64 0, .int .i64 0], .bool false]) W:=fun _=>by kernel_rfl
       have a4:∀W:World,(Instr.typeAssert (.iface 179 (.agg #[.int .i64 fo, .int .i64 ch, .int .i64 wd, .int .i64 ht, .int .i64 dp])) 85 161 true).run Tryz.prog W = .ok (.tuple #[.nilIface, .bool false]) W:=fun W=>run_typeAssert_lacksB Tryz.underlying161 (by kernel_rfl) (by kernel_rfl) _ 85 W
       go_wp2_with fail
       refine (TC.out wr).mono ?_
       rintro e w3 ⟨rfl,hb3⟩
       have B3:=hideP hb3
       have hbl3:b<w3.heap.size:=Nat.lt_of_lt_of_le hbl hb3.size
       clear hb3 n100 n101 n102 n103 n104 n105 n106 n107 n108 n109 n110 n111 n112 n113 n114 TC pc0 pc1 pc2 pc3 pfz
       have DS:Hid (DR w0 w3 ns R gi (at_+1) (zs' ++ [(b,p')]) acc (.slice u5 acc.length c5) (.slice (some ⟨gp,0,none⟩) (zs'.length+1) c6)):=hideP (HD.out.stepP ((PF.refl b wr).below B3.out) (hpen.bel B3.out) (by have h:=HRUN.out;simpa using h) ⟨by omega,by omega⟩ rfl)
       clear HRUN HD hpen
       go_wp2
       go_roundg gi
       case measure=>omega
       case rel=>exact⟨at_+1,p',acc,_,_,by go_num,rfl,rfl,hpe,by omega,DS⟩
     ·as_aux_lemma =>
       have TC:Hid (∀W:World,Calls Tryz.prog 62 #[.agg #[.int .i64 9, .int .i64 wd, .int .i64 ht, .int .i64 dp, .int .i64 sh, .int .i64 fo, .int .i64 ch, .int .i64 nn, .int .i64 gs, .int .i64 gp_, .int .i64 gpo, .int .i64 gm, .int .i64 gmo, .string tx, .int .i64 (kn:Int)]] W fun r w'=>r = .returned (.iface 181 (.agg #[.int .i64 9, .string tx]))∧Below W.heap.size W w'):=hideP (fun W=>(thing_q ⟨9,wd,ht,dp,sh,fo,ch,nn,gs,gp_,gpo,gm,gmo,tx,(kn:Int)⟩ W).mono (fun e w' ⟨⟨v,h1,h2⟩,h3⟩=>⟨by rw[h1,h2.2.2];rfl,h3⟩))
       have a0:∀W:World,(Instr.typeAssert (.iface 181 (.agg #[.int .i64 9, .string tx])) 85 78 true).run Tryz.prog W = .ok (.tuple #[.agg #[.int .i64 0, .int .i64 0, .int .i64 0, .int .i64 0, .int .i64 0, .int .i64 0], .bool false]) W:=fun _=>by kernel_rfl
       have a1:∀W:World,(Instr.typeAssert (.iface 181 (.agg #[.int .i64 9, .string tx])) 85 158 true).run Tryz.prog W = .ok (.tuple #[.agg #[.int .i64 0, .int .i64 0, .int .i64 0], .bool false]) W:=fun _=>by kernel_rfl
       have a2:∀W:World,(Instr.typeAssert (.iface 181 (.agg #[.int .i64 9, .string tx])) 85 137 true).run Tryz.prog W = .ok (.tuple #[.agg #[.int .i64 0], .bool false]) W:=fun _=>by kernel_rfl
       have a3:∀W:World,(Instr.typeAssert (.iface 181 (.agg #[.int .i64 9, .string tx])) 85 87 true).run Tryz.prog W = .ok (.tuple #[.agg #[.int .i64 0, .int .i64 0, .int .i64 0, .int .i64 0, .int .i64 0, .int .i64 0], .bool false]) W:=fun _=>by kernel_rfl
       have a4:∀W:World,(Instr.typeAssert (.iface 181 (.agg #[.int .i64 9, .string tx])) 85 161 true).run Tryz.prog W = .ok (.tuple #[.nilIface, .bool false]) W:=fun W=>run_typeAssert_lacksB Tryz.underlying161 (by kernel_rfl) (by kernel_rfl) _ 85 W
       go_wp2_with fail
       refine (TC.out wr).mono ?_
       rintro e w3 ⟨rfl,hb3⟩
       have B3:=hideP hb3
       have hbl3:b<w3.heap.size:=Nat.lt_of_lt_of_le hbl hb3.size
       clear hb3 n100 n101 n102 n103 n104 n105 n106 n107 n108 n109 n110 n111 n112 n113 n114 TC pc0 pc1 pc2 pc3 pfz
       have DS:Hid (DR w0 w3 ns R gi (at_+1) (zs' ++ [(b,p')]) acc (.slice u5 acc.length c5) (.slice (some ⟨gp,0,none⟩) (zs'.length+1) c6)):=hideP (HD.out.stepP ((PF.refl b wr).below B3.out) (hpen.bel B3.out) (by have h:=HRUN.out;simpa using h) ⟨by omega,by omega⟩ rfl)
       clear HRUN HD hpen
       go_wp2
       go_roundg gi
       case measure=>omega
       case rel=>exact⟨at_+1,p',acc,_,_,by go_num,rfl,rfl,hpe,by omega,DS⟩
     ·as_aux_lemma =>
       have TC:Hid (∀W:World,Calls Tryz.prog 62 #[.agg #[.int .i64 10, .int .i64 wd, .int .i64 ht, .int .i64 dp, .int .i64 sh, .int .i64 fo, .int .i64 ch, .int .i64 nn, .int .i64 gs, .int .i64 gp_, .int .i64 gpo, .int .i64 gm, .int .i64 gmo, .string tx, .int .i64 (kn:Int)]] W fun r w'=>r = .returned (.iface 181 (.agg #[.int .i64 10, .string tx]))∧Below W.heap.size W w'):=hideP (fun W=>(thing_q ⟨10,wd,ht,dp,sh,fo,ch,nn,gs,gp_,gpo,gm,gmo,tx,(kn:Int)⟩ W).mono (fun e w' ⟨⟨v,h1,h2⟩,h3⟩=>⟨by rw[h1,h2.2.2];rfl,h3⟩))
       have a0:∀W:World,(Instr.typeAssert (.iface 181 (.agg #[.int .i64 10, .string tx])) 85 78 true).run Tryz.prog W = .ok (.tuple #[.agg #[.int .i64 0, .int .i64 0, .int .i64 0, .int .i64 0, .int .i64 0, .int .i64 0], .bool false]) W:=fun _=>by kernel_rfl
       have a1:∀W:World,(Instr.typeAssert (.iface 181 (.agg #[.int .i64 10, .string tx])) 85 158 true).run Tryz.prog W = .ok (.tuple #[.agg #[.int .i64 0, .int .i64 0, .int .i64 0], .bool false]) W:=fun _=>by kernel_rfl
       have a2:∀W:World,(Instr.typeAssert (.iface 181 (.agg #[.int .i64 10, .string tx])) 85 137 true).run Tryz.prog W = .ok (.tuple #[.agg #[.int .i64 0], .bool false]) W:=fun _=>by kernel_rfl
       have a3:∀W:World,(Instr.typeAssert (.iface 181 (.agg #[.int .i64 10, .string tx])) 85 87 true).run Tryz.prog W = .ok (.tuple #[.agg #[.int .i64 0, .int .i64 0, .int .i64 0, .int .i64 0, .int .i64 0, .int .i64 0], .bool false]) W:=fun _=>by kernel_rfl
       have a4:∀W:World,(Instr.typeAssert (.iface 181 (.agg #[.int .i64 10, .string tx])) 85 161 true).run Tryz.prog W = .ok (.tuple #[.nilIface, .bool false]) W:=fun W=>run_typeAssert_lacksB Tryz.underlying161 (by kernel_rfl) (by kernel_rfl) _ 85 W
       go_wp2_with fail
       refine (TC.out wr).mono ?_
       rintro e w3 ⟨rfl,hb3⟩
       have B3:=hideP hb3
       have hbl3:b<w3.heap.size:=Nat.lt_of_lt_of_le hbl hb3.size
       clear hb3 n100 n101 n102 n103 n104 n105 n106 n107 n108 n109 n110 n111 n112 n113 n114 TC pc0 pc1 pc2 pc3 pfz
       have DS:Hid (DR w0 w3 ns R gi (at_+1) (zs' ++ [(b,p')]) acc (.slice u5 acc.length c5) (.slice (some ⟨gp,0,none⟩) (zs'.length+1) c6)):=hideP (HD.out.stepP ((PF.refl b wr).below B3.out) (hpen.bel B3.out) (by have h:=HRUN.out;simpa using h) ⟨by omega,by omega⟩ rfl)
       clear HRUN HD hpen
       go_wp2
       go_roundg gi
       case measure=>omega
       case rel=>exact⟨at_+1,p',acc,_,_,by go_num,rfl,rfl,hpe,by omega,DS⟩
     ·as_aux_lemma =>
       have TC:Hid (∀W:World,Calls Tryz.prog 62 #[.agg #[.int .i64 11, .int .i64 wd, .int .i64 ht, .int .i64 dp, .int .i64 sh, .int .i64 fo, .int .i64 ch, .int .i64 nn, .int .i64 gs, .int .i64 gp_, .int .i64 gpo, .int .i64 gm, .int .i64 gmo, .string tx, .int .i64 (kn:Int)]] W fun r w'=>r = .returned (.iface 158 (.agg #[.int .i64 nn, .int .i64 ht, .int .i64 (kn:Int)]))∧Below W.heap.size W w'):=hideP (fun W=>(thing_q ⟨11,wd,ht,dp,sh,fo,ch,nn,gs,gp_,gpo,gm,gmo,tx,(kn:Int)⟩ W).mono (fun e w' ⟨⟨v,h1,h2⟩,h3⟩=>⟨by rw[h1,h2.2.2];rfl,h3⟩))
       have a0:∀W:World,(Instr.typeAssert (.iface 158 (.agg #[.int .i64 nn, .int .i64 ht, .int .i64 (kn:Int)])) 85 78 true).run Tryz.prog W = .ok (.tuple #[.agg #[.int .i64 0, .int .i64 0, .int .i64 0, .int .i64 0, .int .i64 0, .int .i64 0], .bool false]) W:=fun _=>by kernel_rfl
       have a1:∀W:World,(Instr.typeAssert (.iface 158 (.agg #[.int .i64 nn, .int .i64 ht, .int .i64 (kn:Int)])) 85 158 true).run Tryz.prog W = .ok (.tuple #[.agg #[.int .i64 nn, .int .i64 ht, .int .i64 (kn:Int)], .bool true]) W:=fun _=>by kernel_rfl
       go_wp2_with fail
       refine (TC.out wr).mono ?_
       rintro e w3 ⟨rfl,hb3⟩
       have B3:=hideP hb3
       have hbl3:b<w3.heap.size:=Nat.lt_of_lt_of_le hbl hb3.size
       clear hb3 n100 n101 n102 n103 n104 n105 n106 n107 n108 n109 n110 n111 n112 n113 n114 TC pc0 pc1 pc2 pc3 pfz
       have DS:Hid (∀Y,Below w3.heap.size w3 Y→DR w0 Y ns R gi (at_+1+kn) (zs' ++ [(b,p')]) acc (.slice u5 acc.length c5) (.slice (some ⟨gp,0,none⟩) (zs'.length+1) c6)):=hideP (fun Y hY=>HD.out.stepP (((PF.refl b wr).below B3.out).below hY) ((hpen.bel B3.out).bel hY) (by have h:=HRUN.out;simpa using h) ⟨by omega,by omega⟩ rfl)
       clear HRUN HD hpen
       go_wp2
       go_roundg gi
       case measure=>omega
       case rel=>exact⟨at_+1+kn,p',acc,_,_,by go_num,rfl,rfl,hpe,by omega,hideP (DS.out _ (below1 _ _))⟩
    ·have hati:¬(at_:Int)<(p'.e:Int):=by omega
     have DP:Hid (DR w0 wr ns R gi at_ zs' acc (.slice u5 acc.length c5) (.slice (some ⟨gp,0,none⟩) zs'.length c6)):=hideP (DR.pop HD.out hat)
     have hqc:q<c6:=by
      have h1:=HD.out.ps.own
      rcases h1.2 with ⟨h2,h3⟩ | ⟨g',cap',cur,e,_,_,h4,_⟩
      ·simp at h3
      ·simp only[Value.slice.injEq] at e
       obtain⟨_,_,rfl⟩:=e
       simp at h4
       have:=HQ.out
       omega
     clear HD hpen
     go_wp2
     rw[HQ.out]
     go_roundg gi
     case measure=>omega
     case rel=>exact⟨at_,zs',acc,_,_,_,_,rfl,rfl,rfl,DP⟩
end Go.Proofs.YtbbehmcekbnkiaaGreat

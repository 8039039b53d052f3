import Derived.Test.YtbbehmcekbnkiaaGreatStnt
namespace Go.Proofs.YtbbehmcekbnkiaaGreat.Shr
set_option maxHeartbeats 16000000
set_option maxRecDepth 20000
open Go.RowKit
set_option linter.unusedVariables false
set_option linter.unusedSimpArgs false
theorem shrinkT_none (want a0 a1 a2 a3 o hv:Int)(w:World)(ho:o=(top [a0,a1,a2,a3]:Int))(hhv:hv=([a0,a1,a2,a3]:List Int).getD (top [a0,a1,a2,a3]) 0)(hw0:0<want)(hw1:want<=4611686018427387904)(hd0 : -10737418230000<=hv)(hd:hv<=10737418230000)(hno:hv<=0) :
 Calls Tryz.prog 118 #[.int .i64 want,.agg #[.int .i64 a0,.int .i64 a1,.int .i64 a2,.int .i64 a3]] w fun e w' =>
  e = .returned (setV (-1) o want hv 1000000 want)/\Below w.heap.size w w':=by
 have hmx:max hv 0=0:=by omega
 have hn1:decide (hv<=0)=true:=by simpa using hno
 have hwr:IntKind.i64.wrap want=want:=by rw[IntKind.wrap_i64];omega
 go_enter Tryz.func118,Tryz.ntmps118
 go_wp2_with fail
 refine(highest_any _ _ _ _ _).mono ?_
 rintro e w2 ⟨rfl,hb2⟩
 rw[<-ho,<-hhv]
 clear ho hhv
 have R2:w2.heap[w.heap.size+1]?=some (setO 0 0 0 0 0 0):=block_keep (by have:=heap_alloc_new (w.alloc (.cells #[.int .i64 a0,.int .i64 a1,.int .i64 a2,.int .i64 a3] 197)) (setO 0 0 0 0 0 0);simpa using this) hb2
 have B2:Below w.heap.size w w2:=(((Below.refl _ _).alloc (Nat.le_refl _) _).alloc (by simp) _).trans (hb2.mono (by simp;omega))
 obtain⟨R,hR⟩:=exq (w.heap.size+1)
 rw[<-hR] at R2 ⊢
 have HRR:Hid (w.heap.size<=R):=(by omega:w.heap.size<=R)
 have hRl:R<w2.heap.size:=(glt R2)
 have HB:Hid (w2.heap[R]?=some (setO 0 0 0 0 0 0)/\Below w.heap.size w w2):=⟨R2,B2⟩
 obtain⟨q0,q1,q2,q3,q4,q5⟩:=set_cells R2
 have fr:∀j,w2.frozen? ⟨R,j,none⟩=false:=fun j=>frozen_of_row w2 R j _ _ R2
 clear hb2 R2 B2 hR
 have HF:Hid (((six w2 R (-1) o want hv 1000000 want).alloc (.cells #[.int .i64 (-1),.int .i64 o,.int .i64 want,.int .i64 hv,.int .i64 1000000,.int .i64 want] 28)).heap[R]?=some (setO (-1) o want hv 1000000 want)/\Below w.heap.size w ((six w2 R (-1) o want hv 1000000 want).alloc (.cells #[.int .i64 (-1),.int .i64 o,.int .i64 want,.int .i64 hv,.int .i64 1000000,.int .i64 want] 28))):=by
  have hs:=six_heap HB.out.1 (-1) o want hv 1000000 want
  refine⟨(Below.heap_alloc _ _ _ (glt hs)).trans hs,?_⟩
  have B2:=HB.out.2
  have hf:Fr w2.heap.size w w2:=⟨B2.os,B2.tape,B2.output,B2.size,fun b hb _=>B2.block b hb⟩
  exact((six_fr hf HRR.out (-1) o want hv 1000000 want).alloc _).toBelow B2.size (Nat.le_refl _)
 clear HB HRR
 clear hw0 hw1 hd0 hd
 go_wp2
 exact bodyPost_ret (v:=setV (-1) o want hv 1000000 want) (results_cell_row rfl _ _ R 28 _ (0,0) _ rfl HF.1 Tryz.underlying28 rfl (by kernel_rfl)) rfl ⟨rfl,HF.2⟩
theorem shrinkT_over (want a0 a1 a2 a3 o hv:Int)(w:World)(ho:o=(top [a0,a1,a2,a3]:Int))(hhv:hv=([a0,a1,a2,a3]:List Int).getD (top [a0,a1,a2,a3]) 0)(hw0:0<want)(hw1:want<=4611686018427387904)(hd0 : -10737418230000<=hv)(hd:hv<=10737418230000)(ho0:o=0)(hpos:0<hv)(hov:hv<want) :
 Calls Tryz.prog 118 #[.int .i64 want,.agg #[.int .i64 a0,.int .i64 a1,.int .i64 a2,.int .i64 a3]] w fun e w' =>
  e = .returned (setV (-1) o want hv 1000000 (want-hv))/\Below w.heap.size w w':=by
 have hmx:max hv 0=hv:=by omega
 have hn1:decide (hv<=0)=false:=by simpa using hpos
 have hn0:¬hv<=0:=by omega
 have hwr:IntKind.i64.wrap (want-hv)=want-hv:=by rw[IntKind.wrap_i64];omega
 go_enter Tryz.func118,Tryz.ntmps118
 go_wp2_with fail
 refine(highest_any _ _ _ _ _).mono ?_
 rintro e w2 ⟨rfl,hb2⟩
 rw[<-ho,<-hhv]
 clear ho hhv
 have R2:w2.heap[w.heap.size+1]?=some (setO 0 0 0 0 0 0):=block_keep (by have:=heap_alloc_new (w.alloc (.cells #[.int .i64 a0,.int .i64 a1,.int .i64 a2,.int .i64 a3] 197)) (setO 0 0 0 0 0 0);simpa using this) hb2
 have B2:Below w.heap.size w w2:=(((Below.refl _ _).alloc (Nat.le_refl _) _).alloc (by simp) _).trans (hb2.mono (by simp;omega))
 obtain⟨R,hR⟩:=exq (w.heap.size+1)
 rw[<-hR] at R2 ⊢
 have HRR:Hid (w.heap.size<=R):=(by omega:w.heap.size<=R)
 have hRl:R<w2.heap.size:=(glt R2)
 have HB:Hid (w2.heap[R]?=some (setO 0 0 0 0 0 0)/\Below w.heap.size w w2):=⟨R2,B2⟩
 obtain⟨q0,q1,q2,q3,q4,q5⟩:=set_cells R2
 have fr:∀j,w2.frozen? ⟨R,j,none⟩=false:=fun j=>frozen_of_row w2 R j _ _ R2
 clear hb2 R2 B2 hR
 subst ho0
 have HF:Hid (((six w2 R (-1) 0 want hv 1000000 (want-hv)).alloc (.cells #[.int .i64 (-1),.int .i64 0,.int .i64 want,.int .i64 hv,.int .i64 1000000,.int .i64 (want-hv)] 28)).heap[R]?=some (setO (-1) 0 want hv 1000000 (want-hv))/\Below w.heap.size w ((six w2 R (-1) 0 want hv 1000000 (want-hv)).alloc (.cells #[.int .i64 (-1),.int .i64 0,.int .i64 want,.int .i64 hv,.int .i64 1000000,.int .i64 (want-hv)] 28))):=by
  have hs:=six_heap HB.out.1 (-1) 0 want hv 1000000 (want-hv)
  refine⟨(Below.heap_alloc _ _ _ (glt hs)).trans hs,?_⟩
  have B2:=HB.out.2
  have hf:Fr w2.heap.size w w2:=⟨B2.os,B2.tape,B2.output,B2.size,fun b hb _=>B2.block b hb⟩
  exact((six_fr hf HRR.out (-1) 0 want hv 1000000 (want-hv)).alloc _).toBelow B2.size (Nat.le_refl _)
 clear HB HRR hw0 hw1 hd0 hd
 go_wp2
 exact bodyPost_ret (v:=setV (-1) 0 want hv 1000000 (want-hv)) (results_cell_row rfl _ _ R 28 _ (0,0) _ rfl HF.1 Tryz.underlying28 rfl (by kernel_rfl)) rfl ⟨rfl,HF.2⟩
theorem shrinkT_high (want a0 a1 a2 a3 o hv:Int)(w:World)(ho:o=(top [a0,a1,a2,a3]:Int))(hhv:hv=([a0,a1,a2,a3]:List Int).getD (top [a0,a1,a2,a3]) 0)(hw0:0<want)(hw1:want<=4611686018427387904)(hd0 : -10737418230000<=hv)(hd:hv<=10737418230000)(hpos:0<hv)(hoh:0<o)(bd:Int)(hbd:bd=(if 0<o then 0 else badV want hv)) :
 Calls Tryz.prog 118 #[.int .i64 want,.agg #[.int .i64 a0,.int .i64 a1,.int .i64 a2,.int .i64 a3]] w fun e w' =>
  e = .returned (setV (-1) o want hv bd 0)/\Below w.heap.size w w':=by
 have hn0:¬hv<=0:=by omega
 have hn1:decide (hv<=0)=false:=by simpa using hpos
 have hn2:(o == 0)=false:=by simp;omega
 have hn3:¬o=0:=by omega
 have HBD:=hidW hbd
 clear hbd
 go_enter Tryz.func118,Tryz.ntmps118
 go_wp2_with fail
 refine(highest_any _ _ _ _ _).mono ?_
 rintro e w2 ⟨rfl,hb2⟩
 rw[<-ho,<-hhv]
 clear ho hhv
 have R2:w2.heap[w.heap.size+1]?=some (setO 0 0 0 0 0 0):=block_keep (by have:=heap_alloc_new (w.alloc (.cells #[.int .i64 a0,.int .i64 a1,.int .i64 a2,.int .i64 a3] 197)) (setO 0 0 0 0 0 0);simpa using this) hb2
 have B2:Below w.heap.size w w2:=(((Below.refl _ _).alloc (Nat.le_refl _) _).alloc (by simp) _).trans (hb2.mono (by simp;omega))
 obtain⟨R,hR⟩:=exq (w.heap.size+1)
 rw[<-hR] at R2 ⊢
 have HRR:Hid (w.heap.size<=R):=(by omega:w.heap.size<=R)
 have hRl:R<w2.heap.size:=(glt R2)
 have HB:Hid (w2.heap[R]?=some (setO 0 0 0 0 0 0)/\Below w.heap.size w w2):=⟨R2,B2⟩
 obtain⟨q0,q1,q2,q3,q4,q5⟩:=set_cells R2
 have fr:∀j,w2.frozen? ⟨R,j,none⟩=false:=fun j=>frozen_of_row w2 R j _ _ R2
 clear hb2 R2 B2 hR
 have HW:Hid (want<=9223372036854775807/\hv<=9223372036854775807):=⟨by omega,by omega⟩
 clear hw0 hw1 hd0 hd
 go_wp2_with fail
 refine(boundBad_any _ _ _ _ _ _ _ HW.1 HW.2).mono ?_
 rintro e w3 ⟨rfl,hb3⟩
 rw[<-show bd=_ from HBD.out]
 obtain⟨S,hS⟩:=exq (w2.heap.size)
 have S3:w3.heap[w2.heap.size]?=some (setO (-1) o want hv 0 0):=block_keep (heap_alloc_new w2 _) hb3
 have R3:w3.heap[R]?=some (setO 0 0 0 0 0 0):=block_keep ((Below.heap_alloc _ _ _ hRl).trans HB.1) hb3
 have B3:Hid (Below w.heap.size w w3):=hidW ((HB.2.alloc HB.2.size _).trans (hb3.mono (by have:=HB.2.size;simp;omega)))
 rw[<-hS] at S3 ⊢
 have hSR:S≠R:=by omega
 have HSB:Hid (w.heap.size<=S):=hidW (by have:=HB.2.size;omega)
 have hRl3:R<w3.heap.size:=(glt R3)
 have hSl3:S<w3.heap.size:=(glt S3)
 have HR3:=hidW R3
 have HS3:=hidW S3
 clear q0 q1 q2 q3 q4 q5 fr hRl
 obtain⟨q0,q1,q2,q3,q4,q5⟩:=set_cells R3
 obtain⟨s0,s1,s2,s3,s4,s5⟩:=set_cells S3
 have fr:∀j,w3.frozen? ⟨R,j,none⟩=false:=fun j=>frozen_of_row w3 R j _ _ R3
 have fs:∀j,w3.frozen? ⟨S,j,none⟩=false:=fun j=>frozen_of_row w3 S j _ _ S3
 have hRS:R≠S:=Ne.symm hSR
 clear hb3 R3 S3 HB hS
 go_wp2
 refine bodyPost_ret (v:=setV (-1) o want hv bd 0) (results_cell_row rfl _ _ R 28 _ (0,0) _ rfl (six_heap (a0:=0) (b0:=0) (c0:=0) (d0:=0) (e0:=0) (f0:=0) ?hh (-1) o want hv bd 0) Tryz.underlying28 rfl (by kernel_rfl)) rfl ⟨rfl,?_⟩
 case hh =>
  repeat(first|with_reducible exact HR3.out|(refine(Below.heap_setCell _ _ _ _ ?_).trans ?_;· first|exact hRS|exact hSR))
 ·have hr:=HRR.out
  have hs:=HSB.out
  repeat(first|with_reducible exact B3.out|(with_reducible refine Below.setCell ?_ ?_ _;rotate_left;focus(first|exact hr|exact hs)))
theorem shrinkT_zero (want a0 a1 a2 a3 o hv:Int)(w:World)(ho:o=(top [a0,a1,a2,a3]:Int))(hhv:hv=([a0,a1,a2,a3]:List Int).getD (top [a0,a1,a2,a3]) 0)(hw0:0<want)(hw1:want<=4611686018427387904)(hd0 : -10737418230000<=hv)(hd:hv<=10737418230000)(hpos:0<hv)(ho0:o=0)(hge:want<=hv)(bd:Int)(hbd:bd=(if 0<o then 0 else badV want hv)) :
 Calls Tryz.prog 118 #[.int .i64 want,.agg #[.int .i64 a0,.int .i64 a1,.int .i64 a2,.int .i64 a3]] w fun e w' =>
  e = .returned (setV (-1) o want hv bd 0)/\Below w.heap.size w w':=by
 have hn0:¬hv<=0:=by omega
 have hn1:decide (hv<=0)=false:=by simpa using hpos
 have hn4:¬hv<want:=by omega
 have hn5:decide (hv<want)=false:=by simpa using hge
 have HBD:=hidW hbd
 clear hbd
 go_enter Tryz.func118,Tryz.ntmps118
 go_wp2_with fail
 refine(highest_any _ _ _ _ _).mono ?_
 rintro e w2 ⟨rfl,hb2⟩
 rw[<-ho,<-hhv]
 clear ho hhv
 have R2:w2.heap[w.heap.size+1]?=some (setO 0 0 0 0 0 0):=block_keep (by have:=heap_alloc_new (w.alloc (.cells #[.int .i64 a0,.int .i64 a1,.int .i64 a2,.int .i64 a3] 197)) (setO 0 0 0 0 0 0);simpa using this) hb2
 have B2:Below w.heap.size w w2:=(((Below.refl _ _).alloc (Nat.le_refl _) _).alloc (by simp) _).trans (hb2.mono (by simp;omega))
 obtain⟨R,hR⟩:=exq (w.heap.size+1)
 rw[<-hR] at R2 ⊢
 have HRR:Hid (w.heap.size<=R):=(by omega:w.heap.size<=R)
 have hRl:R<w2.heap.size:=(glt R2)
 have HB:Hid (w2.heap[R]?=some (setO 0 0 0 0 0 0)/\Below w.heap.size w w2):=⟨R2,B2⟩
 obtain⟨q0,q1,q2,q3,q4,q5⟩:=set_cells R2
 have fr:∀j,w2.frozen? ⟨R,j,none⟩=false:=fun j=>frozen_of_row w2 R j _ _ R2
 clear hb2 R2 B2 hR
 subst ho0
 have HW:Hid (want<=9223372036854775807/\hv<=9223372036854775807):=⟨by omega,by omega⟩
 clear hw0 hw1 hd0 hd
 go_wp2_with fail
 refine(boundBad_any _ _ _ _ _ _ _ HW.1 HW.2).mono ?_
 rintro e w3 ⟨rfl,hb3⟩
 rw[<-show bd=_ from HBD.out]
 obtain⟨S,hS⟩:=exq (w2.heap.size)
 have S3:w3.heap[w2.heap.size]?=some (setO (-1) 0 want hv 0 0):=block_keep (heap_alloc_new w2 _) hb3
 have R3:w3.heap[R]?=some (setO 0 0 0 0 0 0):=block_keep ((Below.heap_alloc _ _ _ hRl).trans HB.1) hb3
 have B3:Hid (Below w.heap.size w w3):=hidW ((HB.2.alloc HB.2.size _).trans (hb3.mono (by have:=HB.2.size;simp;omega)))
 rw[<-hS] at S3 ⊢
 have hSR:S≠R:=by omega
 have HSB:Hid (w.heap.size<=S):=hidW (by have:=HB.2.size;omega)
 have hRl3:R<w3.heap.size:=(glt R3)
 have hSl3:S<w3.heap.size:=(glt S3)
 have HR3:=hidW R3
 have HS3:=hidW S3
 clear q0 q1 q2 q3 q4 q5 fr hRl
 obtain⟨q0,q1,q2,q3,q4,q5⟩:=set_cells R3
 obtain⟨s0,s1,s2,s3,s4,s5⟩:=set_cells S3
 have fr:∀j,w3.frozen? ⟨R,j,none⟩=false:=fun j=>frozen_of_row w3 R j _ _ R3
 have fs:∀j,w3.frozen? ⟨S,j,none⟩=false:=fun j=>frozen_of_row w3 S j _ _ S3
 have hRS:R≠S:=Ne.symm hSR
 clear hb3 R3 S3 HB hS
 go_wp2
 refine bodyPost_ret (v:=setV (-1) 0 want hv bd 0) (results_cell_row rfl _ _ R 28 _ (0,0) _ rfl (six_heap (a0:=0) (b0:=0) (c0:=0) (d0:=0) (e0:=0) (f0:=0) ?hh (-1) 0 want hv bd 0) Tryz.underlying28 rfl (by kernel_rfl)) rfl ⟨rfl,?_⟩
 case hh =>
  repeat(first|with_reducible exact HR3.out|(refine(Below.heap_setCell _ _ _ _ ?_).trans ?_;· first|exact hRS|exact hSR))
 ·have hr:=HRR.out
  have hs:=HSB.out
  repeat(first|with_reducible exact B3.out|(with_reducible refine Below.setCell ?_ ?_ _;rotate_left;focus(first|exact hr|exact hs)))
def ordOf (f o:Gl->Int)(gs:List Gl):Int:=(top (tot f o gs):Int)
def hvOf (f o:Gl->Int)(gs:List Gl):Int:=(tot f o gs).getD (top (tot f o gs)) 0
abbrev Sett.v (s:Sett):Value:=setV s.sign s.order s.want s.have_ s.bad s.over
def upS (gs:List Gl)(q:Int):Sett:=if hvOf Gl.p Gl.po gs<=0 then ⟨1,ordOf Gl.p Gl.po gs,q,hvOf Gl.p Gl.po gs,10000,0⟩ else ⟨1,ordOf Gl.p Gl.po gs,q,hvOf Gl.p Gl.po gs,if 0<ordOf Gl.p Gl.po gs then 0 else badV q (hvOf Gl.p Gl.po gs),0⟩
def upL (gs:List Gl)(q:Int):List Int:=if hvOf Gl.p Gl.po gs<=0 then sizes gs else plusL (sizes gs) (stp Gl.p Gl.po (ordOf Gl.p Gl.po gs) q (hvOf Gl.p Gl.po gs) gs).2.2
def downS (gs:List Gl)(q:Int):Sett:=if hvOf Gl.m Gl.mo gs<=0 then ⟨-1,ordOf Gl.m Gl.mo gs,q,hvOf Gl.m Gl.mo gs,1000000,q⟩ else if ordOf Gl.m Gl.mo gs=0/\hvOf Gl.m Gl.mo gs<q then ⟨-1,0,q,hvOf Gl.m Gl.mo gs,1000000,q-hvOf Gl.m Gl.mo gs⟩ else ⟨-1,ordOf Gl.m Gl.mo gs,q,hvOf Gl.m Gl.mo gs,if 0<ordOf Gl.m Gl.mo gs then 0 else badV q (hvOf Gl.m Gl.mo gs),0⟩
def downL (gs:List Gl)(q:Int):List Int:=if hvOf Gl.m Gl.mo gs<=0 then sizes gs else if ordOf Gl.m Gl.mo gs=0/\hvOf Gl.m Gl.mo gs<q then minusL (sizes gs) (stp Gl.m Gl.mo 0 (hvOf Gl.m Gl.mo gs) (hvOf Gl.m Gl.mo gs) gs).2.2 else minusL (sizes gs) (stp Gl.m Gl.mo (ordOf Gl.m Gl.mo gs) q (hvOf Gl.m Gl.mo gs) gs).2.2
def shareS (gs:List Gl)(q:Int):Sett:=if 0<q then upS gs q else if q<0 then downS gs (-q) else ⟨0,0,0,0,0,0⟩
def shareL (gs:List Gl)(q:Int):List Int:=if 0<q then upL gs q else if q<0 then downL gs (-q) else sizes gs
theorem ordOf_nn (f o:Gl->Int)(gs:List Gl):0<=ordOf f o gs:=by unfold ordOf;omega
theorem results_tmp_cell {fn:Func}{u p:Tmp}{ty:TypeId}(h:fn.results = #[.tmp u,.cell p ty])(tmps:Array Value)(w:World)(g:Nat)(x y:Value){P:Program}
 (hp:tmps.getD p undef = .pointer (some ⟨g,0,none⟩)) (hu:tmps.getD u undef=y) (hld:(loadVar ty ⟨g,0,none⟩).run P w = .ok x w) :
 (results fn tmps).run P w = .ok (.tuple #[y,x]) w:=by
 have hp':tmps[p]?.getD undef = .pointer (some ⟨g,0,none⟩):=by simpa using hp
 have hu':tmps[u]?.getD undef=y:=by simpa using hu
 simp[results,h,hp',hu',asAddr,hld,Result.andThen]
theorem sizes_snoc {gs:List Gl}{k:Nat}(h:k<gs.length):sizes (gs.take (k+1))=sizes (gs.take k)++[(gs.getD k Gl.none).s]:=by
 rw[take_snoc h];simp[sizes]
abbrev fourV (a b c d:Int):Value:= .agg #[.int .i64 a,.int .i64 b,.int .i64 c,.int .i64 d]
theorem upT_any {gs:List Gl}(q p0 p1 p2 p3:Int)(w:World)(hP:tot Gl.p Gl.po gs=[p0,p1,p2,p3])(hw1:q<=4611686018427387904)(hb:hvOf Gl.p Gl.po gs<=10737418230000) :
 Calls Tryz.prog 117 #[.int .i64 q,fourV p0 p1 p2 p3] w fun e w'=>e = .returned (upS gs q).v/\Below w.heap.size w w':=by
 refine(stretchT_any q p0 p1 p2 p3 (ordOf Gl.p Gl.po gs) (hvOf Gl.p Gl.po gs) w (by unfold ordOf;rw[hP]) (by unfold hvOf;rw[hP]) (by omega) (by omega)).mono ?_
 rintro e w' ⟨rfl,hb'⟩
 refine⟨?_,hb'⟩
 unfold upS
 by_cases h:hvOf Gl.p Gl.po gs<=0
 ·rw[if_pos h,if_pos h]
 ·rw[if_neg h,if_neg h]
theorem downT_any {gs:List Gl}(q m0 m1 m2 m3:Int)(w:World)(hM:tot Gl.m Gl.mo gs=[m0,m1,m2,m3])(hw0:0<q)(hw1:q<=4611686018427387904)(hb0 : -10737418230000<=hvOf Gl.m Gl.mo gs)(hb:hvOf Gl.m Gl.mo gs<=10737418230000) :
 Calls Tryz.prog 118 #[.int .i64 q,fourV m0 m1 m2 m3] w fun e w'=>e = .returned (downS gs q).v/\Below w.heap.size w w':=by
 have h1:ordOf Gl.m Gl.mo gs=(top [m0,m1,m2,m3]:Int):=by unfold ordOf;rw[hM]
 have h2:hvOf Gl.m Gl.mo gs=([m0,m1,m2,m3]:List Int).getD (top [m0,m1,m2,m3]) 0:=by unfold hvOf;rw[hM]
 have h3:=ordOf_nn Gl.m Gl.mo gs
 by_cases hno:hvOf Gl.m Gl.mo gs<=0
 ·refine(shrinkT_none q m0 m1 m2 m3 _ _ w h1 h2 hw0 hw1 hb0 hb hno).mono ?_
  rintro e w' ⟨rfl,hb'⟩
  refine⟨?_,hb'⟩
  unfold downS;rw[if_pos hno]
 ·by_cases hov:ordOf Gl.m Gl.mo gs=0/\hvOf Gl.m Gl.mo gs<q
  ·refine(shrinkT_over q m0 m1 m2 m3 _ _ w h1 h2 hw0 hw1 hb0 hb hov.1 (by omega) hov.2).mono ?_
   rintro e w' ⟨rfl,hb'⟩
   refine⟨?_,hb'⟩
   unfold downS;rw[if_neg hno,if_pos hov,hov.1]
  ·by_cases h0:ordOf Gl.m Gl.mo gs=0
   ·refine(shrinkT_zero q m0 m1 m2 m3 _ _ w h1 h2 hw0 hw1 hb0 hb (by omega) h0 (Int.not_lt.1 fun hh=>hov ⟨h0,hh⟩) _ rfl).mono ?_
    rintro e w' ⟨rfl,hb'⟩
    refine⟨?_,hb'⟩
    unfold downS;rw[if_neg hno,if_neg hov]
   ·refine(shrinkT_high q m0 m1 m2 m3 _ _ w h1 h2 hw0 hw1 hb0 hb (by omega) (by omega) _ rfl).mono ?_
    rintro e w' ⟨rfl,hb'⟩
    refine⟨?_,hb'⟩
    unfold downS;rw[if_neg hno,if_neg hov]
theorem settle_any {gs:List Gl}(q p0 p1 p2 p3 m0 m1 m2 m3:Int)(w:World)(hP:tot Gl.p Gl.po gs=[p0,p1,p2,p3])(hM:tot Gl.m Gl.mo gs=[m0,m1,m2,m3])(hok:glsOk gs=true)(hw0 : -4611686018427387904<=q)(hw1:q<=4611686018427387904) :
 Calls Tryz.prog 102 #[.int .i64 q,fourV p0 p1 p2 p3,fourV m0 m1 m2 m3] w fun e w'=>e = .returned (shareS gs q).v/\Below w.heap.size w w':=by
 have heach:=glsOk_each hok
 have hp:=tot_have Gl.p Gl.po gs heach.1 (fun k hk=>(ok_bounds (heach.2 k hk)).2.1) (top (tot Gl.p Gl.po gs))
 have hm:=tot_have Gl.m Gl.mo gs heach.1 (fun k hk=>(ok_bounds (heach.2 k hk)).2.2.1) (top (tot Gl.m Gl.mo gs))
 have HU:Hid (∀W,Calls Tryz.prog 117 #[.int .i64 q,fourV p0 p1 p2 p3] W fun e w'=>e = .returned (upS gs q).v/\Below W.heap.size W w'):=fun W=>upT_any q p0 p1 p2 p3 W hP hw1 hp.2
 have HD:Hid (q<0->∀W,Calls Tryz.prog 118 #[.int .i64 (-q),fourV m0 m1 m2 m3] W fun e w'=>e = .returned (downS gs (-q)).v/\Below W.heap.size W w'):=fun h W=>downT_any (-q) m0 m1 m2 m3 W hM (by omega) (by omega) hm.1 hm.2
 clear hp hm heach hP hM hok
 obtain⟨s,hs⟩:=exq (shareS gs q)
 rw[<-hs]
 have hwn:IntKind.i64.wrap (-q) = -q:=by rw[IntKind.wrap_i64];omega
 simp only[fourV] at HU HD ⊢
 by_cases hq1:0<q
 ·obtain rfl:s=upS gs q:=by rw[hs];unfold shareS;rw[if_pos hq1]
  clear hs HD
  obtain⟨⟨x0,x1,x2,x3,x4,x5⟩,hs⟩:∃s,s=upS gs q:=⟨_,rfl⟩
  rw[<-hs] at HU ⊢
  clear hs
  go_enter Tryz.func102,Tryz.ntmps102
  go_wp2_with fail
  refine(HU.out _).mono ?_
  rintro e w2 ⟨rfl,hb2⟩
  have R2:w2.heap[w.heap.size+2]?=some (setO 0 0 0 0 0 0):=block_keep (by have:=heap_alloc_new ((w.alloc (.cells #[.int .i64 p0,.int .i64 p1,.int .i64 p2,.int .i64 p3] 197)).alloc (.cells #[.int .i64 m0,.int .i64 m1,.int .i64 m2,.int .i64 m3] 197)) (setO 0 0 0 0 0 0);simpa using this) hb2
  have B2:Below w.heap.size w w2:=((((Below.refl _ _).alloc (Nat.le_refl _) _).alloc (by simp) _).alloc (by simp;omega) _).trans (hb2.mono (by simp;omega))
  obtain⟨R,hR⟩:=exq (w.heap.size+2)
  have hR':w.heap.size+1+1=R:=by omega
  rw[hR']
  rw[<-hR] at R2
  have HF:Hid ((six w2 R x0 x1 x2 x3 x4 x5).heap[R]?=some (setO x0 x1 x2 x3 x4 x5)/\Below w.heap.size w (six w2 R x0 x1 x2 x3 x4 x5)):=by
   refine⟨six_heap R2 _ _ _ _ _ _,?_⟩
   have hf:Fr w2.heap.size w w2:=⟨B2.os,B2.tape,B2.output,B2.size,fun b hb _=>B2.block b hb⟩
   exact(six_fr hf (by omega) _ _ _ _ _ _).toBelow B2.size (Nat.le_refl _)
  have hRl:R<w2.heap.size:=(glt R2)
  obtain⟨q0,q1,q2,q3,q4,q5⟩:=set_cells R2
  have fr:∀j,w2.frozen? ⟨R,j,none⟩=false:=fun j=>frozen_of_row w2 R j _ _ R2
  clear hb2 R2 B2 hR hR' HU
  simp only[Sett.v]
  go_wp2
  exact bodyPost_ret (v:=setV x0 x1 x2 x3 x4 x5) (results_cell_row rfl _ _ R 28 _ (0,0) _ rfl HF.1 Tryz.underlying28 rfl (by kernel_rfl)) rfl ⟨rfl,HF.2⟩
 ·by_cases hq2:q<0
  ·obtain rfl:s=downS gs (-q):=by rw[hs];unfold shareS;rw[if_neg hq1,if_pos hq2]
   have HD2:=hidW (HD.out hq2)
   clear hs HU HD
   obtain⟨⟨x0,x1,x2,x3,x4,x5⟩,hs⟩:∃s,s=downS gs (-q):=⟨_,rfl⟩
   rw[<-hs] at HD2 ⊢
   clear hs
   go_enter Tryz.func102,Tryz.ntmps102
   go_wp2_with fail
   refine(HD2.out _).mono ?_
   rintro e w2 ⟨rfl,hb2⟩
   have R2:w2.heap[w.heap.size+2]?=some (setO 0 0 0 0 0 0):=block_keep (by have:=heap_alloc_new ((w.alloc (.cells #[.int .i64 p0,.int .i64 p1,.int .i64 p2,.int .i64 p3] 197)).alloc (.cells #[.int .i64 m0,.int .i64 m1,.int .i64 m2,.int .i64 m3] 197)) (setO 0 0 0 0 0 0);simpa using this) hb2
   have B2:Below w.heap.size w w2:=((((Below.refl _ _).alloc (Nat.le_refl _) _).alloc (by simp) _).alloc (by simp;omega) _).trans (hb2.mono (by simp;omega))
   obtain⟨R,hR⟩:=exq (w.heap.size+2)
   have hR':w.heap.size+1+1=R:=by omega
   rw[hR']
   rw[<-hR] at R2
   have HF:Hid ((six w2 R x0 x1 x2 x3 x4 x5).heap[R]?=some (setO x0 x1 x2 x3 x4 x5)/\Below w.heap.size w (six w2 R x0 x1 x2 x3 x4 x5)):=by
    refine⟨six_heap R2 _ _ _ _ _ _,?_⟩
    have hf:Fr w2.heap.size w w2:=⟨B2.os,B2.tape,B2.output,B2.size,fun b hb _=>B2.block b hb⟩
    exact(six_fr hf (by omega) _ _ _ _ _ _).toBelow B2.size (Nat.le_refl _)
   have hRl:R<w2.heap.size:=(glt R2)
   obtain⟨q0,q1,q2,q3,q4,q5⟩:=set_cells R2
   have fr:∀j,w2.frozen? ⟨R,j,none⟩=false:=fun j=>frozen_of_row w2 R j _ _ R2
   clear hb2 R2 B2 hR hR' HD2
   simp only[Sett.v]
   go_wp2
   exact bodyPost_ret (v:=setV x0 x1 x2 x3 x4 x5) (results_cell_row rfl _ _ R 28 _ (0,0) _ rfl HF.1 Tryz.underlying28 rfl (by kernel_rfl)) rfl ⟨rfl,HF.2⟩
  ·obtain rfl:q=0:=by omega
   obtain rfl:s=⟨0,0,0,0,0,0⟩:=by rw[hs];rfl
   clear hs HU HD
   go_enter Tryz.func102,Tryz.ntmps102
   go_wp2
   exact bodyPost_ret (v:=setV 0 0 0 0 0 0) (results_cell_row rfl _ _ (w.heap.size+1+1) 28 _ (0,0) _ rfl (by have:=heap_alloc_new ((w.alloc (.cells #[.int .i64 p0,.int .i64 p1,.int .i64 p2,.int .i64 p3] 197)).alloc (.cells #[.int .i64 m0,.int .i64 m1,.int .i64 m2,.int .i64 m3] 197)) (setO 0 0 0 0 0 0);simpa using this) Tryz.underlying28 rfl (by kernel_rfl)) rfl ⟨rfl,((((Below.refl _ _).alloc (Nat.le_refl _) _).alloc (by simp) _).alloc (by simp;omega) _)⟩
theorem drew_heap (w:World)(g:Nat):w.drew.heap[g]?=w.heap[g]?:=rfl
theorem owns_drew {w:World}{base e size n:Nat}{v:Value}{xs:List Value}(h:w.ownsRow base e size v n xs):w.drew.ownsRow base e size v n xs:=h
theorem shareS_no {gs:List Gl}{q x0 x1 x2 x3 x4 x5:Int}(h:(⟨x0,x1,x2,x3,x4,x5⟩:Sett)=shareS gs q)(hx:x3<=0):shareL gs q=sizes gs:=by
 unfold shareS at h
 unfold shareL
 by_cases h1:0<q
 ·rw[if_pos h1] at h ⊢
  unfold upS at h
  unfold upL
  by_cases h2:hvOf Gl.p Gl.po gs<=0
  ·rw[if_pos h2]
  ·rw[if_neg h2] at h
   simp only[Sett.mk.injEq] at h
   omega
 ·rw[if_neg h1] at h ⊢
  by_cases h3:q<0
  ·rw[if_pos h3] at h ⊢
   unfold downS at h
   unfold downL
   by_cases h2:hvOf Gl.m Gl.mo gs<=0
   ·rw[if_pos h2]
   ·rw[if_neg h2] at h
    split at h<;>(simp only[Sett.mk.injEq] at h;omega)
  ·rw[if_neg h3]
theorem shareS_yes {gs:List Gl}{q x0 x1 x2 x3 x4 x5:Int}(h:(⟨x0,x1,x2,x3,x4,x5⟩:Sett)=shareS gs q)(hx:¬x3<=0)(hok:glsOk gs=true)(hq0 : -4611686018427387904<=q)(hq1:q<=4611686018427387904) :
 ((x0=1/\shareL gs q=plusL (sizes gs) (stp Gl.p Gl.po x1 (x2-x5) x3 gs).2.2)\/(x0 = -1/\shareL gs q=minusL (sizes gs) (stp Gl.m Gl.mo x1 (x2-x5) x3 gs).2.2))/\0<x2-x5/\x2-x5<=4611686018427387904/\x3<=10737418230000:=by
 have heach:=glsOk_each hok
 have hp:hvOf Gl.p Gl.po gs<=10737418230000:=(tot_have Gl.p Gl.po gs heach.1 (fun k hk=>(ok_bounds (heach.2 k hk)).2.1) (top (tot Gl.p Gl.po gs))).2
 have hm:hvOf Gl.m Gl.mo gs<=10737418230000:=(tot_have Gl.m Gl.mo gs heach.1 (fun k hk=>(ok_bounds (heach.2 k hk)).2.2.1) (top (tot Gl.m Gl.mo gs))).2
 unfold shareS at h
 unfold shareL
 by_cases h1:0<q
 ·rw[if_pos h1] at h ⊢
  unfold upS at h
  unfold upL
  by_cases h2:hvOf Gl.p Gl.po gs<=0
  ·rw[if_pos h2] at h
   simp only[Sett.mk.injEq] at h
   omega
  ·rw[if_neg h2] at h ⊢
   simp only[Sett.mk.injEq] at h
   obtain⟨e0,e1,e2,e3,_,e5⟩:=h
   have e:x2-x5=q:=by omega
   refine⟨.inl ⟨e0,by rw[e,e1,e3]⟩,by omega,by omega,by omega⟩
 ·rw[if_neg h1] at h ⊢
  by_cases h3:q<0
  ·rw[if_pos h3] at h ⊢
   unfold downS at h
   unfold downL
   by_cases h2:hvOf Gl.m Gl.mo gs<=0
   ·rw[if_pos h2] at h
    simp only[Sett.mk.injEq] at h
    omega
   ·rw[if_neg h2] at h ⊢
    by_cases h4:ordOf Gl.m Gl.mo gs=0/\hvOf Gl.m Gl.mo gs < -q
    ·rw[if_pos h4] at h ⊢
     simp only[Sett.mk.injEq] at h
     obtain⟨e0,e1,e2,e3,_,e5⟩:=h
     have e:x2-x5=hvOf Gl.m Gl.mo gs:=by omega
     refine⟨.inr ⟨e0,by rw[e,e1,e3]⟩,by omega,by omega,by omega⟩
    ·rw[if_neg h4] at h ⊢
     simp only[Sett.mk.injEq] at h
     obtain⟨e0,e1,e2,e3,_,e5⟩:=h
     have e:x2-x5 = -q:=by omega
     refine⟨.inr ⟨e0,by rw[e,e1,e3]⟩,by omega,by omega,by omega⟩
  ·rw[if_neg h3] at h
   simp only[Sett.mk.injEq] at h
   omega
theorem shareOut_any {v:Value}{gs:List Gl}{w:World}(width target q:Int)(h:GRow w v gs)(hok:glsOk gs=true)(hw1 : -1073741823<=width)(hw2:width<=1073741823)(ht1 : -1073741823<=target)(ht2:target<=1073741823)(hq:q=target-width-siz gs) :
 Calls Tryz.prog 82 #[v,.int .i64 width,.int .i64 target] w fun e w'=>∃O:Nat,e = .returned (.tuple #[.slice (some ⟨O,0,none⟩) gs.length gs.length,(shareS gs q).v])/\
  w'.ownsRow w.heap.size 2 1 (.slice (some ⟨O,0,none⟩) gs.length gs.length) gs.length ((shareL gs q).map (Value.int .i64))/\Below w.heap.size w w':=by
 have HG:Hid (GRow w v gs):=h
 have HOK:Hid (glsOk gs=true):=hok
 obtain⟨ao,n,cap,rfl,hl,hr⟩:=h
 have heach:=glsOk_each hok
 have hn2:n<=10000:=by have:=heach.1;omega
 have HE:Hid (∀k,k<gs.length->(gs.getD k Gl.none).ok=true):=heach.2
 have HBS:Hid (∀k,k<=gs.length-> -(1073741823*(k:Int))<=siz (gs.take k)/\siz (gs.take k)<=1073741823*(k:Int)):=siz_bound gs (fun k hk=>(ok_bounds (HE k hk)).1)
 have HR:Hid (0<n->∃b off,ao=some ⟨b,off,none⟩/\b<w.heap.size/\∀i,i<n->w.cell? ⟨b,off+i*5,none⟩=some (.int .i64 (gs.getD i Gl.none).s)/\w.cell? ⟨b,off+i*5+1,none⟩=some (.int .i64 (gs.getD i Gl.none).p)/\w.cell? ⟨b,off+i*5+2,none⟩=some (.int .i64 (gs.getD i Gl.none).po)/\w.cell? ⟨b,off+i*5+3,none⟩=some (.int .i64 (gs.getD i Gl.none).m)/\w.cell? ⟨b,off+i*5+4,none⟩=some (.int .i64 (gs.getD i Gl.none).mo)):=hr
 have HL:Hid (gs.length=n):=hl
 have HQ:Hid (q=target-width-siz gs):=hq
 clear hr hl hok heach hq
 obtain⟨i0,hi,hz0,hz1,hz2⟩:=info_parts Tryz.info2
 have HI:Hid (i0.bytes=8):=hz2
 clear hz2
 have hbox:(w.alloc (.cells #[.int .i64 0,.int .i64 0,.int .i64 0,.int .i64 0,.int .i64 0,.int .i64 0] 28)).heap[w.heap.size]?=some (setO 0 0 0 0 0 0):=heap_alloc_new w _
 have HX0:Hid ((w.alloc (.cells #[.int .i64 0,.int .i64 0,.int .i64 0,.int .i64 0,.int .i64 0,.int .i64 0] 28)).heap[w.heap.size]?=some (setO 0 0 0 0 0 0)):=hbox
 clear hbox
 go_enter Tryz.func82,Tryz.ntmps82
 go_wp2_with (first
  | (refine wpList_make_full _ rfl _ _ 54 rfl w.heap.size 2 i0 (.int .i64 0) 1 Tryz.underlying54 hi hz0 hz1 _ _ _ _ n rfl rfl rfl rfl (by rw[show i0.bytes=8 from HI];omega) (by unfold maxLen;omega) (by simp) ?_;intro w1 hown hgrow))
 have hO:(w.alloc (.cells #[.int .i64 0,.int .i64 0,.int .i64 0,.int .i64 0,.int .i64 0,.int .i64 0] 28)).heap.size=w.heap.size+1:=by simp
 have H0:Hid (w1.heap[w.heap.size]?=some (setO 0 0 0 0 0 0)/\w1.ownsRow w.heap.size 2 1 (.slice (some ⟨w.heap.size+1,0,none⟩) n n) n (([]++List.replicate (n-0) (0:Int)).map (Value.int .i64))/\Below w.heap.size w w1):=by
  refine⟨(hgrow.block _ (by simp) (by simp)).trans HX0,?_,Below.grown ((Below.refl _ _).alloc (Nat.le_refl _) _) hgrow (by simp) (by simp)⟩
  rw[List.nil_append,Nat.sub_zero,<-made_ints,<-hO]
  exact hown
 clear hown hgrow hO
 obtain⟨L,hLL⟩:=exq (w.heap.size+1)
 obtain⟨R,hRR⟩:=exq (w.heap.size)
 have hLB:w.heap.size<=L:=by omega
 have hRB:w.heap.size<=R:=by omega
 have hRL:R≠L:=by omega
 rw[<-hLL]
 have H1:Hid (w1.heap[R]?=some (setO 0 0 0 0 0 0)/\w1.ownsRow w.heap.size 2 1 (.slice (some ⟨L,0,none⟩) n n) n (([]++List.replicate (n-0) (0:Int)).map (Value.int .i64))/\Below w.heap.size w w1):=by rw[hLL,hRR];exact H0
 rw[<-hRR]
 clear H0 hLL hRR HX0
 have hwa:IntKind.i64.wrap (target-width)=target-width:=by rw[IntKind.wrap_i64];omega
 have HS0:Hid (target-width=target-width-siz (gs.take 0)):=by
  have h0:siz (gs.take 0)=0:=rfl
  show target-width=target-width-siz (gs.take 0)
  rw[h0]
  omega
 go_wp2
 go_loopw [9,25] (fun s9 s20 wr=>∃k:Nat,k<=n/\s20 = .int .i64 k/\s9 = .int .i64 (target-width-siz (gs.take k))/\
  wr.heap[R]?=some (setO 0 0 0 0 0 0)/\wr.ownsRow w.heap.size 2 1 (.slice (some ⟨L,0,none⟩) n n) n ((sizes (gs.take k)++List.replicate (n-k) (0:Int)).map (Value.int .i64))/\Below w.heap.size w wr) (fun _ s _=>n-(intOf s).toNat)
 case atStart=>exact⟨0,by omega,rfl,congrArg (Value.int .i64) HS0,H1.1,H1.2.1,H1.2.2⟩
 case round =>
  obtain⟨k,hk,rfl,rfl,hbx,hown,hbel⟩:=hrel
  have hlen:gs.length=n:=HL
  by_cases hkn:k<n
  ·have hki:(k:Int)<(n:Int):=by omega
   obtain⟨b,off,rfl,hb,hc⟩:=HR (by omega)
   obtain⟨t,ht⟩:=exq (gs.getD k Gl.none)
   obtain⟨hc0,hc1,hc2,hc3,hc4⟩:=hc k hkn
   rw[<-ht] at hc0 hc1 hc2 hc3 hc4
   have hob:=(ok_bounds (HE k (by omega))).1
   rw[<-ht] at hob
   have hsb:=HBS k (by omega)
   have HEQ:Hid (siz (gs.take (k+1))=siz (gs.take k)+t.s/\sizes (gs.take (k+1))=sizes (gs.take k)++[t.s]):=⟨by rw[take_snoc (by omega),siz_snoc,<-ht],by rw[sizes_snoc (by omega),<-ht]⟩
   have HSL:(sizes (gs.take k)).length=k:=by simp[sizes];omega
   obtain⟨z,hz⟩:=exq (siz (gs.take k))
   rw[<-hz] at hsb ⊢
   have HZ:Hid (z=siz (gs.take k)):=hz
   obtain⟨ps,hps⟩:=exq (sizes (gs.take k))
   rw[<-hps] at hown HSL
   have HPS:Hid (ps=sizes (gs.take k)/\ps.length=k):=⟨hps,HSL⟩
   have g0:=(hbel.cell (p:=⟨b,off+k*5,none⟩) hb).trans hc0
   have g1:=(hbel.cell (p:=⟨b,off+k*5+1,none⟩) hb).trans hc1
   have g2:=(hbel.cell (p:=⟨b,off+k*5+2,none⟩) hb).trans hc2
   have g3:=(hbel.cell (p:=⟨b,off+k*5+3,none⟩) hb).trans hc3
   have g4:=(hbel.cell (p:=⟨b,off+k*5+4,none⟩) hb).trans hc4
   have hLl:L<wr.heap.size:=ownsRow_block hown
   have hfz:wr.frozen? ⟨L,k,none⟩=false:=World.ownsRow.frozenAt hown k
   obtain⟨zz,hzz⟩:∃zz,wr.cell? ⟨L,k,none⟩=some zz:=by
    rw[World.ownsRow.cellAt hown k (by omega)]
    exact⟨_,List.getElem?_eq_getElem (by simp[HSL];omega)⟩
   have hwb:IntKind.i64.wrap (target-width-z-t.s)=target-width-z-t.s:=by rw[IntKind.wrap_i64];omega
   have HF:Hid (((wr.setCell ⟨L,k,none⟩ (.int .i64 t.s)).alloc (.cells #[.int .i64 t.s,.int .i64 t.p,.int .i64 t.po,.int .i64 t.m,.int .i64 t.mo] 34)).heap[R]?=some (setO 0 0 0 0 0 0)/\((wr.setCell ⟨L,k,none⟩ (.int .i64 t.s)).alloc (.cells #[.int .i64 t.s,.int .i64 t.p,.int .i64 t.po,.int .i64 t.m,.int .i64 t.mo] 34)).ownsRow w.heap.size 2 1 (.slice (some ⟨L,0,none⟩) n n) n (((ps++[t.s])++List.replicate (n-(k+1)) (0:Int)).map (Value.int .i64))/\Below w.heap.size w ((wr.setCell ⟨L,k,none⟩ (.int .i64 t.s)).alloc (.cells #[.int .i64 t.s,.int .i64 t.p,.int .i64 t.po,.int .i64 t.m,.int .i64 t.mo] 34))):=by
    have hR':(wr.setCell ⟨L,k,none⟩ (.int .i64 t.s)).heap[R]?=some (setO 0 0 0 0 0 0):=(Below.heap_setCell _ _ _ _ hRL).trans hbx
    refine⟨(Below.heap_alloc _ _ _ (glt hR')).trans hR',?_,Below.alloc (hbel.setCell (p:=⟨L,k,none⟩) hLB _) (by have:=hbel.size;simpa [World.setCell] using this) _⟩
    rw[<-rep_set HSL hkn,List.map_set]
    exact World.ownsRow.alloc (World.ownsRow.stored hown k _).1 _
   clear hc hc0 hc1 hc2 hc3 hc4 ht hbx hown hbel hz hps HSL
   go_wp2
   go_roundw
   case rel =>
    refine⟨k+1,by omega,by go_num,?_,HF.1,?_,HF.2.2⟩
    ·rw[HEQ.1,<-show z=siz (gs.take k) from HZ]
     exact congrArg (Value.int .i64) (by omega)
    ·rw[HEQ.2,<-HPS.1]
     exact HF.2.1
   case measure=>simp[intOf];omega
  ·have hki:¬(k:Int)<(n:Int):=by omega
   obtain rfl:k=n:=by omega
   have et:gs.take k=gs:=by rw[<-hlen,List.take_length]
   have hsb:=HBS k (by omega)
   rw[et] at hown hsb ⊢
   rw[Nat.sub_self,List.replicate_zero,List.append_nil] at hown
   rw[<-show q=target-width-siz gs from HQ]
   have hqb : -4611686018427387904<=q/\q<=4611686018427387904:=by rw[show q=target-width-siz gs from HQ];omega
   obtain⟨hqb1,hqb2⟩:=hqb
   have HX:Hid (wr.heap[R]?=some (setO 0 0 0 0 0 0)/\wr.ownsRow w.heap.size 2 1 (.slice (some ⟨L,0,none⟩) k k) k ((sizes gs).map (Value.int .i64))/\Below w.heap.size w wr):=⟨hbx,hown,hbel⟩
   clear hown hbel hbx et hsb
   go_wp2_with fail
   refine(totalsP_any (GRow.below HG HX.2.2) HOK).mono ?_
   rintro e w2 ⟨rfl,hb2⟩
   obtain⟨p0,p1,p2,p3,hx⟩:=four_parts (tot_length Gl.p Gl.po gs)
   rw[hx]
   have HP:=hidW hx
   have H2:Hid (w2.heap[R]?=some (setO 0 0 0 0 0 0)/\w2.ownsRow w.heap.size 2 1 (.slice (some ⟨L,0,none⟩) k k) k ((sizes gs).map (Value.int .i64))/\Below w.heap.size w w2):=⟨block_keep HX.1 hb2,owns_keep HX.2.1 hb2,HX.2.2.trans (hb2.mono HX.2.2.size)⟩
   clear hb2 hx HX
   simp only[List.map_cons,List.map_nil]
   go_wp2_with fail
   refine(totalsM_any (GRow.below HG H2.2.2) HOK).mono ?_
   rintro e w3 ⟨rfl,hb3⟩
   obtain⟨m0,m1,m2,m3,hx⟩:=four_parts (tot_length Gl.m Gl.mo gs)
   rw[hx]
   have HM:=hidW hx
   have H3:Hid (w3.heap[R]?=some (setO 0 0 0 0 0 0)/\w3.ownsRow w.heap.size 2 1 (.slice (some ⟨L,0,none⟩) k k) k ((sizes gs).map (Value.int .i64))/\Below w.heap.size w w3):=⟨block_keep H2.1 hb3,owns_keep H2.2.1 hb3,H2.2.2.trans (hb3.mono H2.2.2.size)⟩
   clear hb3 hx H2
   simp only[List.map_cons,List.map_nil]
   go_wp2_with fail
   refine(settle_any q p0 p1 p2 p3 m0 m1 m2 m3 _ HP.out HM.out HOK.out (by omega) (by omega)).mono ?_
   rintro e w4 ⟨rfl,hb4⟩
   have H4:Hid (w4.heap[R]?=some (setO 0 0 0 0 0 0)/\w4.ownsRow w.heap.size 2 1 (.slice (some ⟨L,0,none⟩) k k) k ((sizes gs).map (Value.int .i64))/\Below w.heap.size w w4):=⟨block_keep H3.1 hb4,owns_keep H3.2.1 hb4,H3.2.2.trans (hb4.mono H3.2.2.size)⟩
   clear hb4 H3 HP HM
   obtain⟨⟨x0,x1,x2,x3,x4,x5⟩,hs⟩:∃s,s=shareS gs q:=⟨_,rfl⟩
   have HS:=hidW hs
   rw[<-hs]
   clear hs
   simp only[Sett.v]
   by_cases hx3:x3<=0
   ·have HLL:=hidW (shareS_no HS.out hx3)
    have R4:=H4.out.1
    obtain⟨r0,r1,r2,r3,r4,r5⟩:=set_cells R4
    have fR:∀j,w4.frozen? ⟨R,j,none⟩=false:=fun j=>frozen_of_row w4 R j _ _ R4
    have hRl4:R<w4.heap.size:=(glt R4)
    have HF:Hid ((six w4 R x0 x1 x2 x3 x4 x5).heap[R]?=some (setO x0 x1 x2 x3 x4 x5)/\(six w4 R x0 x1 x2 x3 x4 x5).ownsRow w.heap.size 2 1 (.slice (some ⟨L,0,none⟩) k k) k ((sizes gs).map (Value.int .i64))/\Below w.heap.size w (six w4 R x0 x1 x2 x3 x4 x5)) :=
     ⟨six_heap R4 _ _ _ _ _ _,owns_heap H4.out.2.1 (six_same (Ne.symm hRL) _ _ _ _ _ _),(six_fr (Fr.below (Fr.refl L w) H4.out.2.2) hRB _ _ _ _ _ _).toBelow hLB (Nat.le_refl _)⟩
    clear R4 H4
    go_wp2
    go_region
    go_wp2
    refine bodyPost_ret (v:= .tuple #[.slice (some ⟨L,0,none⟩) k k,setV x0 x1 x2 x3 x4 x5]) (results_tmp_cell rfl _ _ R _ _ rfl rfl (loadSet ?hl)) rfl ⟨L,?_,?_,?_⟩
    case hl=>exact(drew_heap _ _).trans ((Below.heap_alloc _ _ _ (glt HF.out.1)).trans HF.out.1)
    ·rw[hlen,<-show _=shareS gs q from HS.out]
    ·rw[hlen,show shareL gs q=_ from HLL.out]
     exact owns_drew (World.ownsRow.alloc HF.out.2.1 _)
    ·exact Below.drew (HF.out.2.2.alloc HF.out.2.2.size _)
   ·obtain⟨hcase,hy1,hy2,hy3⟩:=shareS_yes HS.out hx3 HOK.out hqb1 hqb2
    rcases hcase with ⟨rfl,hll⟩ | ⟨rfl,hll⟩
    ·have HLL:=hidW hll
     clear hll
     have hwx:IntKind.i64.wrap (x2-x5)=x2-x5:=by rw[IntKind.wrap_i64];omega
     have hwy:wrap64 (x2-x5)=x2-x5:=by unfold wrap64;omega
     go_wp2_with fail
     refine(portionsP_any 1 x1 (x2-x5) x3 x4 x5 (GRow.below HG ((H4.out.2.2.alloc H4.out.2.2.size _).alloc (by have:=H4.out.2.2.size;simp;omega) _)) HOK.out hy1 (by omega) (by omega) (by omega)).mono ?_
     rintro e w6 ⟨O,rfl,hO6,hb6⟩
     have hsz4:=H4.out.2.2.size
     obtain⟨S,hS⟩:=exq (w4.heap.size)
     have R4:=H4.out.1
     have hRl4:R<w4.heap.size:=(glt R4)
     have hLl4:L<w4.heap.size:=ownsRow_block H4.out.2.1
     have R6:w6.heap[R]?=some (setO 0 0 0 0 0 0):=block_keep ((Below.heap_alloc _ _ _ (by simp;omega)).trans ((Below.heap_alloc _ _ _ hRl4).trans R4)) hb6
     have S6:w6.heap[S]?=some (setO 1 x1 x2 x3 x4 x5):=by rw[hS];exact block_keep ((Below.heap_alloc _ _ _ (by simp)).trans (heap_alloc_new w4 _)) hb6
     have B6:Below w.heap.size w w6:=((H4.out.2.2.alloc hsz4 _).alloc (by simp;omega) _).trans (hb6.mono (by simp;omega))
     have L6:=owns_keep (owns_keep (owns_keep H4.out.2.1 ((Below.refl _ _).alloc (Nat.le_refl _) (.cells #[.int .i64 1,.int .i64 x1,.int .i64 x2,.int .i64 x3,.int .i64 x4,.int .i64 x5] 28))) ((Below.refl _ _).alloc (Nat.le_refl _) (.cells #[.int .i64 1,.int .i64 x1,.int .i64 (x2-x5),.int .i64 x3,.int .i64 x4,.int .i64 x5] 28))) hb6
     have hOb:((w4.alloc (.cells #[.int .i64 1,.int .i64 x1,.int .i64 x2,.int .i64 x3,.int .i64 x4,.int .i64 x5] 28)).alloc (.cells #[.int .i64 1,.int .i64 x1,.int .i64 (x2-x5),.int .i64 x3,.int .i64 x4,.int .i64 x5] 28)).heap.size<=O:=by
      rcases hO6.2 with ⟨h',_⟩ | ⟨g',cap',cur,h',hg,_⟩
      ·simp at h'
      ·simp at h';omega
     obtain⟨bO,hbO⟩:=exq (((w4.alloc (.cells #[.int .i64 1,.int .i64 x1,.int .i64 x2,.int .i64 x3,.int .i64 x4,.int .i64 x5] 28)).alloc (.cells #[.int .i64 1,.int .i64 x1,.int .i64 (x2-x5),.int .i64 x3,.int .i64 x4,.int .i64 x5] 28)).heap.size)
     rw[<-hbO] at hO6
     have hOb:w4.heap.size+1<O:=by simp at hOb;omega
     have hLO:L≠O:=by omega
     have hSL:S≠L:=by omega
     have hSR:S≠R:=by omega
     have hSw:w.heap.size<=S:=by omega
     rw[<-hS]
     obtain⟨ps,hps⟩:=exq ((stp Gl.p Gl.po x1 (x2-x5) x3 gs).2.2)
     have hpb:=(stp_bound Gl.p Gl.po x1 (x2-x5) x3 gs (fun k hk=>(ok_bounds (HE k hk)).2.1) gs.length (Nat.le_refl _)).2.2
     rw[List.take_length,<-hps] at hpb
     rw[<-hps] at hO6
     have HPB:Hid (∀j,-2305843009213693952<=ps.getD j 0/\ps.getD j 0<=2305843009213693952):=hpb.2
     have HPS:Hid (ps=(stp Gl.p Gl.po x1 (x2-x5) x3 gs).2.2):=hps
     rw[hlen] at hO6
     have HO6:Hid (w6.ownsRow bO 2 1 (.slice (some ⟨O,0,none⟩) k k) k (ps.map (Value.int .i64))/\w6.heap[R]?=some (setO 0 0 0 0 0 0)/\w6.heap[S]?=some (setO 1 x1 x2 x3 x4 x5)/\w6.ownsRow w.heap.size 2 1 (.slice (some ⟨L,0,none⟩) k k) k ((sizes gs).map (Value.int .i64))/\Below w.heap.size w w6):=⟨hO6,R6,S6,L6,B6⟩
     have HSZ:Hid (∀j,j<k-> -1073741823<=(sizes gs).getD j 0/\(sizes gs).getD j 0<=1073741823):=fun j hj=>by
      rw[sizes_at (by omega)]
      exact(ok_bounds (HE j (by omega))).1
     clear hO6 R6 S6 L6 B6 hb6 hps hpb H4 hbO hS R4 hRl4 hLl4 hsz4 hOb
     rw[hlen]
     obtain⟨n,hn⟩:=exq (k)
     rw[<-hn] at HO6 HSZ hlen ⊢
     have HN:=hidW hn
     have hn3:n<=10000:=by omega
     clear hn
     go_wp2
     go_loopw [66] (fun s wr=>∃(k:Nat) (ys:List Int),k<=n/\s = .int .i64 k/\ys.length=n/\(∀j,j<k->ys.getD j 0=(sizes gs).getD j 0+ps.getD j 0)/\(∀j,k<=j->ys.getD j 0=(sizes gs).getD j 0)/\
      wr.ownsRow bO 2 1 (.slice (some ⟨O,0,none⟩) n n) n (ps.map (Value.int .i64))/\wr.heap[R]?=some (setO 0 0 0 0 0 0)/\wr.heap[S]?=some (setO 1 x1 x2 x3 x4 x5)/\wr.ownsRow w.heap.size 2 1 (.slice (some ⟨L,0,none⟩) n n) n (ys.map (Value.int .i64))/\Below w.heap.size w wr) (fun s _=>n-(intOf s).toNat)
     case atStart=>exact⟨0,sizes gs,by omega,rfl,by simp[sizes];omega,fun j hj=>by omega,fun j _=>rfl,HO6.1,HO6.2.1,HO6.2.2.1,HO6.2.2.2.1,HO6.2.2.2.2⟩
     case round =>
      obtain⟨k2,ys,hk2,rfl,hyl,hy1,hy2,hwO,hwR,hwS,hwL,hwF⟩:=hrel
      by_cases hkn:k2<n
      ·have hki:(k2:Int)<(n:Int):=by omega
       have cO:=owns_cell hwO k2 hkn
       have cL:=owns_cell hwL k2 hkn
       rw[hy2 k2 (Nat.le_refl _)] at cL
       have fL:wr.frozen? ⟨L,k2,none⟩=false:=World.ownsRow.frozenAt hwL k2
       obtain⟨pk,hpk⟩:=exq (ps.getD k2 0)
       obtain⟨zk,hzk⟩:=exq ((sizes gs).getD k2 0)
       have b1:=HPB.out k2
       have b2:=HSZ.out k2 hkn
       rw[<-hpk] at cO b1
       rw[<-hzk] at cL b2
       obtain⟨s0,s1,s2,s3,s4,s5⟩:=set_cells hwS
       have hwp:IntKind.i64.wrap (1*pk)=pk:=by rw[IntKind.wrap_i64];omega
       have hwq:IntKind.i64.wrap (pk)=pk:=by rw[IntKind.wrap_i64];omega
       have hw2:IntKind.i64.wrap (zk+pk)=zk+pk:=by rw[IntKind.wrap_i64];omega
       have HF:Hid ((ys.set k2 (zk+pk)).length=n/\(∀j,j<k2+1->(ys.set k2 (zk+pk)).getD j 0=(sizes gs).getD j 0+ps.getD j 0)/\(∀j,k2+1<=j->(ys.set k2 (zk+pk)).getD j 0=(sizes gs).getD j 0)/\
        (wr.setCell ⟨L,k2,none⟩ (.int .i64 (zk+pk))).ownsRow bO 2 1 (.slice (some ⟨O,0,none⟩) n n) n (ps.map (Value.int .i64))/\(wr.setCell ⟨L,k2,none⟩ (.int .i64 (zk+pk))).heap[R]?=some (setO 0 0 0 0 0 0)/\(wr.setCell ⟨L,k2,none⟩ (.int .i64 (zk+pk))).heap[S]?=some (setO 1 x1 x2 x3 x4 x5)/\(wr.setCell ⟨L,k2,none⟩ (.int .i64 (zk+pk))).ownsRow w.heap.size 2 1 (.slice (some ⟨L,0,none⟩) n n) n ((ys.set k2 (zk+pk)).map (Value.int .i64))/\Below w.heap.size w (wr.setCell ⟨L,k2,none⟩ (.int .i64 (zk+pk)))):=by
        refine⟨by simp[hyl],fun j hj=>?_,fun j hj=>?_,owns_heap hwO (Below.heap_setCell _ _ _ _ (Ne.symm hLO)),(Below.heap_setCell _ _ _ _ hRL).trans hwR,(Below.heap_setCell _ _ _ _ hSL).trans hwS,?_,hwF.setCell (p:=⟨L,k2,none⟩) hLB _⟩
        ·by_cases hjk:j=k2
         ·subst hjk;rw[<-hpk,<-hzk];simp[List.getD,hyl,hkn]
         ·refine Eq.trans ?_ (hy1 j (by omega));simp[List.getD,List.getElem?_set,Ne.symm hjk]
        ·refine Eq.trans ?_ (hy2 j (by omega));simp[List.getD,List.getElem?_set,show k2≠j by omega]
        ·rw[List.map_set];exact(World.ownsRow.stored hwL k2 _).1
       clear hwO hwR hwS hwL hwF hy1 hy2 hpk hzk
       go_wp2
       go_region
       go_wp2
       go_roundw
       case rel=>exact⟨k2+1,ys.set k2 (zk+pk),by omega,by go_num,HF.out.1,HF.out.2.1,HF.out.2.2.1,owns_drew HF.out.2.2.2.1,(drew_heap _ _).trans HF.out.2.2.2.2.1,(drew_heap _ _).trans HF.out.2.2.2.2.2.1,owns_drew HF.out.2.2.2.2.2.2.1,Below.drew HF.out.2.2.2.2.2.2.2⟩
       case measure=>simp[intOf];omega
      ·have hki:¬(k2:Int)<(n:Int):=by omega
       obtain rfl:k2=n:=by omega
       have hye:ys=plusL (sizes gs) ps:=getD_ext (by rw[plusL_length,hyl];simp[sizes];omega) fun j hj=>by rw[hy1 j (by omega),plusL_at (by simp[sizes];omega)]
       subst hye
       obtain⟨s0,s1,s2,s3,s4,s5⟩:=set_cells hwS
       obtain⟨r0,r1,r2,r3,r4,r5⟩:=set_cells hwR
       have fR:∀j,wr.frozen? ⟨R,j,none⟩=false:=fun j=>frozen_of_row wr R j _ _ hwR
       have hRlr:R<wr.heap.size:=(glt hwR)
       have HF:Hid ((six wr R 1 x1 x2 x3 x4 x5).heap[R]?=some (setO 1 x1 x2 x3 x4 x5)/\(six wr R 1 x1 x2 x3 x4 x5).ownsRow w.heap.size 2 1 (.slice (some ⟨L,0,none⟩) k2 k2) k2 ((plusL (sizes gs) ps).map (Value.int .i64))/\Below w.heap.size w (six wr R 1 x1 x2 x3 x4 x5)) :=
        ⟨six_heap hwR _ _ _ _ _ _,owns_heap hwL (six_same (Ne.symm hRL) _ _ _ _ _ _),(six_fr (Fr.below (Fr.refl L w) hwF) hRB _ _ _ _ _ _).toBelow hLB (Nat.le_refl _)⟩
       clear hwO hwR hwS hwL hwF hy1 hy2
       go_wp2
       go_region
       go_wp2
       refine bodyPost_ret (v:= .tuple #[.slice (some ⟨L,0,none⟩) k2 k2,setV 1 x1 x2 x3 x4 x5]) (results_tmp_cell rfl _ _ R _ _ rfl rfl (loadSet ?hl)) rfl ⟨L,?_,?_,Below.drew HF.out.2.2⟩
       case hl=>exact(drew_heap _ _).trans HF.out.1
       ·rw[hlen,<-show _=shareS gs q from HS.out]
       ·rw[hlen,show shareL gs q=_ from HLL.out,<-show ps=_ from HPS.out]
        exact owns_drew HF.out.2.1
    ·have HLL:=hidW hll
     clear hll
     have hwx:IntKind.i64.wrap (x2-x5)=x2-x5:=by rw[IntKind.wrap_i64];omega
     have hwy:wrap64 (x2-x5)=x2-x5:=by unfold wrap64;omega
     go_wp2_with fail
     refine(portionsM_any (-1) x1 (x2-x5) x3 x4 x5 (GRow.below HG ((H4.out.2.2.alloc H4.out.2.2.size _).alloc (by have:=H4.out.2.2.size;simp;omega) _)) HOK.out hy1 (by omega) (by omega) (by omega)).mono ?_
     rintro e w6 ⟨O,rfl,hO6,hb6⟩
     have hsz4:=H4.out.2.2.size
     obtain⟨S,hS⟩:=exq (w4.heap.size)
     have R4:=H4.out.1
     have hRl4:R<w4.heap.size:=(glt R4)
     have hLl4:L<w4.heap.size:=ownsRow_block H4.out.2.1
     have R6:w6.heap[R]?=some (setO 0 0 0 0 0 0):=block_keep ((Below.heap_alloc _ _ _ (by simp;omega)).trans ((Below.heap_alloc _ _ _ hRl4).trans R4)) hb6
     have S6:w6.heap[S]?=some (setO (-1) x1 x2 x3 x4 x5):=by rw[hS];exact block_keep ((Below.heap_alloc _ _ _ (by simp)).trans (heap_alloc_new w4 _)) hb6
     have B6:Below w.heap.size w w6:=((H4.out.2.2.alloc hsz4 _).alloc (by simp;omega) _).trans (hb6.mono (by simp;omega))
     have L6:=owns_keep (owns_keep (owns_keep H4.out.2.1 ((Below.refl _ _).alloc (Nat.le_refl _) (.cells #[.int .i64 (-1),.int .i64 x1,.int .i64 x2,.int .i64 x3,.int .i64 x4,.int .i64 x5] 28))) ((Below.refl _ _).alloc (Nat.le_refl _) (.cells #[.int .i64 (-1),.int .i64 x1,.int .i64 (x2-x5),.int .i64 x3,.int .i64 x4,.int .i64 x5] 28))) hb6
     have hOb:((w4.alloc (.cells #[.int .i64 (-1),.int .i64 x1,.int .i64 x2,.int .i64 x3,.int .i64 x4,.int .i64 x5] 28)).alloc (.cells #[.int .i64 (-1),.int .i64 x1,.int .i64 (x2-x5),.int .i64 x3,.int .i64 x4,.int .i64 x5] 28)).heap.size<=O:=by
      rcases hO6.2 with ⟨h',_⟩ | ⟨g',cap',cur,h',hg,_⟩
      ·simp at h'
      ·simp at h';omega
     obtain⟨bO,hbO⟩:=exq (((w4.alloc (.cells #[.int .i64 (-1),.int .i64 x1,.int .i64 x2,.int .i64 x3,.int .i64 x4,.int .i64 x5] 28)).alloc (.cells #[.int .i64 (-1),.int .i64 x1,.int .i64 (x2-x5),.int .i64 x3,.int .i64 x4,.int .i64 x5] 28)).heap.size)
     rw[<-hbO] at hO6
     have hOb:w4.heap.size+1<O:=by simp at hOb;omega
     have hLO:L≠O:=by omega
     have hSL:S≠L:=by omega
     have hSR:S≠R:=by omega
     have hSw:w.heap.size<=S:=by omega
     rw[<-hS]
     obtain⟨ps,hps⟩:=exq ((stp Gl.m Gl.mo x1 (x2-x5) x3 gs).2.2)
     have hpb:=(stp_bound Gl.m Gl.mo x1 (x2-x5) x3 gs (fun k hk=>(ok_bounds (HE k hk)).2.2.1) gs.length (Nat.le_refl _)).2.2
     rw[List.take_length,<-hps] at hpb
     rw[<-hps] at hO6
     have HPB:Hid (∀j,-2305843009213693952<=ps.getD j 0/\ps.getD j 0<=2305843009213693952):=hpb.2
     have HPS:Hid (ps=(stp Gl.m Gl.mo x1 (x2-x5) x3 gs).2.2):=hps
     rw[hlen] at hO6
     have HO6:Hid (w6.ownsRow bO 2 1 (.slice (some ⟨O,0,none⟩) k k) k (ps.map (Value.int .i64))/\w6.heap[R]?=some (setO 0 0 0 0 0 0)/\w6.heap[S]?=some (setO (-1) x1 x2 x3 x4 x5)/\w6.ownsRow w.heap.size 2 1 (.slice (some ⟨L,0,none⟩) k k) k ((sizes gs).map (Value.int .i64))/\Below w.heap.size w w6):=⟨hO6,R6,S6,L6,B6⟩
     have HSZ:Hid (∀j,j<k-> -1073741823<=(sizes gs).getD j 0/\(sizes gs).getD j 0<=1073741823):=fun j hj=>by
      rw[sizes_at (by omega)]
      exact(ok_bounds (HE j (by omega))).1
     clear hO6 R6 S6 L6 B6 hb6 hps hpb H4 hbO hS R4 hRl4 hLl4 hsz4 hOb
     rw[hlen]
     obtain⟨n,hn⟩:=exq (k)
     rw[<-hn] at HO6 HSZ hlen ⊢
     have HN:=hidW hn
     have hn3:n<=10000:=by omega
     clear hn
     go_wp2
     go_loopw [66] (fun s wr=>∃(k:Nat) (ys:List Int),k<=n/\s = .int .i64 k/\ys.length=n/\(∀j,j<k->ys.getD j 0=(sizes gs).getD j 0-ps.getD j 0)/\(∀j,k<=j->ys.getD j 0=(sizes gs).getD j 0)/\
      wr.ownsRow bO 2 1 (.slice (some ⟨O,0,none⟩) n n) n (ps.map (Value.int .i64))/\wr.heap[R]?=some (setO 0 0 0 0 0 0)/\wr.heap[S]?=some (setO (-1) x1 x2 x3 x4 x5)/\wr.ownsRow w.heap.size 2 1 (.slice (some ⟨L,0,none⟩) n n) n (ys.map (Value.int .i64))/\Below w.heap.size w wr) (fun s _=>n-(intOf s).toNat)
     case atStart=>exact⟨0,sizes gs,by omega,rfl,by simp[sizes];omega,fun j hj=>by omega,fun j _=>rfl,HO6.1,HO6.2.1,HO6.2.2.1,HO6.2.2.2.1,HO6.2.2.2.2⟩
     case round =>
      obtain⟨k2,ys,hk2,rfl,hyl,hy1,hy2,hwO,hwR,hwS,hwL,hwF⟩:=hrel
      by_cases hkn:k2<n
      ·have hki:(k2:Int)<(n:Int):=by omega
       have cO:=owns_cell hwO k2 hkn
       have cL:=owns_cell hwL k2 hkn
       rw[hy2 k2 (Nat.le_refl _)] at cL
       have fL:wr.frozen? ⟨L,k2,none⟩=false:=World.ownsRow.frozenAt hwL k2
       obtain⟨pk,hpk⟩:=exq (ps.getD k2 0)
       obtain⟨zk,hzk⟩:=exq ((sizes gs).getD k2 0)
       have b1:=HPB.out k2
       have b2:=HSZ.out k2 hkn
       rw[<-hpk] at cO b1
       rw[<-hzk] at cL b2
       obtain⟨s0,s1,s2,s3,s4,s5⟩:=set_cells hwS
       have hwp:IntKind.i64.wrap ((-1)*pk)=(-pk):=by rw[IntKind.wrap_i64];omega
       have hwq:IntKind.i64.wrap ((-pk))=(-pk):=by rw[IntKind.wrap_i64];omega
       have hw2:IntKind.i64.wrap (zk+(-pk))=zk-pk:=by rw[IntKind.wrap_i64];omega
       have HF:Hid ((ys.set k2 (zk-pk)).length=n/\(∀j,j<k2+1->(ys.set k2 (zk-pk)).getD j 0=(sizes gs).getD j 0-ps.getD j 0)/\(∀j,k2+1<=j->(ys.set k2 (zk-pk)).getD j 0=(sizes gs).getD j 0)/\
        (wr.setCell ⟨L,k2,none⟩ (.int .i64 (zk-pk))).ownsRow bO 2 1 (.slice (some ⟨O,0,none⟩) n n) n (ps.map (Value.int .i64))/\(wr.setCell ⟨L,k2,none⟩ (.int .i64 (zk-pk))).heap[R]?=some (setO 0 0 0 0 0 0)/\(wr.setCell ⟨L,k2,none⟩ (.int .i64 (zk-pk))).heap[S]?=some (setO (-1) x1 x2 x3 x4 x5)/\(wr.setCell ⟨L,k2,none⟩ (.int .i64 (zk-pk))).ownsRow w.heap.size 2 1 (.slice (some ⟨L,0,none⟩) n n) n ((ys.set k2 (zk-pk)).map (Value.int .i64))/\Below w.heap.size w (wr.setCell ⟨L,k2,none⟩ (.int .i64 (zk-pk)))):=by
        refine⟨by simp[hyl],fun j hj=>?_,fun j hj=>?_,owns_heap hwO (Below.heap_setCell _ _ _ _ (Ne.symm hLO)),(Below.heap_setCell _ _ _ _ hRL).trans hwR,(Below.heap_setCell _ _ _ _ hSL).trans hwS,?_,hwF.setCell (p:=⟨L,k2,none⟩) hLB _⟩
        ·by_cases hjk:j=k2
         ·subst hjk;rw[<-hpk,<-hzk];simp[List.getD,hyl,hkn]
         ·refine Eq.trans ?_ (hy1 j (by omega));simp[List.getD,List.getElem?_set,Ne.symm hjk]
        ·refine Eq.trans ?_ (hy2 j (by omega));simp[List.getD,List.getElem?_set,show k2≠j by omega]
        ·rw[List.map_set];exact(World.ownsRow.stored hwL k2 _).1
       clear hwO hwR hwS hwL hwF hy1 hy2 hpk hzk
       go_wp2
       go_region
       go_wp2
       go_roundw
       case rel=>exact⟨k2+1,ys.set k2 (zk-pk),by omega,by go_num,HF.out.1,HF.out.2.1,HF.out.2.2.1,owns_drew HF.out.2.2.2.1,(drew_heap _ _).trans HF.out.2.2.2.2.1,(drew_heap _ _).trans HF.out.2.2.2.2.2.1,owns_drew HF.out.2.2.2.2.2.2.1,Below.drew HF.out.2.2.2.2.2.2.2⟩
       case measure=>simp[intOf];omega
      ·have hki:¬(k2:Int)<(n:Int):=by omega
       obtain rfl:k2=n:=by omega
       have hye:ys=minusL (sizes gs) ps:=getD_ext (by rw[minusL_length,hyl];simp[sizes];omega) fun j hj=>by rw[hy1 j (by omega),minusL_at (by simp[sizes];omega)]
       subst hye
       obtain⟨s0,s1,s2,s3,s4,s5⟩:=set_cells hwS
       obtain⟨r0,r1,r2,r3,r4,r5⟩:=set_cells hwR
       have fR:∀j,wr.frozen? ⟨R,j,none⟩=false:=fun j=>frozen_of_row wr R j _ _ hwR
       have hRlr:R<wr.heap.size:=(glt hwR)
       have HF:Hid ((six wr R (-1) x1 x2 x3 x4 x5).heap[R]?=some (setO (-1) x1 x2 x3 x4 x5)/\(six wr R (-1) x1 x2 x3 x4 x5).ownsRow w.heap.size 2 1 (.slice (some ⟨L,0,none⟩) k2 k2) k2 ((minusL (sizes gs) ps).map (Value.int .i64))/\Below w.heap.size w (six wr R (-1) x1 x2 x3 x4 x5)) :=
        ⟨six_heap hwR _ _ _ _ _ _,owns_heap hwL (six_same (Ne.symm hRL) _ _ _ _ _ _),(six_fr (Fr.below (Fr.refl L w) hwF) hRB _ _ _ _ _ _).toBelow hLB (Nat.le_refl _)⟩
       clear hwO hwR hwS hwL hwF hy1 hy2
       go_wp2
       go_region
       go_wp2
       refine bodyPost_ret (v:= .tuple #[.slice (some ⟨L,0,none⟩) k2 k2,setV (-1) x1 x2 x3 x4 x5]) (results_tmp_cell rfl _ _ R _ _ rfl rfl (loadSet ?hl)) rfl ⟨L,?_,?_,Below.drew HF.out.2.2⟩
       case hl=>exact(drew_heap _ _).trans HF.out.1
       ·rw[hlen,<-show _=shareS gs q from HS.out]
       ·rw[hlen,show shareL gs q=_ from HLL.out,<-show ps=_ from HPS.out]
        exact owns_drew HF.out.2.1
theorem implShare_ok {v:Value}{gs:List Gl}{w:World}(width target q:Int)(h:GRow w v gs)(hok:glsOk gs=true)(hfw:fitsB width=true)(hft:fitsB target=true)(hq:q=target-width-siz gs) :
 Calls Tryz.prog 59 #[v,.int .i64 width,.int .i64 target] w fun e w'=>∃O:Nat,e = .returned (.tuple #[.slice (some ⟨O,0,none⟩) gs.length gs.length,(shareS gs q).v])/\
  w'.ownsRow w.heap.size 2 1 (.slice (some ⟨O,0,none⟩) gs.length gs.length) gs.length ((shareL gs q).map (Value.int .i64))/\Below w.heap.size w w':=by
 have HG:Hid (GRow w v gs):=h
 have HOK:Hid (glsOk gs=true):=hok
 have HN:Hid (gs.length<=10000):=(glsOk_each hok).1
 have HFB:Hid ((-1073741823<=width/\width<=1073741823)/\(-1073741823<=target/\target<=1073741823)):=⟨of_decide_eq_true hfw,of_decide_eq_true hft⟩
 have HFF:Hid (fitsB width=true/\fitsB target=true):=⟨hfw,hft⟩
 have HQ:Hid (q=target-width-siz gs):=hq
 clear h hok hfw hft hq
 go_enter Tryz.func59,Tryz.ntmps59
 go_wp2_with fail
 refine(implGlues_any (GRow.below HG ((Below.refl _ _).alloc (Nat.le_refl _) _)) (Nat.le_trans HN (by omega))).mono ?_
 rintro e w1 ⟨rfl,hb1⟩
 rw[show glsOk gs=true from HOK]
 have H1:Hid (w1.heap[w.heap.size]?=some (setO 0 0 0 0 0 0)/\Below w.heap.size w w1):=⟨block_keep (heap_alloc_new w _) hb1,((Below.refl _ _).alloc (Nat.le_refl _) _).trans (hb1.mono (by simp))⟩
 clear hb1
 go_wp2_with fail
 refine(implFits_any width _).mono ?_
 rintro e w2 ⟨rfl,hw2⟩
 have hw2':=hw2.symm
 clear hw2
 subst hw2'
 rw[HFF.1]
 go_wp2_with fail
 refine(implFits_any target _).mono ?_
 rintro e w2 ⟨rfl,hw2⟩
 have hw2':=hw2.symm
 clear hw2
 subst hw2'
 rw[HFF.2]
 go_wp2_with fail
 refine(shareOut_any width target q (GRow.below HG H1.2) HOK HFB.1.1 HFB.1.2 HFB.2.1 HFB.2.2 HQ).mono ?_
 rintro e w3 ⟨O,rfl,hO3,hb3⟩
 obtain⟨⟨x0,x1,x2,x3,x4,x5⟩,hs⟩:∃s,s=shareS gs q:=⟨_,rfl⟩
 rw[<-hs]
 obtain⟨R,hR⟩:=exq (w.heap.size)
 have R3:w3.heap[R]?=some (setO 0 0 0 0 0 0):=by rw[hR];exact block_keep H1.1 hb3
 have hR1:R<w1.heap.size:=by rw[hR];exact(glt H1.1)
 have hOb:w1.heap.size<=O:=by
  rcases hO3.2 with ⟨h',_⟩ | ⟨g',cap',cur,h',hg,_⟩
  ·simp at h'
  ·simp at h';omega
 have hRO:O≠R:=by omega
 have B3:Below w.heap.size w w3:=H1.2.trans (hb3.mono H1.2.size)
 obtain⟨r0,r1,r2,r3,r4,r5⟩:=set_cells R3
 have fR:∀j,w3.frozen? ⟨R,j,none⟩=false:=fun j=>frozen_of_row w3 R j _ _ R3
 have hO4:w3.ownsRow w.heap.size 2 1 (.slice (some ⟨O,0,none⟩) gs.length gs.length) gs.length ((shareL gs q).map (Value.int .i64)):=by
  have hz:w.heap.size<=w1.heap.size:=H1.2.size
  refine⟨hO3.1,?_⟩
  rcases hO3.2 with ⟨h',h2⟩ | ⟨g',cap',cur,h',hg,hr⟩
  ·exact .inl ⟨h',h2⟩
  ·exact .inr ⟨g',cap',cur,h',by omega,hr⟩
 have HF:Hid ((six w3 R x0 x1 x2 x3 x4 x5).heap[R]?=some (setO x0 x1 x2 x3 x4 x5)/\(six w3 R x0 x1 x2 x3 x4 x5).ownsRow w.heap.size 2 1 (.slice (some ⟨O,0,none⟩) gs.length gs.length) gs.length ((shareL gs q).map (Value.int .i64))/\Below w.heap.size w (six w3 R x0 x1 x2 x3 x4 x5)) :=
  ⟨six_heap R3 _ _ _ _ _ _,owns_heap hO4 (six_same hRO _ _ _ _ _ _),(six_fr (Fr.below (Fr.refl w.heap.size w) B3) (by omega) _ _ _ _ _ _).toBelow (Nat.le_refl _) (Nat.le_refl _)⟩
 rw[<-hR]
 have HS:Hid (⟨x0,x1,x2,x3,x4,x5⟩=shareS gs q):=hs
 clear R3 hO3 hb3 hs hOb B3 hO4 hR H1
 simp only
 go_wp2
 exact bodyPost_ret (v:= .tuple #[.slice (some ⟨O,0,none⟩) gs.length gs.length,setV x0 x1 x2 x3 x4 x5]) (results_tmp_cell rfl _ _ R _ _ rfl rfl (loadSet HF.1)) rfl ⟨O,by rw[<-show (⟨x0,x1,x2,x3,x4,x5⟩:Sett)=shareS gs q from HS],HF.2.1,HF.2.2⟩
end Go.Proofs.YtbbehmcekbnkiaaGreat.Shr

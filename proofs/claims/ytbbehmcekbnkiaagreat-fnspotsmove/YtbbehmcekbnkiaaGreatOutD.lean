import Derived.Test.YtbbehmcekbnkiaaGreatPor
namespace Go.Proofs.YtbbehmcekbnkiaaGreat.Shr
open Go.RowKit
set_option linter.unusedVariables false
set_option linter.unusedSimpArgs false
theorem hidW {p:Prop} (h:p):Hid p:=h
def Fr (L:Nat) (w w':World):Prop:=w'.os=w.os∧w'.tape=w.tape∧w'.output=w.output∧w.heap.size≤w'.heap.size∧∀b,b<w.heap.size→b≠L→w'.heap[b]? = w.heap[b]?
theorem Fr.refl (L:Nat) (w:World):Fr L w w:=⟨rfl,rfl,rfl,Nat.le_refl _,fun _ _ _=>rfl⟩
theorem Fr.below {L:Nat} {w a b:World} (h:Fr L w a) (hb:Below a.heap.size a b):Fr L w b :=
 ⟨hb.os.trans h.1,hb.tape.trans h.2.1,hb.output.trans h.2.2.1,Nat.le_trans h.2.2.2.1 hb.size,fun k hk hne=>(hb.block k (Nat.lt_of_lt_of_le hk h.2.2.2.1)).trans (h.2.2.2.2 k hk hne)⟩
theorem Fr.alloc {L:Nat} {w a:World} (h:Fr L w a) (o:Obj):Fr L w (a.alloc o):=h.below ((Below.refl _ _).alloc (Nat.le_refl _) _)
theorem Fr.set {L:Nat} {w a:World} (h:Fr L w a) {p:Addr} (hp:p.block=L∨w.heap.size≤p.block) (v:Value):Fr L w (a.setCell p v) :=
 ⟨h.1,h.2.1,h.2.2.1,by simpa [World.setCell] using h.2.2.2.1,fun k hk hne=>(Below.heap_setCell _ _ _ _ (by rcases hp with hp | hp <;> omega)).trans (h.2.2.2.2 k hk hne)⟩
theorem Fr.drew {L:Nat} {w a:World} (h:Fr L w a):Fr L w a.drew:=h
theorem Fr.toBelow {L B:Nat} {w a:World} (h:Fr L w a) (hL:B≤L) (hB:B≤w.heap.size):Below B w a:=⟨h.1,h.2.1,h.2.2.1,h.2.2.2.1,fun k hk=>h.2.2.2.2 k (by omega) (by omega)⟩
abbrev setO (a b c d e f:Int):Obj:= .cells #[.int .i64 a, .int .i64 b, .int .i64 c, .int .i64 d, .int .i64 e, .int .i64 f] 28 (0,0)
abbrev six (w:World) (R:Nat) (a b c d e f:Int):World:=(((((w.setCell ⟨R,0,none⟩ (.int .i64 a)).setCell ⟨R,1,none⟩ (.int .i64 b)).setCell ⟨R,2,none⟩ (.int .i64 c)).setCell ⟨R,3,none⟩ (.int .i64 d)).setCell ⟨R,4,none⟩ (.int .i64 e)).setCell ⟨R,5,none⟩ (.int .i64 f)
theorem six_heap {w:World} {R:Nat} {a0 b0 c0 d0 e0 f0:Int} (h:w.heap[R]? = some (setO a0 b0 c0 d0 e0 f0)) (a b c d e f:Int):(six w R a b c d e f).heap[R]? = some (setO a b c d e f) :=
 heap_setCell_same _ R 5 _ 28 _ (heap_setCell_same _ R 4 _ 28 _ (heap_setCell_same _ R 3 _ 28 _ (heap_setCell_same _ R 2 _ 28 _ (heap_setCell_same _ R 1 _ 28 _ (heap_setCell_same _ R 0 _ 28 _ h)))))
theorem six_other {w:World} {R g:Nat} {o:Obj} (h:w.heap[g]? = some o) (hne:g≠R) (a b c d e f:Int):(six w R a b c d e f).heap[g]? = some o :=
 (Below.heap_setCell _ _ _ _ hne).trans ((Below.heap_setCell _ _ _ _ hne).trans ((Below.heap_setCell _ _ _ _ hne).trans ((Below.heap_setCell _ _ _ _ hne).trans ((Below.heap_setCell _ _ _ _ hne).trans ((Below.heap_setCell _ _ _ _ hne).trans h)))))
theorem six_fr {L:Nat} {w a:World} (h:Fr L w a) {R:Nat} (hR:w.heap.size≤R) (x0 x1 x2 x3 x4 x5:Int):Fr L w (six a R x0 x1 x2 x3 x4 x5) :=
 (((((h.set (p:=⟨R,0,none⟩) (.inr hR) _).set (p:=⟨R,1,none⟩) (.inr hR) _).set (p:=⟨R,2,none⟩) (.inr hR) _).set (p:=⟨R,3,none⟩) (.inr hR) _).set (p:=⟨R,4,none⟩) (.inr hR) _).set (p:=⟨R,5,none⟩) (.inr hR) _
theorem owns_heap {w w':World} {base e size n g cap:Nat} {xs:List Value} (h:w.ownsRow base e size (.slice (some ⟨g,0,none⟩) n cap) n xs) (hb:w'.heap[g]? = w.heap[g]?):w'.ownsRow base e size (.slice (some ⟨g,0,none⟩) n cap) n xs:=by
 refine⟨h.1,?_⟩
 rcases h.2 with ⟨h',_⟩ | ⟨g',cap',cur,hv,hg0,hg,hr⟩
 ·simp at h'
 ·simp only[Value.slice.injEq,Option.some.injEq,Addr.mk.injEq,and_true,true_and] at hv
  obtain⟨rfl,rfl⟩:=hv
  exact .inr ⟨g,cap,cur,rfl,hg0,hb.trans hg,hr⟩
theorem six_same {w:World} {R g:Nat} (hne:g≠R) (a b c d e f:Int):(six w R a b c d e f).heap[g]? = w.heap[g]? :=
 (Below.heap_setCell _ _ _ _ hne).trans ((Below.heap_setCell _ _ _ _ hne).trans ((Below.heap_setCell _ _ _ _ hne).trans ((Below.heap_setCell _ _ _ _ hne).trans ((Below.heap_setCell _ _ _ _ hne).trans (Below.heap_setCell _ _ _ _ hne)))))
theorem loadSet {w:World} {R:Nat} {a b c d e f:Int} (h:w.heap[R]? = some (setO a b c d e f)):(loadVar 28 ⟨R,0,none⟩).run Tryz.prog w = .ok (setV a b c d e f) w :=
 run_loadVar_row _ _ 28 28 _ (0,0) _ h Tryz.underlying28 rfl (by kernel_rfl)
def plusL (zs ps:List Int):List Int:=(List.range zs.length).map (fun j=>zs.getD j 0+ps.getD j 0)
def minusL (zs ps:List Int):List Int:=(List.range zs.length).map (fun j=>zs.getD j 0 - ps.getD j 0)
theorem plusL_length (zs ps:List Int):(plusL zs ps).length=zs.length:=by simp[plusL]
theorem minusL_length (zs ps:List Int):(minusL zs ps).length=zs.length:=by simp[minusL]
theorem plusL_at {zs ps:List Int} {j:Nat} (h:j<zs.length):(plusL zs ps).getD j 0=zs.getD j 0+ps.getD j 0:=by simp[plusL,List.getD,List.getElem?_map,List.getElem?_range h]
theorem minusL_at {zs ps:List Int} {j:Nat} (h:j<zs.length):(minusL zs ps).getD j 0=zs.getD j 0 - ps.getD j 0:=by simp[minusL,List.getD,List.getElem?_map,List.getElem?_range h]
def sizes (gs:List Gl):List Int:=gs.map (fun g=>g.s)
theorem sizes_at {gs:List Gl} {j:Nat} (h:j<gs.length):(sizes gs).getD j 0=(gs.getD j Gl.none).s:=by simp[sizes,List.getD,List.getElem?_map,List.getElem?_eq_getElem h]
theorem owns_cell {w:World} {base e g n cap:Nat} {zs:List Int} (h:w.ownsRow base e 1 (.slice (some ⟨g,0,none⟩) n cap) n (zs.map (Value.int .i64))) (i:Nat) (hi:i<n):w.cell? ⟨g,i,none⟩=some (.int .i64 (zs.getD i 0)):=by
 have hl:zs.length=n:=by simpa using h.1
 rw[World.ownsRow.cellAt h i (by omega)]
 simp[List.getElem?_map,List.getD,List.getElem?_eq_getElem (show i<zs.length by omega)]
theorem tot_have (f o:Gl→Int) (gs:List Gl) (hl:gs.length≤10000) (h:∀k,k<gs.length→ -1073741823≤f (gs.getD k Gl.none)∧f (gs.getD k Gl.none)≤1073741823) (j:Nat) :
 -10737418230000≤(tot f o gs).getD j 0∧(tot f o gs).getD j 0≤10737418230000:=by
 have:=tot_bound f o gs h gs.length (Nat.le_refl _) j
 rw[List.take_length] at this
 omega
set_option maxRecDepth 20000 in
set_option maxHeartbeats 4000000 in
theorem stretchT_any (want a0 a1 a2 a3 o hv:Int) (w:World) (ho:o=(top [a0,a1,a2,a3]:Int)) (hhv:hv=([a0,a1,a2,a3]:List Int).getD (top [a0,a1,a2,a3]) 0) (hw1:want≤9223372036854775807) (hd:hv≤9223372036854775807) :
 Calls Tryz.prog 117 #[.int .i64 want, .agg #[.int .i64 a0, .int .i64 a1, .int .i64 a2, .int .i64 a3]] w fun e w' =>
  e = .returned (setV 1 o want hv (if hv≤0 then 10000 else if 0<o then 0 else badV want hv) 0)∧Below w.heap.size w w':=by
 obtain⟨bb,hbb⟩:∃bb:Int,bb=(if hv≤0 then 10000 else if 0<o then 0 else badV want hv):=⟨_,rfl⟩
 rw[← hbb]
 have HBB:=hidW hbb
 clear hbb
 have HW:Hid (want≤9223372036854775807∧hv≤9223372036854775807):=⟨hw1,hd⟩
 clear hw1 hd
 go_enter Tryz.func117,Tryz.ntmps117
 go_wp2_with fail
 refine (highest_any _ _ _ _ _).mono ?_
 rintro e w2 ⟨rfl,hb2⟩
 rw[← ho,← hhv]
 clear ho hhv
 have R2:w2.heap[w.heap.size+1]? = some (setO 0 0 0 0 0 0):=block_keep (by have:=heap_alloc_new (w.alloc (.cells #[.int .i64 a0, .int .i64 a1, .int .i64 a2, .int .i64 a3] 197)) (setO 0 0 0 0 0 0);simpa using this) hb2
 have B2:Below w.heap.size w w2:=(((Below.refl _ _).alloc (Nat.le_refl _) _).alloc (by simp) _).trans (hb2.mono (by simp;omega))
 obtain⟨R,hR⟩:∃R,R=w.heap.size+1:=⟨_,rfl⟩
 rw[← hR] at R2 ⊢
 have HRR:Hid (w.heap.size≤R):=(by omega:w.heap.size≤R)
 have hRl:R<w2.heap.size:=(Array.getElem?_eq_some_iff.1 R2).1
 have HB:Hid (w2.heap[R]? = some (setO 0 0 0 0 0 0)∧Below w.heap.size w w2):=⟨R2,B2⟩
 obtain⟨q0,q1,q2,q3,q4,q5⟩:=set_cells R2
 have fr:∀j,w2.frozen? ⟨R,j,none⟩=false:=fun j=>frozen_of_row w2 R j _ _ R2
 clear hb2 R2 B2 hR
 go_wp2_with fail
 refine (boundBad_any _ _ _ _ _ _ _ HW.1 HW.2).mono ?_
 rintro e w3 ⟨rfl,hb3⟩
 obtain⟨bd,hbd⟩:∃bd:Int,bd=(if 0<o then 0 else badV want hv):=⟨_,rfl⟩
 rw[← hbd]
 obtain⟨S,hS⟩:∃S,S=w2.heap.size:=⟨_,rfl⟩
 have S3:w3.heap[w2.heap.size]? = some (setO 1 o want hv 0 0):=block_keep (heap_alloc_new w2 _) hb3
 have R3:w3.heap[R]? = some (setO 0 0 0 0 0 0):=block_keep ((Below.heap_alloc _ _ _ hRl).trans HB.1) hb3
 have B3:Hid (Below w.heap.size w w3):=hidW ((HB.2.alloc HB.2.size _).trans (hb3.mono (by have:=HB.2.size;simp;omega)))
 rw[← hS] at S3 ⊢
 have hSR:S≠R:=by omega
 have HSB:Hid (w.heap.size≤S):=hidW (by have:=HB.2.size;omega)
 have hRl3:R<w3.heap.size:=(Array.getElem?_eq_some_iff.1 R3).1
 have hSl3:S<w3.heap.size:=(Array.getElem?_eq_some_iff.1 S3).1
 have HR3:=hidW R3
 have HS3:=hidW S3
 clear q0 q1 q2 q3 q4 q5 fr hRl
 obtain⟨q0,q1,q2,q3,q4,q5⟩:=set_cells R3
 obtain⟨s0,s1,s2,s3,s4,s5⟩:=set_cells S3
 have fr:∀j,w3.frozen? ⟨R,j,none⟩=false:=fun j=>frozen_of_row w3 R j _ _ R3
 have fs:∀j,w3.frozen? ⟨S,j,none⟩=false:=fun j=>frozen_of_row w3 S j _ _ S3
 have hRS:R≠S:=Ne.symm hSR
 clear hb3 R3 S3 HB hS
 by_cases hno:hv≤0
 ·have HN:=hidW hno
  clear hbd
  go_wp2
  refine bodyPost_ret (v:=setV 1 o want hv 10000 0) (results_cell_row rfl _ _ R 28 _ (0,0) _ rfl (six_heap (a0:=0) (b0:=0) (c0:=0) (d0:=0) (e0:=0) (f0:=0) ?hh 1 o want hv 10000 0) Tryz.underlying28 rfl (by kernel_rfl)) rfl ⟨by rw[show bb=_ from HBB.out,if_pos (by have:=HN.out;omega)],?_⟩
  case hh =>
   repeat (first | with_reducible exact HR3.out | (refine (Below.heap_setCell _ _ _ _ ?_).trans ?_;· first | exact hRS | exact hSR))
  ·have hr:=HRR.out
   have hs:=HSB.out
   repeat (first | with_reducible exact B3.out | (with_reducible refine Below.setCell ?_ ?_ _;rotate_left;focus (first | exact hr | exact hs)))
 ·have HN:=hidW hno
  have HBD:=hidW hbd
  clear hbd
  go_wp2
  refine bodyPost_ret (v:=setV 1 o want hv bd 0) (results_cell_row rfl _ _ R 28 _ (0,0) _ rfl (six_heap (a0:=0) (b0:=0) (c0:=0) (d0:=0) (e0:=0) (f0:=0) ?hh 1 o want hv bd 0) Tryz.underlying28 rfl (by kernel_rfl)) rfl ⟨by rw[show bb=_ from HBB.out,if_neg (by have:=HN.out;omega),show bd=_ from HBD.out],?_⟩
  case hh =>
   repeat (first | with_reducible exact HR3.out | (refine (Below.heap_setCell _ _ _ _ ?_).trans ?_;· first | exact hRS | exact hSR))
  ·have hr:=HRR.out
   have hs:=HSB.out
   repeat (first | with_reducible exact B3.out | (with_reducible refine Below.setCell ?_ ?_ _;rotate_left;focus (first | exact hr | exact hs)))
set_option maxRecDepth 20000 in
set_option maxHeartbeats 4000000 in
theorem shrinkT_none (want a0 a1 a2 a3 o hv:Int) (w:World) (ho:o=(top [a0,a1,a2,a3]:Int)) (hhv:hv=([a0,a1,a2,a3]:List Int).getD (top [a0,a1,a2,a3]) 0) (hw0:0<want) (hw1:want≤4611686018427387904) (hd0 : -10737418230000≤hv) (hd:hv≤10737418230000) (hno:hv≤0) :
 Calls Tryz.prog 118 #[.int .i64 want, .agg #[.int .i64 a0, .int .i64 a1, .int .i64 a2, .int .i64 a3]] w fun e w' =>
  e = .returned (setV (-1) o want hv 1000000 want)∧Below w.heap.size w w':=by
 have hmx:max hv 0=0:=by omega
 have hn1:decide (hv≤0)=true:=by simpa using hno
 have hwr:IntKind.i64.wrap want=want:=by rw[IntKind.wrap_i64];omega
 go_enter Tryz.func118,Tryz.ntmps118
 go_wp2_with fail
 refine (highest_any _ _ _ _ _).mono ?_
 rintro e w2 ⟨rfl,hb2⟩
 rw[← ho,← hhv]
 clear ho hhv
 have R2:w2.heap[w.heap.size+1]? = some (setO 0 0 0 0 0 0):=block_keep (by have:=heap_alloc_new (w.alloc (.cells #[.int .i64 a0, .int .i64 a1, .int .i64 a2, .int .i64 a3] 197)) (setO 0 0 0 0 0 0);simpa using this) hb2
 have B2:Below w.heap.size w w2:=(((Below.refl _ _).alloc (Nat.le_refl _) _).alloc (by simp) _).trans (hb2.mono (by simp;omega))
 obtain⟨R,hR⟩:∃R,R=w.heap.size+1:=⟨_,rfl⟩
 rw[← hR] at R2 ⊢
 have HRR:Hid (w.heap.size≤R):=(by omega:w.heap.size≤R)
 have hRl:R<w2.heap.size:=(Array.getElem?_eq_some_iff.1 R2).1
 have HB:Hid (w2.heap[R]? = some (setO 0 0 0 0 0 0)∧Below w.heap.size w w2):=⟨R2,B2⟩
 obtain⟨q0,q1,q2,q3,q4,q5⟩:=set_cells R2
 have fr:∀j,w2.frozen? ⟨R,j,none⟩=false:=fun j=>frozen_of_row w2 R j _ _ R2
 clear hb2 R2 B2 hR
 have HF:Hid (((six w2 R (-1) o want hv 1000000 want).alloc (.cells #[.int .i64 (-1), .int .i64 o, .int .i64 want, .int .i64 hv, .int .i64 1000000, .int .i64 want] 28)).heap[R]? = some (setO (-1) o want hv 1000000 want)∧Below w.heap.size w ((six w2 R (-1) o want hv 1000000 want).alloc (.cells #[.int .i64 (-1), .int .i64 o, .int .i64 want, .int .i64 hv, .int .i64 1000000, .int .i64 want] 28))):=by
  have hs:=six_heap HB.out.1 (-1) o want hv 1000000 want
  refine⟨(Below.heap_alloc _ _ _ (Array.getElem?_eq_some_iff.1 hs).1).trans hs,?_⟩
  have B2:=HB.out.2
  have hf:Fr w2.heap.size w w2:=⟨B2.os,B2.tape,B2.output,B2.size,fun b hb _=>B2.block b hb⟩
  exact ((six_fr hf HRR.out (-1) o want hv 1000000 want).alloc _).toBelow B2.size (Nat.le_refl _)
 clear HB HRR
 clear hw0 hw1 hd0 hd
 go_wp2
 exact bodyPost_ret (v:=setV (-1) o want hv 1000000 want) (results_cell_row rfl _ _ R 28 _ (0,0) _ rfl HF.1 Tryz.underlying28 rfl (by kernel_rfl)) rfl ⟨rfl,HF.2⟩
set_option maxRecDepth 20000 in
set_option maxHeartbeats 4000000 in
theorem shrinkT_over (want a0 a1 a2 a3 o hv:Int) (w:World) (ho:o=(top [a0,a1,a2,a3]:Int)) (hhv:hv=([a0,a1,a2,a3]:List Int).getD (top [a0,a1,a2,a3]) 0) (hw0:0<want) (hw1:want≤4611686018427387904) (hd0 : -10737418230000≤hv) (hd:hv≤10737418230000) (ho0:o=0) (hpos:0<hv) (hov:hv<want) :
 Calls Tryz.prog 118 #[.int .i64 want, .agg #[.int .i64 a0, .int .i64 a1, .int .i64 a2, .int .i64 a3]] w fun e w' =>
  e = .returned (setV (-1) o want hv 1000000 (want - hv))∧Below w.heap.size w w':=by
 have hmx:max hv 0=hv:=by omega
 have hn1:decide (hv≤0)=false:=by simpa using hpos
 have hn0:¬hv≤0:=by omega
 have hwr:IntKind.i64.wrap (want - hv)=want - hv:=by rw[IntKind.wrap_i64];omega
 go_enter Tryz.func118,Tryz.ntmps118
 go_wp2_with fail
 refine (highest_any _ _ _ _ _).mono ?_
 rintro e w2 ⟨rfl,hb2⟩
 rw[← ho,← hhv]
 clear ho hhv
 have R2:w2.heap[w.heap.size+1]? = some (setO 0 0 0 0 0 0):=block_keep (by have:=heap_alloc_new (w.alloc (.cells #[.int .i64 a0, .int .i64 a1, .int .i64 a2, .int .i64 a3] 197)) (setO 0 0 0 0 0 0);simpa using this) hb2
 have B2:Below w.heap.size w w2:=(((Below.refl _ _).alloc (Nat.le_refl _) _).alloc (by simp) _).trans (hb2.mono (by simp;omega))
 obtain⟨R,hR⟩:∃R,R=w.heap.size+1:=⟨_,rfl⟩
 rw[← hR] at R2 ⊢
 have HRR:Hid (w.heap.size≤R):=(by omega:w.heap.size≤R)
 have hRl:R<w2.heap.size:=(Array.getElem?_eq_some_iff.1 R2).1
 have HB:Hid (w2.heap[R]? = some (setO 0 0 0 0 0 0)∧Below w.heap.size w w2):=⟨R2,B2⟩
 obtain⟨q0,q1,q2,q3,q4,q5⟩:=set_cells R2
 have fr:∀j,w2.frozen? ⟨R,j,none⟩=false:=fun j=>frozen_of_row w2 R j _ _ R2
 clear hb2 R2 B2 hR
 subst ho0
 have HF:Hid (((six w2 R (-1) 0 want hv 1000000 (want - hv)).alloc (.cells #[.int .i64 (-1), .int .i64 0, .int .i64 want, .int .i64 hv, .int .i64 1000000, .int .i64 (want - hv)] 28)).heap[R]? = some (setO (-1) 0 want hv 1000000 (want - hv))∧Below w.heap.size w ((six w2 R (-1) 0 want hv 1000000 (want - hv)).alloc (.cells #[.int .i64 (-1), .int .i64 0, .int .i64 want, .int .i64 hv, .int .i64 1000000, .int .i64 (want - hv)] 28))):=by
  have hs:=six_heap HB.out.1 (-1) 0 want hv 1000000 (want - hv)
  refine⟨(Below.heap_alloc _ _ _ (Array.getElem?_eq_some_iff.1 hs).1).trans hs,?_⟩
  have B2:=HB.out.2
  have hf:Fr w2.heap.size w w2:=⟨B2.os,B2.tape,B2.output,B2.size,fun b hb _=>B2.block b hb⟩
  exact ((six_fr hf HRR.out (-1) 0 want hv 1000000 (want - hv)).alloc _).toBelow B2.size (Nat.le_refl _)
 clear HB HRR hw0 hw1 hd0 hd
 go_wp2
 exact bodyPost_ret (v:=setV (-1) 0 want hv 1000000 (want - hv)) (results_cell_row rfl _ _ R 28 _ (0,0) _ rfl HF.1 Tryz.underlying28 rfl (by kernel_rfl)) rfl ⟨rfl,HF.2⟩
set_option maxRecDepth 20000 in
set_option maxHeartbeats 4000000 in
theorem shrinkT_high (want a0 a1 a2 a3 o hv:Int) (w:World) (ho:o=(top [a0,a1,a2,a3]:Int)) (hhv:hv=([a0,a1,a2,a3]:List Int).getD (top [a0,a1,a2,a3]) 0) (hw0:0<want) (hw1:want≤4611686018427387904) (hd0 : -10737418230000≤hv) (hd:hv≤10737418230000) (hpos:0<hv) (hoh:0<o) (bd:Int) (hbd:bd=(if 0<o then 0 else badV want hv)) :
 Calls Tryz.prog 118 #[.int .i64 want, .agg #[.int .i64 a0, .int .i64 a1, .int .i64 a2, .int .i64 a3]] w fun e w' =>
  e = .returned (setV (-1) o want hv bd 0)∧Below w.heap.size w w':=by
 have hn0:¬hv≤0:=by omega
 have hn1:decide (hv≤0)=false:=by simpa using hpos
 have hn2:(o == 0)=false:=by simp;omega
 have hn3:¬o=0:=by omega
 have HBD:=hidW hbd
 clear hbd
 go_enter Tryz.func118,Tryz.ntmps118
 go_wp2_with fail
 refine (highest_any _ _ _ _ _).mono ?_
 rintro e w2 ⟨rfl,hb2⟩
 rw[← ho,← hhv]
 clear ho hhv
 have R2:w2.heap[w.heap.size+1]? = some (setO 0 0 0 0 0 0):=block_keep (by have:=heap_alloc_new (w.alloc (.cells #[.int .i64 a0, .int .i64 a1, .int .i64 a2, .int .i64 a3] 197)) (setO 0 0 0 0 0 0);simpa using this) hb2
 have B2:Below w.heap.size w w2:=(((Below.refl _ _).alloc (Nat.le_refl _) _).alloc (by simp) _).trans (hb2.mono (by simp;omega))
 obtain⟨R,hR⟩:∃R,R=w.heap.size+1:=⟨_,rfl⟩
 rw[← hR] at R2 ⊢
 have HRR:Hid (w.heap.size≤R):=(by omega:w.heap.size≤R)
 have hRl:R<w2.heap.size:=(Array.getElem?_eq_some_iff.1 R2).1
 have HB:Hid (w2.heap[R]? = some (setO 0 0 0 0 0 0)∧Below w.heap.size w w2):=⟨R2,B2⟩
 obtain⟨q0,q1,q2,q3,q4,q5⟩:=set_cells R2
 have fr:∀j,w2.frozen? ⟨R,j,none⟩=false:=fun j=>frozen_of_row w2 R j _ _ R2
 clear hb2 R2 B2 hR
 have HW:Hid (want≤9223372036854775807∧hv≤9223372036854775807):=⟨by omega,by omega⟩
 clear hw0 hw1 hd0 hd
 go_wp2_with fail
 refine (boundBad_any _ _ _ _ _ _ _ HW.1 HW.2).mono ?_
 rintro e w3 ⟨rfl,hb3⟩
 rw[← show bd=_ from HBD.out]
 obtain⟨S,hS⟩:∃S,S=w2.heap.size:=⟨_,rfl⟩
 have S3:w3.heap[w2.heap.size]? = some (setO (-1) o want hv 0 0):=block_keep (heap_alloc_new w2 _) hb3
 have R3:w3.heap[R]? = some (setO 0 0 0 0 0 0):=block_keep ((Below.heap_alloc _ _ _ hRl).trans HB.1) hb3
 have B3:Hid (Below w.heap.size w w3):=hidW ((HB.2.alloc HB.2.size _).trans (hb3.mono (by have:=HB.2.size;simp;omega)))
 rw[← hS] at S3 ⊢
 have hSR:S≠R:=by omega
 have HSB:Hid (w.heap.size≤S):=hidW (by have:=HB.2.size;omega)
 have hRl3:R<w3.heap.size:=(Array.getElem?_eq_some_iff.1 R3).1
 have hSl3:S<w3.heap.size:=(Array.getElem?_eq_some_iff.1 S3).1
 have HR3:=hidW R3
 have HS3:=hidW S3
 clear q0 q1 q2 q3 q4 q5 fr hRl
 obtain⟨q0,q1,q2,q3,q4,q5⟩:=set_cells R3
 obtain⟨s0,s1,s2,s3,s4,s5⟩:=set_cells S3
 have fr:∀j,w3.frozen? ⟨R,j,none⟩=false:=fun j=>frozen_of_row w3 R j _ _ R3
 have fs:∀j,w3.frozen? ⟨S,j,none⟩=false:=fun j=>frozen_of_row w3 S j _ _ S3
 have hRS:R≠S:=Ne.symm hSR
 clear hb3 R3 S3 HB hS
 go_wp2
 refine bodyPost_ret (v:=setV (-1) o want hv bd 0) (results_cell_row rfl _ _ R 28 _ (0,0) _ rfl (six_heap (a0:=0) (b0:=0) (c0:=0) (d0:=0) (e0:=0) (f0:=0) ?hh (-1) o want hv bd 0) Tryz.underlying28 rfl (by kernel_rfl)) rfl ⟨rfl,?_⟩
 case hh =>
  repeat (first | with_reducible exact HR3.out | (refine (Below.heap_setCell _ _ _ _ ?_).trans ?_;· first | exact hRS | exact hSR))
 ·have hr:=HRR.out
  have hs:=HSB.out
  repeat (first | with_reducible exact B3.out | (with_reducible refine Below.setCell ?_ ?_ _;rotate_left;focus (first | exact hr | exact hs)))
set_option maxRecDepth 20000 in
set_option maxHeartbeats 4000000 in
theorem shrinkT_zero (want a0 a1 a2 a3 o hv:Int) (w:World) (ho:o=(top [a0,a1,a2,a3]:Int)) (hhv:hv=([a0,a1,a2,a3]:List Int).getD (top [a0,a1,a2,a3]) 0) (hw0:0<want) (hw1:want≤4611686018427387904) (hd0 : -10737418230000≤hv) (hd:hv≤10737418230000) (hpos:0<hv) (ho0:o=0) (hge:want≤hv) (bd:Int) (hbd:bd=(if 0<o then 0 else badV want hv)) :
 Calls Tryz.prog 118 #[.int .i64 want, .agg #[.int .i64 a0, .int .i64 a1, .int .i64 a2, .int .i64 a3]] w fun e w' =>
  e = .returned (setV (-1) o want hv bd 0)∧Below w.heap.size w w':=by
 have hn0:¬hv≤0:=by omega
 have hn1:decide (hv≤0)=false:=by simpa using hpos
 have hn4:¬hv<want:=by omega
 have hn5:decide (hv<want)=false:=by simpa using hge
 have HBD:=hidW hbd
 clear hbd
 go_enter Tryz.func118,Tryz.ntmps118
 go_wp2_with fail
 refine (highest_any _ _ _ _ _).mono ?_
 rintro e w2 ⟨rfl,hb2⟩
 rw[← ho,← hhv]
 clear ho hhv
 have R2:w2.heap[w.heap.size+1]? = some (setO 0 0 0 0 0 0):=block_keep (by have:=heap_alloc_new (w.alloc (.cells #[.int .i64 a0, .int .i64 a1, .int .i64 a2, .int .i64 a3] 197)) (setO 0 0 0 0 0 0);simpa using this) hb2
 have B2:Below w.heap.size w w2:=(((Below.refl _ _).alloc (Nat.le_refl _) _).alloc (by simp) _).trans (hb2.mono (by simp;omega))
 obtain⟨R,hR⟩:∃R,R=w.heap.size+1:=⟨_,rfl⟩
 rw[← hR] at R2 ⊢
 have HRR:Hid (w.heap.size≤R):=(by omega:w.heap.size≤R)
 have hRl:R<w2.heap.size:=(Array.getElem?_eq_some_iff.1 R2).1
 have HB:Hid (w2.heap[R]? = some (setO 0 0 0 0 0 0)∧Below w.heap.size w w2):=⟨R2,B2⟩
 obtain⟨q0,q1,q2,q3,q4,q5⟩:=set_cells R2
 have fr:∀j,w2.frozen? ⟨R,j,none⟩=false:=fun j=>frozen_of_row w2 R j _ _ R2
 clear hb2 R2 B2 hR
 subst ho0
 have HW:Hid (want≤9223372036854775807∧hv≤9223372036854775807):=⟨by omega,by omega⟩
 clear hw0 hw1 hd0 hd
 go_wp2_with fail
 refine (boundBad_any _ _ _ _ _ _ _ HW.1 HW.2).mono ?_
 rintro e w3 ⟨rfl,hb3⟩
 rw[← show bd=_ from HBD.out]
 obtain⟨S,hS⟩:∃S,S=w2.heap.size:=⟨_,rfl⟩
 have S3:w3.heap[w2.heap.size]? = some (setO (-1) 0 want hv 0 0):=block_keep (heap_alloc_new w2 _) hb3
 have R3:w3.heap[R]? = some (setO 0 0 0 0 0 0):=block_keep ((Below.heap_alloc _ _ _ hRl).trans HB.1) hb3
 have B3:Hid (Below w.heap.size w w3):=hidW ((HB.2.alloc HB.2.size _).trans (hb3.mono (by have:=HB.2.size;simp;omega)))
 rw[← hS] at S3 ⊢
 have hSR:S≠R:=by omega
 have HSB:Hid (w.heap.size≤S):=hidW (by have:=HB.2.size;omega)
 have hRl3:R<w3.heap.size:=(Array.getElem?_eq_some_iff.1 R3).1
 have hSl3:S<w3.heap.size:=(Array.getElem?_eq_some_iff.1 S3).1
 have HR3:=hidW R3
 have HS3:=hidW S3
 clear q0 q1 q2 q3 q4 q5 fr hRl
 obtain⟨q0,q1,q2,q3,q4,q5⟩:=set_cells R3
 obtain⟨s0,s1,s2,s3,s4,s5⟩:=set_cells S3
 have fr:∀j,w3.frozen? ⟨R,j,none⟩=false:=fun j=>frozen_of_row w3 R j _ _ R3
 have fs:∀j,w3.frozen? ⟨S,j,none⟩=false:=fun j=>frozen_of_row w3 S j _ _ S3
 have hRS:R≠S:=Ne.symm hSR
 clear hb3 R3 S3 HB hS
 go_wp2
 refine bodyPost_ret (v:=setV (-1) 0 want hv bd 0) (results_cell_row rfl _ _ R 28 _ (0,0) _ rfl (six_heap (a0:=0) (b0:=0) (c0:=0) (d0:=0) (e0:=0) (f0:=0) ?hh (-1) 0 want hv bd 0) Tryz.underlying28 rfl (by kernel_rfl)) rfl ⟨rfl,?_⟩
 case hh =>
  repeat (first | with_reducible exact HR3.out | (refine (Below.heap_setCell _ _ _ _ ?_).trans ?_;· first | exact hRS | exact hSR))
 ·have hr:=HRR.out
  have hs:=HSB.out
  repeat (first | with_reducible exact B3.out | (with_reducible refine Below.setCell ?_ ?_ _;rotate_left;focus (first | exact hr | exact hs)))
def ordOf (f o:Gl→Int) (gs:List Gl):Int:=(top (tot f o gs):Int)
def hvOf (f o:Gl→Int) (gs:List Gl):Int:=(tot f o gs).getD (top (tot f o gs)) 0
abbrev Sett.v (s:Sett):Value:=setV s.sign s.order s.want s.have_ s.bad s.over
def upS (gs:List Gl) (q:Int):Sett:=if hvOf Gl.p Gl.po gs≤0 then ⟨1,ordOf Gl.p Gl.po gs,q,hvOf Gl.p Gl.po gs,10000,0⟩ else ⟨1,ordOf Gl.p Gl.po gs,q,hvOf Gl.p Gl.po gs,if 0<ordOf Gl.p Gl.po gs then 0 else badV q (hvOf Gl.p Gl.po gs),0⟩
def upL (gs:List Gl) (q:Int):List Int:=if hvOf Gl.p Gl.po gs≤0 then sizes gs else plusL (sizes gs) (stp Gl.p Gl.po (ordOf Gl.p Gl.po gs) q (hvOf Gl.p Gl.po gs) gs).2.2
def downS (gs:List Gl) (q:Int):Sett:=if hvOf Gl.m Gl.mo gs≤0 then ⟨-1,ordOf Gl.m Gl.mo gs,q,hvOf Gl.m Gl.mo gs,1000000,q⟩ else if ordOf Gl.m Gl.mo gs=0∧hvOf Gl.m Gl.mo gs<q then ⟨-1,0,q,hvOf Gl.m Gl.mo gs,1000000,q - hvOf Gl.m Gl.mo gs⟩ else ⟨-1,ordOf Gl.m Gl.mo gs,q,hvOf Gl.m Gl.mo gs,if 0<ordOf Gl.m Gl.mo gs then 0 else badV q (hvOf Gl.m Gl.mo gs),0⟩
def downL (gs:List Gl) (q:Int):List Int:=if hvOf Gl.m Gl.mo gs≤0 then sizes gs else if ordOf Gl.m Gl.mo gs=0∧hvOf Gl.m Gl.mo gs<q then minusL (sizes gs) (stp Gl.m Gl.mo 0 (hvOf Gl.m Gl.mo gs) (hvOf Gl.m Gl.mo gs) gs).2.2 else minusL (sizes gs) (stp Gl.m Gl.mo (ordOf Gl.m Gl.mo gs) q (hvOf Gl.m Gl.mo gs) gs).2.2
def shareS (gs:List Gl) (q:Int):Sett:=if 0<q then upS gs q else if q<0 then downS gs (-q) else ⟨0,0,0,0,0,0⟩
def shareL (gs:List Gl) (q:Int):List Int:=if 0<q then upL gs q else if q<0 then downL gs (-q) else sizes gs
theorem ordOf_nn (f o:Gl→Int) (gs:List Gl):0≤ordOf f o gs:=by unfold ordOf;omega
theorem results_tmp_cell {fn:Func} {u p:Tmp} {ty:TypeId} (h:fn.results = #[.tmp u, .cell p ty]) (tmps:Array Value) (w:World) (g:Nat) (x y:Value) {P:Program}
 (hp:tmps.getD p undef = .pointer (some ⟨g,0,none⟩)) (hu:tmps.getD u undef=y) (hld:(loadVar ty ⟨g,0,none⟩).run P w = .ok x w) :
 (results fn tmps).run P w = .ok (.tuple #[y,x]) w:=by
 have hp':tmps[p]?.getD undef = .pointer (some ⟨g,0,none⟩):=by simpa using hp
 have hu':tmps[u]?.getD undef=y:=by simpa using hu
 simp[results,h,hp',hu',asAddr,hld,Result.andThen]
theorem Fr.trans {L:Nat} {w a b:World} (h:Fr L w a) (h2:Fr L a b):Fr L w b :=
 ⟨h2.1.trans h.1,h2.2.1.trans h.2.1,h2.2.2.1.trans h.2.2.1,Nat.le_trans h.2.2.2.1 h2.2.2.2.1,fun k hk hne=>(h2.2.2.2.2 k (Nat.lt_of_lt_of_le hk h.2.2.2.1) hne).trans (h.2.2.2.2 k hk hne)⟩
theorem sizes_snoc {gs:List Gl} {k:Nat} (h:k<gs.length):sizes (gs.take (k+1))=sizes (gs.take k) ++ [(gs.getD k Gl.none).s]:=by
 rw[take_snoc h];simp[sizes]
end Go.Proofs.YtbbehmcekbnkiaaGreat.Shr

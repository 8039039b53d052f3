import Derived.Test.YtbbehmcekbnkiaaGreatFnht
import Derived.Test.YtbbehmcekbnkiaaGreatApnt
namespace Go.Proofs.YtbbehmcekbnkiaaGreat
set_option maxHeartbeats 8000000
open Go.RowKit
set_option linter.unusedVariables false
set_option linter.unusedSimpArgs false
theorem ndC_cells {w:World}{R:Nat}{x:Nd}(h:w.heap[R]?=some (ndO x)):(∀j,w.cell? ⟨R,j,none⟩=(ndA x)[j]?)/\∀j,w.frozen? ⟨R,j,none⟩=false :=
 ⟨fun j=>cell_of_row w R j _ 36 _ h,fun j=>frozen_of_row w R j _ _ h⟩
theorem nd_15 {w:World}{R:Nat}{x:Nd}(h:w.heap[R]?=some (ndO x)):w.cell? ⟨R,0,none⟩=some (.int .i64 x.k)/\w.cell? ⟨R,1,none⟩=some (.int .i64 x.wd)/\w.cell? ⟨R,2,none⟩=some (.int .i64 x.ht)/\w.cell? ⟨R,3,none⟩=some (.int .i64 x.dp)/\w.cell? ⟨R,4,none⟩=some (.int .i64 x.sh)/\w.cell? ⟨R,5,none⟩=some (.int .i64 x.fo)/\w.cell? ⟨R,6,none⟩=some (.int .i64 x.ch)/\w.cell? ⟨R,7,none⟩=some (.int .i64 x.nn)/\w.cell? ⟨R,8,none⟩=some (.int .i64 x.gs)/\w.cell? ⟨R,9,none⟩=some (.int .i64 x.gp)/\w.cell? ⟨R,10,none⟩=some (.int .i64 x.gpo)/\w.cell? ⟨R,11,none⟩=some (.int .i64 x.gm)/\w.cell? ⟨R,12,none⟩=some (.int .i64 x.gmo)/\w.cell? ⟨R,13,none⟩=some (.string x.tx)/\w.cell? ⟨R,14,none⟩=some (.int .i64 x.kids):=by
 have h:=(ndC_cells h).1
 exact⟨h 0,h 1,h 2,h 3,h 4,h 5,h 6,h 7,h 8,h 9,h 10,h 11,h 12,h 13,h 14⟩
set_option maxRecDepth 20000 in
theorem char8_any (n:Nat)(c:Int)(w:World)(hn:n<=15) :
 Calls Tryz.prog 101 #[.int .i64 (n:Int),.int .i64 c] w fun e w'=>∃x:Nd,(e = .returned (ndV x)/\x.tx=⟨#[]⟩)/\Below w.heap.size w w':=by
 have hR0:=heap_alloc_new w (ndO Nd.none)
 have hB0:=below1 w (ndO Nd.none)
 go_enter Tryz.func101,Tryz.ntmps101
 go_wp2_with fail
 refine(plainFont_any n _ hn).mono ?_
 rintro e w1 ⟨nm,gv,pa,pn,pc,s1,s2,s3,s4,s5,q,r,m,rfl,hr,hm,hb1⟩
 have hsz:w.heap.size<w1.heap.size:=by have:=hb1.size;simp at this;omega
 have hR1:w1.heap[w.heap.size]?=some (ndO Nd.none):=(hb1.block _ (by simp)).trans hR0
 have HB1:Hid (Below w.heap.size w w1):=hideP (below_more hB0 hb1 (by simp))
 obtain⟨ga,gc,rfl⟩:=hr.shape0
 have HR1:=hideP hR1
 have HG:=hideP hr
 clear hR0 hB0 hb1 hR1 hr
 go_wp2_with fail
 have hB2:=below1 w1 (.cells (ftA nm (.slice ga m gc) (.slice pa pn pc) s1 s2 s3 s4 s5 q r) 211)
 refine(glyph_any c _ (HG.out.below hB2) hm).mono ?_
 rintro e w2 ⟨i,rfl,i0,i1,hb2⟩
 have hsz2:w1.heap.size<w2.heap.size:=by have:=hb2.size;simp at this;omega
 have hF2:w2.heap[w1.heap.size]?=some (.cells (ftA nm (.slice ga m gc) (.slice pa pn pc) s1 s2 s3 s4 s5 q r) 211 (0,0)):=(hb2.block _ (by simp)).trans (heap_alloc_new w1 _)
 have hR2:w2.heap[w.heap.size]?=some (ndO Nd.none):=(hb2.block _ (by simp;omega)).trans ((Below.heap_alloc _ _ _ hsz).trans HR1.out)
 have hBB:Below w.heap.size w w2:=below_more (HB1.out.alloc HB1.out.size _) hb2 (by have:=HB1.out.size;simp;omega)
 have hG2:=(HG.out.below hB2).below hb2
 have HBB:=hideP hBB
 have HR2:=hideP hR2
 have HG2:=hideP hG2
 have f1:w2.cell? ⟨w1.heap.size,1,none⟩=some (.slice ga m gc):=cell_of_row _ _ 1 _ 211 _ hF2
 clear hB2 hb2 hF2 hR2 hBB hG2 HG HR1 HB1
 obtain⟨R,hR⟩:=exq (w.heap.size)
 rw[<-hR] at HR2
 by_cases hi:i<0
 ·obtain⟨r0,r1,r2,r3,r4,r5,r6,r7,r8,r9,r10,r11,r12,r13,r14⟩:=nd_15 HR2.out
  have fR:=(ndC_cells HR2.out).2
  have HF:Hid ((fif w2 R 2 0 0 0 0 0 0 0 0 0 0 0 0 ⟨#[]⟩ 0).heap[R]?=some (ndO ⟨2,0,0,0,0,0,0,0,0,0,0,0,0,⟨#[]⟩,0⟩)/\Below w.heap.size w (fif w2 R 2 0 0 0 0 0 0 0 0 0 0 0 0 ⟨#[]⟩ 0)):=hideP ⟨fif_heap HR2.out _ _ _ _ _ _ _ _ _ _ _ _ _ _ _,fif_below HBB.out (by omega) _ _ _ _ _ _ _ _ _ _ _ _ _ _ _⟩
  rw[<-hR]
  clear hR
  go_wp2
  exact bodyPost_ret (v:=ndV ⟨2,0,0,0,0,0,0,0,0,0,0,0,0,⟨#[]⟩,0⟩) (results_cell_row rfl _ _ R 36 _ (0,0) _ rfl HF.out.1 Tryz.underlying36 rfl (by kernel_rfl)) rfl ⟨⟨2,0,0,0,0,0,0,0,0,0,0,0,0,⟨#[]⟩,0⟩,⟨rfl,rfl⟩,HF.out.2⟩
 ·obtain⟨k,rfl⟩:∃k:Nat,i=(k:Int):=⟨i.toNat,by omega⟩
  have hkm:k<m:=by omega
  obtain⟨g,cap,hv,hc⟩:=HG2.out.cell
  obtain⟨hve,hgl⟩:=hv (by omega)
  cases hve
  obtain⟨y0,hy0⟩:=hc (k*4) (by omega)
  obtain⟨y1,hy1⟩:=hc (k*4+1) (by omega)
  obtain⟨y2,hy2⟩:=hc (k*4+2) (by omega)
  obtain⟨y3,hy3⟩:=hc (k*4+3) (by omega)
  have hRA:(w2.alloc (.cells (gyA y0 y1 y2 y3) 215)).heap[R]?=some (ndO Nd.none):=(Below.heap_alloc _ _ _ (by omega)).trans HR2.out
  have HBA:Hid (Below w.heap.size w (w2.alloc (.cells (gyA y0 y1 y2 y3) 215))):=hideP (HBB.out.alloc HBB.out.size _)
  clear hv hc HG2
  obtain⟨r0,r1,r2,r3,r4,r5,r6,r7,r8,r9,r10,r11,r12,r13,r14⟩:=nd_15 hRA
  have fR:=(ndC_cells hRA).2
  have HF:Hid ((fif (w2.alloc (.cells (gyA y0 y1 y2 y3) 215)) R 1 y1 y2 y3 0 (n:Int) c 0 0 0 0 0 0 ⟨#[]⟩ 0).heap[R]?=some (ndO ⟨1,y1,y2,y3,0,(n:Int),c,0,0,0,0,0,0,⟨#[]⟩,0⟩)/\Below w.heap.size w (fif (w2.alloc (.cells (gyA y0 y1 y2 y3) 215)) R 1 y1 y2 y3 0 (n:Int) c 0 0 0 0 0 0 ⟨#[]⟩ 0)):=hideP ⟨fif_heap hRA _ _ _ _ _ _ _ _ _ _ _ _ _ _ _,fif_below HBA.out (by omega) _ _ _ _ _ _ _ _ _ _ _ _ _ _ _⟩
  rw[<-hR]
  clear hR hRA
  go_wp2
  exact bodyPost_ret (v:=ndV ⟨1,y1,y2,y3,0,(n:Int),c,0,0,0,0,0,0,⟨#[]⟩,0⟩) (results_cell_row rfl _ _ R 36 _ (0,0) _ rfl HF.out.1 Tryz.underlying36 rfl (by kernel_rfl)) rfl ⟨⟨1,y1,y2,y3,0,(n:Int),c,0,0,0,0,0,0,⟨#[]⟩,0⟩,⟨rfl,rfl⟩,HF.out.2⟩
theorem hideD {p:Prop}(h:p):Hid p:=h
def Bytes (w:World)(ao:Option Addr)(len cap:Nat):Prop :=
 len<=140737488351232/\len<=cap/\(0<len->∃b off,ao=some ⟨b,off,none⟩/\b<w.heap.size/\∀i,i<len->∃x:Int,0<=x/\x<=255/\w.cell? ⟨b,off+i,none⟩=some (.int .u8 x))
theorem Bytes.kept {w w':World}{ao:Option Addr}{len cap:Nat}(h:Bytes w ao len cap)(hb:Below w.heap.size w w'):Bytes w' ao len cap:=by
 refine⟨h.1,h.2.1,fun hl=>?_⟩
 obtain⟨b,off,e,hbz,hc⟩:=h.2.2 hl
 refine⟨b,off,e,by have:=hb.size;omega,fun i hi=>?_⟩
 obtain⟨x,x0,x1,hx⟩:=hc i hi
 exact⟨x,x0,x1,(hb.cell (p:=⟨b,off+i,none⟩) hbz).trans hx⟩
def I64 (x:Int):Prop:=-9223372036854775808<=x/\x<=9223372036854775807
theorem bits_i64 (op:BinOp)(a b:Int):I64 (bits op .i64 a b):=by
 have h:=bits_within op .i64 a b
 simp[IntKind.min,IntKind.max,IntKind.signed,IntKind.bits] at h
 unfold I64
 omega
theorem and255 (n:Int):0<=bits .and .i64 n 255/\bits .and .i64 n 255<=255:=by
 have h255:(BitVec.ofInt 64 255).toNat=2 ^ 8-1:=by decide
 have key:(BitVec.ofInt 64 n &&& BitVec.ofInt 64 255).toNat=(n % ((2 ^ 64:Nat):Int)).toNat % 2 ^ 8:=by
  rw[BitVec.toNat_and,BitVec.toNat_ofInt,h255,Nat.and_two_pow_sub_one_eq_mod]
 have e:bits .and .i64 n 255=n % 256:=by
  show IntKind.i64.wrap ((BitVec.ofInt 64 n &&& BitVec.ofInt 64 255).toNat:Nat)=n % 256
  rw[key,IntKind.wrap_i64]
  omega
 rw[e]
 omega
theorem wrapI64 (n:Int):I64 (wrap64 n):=by
 unfold I64 wrap64
 omega
def Cur (w wr:World)(ao:Option Addr)(len cap:Nat):Prop :=
 ∃(i:Nat) (h:Int),i<=len/\I64 h/\wr.heap[w.heap.size]?=some (.cells #[.slice ao len cap,.int .i64 (i:Int),.int .i64 h] 124 (0,0))/\Below w.heap.size w wr
abbrev curP (w:World):Value:= .pointer (some ⟨w.heap.size,0,none⟩)
theorem new_any (ao:Option Addr)(len cap:Nat)(w:World)(hB:Bytes w ao len cap):Calls Tryz.prog 27 #[.slice ao len cap] w fun e w'=>e = .returned (curP w)/\Cur w w' ao len cap:=by
 have hl:=hB.1
 have HB:=hideD hB
 clear hB
 go_enter Tryz.func27,Tryz.ntmps27
 go_wp2_with fail
 go_loop [3,4] (fun s3 s4=>∃(k:Nat) (h:Int),k<=len/\s4 = .int .i64 (k:Int)/\s3 = .int .i64 h/\I64 h) (fun _ s4=>len-(intOf s4).toNat)
 case atStart=>exact⟨0,_,Nat.zero_le _,rfl,rfl,by unfold I64;omega⟩
 case round =>
  obtain⟨k,h,hk,rfl,rfl,hh⟩:=hrel
  by_cases hlt:k<len
  ·obtain⟨b,off,rfl,_,hc⟩:=HB.out.2.2 (by omega)
   obtain⟨x,x0,x1,hx⟩:=hc k hlt
   have HH:=hideD hh
   clear hh hc HB
   go_wp2
   go_round
   case rel =>
    exact⟨k+1,_,by omega,by go_num,rfl,bits_i64 _ _ _⟩
   case measure=>simp[intOf];omega
  ·have HH:=hideD hh
   clear hh
   go_wp2
   go_ret
   exact⟨rfl,0,h,Nat.zero_le _,HH.out,heap_alloc_new w _,(Below.refl _ _).alloc (Nat.le_refl _) _⟩
theorem Cur.cells {w wr:World}{ao:Option Addr}{len cap:Nat}{i:Nat}{h:Int}(hh:wr.heap[w.heap.size]?=some (.cells #[.slice ao len cap,.int .i64 (i:Int),.int .i64 h] 124 (0,0))) :
 wr.cell? ⟨w.heap.size,0,none⟩=some (.slice ao len cap)/\wr.cell? ⟨w.heap.size,1,none⟩=some (.int .i64 (i:Int))/\wr.cell? ⟨w.heap.size,2,none⟩=some (.int .i64 h)/\∀o,wr.frozen? ⟨w.heap.size,o,none⟩=false:=by
 refine⟨?_,?_,?_,fun o=>?_⟩
 ·simp[World.cell?,hh]
 ·simp[World.cell?,hh]
 ·simp[World.cell?,hh]
 ·simp[World.frozen?,hh]
def Other (w wr w':World):Prop:=∀b,b≠w.heap.size->w'.heap[b]?=wr.heap[b]?
theorem Other.trans {w a b c:World}(h:Other w a b)(k:Other w b c):Other w a c:=fun n hn=>(k n hn).trans (h n hn)
theorem Other.cell {w a b:World}(h:Other w a b){n o:Nat}(hn:n≠w.heap.size):b.cell? ⟨n,o,none⟩=a.cell? ⟨n,o,none⟩:=World.cell?_of_block (w:=a) (h n hn)
theorem Cur.alloc {w wr:World}{ao:Option Addr}{len cap:Nat}(h:Cur w wr ao len cap)(o:Obj):Cur w (wr.alloc o) ao len cap:=by
 obtain⟨i,x,h1,h2,h3,h4⟩:=h
 refine⟨i,x,h1,h2,?_,h4.alloc h4.size o⟩
 rw[Below.heap_alloc _ _ _ (glt h3)]
 exact h3
theorem cur_set1 {w wr:World}{ao:Option Addr}{len cap:Nat}{x y z:Value}(hh:wr.heap[w.heap.size]?=some (.cells #[x,y,z] 124 (0,0)))(v:Value) :
 (wr.setCell ⟨w.heap.size,1,none⟩ v).heap[w.heap.size]?=some (.cells #[x,v,z] 124 (0,0)):=by
 simp[World.setCell,Array.getElem?_modify,hh]
theorem cur_set2 {w wr:World}{x y z:Value}(hh:wr.heap[w.heap.size]?=some (.cells #[x,y,z] 124 (0,0)))(v:Value) :
 (wr.setCell ⟨w.heap.size,2,none⟩ v).heap[w.heap.size]?=some (.cells #[x,y,v] 124 (0,0)):=by
 simp[World.setCell,Array.getElem?_modify,hh]
theorem byte_any (ao:Option Addr)(len cap:Nat)(w wr:World)(hB:Bytes w ao len cap)(hC:Cur w wr ao len cap) :
 Calls Tryz.prog 66 #[curP w] wr fun e w'=>∃x:Int,e = .returned (.int .i64 x)/\0<=x/\x<=255/\Cur w w' ao len cap/\Other w wr w':=by
 have hl:=hB.1
 obtain⟨i,h,hi,hh,hblk,hbel⟩:=hC
 obtain⟨q0,q1,q2,qf⟩:=Cur.cells hblk
 have HB:=hideD hB
 have HH:=hideD hh
 have HBLK:=hideD hblk
 have HBEL:=hideD hbel
 clear hB hh hblk hbel
 by_cases hlt:i<len
 ·obtain⟨b,off,rfl,hbz,hc⟩:=HB.out.2.2 (by omega)
  obtain⟨x,x0,x1,hx⟩:=hc i hlt
  have hx':wr.cell? ⟨b,off+i,none⟩=some (.int .u8 x):=(HBEL.out.cell (p:=⟨b,off+i,none⟩) hbz).trans hx
  have hne:b≠w.heap.size:=by omega
  have hne':¬w.heap.size=b:=by omega
  have hlt1:(i:Int)<(len:Int):=by omega
  clear hc hx HB
  go_enter Tryz.func66,Tryz.ntmps66
  go_wp2
  go_quiet (fail)
  go_wp2
  go_quiet (fail)
  go_wp2
  go_quiet (fail)
  go_wp2
  go_ret
  refine⟨_,rfl,(and255 _).1,(and255 _).2,⟨i+1,wrap64 (wrap64 (h*6364136223846793005)+1442695040888963407),by omega,wrapI64 _,?_,(below_drewN (HBEL.out.setCell (Nat.le_refl _) _) _).setCell (Nat.le_refl _) _⟩,fun b hb=>(Below.heap_setCell _ _ _ _ hb).trans (Below.heap_setCell _ _ _ _ hb)⟩
  have:=cur_set1 (w:=w) (wr:=(wr.setCell ⟨w.heap.size,2,none⟩ (.int .i64 (wrap64 (wrap64 (h*6364136223846793005)+1442695040888963407)))).drewN 0) (ao:=none) (len:=0) (cap:=0) (cur_set2 HBLK.out _) (.int .i64 ((i+1:Nat):Int))
  exact this
 ·have hnlt:¬(i:Int)<(len:Int):=by omega
  have hnl:decide ((i:Int)<(len:Int))=false:=by simp;omega
  go_enter Tryz.func66,Tryz.ntmps66
  go_wp2
  go_quiet (fail)
  go_wp2
  go_quiet (fail)
  go_wp2
  go_ret
  exact⟨_,rfl,(and255 _).1,(and255 _).2,⟨i,_,hi,wrapI64 _,cur_set2 HBLK.out _,below_drewN (below_drewN (HBEL.out.setCell (Nat.le_refl _) _) _) _⟩,fun b hb=>Below.heap_setCell _ _ _ _ hb⟩
theorem belowN_any (n:Int)(ao:Option Addr)(len cap:Nat)(w wr:World)(hB:Bytes w ao len cap)(hC:Cur w wr ao len cap)(h1:1<=n)(h2:n<=9223372036854775807) :
 Calls Tryz.prog 39 #[curP w,.int .i64 n] wr fun e w'=>∃x:Int,e = .returned (.int .i64 x)/\0<=x/\x<n/\Cur w w' ao len cap/\Other w wr w':=by
 have HB:=hideD hB
 have HC:=hideD hC
 clear hB hC
 by_cases h3:n<=256
 ·go_enter Tryz.func39,Tryz.ntmps39
  go_wp2_with fail
  refine(byte_any ao len cap w wr HB.out HC.out).mono ?_
  rintro e w1 ⟨x,rfl,x0,x1,c1,o1⟩
  have C1:=hideD c1
  have O1:=hideD o1
  clear c1 o1
  go_wp2
  go_ret
  exact⟨_,rfl,Int.emod_nonneg _ (by omega),Int.emod_lt_of_pos _ (by omega),C1.out,O1.out⟩
 ·go_enter Tryz.func39,Tryz.ntmps39
  go_wp2_with fail
  refine(byte_any ao len cap w wr HB.out HC.out).mono ?_
  rintro e w1 ⟨x,rfl,x0,x1,c1,o1⟩
  have C1:=hideD c1
  have O1:=hideD o1
  clear c1 o1
  go_wp2_with fail
  refine(byte_any ao len cap w _ HB.out C1.out).mono ?_
  rintro e w2 ⟨y,rfl,y0,y1,c2,o2⟩
  have C2:=hideD c2
  have O2:=hideD o2
  clear c2 o2
  go_wp2_with fail
  refine(byte_any ao len cap w _ HB.out C2.out).mono ?_
  rintro e w3 ⟨z,rfl,z0,z1,c3,o3⟩
  have C3:=hideD c3
  have O3:=hideD o3
  clear c3 o3
  go_wp2_with fail
  refine(byte_any ao len cap w _ HB.out C3.out).mono ?_
  rintro e w4 ⟨u,rfl,u0,u1,c4,o4⟩
  have C4:=hideD c4
  have O4:=hideD o4
  clear c4 o4
  go_wp2
  go_ret
  exact⟨_,rfl,Int.emod_nonneg _ (by omega),Int.emod_lt_of_pos _ (by omega),C4.out,((O1.out.trans O2.out).trans O3.out).trans O4.out⟩
theorem once_any (n:Int)(ao:Option Addr)(len cap:Nat)(w wr:World)(hB:Bytes w ao len cap)(hC:Cur w wr ao len cap)(h1:1<=n)(h2:n<=9223372036854775807) :
 Calls Tryz.prog 38 #[curP w,.int .i64 n] wr fun e w'=>∃x:Bool,e = .returned (.bool x)/\Cur w w' ao len cap/\Other w wr w':=by
 have HB:=hideD hB
 have HC:=hideD hC
 clear hB hC
 go_enter Tryz.func38,Tryz.ntmps38
 go_wp2_with fail
 refine(belowN_any n ao len cap w wr HB.out HC.out h1 h2).mono ?_
 rintro e w1 ⟨x,rfl,x0,x1,c1,o1⟩
 have C1:=hideD c1
 have O1:=hideD o1
 clear c1 o1
 go_wp2
 go_ret
 exact⟨_,rfl,C1.out,O1.out⟩
def Fram (w wr w':World):Prop:=wr.heap.size<=w'.heap.size/\∀b,b<wr.heap.size->b≠w.heap.size->w'.heap[b]?=wr.heap[b]?
theorem Fram.refl (w wr:World):Fram w wr wr:=⟨Nat.le_refl _,fun _ _ _=>rfl⟩
theorem Fram.trans {w a b c:World}(h:Fram w a b)(k:Fram w b c):Fram w a c:=⟨Nat.le_trans h.1 k.1,fun n hn hne=>(k.2 n (Nat.lt_of_lt_of_le hn h.1) hne).trans (h.2 n hn hne)⟩
theorem Fram.alloc {w a b:World}(h:Fram w a b)(o:Obj):Fram w a (b.alloc o):=⟨by have:=h.1;simp;omega,fun n hn hne=>(Below.heap_alloc _ _ _ (Nat.lt_of_lt_of_le hn h.1)).trans (h.2 n hn hne)⟩
theorem Other.size {w a b:World}(h:Other w a b)(hc:w.heap.size<b.heap.size):a.heap.size<=b.heap.size:=by
 by_cases hlt:a.heap.size<=b.heap.size
 ·exact hlt
 ·exfalso
  have h1:=h b.heap.size (by omega)
  rw[Array.getElem?_eq_none (Nat.le_refl _),Array.getElem?_eq_getElem (by omega)] at h1
  cases h1
theorem Cur.lt {w wr:World}{ao:Option Addr}{len cap:Nat}(h:Cur w wr ao len cap):w.heap.size<wr.heap.size:=by
 obtain⟨_,_,_,_,h3,_⟩:=h
 exact(glt h3)
theorem Fram.other {w a b c:World}{ao:Option Addr}{len cap:Nat}(h:Fram w a b)(k:Other w b c)(hc:Cur w c ao len cap):Fram w a c :=
 h.trans ⟨Other.size k hc.lt,fun n _ hne=>k n hne⟩
theorem six_cells (w:World):∀j:Nat,j<6->∃v:Int,I64 v/\(w.alloc (.cells #[.int .i64 1073741823,.int .i64 1073741824,.int .i64 (-1073741823),.int .i64 (-1073741824),.int .i64 4611686018427387904,.int .i64 (-9223372036854775808)] 2)).cell? ⟨w.heap.size,j,none⟩=some (.int .i64 v):=by
 intro j hj
 have:j=0\/j=1\/j=2\/j=3\/j=4\/j=5:=by omega
 rcases this with rfl|rfl|rfl|rfl|rfl|rfl
 ·exact⟨1073741823,by unfold I64;omega,by simp[go_sem]⟩
 ·exact⟨1073741824,by unfold I64;omega,by simp[go_sem]⟩
 ·exact⟨-1073741823,by unfold I64;omega,by simp[go_sem]⟩
 ·exact⟨-1073741824,by unfold I64;omega,by simp[go_sem]⟩
 ·exact⟨4611686018427387904,by unfold I64;omega,by simp[go_sem]⟩
 ·exact⟨-9223372036854775808,by unfold I64;omega,by simp[go_sem]⟩
theorem drawLen_kept (ao:Option Addr)(len cap:Nat)(w wr:World)(hB:Bytes w ao len cap)(hC:Cur w wr ao len cap) :
 Calls Tryz.prog 43 #[curP w] wr fun e w'=>∃x:Int,e = .returned (.int .i64 x)/\I64 x/\(Cur w w' ao len cap/\Fram w wr w'):=by
 have HB:=hideD hB
 have HC:=hideD hC
 clear hB hC
 go_enter Tryz.func43,Tryz.ntmps43
 go_wp2_with fail
 refine(belowN_any 1310720 ao len cap w wr HB.out HC.out (by omega) (by omega)).mono ?_
 rintro e w1 ⟨x,rfl,x0,x1,c1,o1⟩
 have C1:=hideD (And.intro c1 (Fram.other (Fram.refl w wr) o1 c1))
 clear c1 o1 HC
 go_wp2_with fail
 refine(belowN_any 12 ao len cap w _ HB.out C1.out.1 (by omega) (by omega)).mono ?_
 rintro e w2 ⟨k,rfl,k0,k1,c2,o2⟩
 have C2:=hideD (And.intro c2 (Fram.other C1.out.2 o2 c2))
 clear c2 o2 C1
 by_cases e0:k=0
 ·subst e0
  go_wp2_with fail
  refine(once_any 40 ao len cap w _ HB.out C2.out.1 (by omega) (by omega)).mono ?_
  rintro e w4 ⟨bb,rfl,c4,o4⟩
  have C4:=hideD (And.intro c4 (Fram.other C2.out.2 o4 c4))
  clear c4 o4
  cases bb
  ·go_wp2
   go_ret
   exact⟨_,rfl,by unfold I64;omega,C4.out⟩
  ·have hsz:w.heap.size<w4.heap.size:=by
    obtain⟨_,_,_,_,h3,_⟩   :=C4.out.1
    exact(glt h3)
   have S6:=hideD (six_cells w4)
   go_wp2_with fail
   refine(belowN_any 6 ao len cap w _ HB.out (C4.out.1.alloc _) (by omega) (by omega)).mono ?_
   rintro e w5 ⟨j,rfl,j0,j1,c5,o5⟩
   obtain⟨jn,rfl⟩:=Int.eq_ofNat_of_zero_le j0
   obtain⟨v,hv,hcv⟩:=S6.out jn (by omega)
   have hcell:=(o5.cell (n:=w4.heap.size) (o:=jn) (by omega)).trans hcv
   have HV:=hideD hv
   have C5:=hideD (And.intro c5 (Fram.other (Fram.alloc C4.out.2 _) o5 c5))
   clear c5 o5 hcv hv S6
   go_wp2
   go_ret
   exact⟨_,rfl,HV.out,C5.out⟩
 have n0:(k == 0)=false:=by simp[e0]
 by_cases e1:k=1
 ·subst e1
  go_wp2_with fail
  refine(once_any 40 ao len cap w _ HB.out C2.out.1 (by omega) (by omega)).mono ?_
  rintro e w4 ⟨bb,rfl,c4,o4⟩
  have C4:=hideD (And.intro c4 (Fram.other C2.out.2 o4 c4))
  clear c4 o4
  cases bb
  ·go_wp2
   go_ret
   exact⟨_,rfl,by unfold I64;omega,C4.out⟩
  ·have hsz:w.heap.size<w4.heap.size:=by
    obtain⟨_,_,_,_,h3,_⟩   :=C4.out.1
    exact(glt h3)
   have S6:=hideD (six_cells w4)
   go_wp2_with fail
   refine(belowN_any 6 ao len cap w _ HB.out (C4.out.1.alloc _) (by omega) (by omega)).mono ?_
   rintro e w5 ⟨j,rfl,j0,j1,c5,o5⟩
   obtain⟨jn,rfl⟩:=Int.eq_ofNat_of_zero_le j0
   obtain⟨v,hv,hcv⟩:=S6.out jn (by omega)
   have hcell:=(o5.cell (n:=w4.heap.size) (o:=jn) (by omega)).trans hcv
   have HV:=hideD hv
   have C5:=hideD (And.intro c5 (Fram.other (Fram.alloc C4.out.2 _) o5 c5))
   clear c5 o5 hcv hv S6
   go_wp2
   go_ret
   exact⟨_,rfl,HV.out,C5.out⟩
 have n1:(k == 1)=false:=by simp[e1]
 by_cases e2:k=2
 ·subst e2
  go_wp2_with fail
  refine(belowN_any 100 ao len cap w _ HB.out C2.out.1 (by omega) (by omega)).mono ?_
  rintro e w3 ⟨y,rfl,y0,y1,c3,o3⟩
  have C3:=hideD (And.intro c3 (Fram.other C2.out.2 o3 c3))
  clear c3 o3 C2
  go_wp2_with fail
  refine(once_any 40 ao len cap w _ HB.out C3.out.1 (by omega) (by omega)).mono ?_
  rintro e w4 ⟨bb,rfl,c4,o4⟩
  have C4:=hideD (And.intro c4 (Fram.other C3.out.2 o4 c4))
  clear c4 o4
  cases bb
  ·go_wp2
   go_ret
   exact⟨_,rfl,by unfold I64;omega,C4.out⟩
  ·have hsz:w.heap.size<w4.heap.size:=by
    obtain⟨_,_,_,_,h3,_⟩   :=C4.out.1
    exact(glt h3)
   have S6:=hideD (six_cells w4)
   go_wp2_with fail
   refine(belowN_any 6 ao len cap w _ HB.out (C4.out.1.alloc _) (by omega) (by omega)).mono ?_
   rintro e w5 ⟨j,rfl,j0,j1,c5,o5⟩
   obtain⟨jn,rfl⟩:=Int.eq_ofNat_of_zero_le j0
   obtain⟨v,hv,hcv⟩:=S6.out jn (by omega)
   have hcell:=(o5.cell (n:=w4.heap.size) (o:=jn) (by omega)).trans hcv
   have HV:=hideD hv
   have C5:=hideD (And.intro c5 (Fram.other (Fram.alloc C4.out.2 _) o5 c5))
   clear c5 o5 hcv hv S6
   go_wp2
   go_ret
   exact⟨_,rfl,HV.out,C5.out⟩
 have n2:(k == 2)=false:=by simp[e2]
 by_cases e3:k=3
 ·subst e3
  go_wp2_with fail
  refine(belowN_any 300 ao len cap w _ HB.out C2.out.1 (by omega) (by omega)).mono ?_
  rintro e w3 ⟨y,rfl,y0,y1,c3,o3⟩
  have C3:=hideD (And.intro c3 (Fram.other C2.out.2 o3 c3))
  clear c3 o3 C2
  go_wp2_with fail
  refine(once_any 40 ao len cap w _ HB.out C3.out.1 (by omega) (by omega)).mono ?_
  rintro e w4 ⟨bb,rfl,c4,o4⟩
  have C4:=hideD (And.intro c4 (Fram.other C3.out.2 o4 c4))
  clear c4 o4
  cases bb
  ·go_wp2
   go_ret
   exact⟨_,rfl,by unfold I64;omega,C4.out⟩
  ·have hsz:w.heap.size<w4.heap.size:=by
    obtain⟨_,_,_,_,h3,_⟩   :=C4.out.1
    exact(glt h3)
   have S6:=hideD (six_cells w4)
   go_wp2_with fail
   refine(belowN_any 6 ao len cap w _ HB.out (C4.out.1.alloc _) (by omega) (by omega)).mono ?_
   rintro e w5 ⟨j,rfl,j0,j1,c5,o5⟩
   obtain⟨jn,rfl⟩:=Int.eq_ofNat_of_zero_le j0
   obtain⟨v,hv,hcv⟩:=S6.out jn (by omega)
   have hcell:=(o5.cell (n:=w4.heap.size) (o:=jn) (by omega)).trans hcv
   have HV:=hideD hv
   have C5:=hideD (And.intro c5 (Fram.other (Fram.alloc C4.out.2 _) o5 c5))
   clear c5 o5 hcv hv S6
   go_wp2
   go_ret
   exact⟨_,rfl,HV.out,C5.out⟩
 have n3:(k == 3)=false:=by simp[e3]
 by_cases e4:k=4
 ·subst e4
  go_wp2_with fail
  refine(belowN_any 1073741823 ao len cap w _ HB.out C2.out.1 (by omega) (by omega)).mono ?_
  rintro e w3 ⟨y,rfl,y0,y1,c3,o3⟩
  have C3:=hideD (And.intro c3 (Fram.other C2.out.2 o3 c3))
  clear c3 o3 C2
  go_wp2_with fail
  refine(once_any 40 ao len cap w _ HB.out C3.out.1 (by omega) (by omega)).mono ?_
  rintro e w4 ⟨bb,rfl,c4,o4⟩
  have C4:=hideD (And.intro c4 (Fram.other C3.out.2 o4 c4))
  clear c4 o4
  cases bb
  ·go_wp2
   go_ret
   exact⟨_,rfl,by unfold I64;omega,C4.out⟩
  ·have hsz:w.heap.size<w4.heap.size:=by
    obtain⟨_,_,_,_,h3,_⟩   :=C4.out.1
    exact(glt h3)
   have S6:=hideD (six_cells w4)
   go_wp2_with fail
   refine(belowN_any 6 ao len cap w _ HB.out (C4.out.1.alloc _) (by omega) (by omega)).mono ?_
   rintro e w5 ⟨j,rfl,j0,j1,c5,o5⟩
   obtain⟨jn,rfl⟩:=Int.eq_ofNat_of_zero_le j0
   obtain⟨v,hv,hcv⟩:=S6.out jn (by omega)
   have hcell:=(o5.cell (n:=w4.heap.size) (o:=jn) (by omega)).trans hcv
   have HV:=hideD hv
   have C5:=hideD (And.intro c5 (Fram.other (Fram.alloc C4.out.2 _) o5 c5))
   clear c5 o5 hcv hv S6
   go_wp2
   go_ret
   exact⟨_,rfl,HV.out,C5.out⟩
 have n4:(k == 4)=false:=by simp[e4]
 go_wp2_with fail
 refine(once_any 40 ao len cap w _ HB.out C2.out.1 (by omega) (by omega)).mono ?_
 rintro e w4 ⟨bb,rfl,c4,o4⟩
 have C4:=hideD (And.intro c4 (Fram.other C2.out.2 o4 c4))
 clear c4 o4
 cases bb
 ·go_wp2
  go_ret
  exact⟨_,rfl,by unfold I64;omega,C4.out⟩
 ·have hsz:w.heap.size<w4.heap.size:=by
   obtain⟨_,_,_,_,h3,_⟩   :=C4.out.1
   exact(glt h3)
  have S6:=hideD (six_cells w4)
  go_wp2_with fail
  refine(belowN_any 6 ao len cap w _ HB.out (C4.out.1.alloc _) (by omega) (by omega)).mono ?_
  rintro e w5 ⟨j,rfl,j0,j1,c5,o5⟩
  obtain⟨jn,rfl⟩:=Int.eq_ofNat_of_zero_le j0
  obtain⟨v,hv,hcv⟩:=S6.out jn (by omega)
  have hcell:=(o5.cell (n:=w4.heap.size) (o:=jn) (by omega)).trans hcv
  have HV:=hideD hv
  have C5:=hideD (And.intro c5 (Fram.other (Fram.alloc C4.out.2 _) o5 c5))
  clear c5 o5 hcv hv S6
  go_wp2
  go_ret
  exact⟨_,rfl,HV.out,C5.out⟩
abbrev glueO (a b c d e:Int):Obj:= .cells #[.int .i64 a,.int .i64 b,.int .i64 c,.int .i64 d,.int .i64 e] 34 (0,0)
theorem Cur.set {w wi:World}{ao:Option Addr}{len cap G:Nat}(h:Cur w wi ao len cap)(hG:w.heap.size<G)(k:Nat)(v:Value):Cur w (wi.setCell ⟨G,k,none⟩ v) ao len cap:=by
 obtain⟨i,h',h1,h2,h3,h4⟩:=h
 exact⟨i,h',h1,h2,(Below.heap_setCell _ _ _ _ (by simp;omega)).trans h3,h4.setCell (p:=⟨G,k,none⟩) (Nat.le_of_lt hG) _⟩
theorem Fram.set {w wr wi:World}{G:Nat}(h:Fram w wr wi)(hG:wr.heap.size<=G)(k:Nat)(v:Value):Fram w wr (wi.setCell ⟨G,k,none⟩ v) :=
 ⟨by simpa [World.setCell] using h.1,fun n hn hne=>(Below.heap_setCell _ _ _ _ (by simp;omega)).trans (h.2 n hn hne)⟩
def DG (w wr wi:World)(ao:Option Addr)(len cap R G:Nat)(a b c d e:Int):Prop:=Cur w wi ao len cap/\Fram w wr wi/\wi.heap[R]?=some (glueO 0 0 0 0 0)/\wi.heap[G]?=some (glueO a b c d e)
theorem DG.other {w wr wi wj:World}{ao:Option Addr}{len cap R G:Nat}{a b c d e:Int}(h:DG w wr wi ao len cap R G a b c d e)(ho:Other w wi wj)(hc:Cur w wj ao len cap)(hR:w.heap.size<R)(hG:w.heap.size<G):DG w wr wj ao len cap R G a b c d e :=
 ⟨hc,Fram.other h.2.1 ho hc,(ho R (by omega)).trans h.2.2.1,(ho G (by omega)).trans h.2.2.2⟩
theorem DG.fram {w wr wi wj:World}{ao:Option Addr}{len cap R G:Nat}{a b c d e:Int}(h:DG w wr wi ao len cap R G a b c d e)(ho:Fram w wi wj)(hc:Cur w wj ao len cap)(hR:w.heap.size<R)(hG:w.heap.size<G):DG w wr wj ao len cap R G a b c d e :=
 ⟨hc,h.2.1.trans ho,(ho.2 R (glt h.2.2.1) (by omega)).trans h.2.2.1,(ho.2 G (glt h.2.2.2) (by omega)).trans h.2.2.2⟩
theorem DG.alloc {w wr wi:World}{ao:Option Addr}{len cap R G:Nat}{a b c d e:Int}(h:DG w wr wi ao len cap R G a b c d e)(o:Obj):DG w wr (wi.alloc o) ao len cap R G a b c d e :=
 ⟨h.1.alloc o,h.2.1.alloc o,(Below.heap_alloc _ _ _ (glt h.2.2.1)).trans h.2.2.1,(Below.heap_alloc _ _ _ (glt h.2.2.2)).trans h.2.2.2⟩
theorem glue_cells {w:World}{g:Nat}{a b c d e:Int}(h:w.heap[g]?=some (glueO a b c d e)):w.cell? ⟨g,0,none⟩=some (.int .i64 a)/\w.cell? ⟨g,1,none⟩=some (.int .i64 b)/\w.cell? ⟨g,2,none⟩=some (.int .i64 c)/\w.cell? ⟨g,3,none⟩=some (.int .i64 d)/\w.cell? ⟨g,4,none⟩=some (.int .i64 e):=by
 refine⟨?_,?_,?_,?_,?_⟩<;>(rw[cell_of_row w g _ _ 34 (0,0) h];rfl)
theorem DG.set1 {w wr wi:World}{ao:Option Addr}{len cap R G:Nat}{a b c d e:Int}(h:DG w wr wi ao len cap R G a b c d e)(hG:w.heap.size<G)(hr:wr.heap.size<=G)(hRG:R≠G)(x:Int):DG w wr (wi.setCell ⟨G,1,none⟩ (.int .i64 x)) ao len cap R G a x c d e :=
 ⟨h.1.set hG _ _,h.2.1.set hr _ _,(Below.heap_setCell _ _ _ _ hRG).trans h.2.2.1,heap_setCell_same wi G 1 _ 34 _ h.2.2.2⟩
theorem DG.set2 {w wr wi:World}{ao:Option Addr}{len cap R G:Nat}{a b c d e:Int}(h:DG w wr wi ao len cap R G a b c d e)(hG:w.heap.size<G)(hr:wr.heap.size<=G)(hRG:R≠G)(x:Int):DG w wr (wi.setCell ⟨G,2,none⟩ (.int .i64 x)) ao len cap R G a b x d e :=
 ⟨h.1.set hG _ _,h.2.1.set hr _ _,(Below.heap_setCell _ _ _ _ hRG).trans h.2.2.1,heap_setCell_same wi G 2 _ 34 _ h.2.2.2⟩
theorem DG.set3 {w wr wi:World}{ao:Option Addr}{len cap R G:Nat}{a b c d e:Int}(h:DG w wr wi ao len cap R G a b c d e)(hG:w.heap.size<G)(hr:wr.heap.size<=G)(hRG:R≠G)(x:Int):DG w wr (wi.setCell ⟨G,3,none⟩ (.int .i64 x)) ao len cap R G a b c x e :=
 ⟨h.1.set hG _ _,h.2.1.set hr _ _,(Below.heap_setCell _ _ _ _ hRG).trans h.2.2.1,heap_setCell_same wi G 3 _ 34 _ h.2.2.2⟩
theorem DG.set4 {w wr wi:World}{ao:Option Addr}{len cap R G:Nat}{a b c d e:Int}(h:DG w wr wi ao len cap R G a b c d e)(hG:w.heap.size<G)(hr:wr.heap.size<=G)(hRG:R≠G)(x:Int):DG w wr (wi.setCell ⟨G,4,none⟩ (.int .i64 x)) ao len cap R G a b c d x :=
 ⟨h.1.set hG _ _,h.2.1.set hr _ _,(Below.heap_setCell _ _ _ _ hRG).trans h.2.2.1,heap_setCell_same wi G 4 _ 34 _ h.2.2.2⟩
abbrev five (w:World)(R:Nat)(a b c d e:Int):World:=((((w.setCell ⟨R,0,none⟩ (.int .i64 a)).setCell ⟨R,1,none⟩ (.int .i64 b)).setCell ⟨R,2,none⟩ (.int .i64 c)).setCell ⟨R,3,none⟩ (.int .i64 d)).setCell ⟨R,4,none⟩ (.int .i64 e)
theorem five_heap {w:World}{R:Nat}{a0 b0 c0 d0 e0:Int}(h:w.heap[R]?=some (glueO a0 b0 c0 d0 e0))(a b c d e:Int):(five w R a b c d e).heap[R]?=some (glueO a b c d e) :=
 heap_setCell_same _ R 4 _ 34 _ (heap_setCell_same _ R 3 _ 34 _ (heap_setCell_same _ R 2 _ 34 _ (heap_setCell_same _ R 1 _ 34 _ (heap_setCell_same _ R 0 _ 34 _ h))))
theorem DG.five {w wr wi:World}{ao:Option Addr}{len cap R G:Nat}{a b c d e:Int}(h:DG w wr wi ao len cap R G a b c d e)(hG:w.heap.size<G)(hr:wr.heap.size<=G)(hRG:R≠G)(a' b' c' d' e':Int):DG w wr (five wi G a' b' c' d' e') ao len cap R G a' b' c' d' e' :=
 ⟨((((h.1.set hG _ _).set hG _ _).set hG _ _).set hG _ _).set hG _ _,((((h.2.1.set hr _ _).set hr _ _).set hr _ _).set hr _ _).set hr _ _,
  (Below.heap_setCell _ _ _ _ hRG).trans ((Below.heap_setCell _ _ _ _ hRG).trans ((Below.heap_setCell _ _ _ _ hRG).trans ((Below.heap_setCell _ _ _ _ hRG).trans ((Below.heap_setCell _ _ _ _ hRG).trans h.2.2.1)))),five_heap h.2.2.2 _ _ _ _ _⟩
set_option maxRecDepth 20000 in
theorem drawGlue_any (ao:Option Addr)(len cap:Nat)(w wr:World)(hB:Bytes w ao len cap)(hC:Cur w wr ao len cap) :
 Calls Tryz.prog 96 #[curP w] wr fun e w'=>∃a b c d f:Int,e = .returned (glueV a b c d f)/\Cur w w' ao len cap/\Fram w wr w':=by
 have HB:=hideD hB
 have HC:=hideD hC
 have hcw:=hC.lt
 clear hB hC
 go_enter Tryz.func96,Tryz.ntmps96
 go_wp2_with fail
 refine(drawLen_kept ao len cap w _ HB.out (HC.out.alloc _) ).mono ?_
 rintro e w1 ⟨x,rfl,_,c1,f1⟩
 have D1:DG w wr (w1.alloc (.cells #[.int .i64 x,.int .i64 0,.int .i64 0,.int .i64 0,.int .i64 0] 34)) ao len cap wr.heap.size w1.heap.size x 0 0 0 0:=by
  have hsz:wr.heap.size<w1.heap.size:=by have:=f1.1;simp at this;omega
  have hf:Fram w wr w1:=(Fram.alloc (Fram.refl w wr) _).trans f1
  have hR1:w1.heap[wr.heap.size]?=some (glueO 0 0 0 0 0):=(f1.2 wr.heap.size (by simp) (by omega)).trans (heap_alloc_new wr _)
  exact⟨c1.alloc _,hf.alloc _,(Below.heap_alloc _ _ _ hsz).trans hR1,heap_alloc_new w1 _⟩
 have hsz:wr.heap.size<w1.heap.size:=by have:=f1.1;simp at this;omega
 clear c1 f1 HC
 obtain⟨R,hR⟩:=exq (wr.heap.size)
 obtain⟨G,hG⟩:=exq (w1.heap.size)
 rw[<-hR,<-hG] at D1
 have hRc:w.heap.size<R:=by omega
 have hGc:w.heap.size<G:=by omega
 have hGr:wr.heap.size<=G:=by omega
 have hRr:wr.heap.size<=R:=by omega
 have hRG:R≠G:=by omega
 go_wp2_with fail
 rw[<-hR,<-hG]
 obtain⟨wq,hwq⟩:=exq (w1.alloc (.cells #[.int .i64 x,.int .i64 0,.int .i64 0,.int .i64 0,.int .i64 0] 34))
 rw[<-hwq] at D1
 rw[<-hwq]
 clear hwq hR hG hsz hcw
 obtain⟨a,b,c,d,e,DD⟩:∃a b c d e,Hid (DG w wr wq ao len cap R G a b c d e):=⟨_,_,_,_,_,D1⟩
 clear D1
 refine(once_any 3 ao len cap w _ HB.out DD.1 (by omega) (by omega)).mono ?_
 rintro e' wx ⟨bb,rfl,c4,o4⟩
 have d4:=DG.other DD o4 c4 hRc hGc
 clear DD c4 o4
 have DD:Hid (DG w wr wx ao len cap R G a b c d e):=d4
 clear d4
 go_upto_if 9 with fail
 go_cut [] (fun wc=>∃a b c d e,Hid (DG w wr wc ao len cap R G a b c d e))
 case first =>
  cases bb with
  | true =>
   go_wp2
   go_meet
   case rel=>exact⟨_,_,_,_,_,DD⟩
  | false =>
   go_wp2_with fail
   refine(drawLen_kept ao len cap w _ HB.out DD.1).mono ?_
   rintro e' w3 ⟨y,rfl,_,c3,f3⟩
   have d3:=DG.fram DD f3 c3 hRc hGc
   obtain⟨g0,g1,g2,g3,g4⟩:=glue_cells d3.2.2.2
   have fG:∀j,w3.frozen? ⟨G,j,none⟩=false:=fun j=>frozen_of_row w3 G j _ _ d3.2.2.2
   clear DD
   have D3:Hid (DG w wr w3 ao len cap R G a b c d e):=d3
   clear d3
   go_wp2
   go_meet
   case rel=>exact⟨_,_,_,_,_,DG.set1 D3.out hGc hGr hRG _⟩
 case rest =>
  obtain⟨a,b,c,d,e,DD⟩:=hcut
  go_wp2_with fail
  refine(once_any 3 ao len cap w _ HB.out DD.1 (by omega) (by omega)).mono ?_
  rintro e' wx ⟨bb,rfl,c4,o4⟩
  have d4:=DG.other DD o4 c4 hRc hGc
  clear DD c4 o4
  have DD:Hid (DG w wr wx ao len cap R G a b c d e):=d4
  clear d4
  go_upto_if 15 with fail
  go_cut [] (fun wc=>∃a b c d e,Hid (DG w wr wc ao len cap R G a b c d e))
  case first =>
   cases bb with
   | true =>
    go_wp2
    go_meet
    case rel=>exact⟨_,_,_,_,_,DD⟩
   | false =>
    go_wp2_with fail
    refine(drawLen_kept ao len cap w _ HB.out DD.1).mono ?_
    rintro e' w3 ⟨y,rfl,_,c3,f3⟩
    have d3:=DG.fram DD f3 c3 hRc hGc
    obtain⟨g0,g1,g2,g3,g4⟩:=glue_cells d3.2.2.2
    have fG:∀j,w3.frozen? ⟨G,j,none⟩=false:=fun j=>frozen_of_row w3 G j _ _ d3.2.2.2
    clear DD
    have D3:Hid (DG w wr w3 ao len cap R G a b c d e):=d3
    clear d3
    go_wp2
    go_meet
    case rel=>exact⟨_,_,_,_,_,DG.set3 D3.out hGc hGr hRG _⟩
  case rest =>
   obtain⟨a,b,c,d,e,DD⟩:=hcut
   go_wp2_with fail
   refine(once_any 4 ao len cap w _ HB.out DD.1 (by omega) (by omega)).mono ?_
   rintro e' wx ⟨bb,rfl,c4,o4⟩
   have d4:=DG.other DD o4 c4 hRc hGc
   clear DD c4 o4
   have DD:Hid (DG w wr wx ao len cap R G a b c d e):=d4
   clear d4
   go_upto_if 20 with fail
   go_cut [] (fun wc=>∃a b c d e,Hid (DG w wr wc ao len cap R G a b c d e))
   case first =>
    cases bb with
    | false =>
     go_wp2
     go_meet
     case rel=>exact⟨_,_,_,_,_,DD⟩
    | true =>
     go_wp2_with fail
     refine(belowN_any 4 ao len cap w _ HB.out DD.1 (by omega) (by omega)).mono ?_
     rintro e' w3 ⟨y,rfl,_,_,c3,o3⟩
     have d3:=DG.other DD o3 c3 hRc hGc
     obtain⟨g0,g1,g2,g3,g4⟩:=glue_cells d3.2.2.2
     have fG:∀j,w3.frozen? ⟨G,j,none⟩=false:=fun j=>frozen_of_row w3 G j _ _ d3.2.2.2
     clear DD
     have D3:Hid (DG w wr w3 ao len cap R G a b c d e):=d3
     clear d3
     go_wp2
     go_meet
     case rel=>exact⟨_,_,_,_,_,DG.set2 D3.out hGc hGr hRG _⟩
   case rest =>
    obtain⟨a,b,c,d,e,DD⟩:=hcut
    go_wp2_with fail
    refine(once_any 8 ao len cap w _ HB.out DD.1 (by omega) (by omega)).mono ?_
    rintro e' wx ⟨bb,rfl,c4,o4⟩
    have d4:=DG.other DD o4 c4 hRc hGc
    clear DD c4 o4
    have DD:Hid (DG w wr wx ao len cap R G a b c d e):=d4
    clear d4
    go_upto_if 25 with fail
    go_cut [] (fun wc=>∃a b c d e,Hid (DG w wr wc ao len cap R G a b c d e))
    case first =>
     cases bb with
     | false =>
      go_wp2
      go_meet
      case rel=>exact⟨_,_,_,_,_,DD⟩
     | true =>
      go_wp2_with fail
      refine(belowN_any 4 ao len cap w _ HB.out DD.1 (by omega) (by omega)).mono ?_
      rintro e' w3 ⟨y,rfl,_,_,c3,o3⟩
      have d3:=DG.other DD o3 c3 hRc hGc
      obtain⟨g0,g1,g2,g3,g4⟩:=glue_cells d3.2.2.2
      have fG:∀j,w3.frozen? ⟨G,j,none⟩=false:=fun j=>frozen_of_row w3 G j _ _ d3.2.2.2
      clear DD
      have D3:Hid (DG w wr w3 ao len cap R G a b c d e):=d3
      clear d3
      go_wp2
      go_meet
      case rel=>exact⟨_,_,_,_,_,DG.set4 D3.out hGc hGr hRG _⟩
    case rest =>
     obtain⟨a,b,c,d,e,DD⟩:=hcut
     go_wp2_with fail
     refine(once_any 40 ao len cap w _ HB.out DD.1 (by omega) (by omega)).mono ?_
     rintro e' wx ⟨bb,rfl,c4,o4⟩
     have d4:=DG.other DD o4 c4 hRc hGc
     clear DD c4 o4
     have DD:Hid (DG w wr wx ao len cap R G a b c d e):=d4
     clear d4
     go_upto_if 30 with fail
     go_cut [] (fun wc=>∃a b c d e,Hid (DG w wr wc ao len cap R G a b c d e))
     case first =>
      cases bb with
      | false =>
       go_wp2
       go_meet
       case rel=>exact⟨_,_,_,_,_,DD⟩
      | true =>
       go_wp2_with fail
       refine(belowN_any 3 ao len cap w _ HB.out (DD.1.alloc _) (by omega) (by omega)).mono ?_
       rintro e' w5 ⟨j,rfl,j0,j1,c5,o5⟩
       have hw45:wx.heap.size≠w.heap.size:=by have:=DD.1.lt;omega
       have hsl:=(o5 wx.heap.size hw45).trans (heap_alloc_new wx (.cells #[.int .i64 (-1),.int .i64 4,.int .i64 3] 2))
       have d5:=DG.other (DG.alloc DD (.cells #[.int .i64 (-1),.int .i64 4,.int .i64 3] 2)) o5 c5 hRc hGc
       clear DD c5 o5
       have DD:Hid (DG w wr w5 ao len cap R G a b c d e):=d5
       obtain⟨jn,rfl⟩:=Int.eq_ofNat_of_zero_le j0
       obtain⟨v,hcv⟩:∃v:Int,w5.cell? ⟨wx.heap.size,jn,none⟩=some (.int .i64 v):=by
        rw[cell_of_row w5 wx.heap.size jn _ 2 (0,0) hsl]
        rcases (show jn=0\/jn=1\/jn=2 by omega) with rfl|rfl|rfl
        ·exact⟨-1,rfl⟩
        ·exact⟨4,rfl⟩
        ·exact⟨3,rfl⟩
       have hjn:(jn:Int)<3:=j1
       obtain⟨g0,g1,g2,g3,g4⟩:=glue_cells d5.2.2.2
       have fG:∀j,w5.frozen? ⟨G,j,none⟩=false:=fun j=>frozen_of_row w5 G j _ _ d5.2.2.2
       clear d5 hsl
       go_wp2
       go_meet
       case rel=>exact⟨_,_,_,_,_,DG.set2 DD.out hGc hGr hRG _⟩
     case rest =>
      obtain⟨a,b,c,d,e,DD⟩:=hcut
      obtain⟨g0,g1,g2,g3,g4⟩:=glue_cells DD.2.2.2
      obtain⟨r0,r1,r2,r3,r4⟩:=glue_cells DD.2.2.1
      have fR:∀j,wc.frozen? ⟨R,j,none⟩=false:=fun j=>frozen_of_row wc R j _ _ DD.2.2.1
      have HF:Hid ((five wc R a b c d e).heap[R]?=some (glueO a b c d e)/\Cur w (five wc R a b c d e) ao len cap/\Fram w wr (five wc R a b c d e)) :=
       ⟨five_heap DD.2.2.1 _ _ _ _ _,((((DD.1.set hRc _ _).set hRc _ _).set hRc _ _).set hRc _ _).set hRc _ _,((((DD.2.1.set hRr _ _).set hRr _ _).set hRr _ _).set hRr _ _).set hRr _ _⟩
      clear DD
      go_wp2
      exact bodyPost_ret (v:=glueV a b c d e) (results_cell_row rfl _ _ R 34 _ (0,0) _ rfl HF.1 Tryz.underlying34 rfl (by kernel_rfl)) rfl ⟨a,b,c,d,e,rfl,HF.2⟩
theorem drawSize_any (ao:Option Addr)(len cap:Nat)(w wr:World)(hB:Bytes w ao len cap)(hC:Cur w wr ao len cap) :
 Calls Tryz.prog 37 #[curP w] wr fun e w'=>∃x:Int,e = .returned (.int .i64 x)/\(0<=x/\x<786432)/\Cur w w' ao len cap/\Fram w wr w':=by
 have HB:=hideD hB
 have HC:=hideD hC
 clear hB hC
 go_enter Tryz.func37,Tryz.ntmps37
 go_wp2_with fail
 refine(belowN_any 786432 ao len cap w wr HB.out HC.out (by omega) (by omega)).mono ?_
 rintro e w1 ⟨x,rfl,x0,x1,c1,o1⟩
 have C1:=hideD (And.intro c1 (Fram.other (Fram.refl w wr) o1 c1))
 clear c1 o1
 go_wp2
 go_ret
 exact⟨_,rfl,⟨x0,x1⟩,C1.out⟩
set_option maxRecDepth 20000 in
theorem draw8Glue_any (ao:Option Addr)(len cap:Nat)(w wr:World)(hB:Bytes w ao len cap)(hC:Cur w wr ao len cap) :
 Calls Tryz.prog 100 #[curP w] wr fun e w'=>∃a b c d f:Int,e = .returned (glueV a b c d f)/\Cur w w' ao len cap/\Fram w wr w':=by
 have HB:=hideD hB
 have HC:=hideD hC
 have hcw:=hC.lt
 clear hB hC
 go_enter Tryz.func100,Tryz.ntmps100
 go_wp2_with fail
 refine(drawSize_any ao len cap w _ HB.out (HC.out.alloc _) ).mono ?_
 rintro e w1 ⟨x,rfl,_,c1,f1⟩
 have D1:DG w wr (w1.alloc (.cells #[.int .i64 x,.int .i64 0,.int .i64 0,.int .i64 0,.int .i64 0] 34)) ao len cap wr.heap.size w1.heap.size x 0 0 0 0:=by
  have hsz:wr.heap.size<w1.heap.size:=by have:=f1.1;simp at this;omega
  have hf:Fram w wr w1:=(Fram.alloc (Fram.refl w wr) _).trans f1
  have hR1:w1.heap[wr.heap.size]?=some (glueO 0 0 0 0 0):=(f1.2 wr.heap.size (by simp) (by omega)).trans (heap_alloc_new wr _)
  exact⟨c1.alloc _,hf.alloc _,(Below.heap_alloc _ _ _ hsz).trans hR1,heap_alloc_new w1 _⟩
 have hsz:wr.heap.size<w1.heap.size:=by have:=f1.1;simp at this;omega
 clear c1 f1 HC
 obtain⟨R,hR⟩:=exq (wr.heap.size)
 obtain⟨G,hG⟩:=exq (w1.heap.size)
 rw[<-hR,<-hG] at D1
 have hRc:w.heap.size<R:=by omega
 have hGc:w.heap.size<G:=by omega
 have hGr:wr.heap.size<=G:=by omega
 have hRr:wr.heap.size<=R:=by omega
 have hRG:R≠G:=by omega
 go_wp2_with fail
 rw[<-hR,<-hG]
 obtain⟨wq,hwq⟩:=exq (w1.alloc (.cells #[.int .i64 x,.int .i64 0,.int .i64 0,.int .i64 0,.int .i64 0] 34))
 rw[<-hwq] at D1
 rw[<-hwq]
 clear hwq hR hG hsz hcw
 obtain⟨a,b,c,d,e,DD⟩:∃a b c d e,Hid (DG w wr wq ao len cap R G a b c d e):=⟨_,_,_,_,_,D1⟩
 clear D1
 refine(once_any 3 ao len cap w _ HB.out DD.1 (by omega) (by omega)).mono ?_
 rintro e' wx ⟨bb,rfl,c4,o4⟩
 have d4:=DG.other DD o4 c4 hRc hGc
 clear DD c4 o4
 have DD:Hid (DG w wr wx ao len cap R G a b c d e):=d4
 clear d4
 go_upto_if 9 with fail
 go_cut [] (fun wc=>∃a b c d e,Hid (DG w wr wc ao len cap R G a b c d e))
 case first =>
  cases bb with
  | true =>
   go_wp2
   go_meet
   case rel=>exact⟨_,_,_,_,_,DD⟩
  | false =>
   go_wp2_with fail
   refine(drawSize_any ao len cap w _ HB.out DD.1).mono ?_
   rintro e' w3 ⟨y,rfl,_,c3,f3⟩
   have d3:=DG.fram DD f3 c3 hRc hGc
   obtain⟨g0,g1,g2,g3,g4⟩:=glue_cells d3.2.2.2
   have fG:∀j,w3.frozen? ⟨G,j,none⟩=false:=fun j=>frozen_of_row w3 G j _ _ d3.2.2.2
   clear DD
   have D3:Hid (DG w wr w3 ao len cap R G a b c d e):=d3
   clear d3
   go_wp2
   go_meet
   case rel=>exact⟨_,_,_,_,_,DG.set1 D3.out hGc hGr hRG _⟩
 case rest =>
  obtain⟨a,b,c,d,e,DD⟩:=hcut
  go_wp2_with fail
  refine(once_any 3 ao len cap w _ HB.out DD.1 (by omega) (by omega)).mono ?_
  rintro e' wx ⟨bb,rfl,c4,o4⟩
  have d4:=DG.other DD o4 c4 hRc hGc
  clear DD c4 o4
  have DD:Hid (DG w wr wx ao len cap R G a b c d e):=d4
  clear d4
  go_upto_if 15 with fail
  go_cut [] (fun wc=>∃a b c d e,Hid (DG w wr wc ao len cap R G a b c d e))
  case first =>
   cases bb with
   | true =>
    go_wp2
    go_meet
    case rel=>exact⟨_,_,_,_,_,DD⟩
   | false =>
    go_wp2_with fail
    refine(drawSize_any ao len cap w _ HB.out DD.1).mono ?_
    rintro e' w3 ⟨y,rfl,⟨y0,y1⟩,c3,f3⟩
    have d3:=DG.fram DD f3 c3 hRc hGc
    obtain⟨g0,g1,g2,g3,g4⟩:=glue_cells d3.2.2.2
    have fG:∀j,w3.frozen? ⟨G,j,none⟩=false:=fun j=>frozen_of_row w3 G j _ _ d3.2.2.2
    clear DD
    have D3:Hid (DG w wr w3 ao len cap R G a b c d e):=d3
    clear d3
    go_wp2
    go_meet
    case rel=>exact⟨_,_,_,_,_,DG.set3 D3.out hGc hGr hRG _⟩
  case rest =>
   obtain⟨a,b,c,d,e,DD⟩:=hcut
   go_wp2_with fail
   refine(once_any 8 ao len cap w _ HB.out DD.1 (by omega) (by omega)).mono ?_
   rintro e' wx ⟨bb,rfl,c4,o4⟩
   have d4:=DG.other DD o4 c4 hRc hGc
   clear DD c4 o4
   have DD:Hid (DG w wr wx ao len cap R G a b c d e):=d4
   clear d4
   go_upto_if 21 with fail
   go_cut [] (fun wc=>∃a b c d e,Hid (DG w wr wc ao len cap R G a b c d e))
   case first =>
    cases bb with
    | false =>
     go_wp2
     go_meet
     case rel=>exact⟨_,_,_,_,_,DD⟩
    | true =>
     go_wp2_with fail
     refine(belowN_any 4 ao len cap w _ HB.out DD.1 (by omega) (by omega)).mono ?_
     rintro e' w3 ⟨y,rfl,_,_,c3,o3⟩
     have d3:=DG.other DD o3 c3 hRc hGc
     obtain⟨g0,g1,g2,g3,g4⟩:=glue_cells d3.2.2.2
     have fG:∀j,w3.frozen? ⟨G,j,none⟩=false:=fun j=>frozen_of_row w3 G j _ _ d3.2.2.2
     clear DD
     have D3:Hid (DG w wr w3 ao len cap R G a b c d e):=d3
     clear d3
     go_wp2
     go_meet
     case rel=>exact⟨_,_,_,_,_,DG.set2 D3.out hGc hGr hRG _⟩
   case rest =>
    obtain⟨a,b,c,d,e,DD⟩:=hcut
    go_wp2_with fail
    refine(once_any 20 ao len cap w _ HB.out DD.1 (by omega) (by omega)).mono ?_
    rintro e' wx ⟨bb,rfl,c4,o4⟩
    have d4:=DG.other DD o4 c4 hRc hGc
    clear DD c4 o4
    have DD:Hid (DG w wr wx ao len cap R G a b c d e):=d4
    clear d4
    go_upto_if 26 with fail
    go_cut [] (fun wc=>∃a b c d e,Hid (DG w wr wc ao len cap R G a b c d e))
    case first =>
     cases bb with
     | false =>
      go_wp2
      go_meet
      case rel=>exact⟨_,_,_,_,_,DD⟩
     | true =>
      go_wp2_with fail
      refine(drawGlue_any ao len cap w _ HB.out DD.1).mono ?_
      rintro e' w3 ⟨a1,b1,d1,d2,d5,rfl,c3,f3⟩
      have d3:=DG.fram DD f3 c3 hRc hGc
      obtain⟨g0,g1,g2,g3,g4⟩:=glue_cells d3.2.2.2
      have fG:∀j,w3.frozen? ⟨G,j,none⟩=false:=fun j=>frozen_of_row w3 G j _ _ d3.2.2.2
      clear DD
      have D3:Hid (DG w wr w3 ao len cap R G a b c d e):=d3
      clear d3
      go_wp2
      go_meet
      case rel=>exact⟨_,_,_,_,_,DG.five D3.out hGc hGr hRG _ _ _ _ _⟩
    case rest =>
     obtain⟨a,b,c,d,e,DD⟩:=hcut
     obtain⟨g0,g1,g2,g3,g4⟩:=glue_cells DD.2.2.2
     obtain⟨r0,r1,r2,r3,r4⟩:=glue_cells DD.2.2.1
     have fR:∀j,wc.frozen? ⟨R,j,none⟩=false:=fun j=>frozen_of_row wc R j _ _ DD.2.2.1
     have HF:Hid ((five wc R a b c d e).heap[R]?=some (glueO a b c d e)/\Cur w (five wc R a b c d e) ao len cap/\Fram w wr (five wc R a b c d e)) :=
      ⟨five_heap DD.2.2.1 _ _ _ _ _,((((DD.1.set hRc _ _).set hRc _ _).set hRc _ _).set hRc _ _).set hRc _ _,((((DD.2.1.set hRr _ _).set hRr _ _).set hRr _ _).set hRr _ _).set hRr _ _⟩
     clear DD
     go_wp2
     exact bodyPost_ret (v:=glueV a b c d e) (results_cell_row rfl _ _ R 34 _ (0,0) _ rfl HF.1 Tryz.underlying34 rfl (by kernel_rfl)) rfl ⟨a,b,c,d,e,rfl,HF.2⟩
end Go.Proofs.YtbbehmcekbnkiaaGreat

import Derived.Test.YtbbehmcekbnkiaaGreatBun
import Derived.Test.YtbbehmcekbnkiaaGreatCln
import Derived.Laws.AppendOwnNone
import Derived.Laws.CopyRow
import Derived.Maps.AppendAt
import Derived.Test.YtbbehmcekbnkiaaGreatFnh
namespace Go.Proofs.YtbbehmcekbnkiaaGreat
open Go.RowKit
set_option linter.unusedVariables false
set_option linter.unusedSimpArgs false
theorem siz_take {gs:List Shr.Gl} {j:Nat} (h:j<gs.length):Shr.siz (gs.take (j+1))=Shr.siz (gs.take j)+(gs.getD j Shr.Gl.none).s:=by
 unfold Shr.siz
 rw[List.take_succ_eq_append_getElem h,List.map_append,List.sum_append]
 simp[List.getD,List.getElem?_eq_getElem h]
theorem siz_le {gs:List Shr.Gl} (hg:∀x∈gs,-1073741823≤x.s∧x.s≤1073741823) : -(1073741823*(gs.length:Int))≤Shr.siz gs∧Shr.siz gs≤1073741823*(gs.length:Int):=by
 induction gs with
 | nil=>simp[Shr.siz]
 | cons x gs ih =>
  have h1:=ih (fun y hy=>hg y (List.mem_cons_of_mem _ hy))
  have h2:=hg x (List.mem_cons_self ..)
  have e:Shr.siz (x :: gs)=x.s+Shr.siz gs:=by simp[Shr.siz]
  rw[e,List.length_cons]
  push_cast
  omega
theorem siz_bound {gs:List Shr.Gl} (hg:∀x∈gs,-1073741823≤x.s∧x.s≤1073741823) (hn:gs.length≤20001) (j:Nat) : -21476983091871≤Shr.siz (gs.take j)∧Shr.siz (gs.take j)≤21476983091871:=by
 have h:=siz_le (gs:=gs.take j) (fun x hx=>hg x (List.mem_of_mem_take hx))
 have h2:(gs.take j).length≤20001:=by rw[List.length_take];omega
 omega
set_option maxRecDepth 20000 in
set_option maxHeartbeats 4000000 in
theorem wanted_any {w:World} {R:Nat} {k wd h d len:Int} {g p:Value} {gs:List Shr.Gl} (mode size:Int) (B:Bun w R k wd h d len g p) (hg:Shr.GRow w g gs) (hgs:∀x∈gs,-1073741823≤x.s∧x.s≤1073741823) (hn:gs.length≤20001)
 (hl : -1073741823000000≤len∧len≤1073741823000000) (hsz : -1073741823≤size∧size≤1073741823) :
 Calls Tryz.prog 58 #[.pointer (some ⟨R,0,none⟩), .int .i64 mode, .int .i64 size] w fun e w'=>e = .returned (.int .i64 (Shr.alongI len gs mode size))∧Below w.heap.size w w':=by
 obtain⟨b0,b1,b2,b3,b4,b5,b6,b7,b8⟩:=B.cells
 have hR:=B.lt
 obtain⟨ga,m,gc,rfl,hgl,hgr⟩:=hg
 have HSB:Hid (∀j,-21476983091871≤Shr.siz (gs.take j)∧Shr.siz (gs.take j)≤21476983091871):=hideP (siz_bound hgs hn)
 have HGR:=hideP hgr
 have HGL:=hideP hgl
 have HB:=hideP B
 have hm:m≤20001:=by omega
 have HBN:=hideP hl
 have HSZ:=hideP hsz
 clear hgr hgl B hgs hl hsz hn
 by_cases h1:mode=1
 ·subst h1
  go_enter Tryz.func58,Tryz.ntmps58
  go_wp2
  go_ret
  exact⟨rfl,Below.refl _ _⟩
 ·have h1':(mode == 1)=false:=by simpa using h1
  have HR2:Hid (Shr.alongI len gs mode size=if mode=2 then len+Shr.siz gs+size else len+Shr.siz gs):=hideP (by unfold Shr.alongI;rw[if_neg h1])
  go_enter Tryz.func58,Tryz.ntmps58
  go_wp2_with fail
  go_loopw [7,22] (fun x i wr=>∃j:Nat,j≤m∧i = .int .i64 j∧x = .int .i64 (len+Shr.siz (gs.take j))∧Below w.heap.size w wr) (fun _ i _=>m - (intOf i).toNat)
  case atStart=>exact⟨0,by omega,rfl,by simp[Shr.siz],Below.refl _ _⟩
  case round =>
   obtain⟨j,hj,rfl,rfl,hb⟩:=hrel
   have HBB:=hideP hb
   by_cases hjm:j<m
   ·have hji:(j:Int)<(m:Int):=by omega
    obtain⟨gb,off,rfl,hgb,hc⟩:=HGR.out (by omega)
    have hcc:=hc j hjm
    obtain⟨q0,q1,q2,q3,q4⟩:=hcc
    have k0:=(hb.cell (p:=⟨gb,off+j*5,none⟩) hgb).trans q0
    have k1:=(hb.cell (p:=⟨gb,off+j*5+1,none⟩) hgb).trans q1
    have k2:=(hb.cell (p:=⟨gb,off+j*5+2,none⟩) hgb).trans q2
    have k3:=(hb.cell (p:=⟨gb,off+j*5+3,none⟩) hgb).trans q3
    have k4:=(hb.cell (p:=⟨gb,off+j*5+4,none⟩) hgb).trans q4
    have hst:Shr.siz (gs.take (j+1))=Shr.siz (gs.take j)+(gs.getD j Shr.Gl.none).s:=siz_take (by rw[HGL.out];exact hjm)
    have hx1:=HSB.out (j+1)
    obtain⟨z,hz⟩:∃z,z=len+Shr.siz (gs.take j):=⟨_,rfl⟩
    rw[← hz]
    have HZ:Hid (z+(gs.getD j Shr.Gl.none).s=len+Shr.siz (gs.take (j+1))):=hideP (by rw[hst,hz];omega)
    have hzb : -9000000000000000000≤z+(gs.getD j Shr.Gl.none).s∧z+(gs.getD j Shr.Gl.none).s≤9000000000000000000:=by rw[HZ.out];have:=HBN.out;omega
    obtain⟨⟨y0,y1,y2,y3,y4⟩,hy⟩:∃y:Shr.Gl,y=gs.getD j Shr.Gl.none:=⟨_,rfl⟩
    rw[← hy] at k0 k1 k2 k3 k4 HZ hzb
    simp only at k0 k1 k2 k3 k4 hzb
    clear hc q0 q1 q2 q3 q4 hst hx1 hz hy hb
    go_wp2
    go_roundw
    case rel=>exact⟨j+1,by omega,by go_num,by rw[← HZ.out],HBB.out.alloc HBB.out.size _⟩
    case measure=>simp[intOf];omega
   ·have hji:¬(j:Int)<(m:Int):=by omega
    obtain rfl:j=m:=by omega
    have HT:Hid (len+Shr.siz (gs.take j)=len+Shr.siz gs):=hideP (by rw[← HGL.out,List.take_length])
    have hx1:=HSB.out j
    obtain⟨z,hz⟩:∃z,z=len+Shr.siz (gs.take j):=⟨_,rfl⟩
    rw[← hz] at HT ⊢
    have hzb : -9000000000000000000≤z+size∧z+size≤9000000000000000000:=by rw[hz];have:=HBN.out;have:=HSZ.out;omega
    clear hz hx1 hb
    by_cases h2:mode=2
    ·subst h2
     have HRA:Hid (Shr.alongI len gs 2 size=z+size):=hideP (by rw[HR2.out,if_pos rfl,← HT.out])
     clear HR2
     go_wp2
     go_ret
     refine⟨?_,HBB.out⟩
     rw[HRA.out]
     rfl
    ·have h2':(mode == 2)=false:=by simpa using h2
     have HRA:Hid (Shr.alongI len gs mode size=z):=hideP (by rw[HR2.out,if_neg h2,← HT.out])
     clear HR2
     go_wp2
     go_ret
     refine⟨?_,HBB.out⟩
     rw[HRA.out]
     rfl
abbrev ndO (x:Nd):Obj:= .cells #[.int .i64 x.k, .int .i64 x.wd, .int .i64 x.ht, .int .i64 x.dp, .int .i64 x.sh, .int .i64 x.fo, .int .i64 x.ch, .int .i64 x.nn, .int .i64 x.gs, .int .i64 x.gp, .int .i64 x.gpo, .int .i64 x.gm, .int .i64 x.gmo, .string x.tx, .int .i64 x.kids] 36 (0,0)
abbrev fif (w:World) (R:Nat) (k wd ht dp sh fo ch nn gs gp gpo gm gmo:Int) (tx:ByteArray) (kids:Int):World:=(((((((((((((((w.setCell ⟨R,0,none⟩ (.int .i64 k)).setCell ⟨R,1,none⟩ (.int .i64 wd)).setCell ⟨R,2,none⟩ (.int .i64 ht)).setCell ⟨R,3,none⟩ (.int .i64 dp)).setCell ⟨R,4,none⟩ (.int .i64 sh)).setCell ⟨R,5,none⟩ (.int .i64 fo)).setCell ⟨R,6,none⟩ (.int .i64 ch)).setCell ⟨R,7,none⟩ (.int .i64 nn)).setCell ⟨R,8,none⟩ (.int .i64 gs)).setCell ⟨R,9,none⟩ (.int .i64 gp)).setCell ⟨R,10,none⟩ (.int .i64 gpo)).setCell ⟨R,11,none⟩ (.int .i64 gm)).setCell ⟨R,12,none⟩ (.int .i64 gmo)).setCell ⟨R,13,none⟩ (.string tx)).setCell ⟨R,14,none⟩ (.int .i64 kids))
theorem fif_heap {w:World} {R:Nat} {y:Nd} (h:w.heap[R]? = some (ndO y)) (k wd ht dp sh fo ch nn gs gp gpo gm gmo:Int) (tx:ByteArray) (kids:Int):(fif w R k wd ht dp sh fo ch nn gs gp gpo gm gmo tx kids).heap[R]? = some (ndO ⟨k,wd,ht,dp,sh,fo,ch,nn,gs,gp,gpo,gm,gmo,tx,kids⟩):=by
 obtain⟨w0,e0⟩:∃W,W=w.setCell ⟨R,0,none⟩ (.int .i64 k):=⟨_,rfl⟩
 have h0:w0.heap[R]? = some (.cells #[.int .i64 k, .int .i64 y.wd, .int .i64 y.ht, .int .i64 y.dp, .int .i64 y.sh, .int .i64 y.fo, .int .i64 y.ch, .int .i64 y.nn, .int .i64 y.gs, .int .i64 y.gp, .int .i64 y.gpo, .int .i64 y.gm, .int .i64 y.gmo, .string y.tx, .int .i64 y.kids] 36 (0,0)):=by rw[e0];exact heap_setCell_same _ R 0 _ 36 _ h
 obtain⟨w1,e1⟩:∃W,W=w0.setCell ⟨R,1,none⟩ (.int .i64 wd):=⟨_,rfl⟩
 have h1:w1.heap[R]? = some (.cells #[.int .i64 k, .int .i64 wd, .int .i64 y.ht, .int .i64 y.dp, .int .i64 y.sh, .int .i64 y.fo, .int .i64 y.ch, .int .i64 y.nn, .int .i64 y.gs, .int .i64 y.gp, .int .i64 y.gpo, .int .i64 y.gm, .int .i64 y.gmo, .string y.tx, .int .i64 y.kids] 36 (0,0)):=by rw[e1];exact heap_setCell_same _ R 1 _ 36 _ h0
 obtain⟨w2,e2⟩:∃W,W=w1.setCell ⟨R,2,none⟩ (.int .i64 ht):=⟨_,rfl⟩
 have h2:w2.heap[R]? = some (.cells #[.int .i64 k, .int .i64 wd, .int .i64 ht, .int .i64 y.dp, .int .i64 y.sh, .int .i64 y.fo, .int .i64 y.ch, .int .i64 y.nn, .int .i64 y.gs, .int .i64 y.gp, .int .i64 y.gpo, .int .i64 y.gm, .int .i64 y.gmo, .string y.tx, .int .i64 y.kids] 36 (0,0)):=by rw[e2];exact heap_setCell_same _ R 2 _ 36 _ h1
 obtain⟨w3,e3⟩:∃W,W=w2.setCell ⟨R,3,none⟩ (.int .i64 dp):=⟨_,rfl⟩
 have h3:w3.heap[R]? = some (.cells #[.int .i64 k, .int .i64 wd, .int .i64 ht, .int .i64 dp, .int .i64 y.sh, .int .i64 y.fo, .int .i64 y.ch, .int .i64 y.nn, .int .i64 y.gs, .int .i64 y.gp, .int .i64 y.gpo, .int .i64 y.gm, .int .i64 y.gmo, .string y.tx, .int .i64 y.kids] 36 (0,0)):=by rw[e3];exact heap_setCell_same _ R 3 _ 36 _ h2
 obtain⟨w4,e4⟩:∃W,W=w3.setCell ⟨R,4,none⟩ (.int .i64 sh):=⟨_,rfl⟩
 have h4:w4.heap[R]? = some (.cells #[.int .i64 k, .int .i64 wd, .int .i64 ht, .int .i64 dp, .int .i64 sh, .int .i64 y.fo, .int .i64 y.ch, .int .i64 y.nn, .int .i64 y.gs, .int .i64 y.gp, .int .i64 y.gpo, .int .i64 y.gm, .int .i64 y.gmo, .string y.tx, .int .i64 y.kids] 36 (0,0)):=by rw[e4];exact heap_setCell_same _ R 4 _ 36 _ h3
 obtain⟨w5,e5⟩:∃W,W=w4.setCell ⟨R,5,none⟩ (.int .i64 fo):=⟨_,rfl⟩
 have h5:w5.heap[R]? = some (.cells #[.int .i64 k, .int .i64 wd, .int .i64 ht, .int .i64 dp, .int .i64 sh, .int .i64 fo, .int .i64 y.ch, .int .i64 y.nn, .int .i64 y.gs, .int .i64 y.gp, .int .i64 y.gpo, .int .i64 y.gm, .int .i64 y.gmo, .string y.tx, .int .i64 y.kids] 36 (0,0)):=by rw[e5];exact heap_setCell_same _ R 5 _ 36 _ h4
 obtain⟨w6,e6⟩:∃W,W=w5.setCell ⟨R,6,none⟩ (.int .i64 ch):=⟨_,rfl⟩
 have h6:w6.heap[R]? = some (.cells #[.int .i64 k, .int .i64 wd, .int .i64 ht, .int .i64 dp, .int .i64 sh, .int .i64 fo, .int .i64 ch, .int .i64 y.nn, .int .i64 y.gs, .int .i64 y.gp, .int .i64 y.gpo, .int .i64 y.gm, .int .i64 y.gmo, .string y.tx, .int .i64 y.kids] 36 (0,0)):=by rw[e6];exact heap_setCell_same _ R 6 _ 36 _ h5
 obtain⟨w7,e7⟩:∃W,W=w6.setCell ⟨R,7,none⟩ (.int .i64 nn):=⟨_,rfl⟩
 have h7:w7.heap[R]? = some (.cells #[.int .i64 k, .int .i64 wd, .int .i64 ht, .int .i64 dp, .int .i64 sh, .int .i64 fo, .int .i64 ch, .int .i64 nn, .int .i64 y.gs, .int .i64 y.gp, .int .i64 y.gpo, .int .i64 y.gm, .int .i64 y.gmo, .string y.tx, .int .i64 y.kids] 36 (0,0)):=by rw[e7];exact heap_setCell_same _ R 7 _ 36 _ h6
 obtain⟨w8,e8⟩:∃W,W=w7.setCell ⟨R,8,none⟩ (.int .i64 gs):=⟨_,rfl⟩
 have h8:w8.heap[R]? = some (.cells #[.int .i64 k, .int .i64 wd, .int .i64 ht, .int .i64 dp, .int .i64 sh, .int .i64 fo, .int .i64 ch, .int .i64 nn, .int .i64 gs, .int .i64 y.gp, .int .i64 y.gpo, .int .i64 y.gm, .int .i64 y.gmo, .string y.tx, .int .i64 y.kids] 36 (0,0)):=by rw[e8];exact heap_setCell_same _ R 8 _ 36 _ h7
 obtain⟨w9,e9⟩:∃W,W=w8.setCell ⟨R,9,none⟩ (.int .i64 gp):=⟨_,rfl⟩
 have h9:w9.heap[R]? = some (.cells #[.int .i64 k, .int .i64 wd, .int .i64 ht, .int .i64 dp, .int .i64 sh, .int .i64 fo, .int .i64 ch, .int .i64 nn, .int .i64 gs, .int .i64 gp, .int .i64 y.gpo, .int .i64 y.gm, .int .i64 y.gmo, .string y.tx, .int .i64 y.kids] 36 (0,0)):=by rw[e9];exact heap_setCell_same _ R 9 _ 36 _ h8
 obtain⟨w10,e10⟩:∃W,W=w9.setCell ⟨R,10,none⟩ (.int .i64 gpo):=⟨_,rfl⟩
 have h10:w10.heap[R]? = some (.cells #[.int .i64 k, .int .i64 wd, .int .i64 ht, .int .i64 dp, .int .i64 sh, .int .i64 fo, .int .i64 ch, .int .i64 nn, .int .i64 gs, .int .i64 gp, .int .i64 gpo, .int .i64 y.gm, .int .i64 y.gmo, .string y.tx, .int .i64 y.kids] 36 (0,0)):=by rw[e10];exact heap_setCell_same _ R 10 _ 36 _ h9
 obtain⟨w11,e11⟩:∃W,W=w10.setCell ⟨R,11,none⟩ (.int .i64 gm):=⟨_,rfl⟩
 have h11:w11.heap[R]? = some (.cells #[.int .i64 k, .int .i64 wd, .int .i64 ht, .int .i64 dp, .int .i64 sh, .int .i64 fo, .int .i64 ch, .int .i64 nn, .int .i64 gs, .int .i64 gp, .int .i64 gpo, .int .i64 gm, .int .i64 y.gmo, .string y.tx, .int .i64 y.kids] 36 (0,0)):=by rw[e11];exact heap_setCell_same _ R 11 _ 36 _ h10
 obtain⟨w12,e12⟩:∃W,W=w11.setCell ⟨R,12,none⟩ (.int .i64 gmo):=⟨_,rfl⟩
 have h12:w12.heap[R]? = some (.cells #[.int .i64 k, .int .i64 wd, .int .i64 ht, .int .i64 dp, .int .i64 sh, .int .i64 fo, .int .i64 ch, .int .i64 nn, .int .i64 gs, .int .i64 gp, .int .i64 gpo, .int .i64 gm, .int .i64 gmo, .string y.tx, .int .i64 y.kids] 36 (0,0)):=by rw[e12];exact heap_setCell_same _ R 12 _ 36 _ h11
 obtain⟨w13,e13⟩:∃W,W=w12.setCell ⟨R,13,none⟩ (.string tx):=⟨_,rfl⟩
 have h13:w13.heap[R]? = some (.cells #[.int .i64 k, .int .i64 wd, .int .i64 ht, .int .i64 dp, .int .i64 sh, .int .i64 fo, .int .i64 ch, .int .i64 nn, .int .i64 gs, .int .i64 gp, .int .i64 gpo, .int .i64 gm, .int .i64 gmo, .string tx, .int .i64 y.kids] 36 (0,0)):=by rw[e13];exact heap_setCell_same _ R 13 _ 36 _ h12
 obtain⟨w14,e14⟩:∃W,W=w13.setCell ⟨R,14,none⟩ (.int .i64 kids):=⟨_,rfl⟩
 have h14:w14.heap[R]? = some (.cells #[.int .i64 k, .int .i64 wd, .int .i64 ht, .int .i64 dp, .int .i64 sh, .int .i64 fo, .int .i64 ch, .int .i64 nn, .int .i64 gs, .int .i64 gp, .int .i64 gpo, .int .i64 gm, .int .i64 gmo, .string tx, .int .i64 kids] 36 (0,0)):=by rw[e14];exact heap_setCell_same _ R 14 _ 36 _ h13
 have e:fif w R k wd ht dp sh fo ch nn gs gp gpo gm gmo tx kids=w14:=by rw[e14,e13,e12,e11,e10,e9,e8,e7,e6,e5,e4,e3,e2,e1,e0]
 rw[e]
 exact h14
theorem fif_below {B:Nat} {w W:World} {R:Nat} (h:Below B w W) (hR:B≤R) (k wd ht dp sh fo ch nn gs gp gpo gm gmo:Int) (tx:ByteArray) (kids:Int):Below B w (fif W R k wd ht dp sh fo ch nn gs gp gpo gm gmo tx kids):=by
 repeat (first | with_reducible exact h | (with_reducible refine Below.setCell ?_ ?_ _;rotate_left;focus exact hR))
theorem loadNd {w:World} {R:Nat} {x:Nd} (h:w.heap[R]? = some (ndO x)):(loadVar 36 ⟨R,0,none⟩).run Tryz.prog w = .ok (ndV x) w :=
 run_loadVar_row _ _ 36 36 _ (0,0) _ h Tryz.underlying36 rfl (by kernel_rfl)
theorem nd_cells {W:World} {R:Nat} {x:Nd} (h:W.heap[R]? = some (ndO x)):W.cell? ⟨R,0,none⟩=some (.int .i64 x.k)∧W.cell? ⟨R,1,none⟩=some (.int .i64 x.wd)∧W.cell? ⟨R,2,none⟩=some (.int .i64 x.ht)∧W.cell? ⟨R,3,none⟩=some (.int .i64 x.dp)∧W.cell? ⟨R,4,none⟩=some (.int .i64 x.sh)∧W.cell? ⟨R,5,none⟩=some (.int .i64 x.fo)∧W.cell? ⟨R,6,none⟩=some (.int .i64 x.ch)∧W.cell? ⟨R,7,none⟩=some (.int .i64 x.nn)∧W.cell? ⟨R,8,none⟩=some (.int .i64 x.gs)∧W.cell? ⟨R,9,none⟩=some (.int .i64 x.gp)∧W.cell? ⟨R,10,none⟩=some (.int .i64 x.gpo)∧W.cell? ⟨R,11,none⟩=some (.int .i64 x.gm)∧W.cell? ⟨R,12,none⟩=some (.int .i64 x.gmo)∧W.cell? ⟨R,13,none⟩=some (.string x.tx)∧W.cell? ⟨R,14,none⟩=some (.int .i64 x.kids) :=
 ⟨cell_of_row W R 0 _ 36 _ h,cell_of_row W R 1 _ 36 _ h,cell_of_row W R 2 _ 36 _ h,cell_of_row W R 3 _ 36 _ h,cell_of_row W R 4 _ 36 _ h,cell_of_row W R 5 _ 36 _ h,cell_of_row W R 6 _ 36 _ h,cell_of_row W R 7 _ 36 _ h,cell_of_row W R 8 _ 36 _ h,cell_of_row W R 9 _ 36 _ h,cell_of_row W R 10 _ 36 _ h,cell_of_row W R 11 _ 36 _ h,cell_of_row W R 12 _ 36 _ h,cell_of_row W R 13 _ 36 _ h,cell_of_row W R 14 _ 36 _ h⟩
set_option maxRecDepth 20000 in
set_option maxHeartbeats 4000000 in
theorem around_any {w:World} {R:Nat} {wd h d len:Int} {g p:Value} (length:Int) (kids:Nat) (B:Bun w R 6 wd h d len g p) :
 Calls Tryz.prog 61 #[.pointer (some ⟨R,0,none⟩), .int .i64 length, .int .i64 (kids:Int)] w fun e w'=>e = .returned (ndV (boxN 6 length h d kids))∧Below w.heap.size w w':=by
 obtain⟨b0,b1,b2,b3,b4,b5,b6,b7,b8⟩:=B.cells
 have hR:=B.lt
 go_enter Tryz.func61,Tryz.ntmps61
 go_wp2_with fail
 refine (node_box 6 length h d 0 kids _).mono ?_
 rintro e w1 ⟨rfl,hb1⟩
 have hbx:w1.heap[w.heap.size]? = some (ndO Nd.none):=by
  refine (hb1.block _ (by simp;omega)).trans ?_
  exact (Below.heap_alloc _ _ _ (by simp)).trans (heap_alloc_new w _)
 have HBB:Hid (Below w.heap.size w w1):=hideP (below_more (below2 w _ _) hb1 (by simp;omega))
 have HF:Hid ((fif w1 w.heap.size 6 length h d 0 0 0 0 0 0 0 0 0 ⟨#[]⟩ (kids:Int)).heap[w.heap.size]? = some (ndO ⟨6,length,h,d,0,0,0,0,0,0,0,0,0,⟨#[]⟩,(kids:Int)⟩)∧Below w.heap.size w (fif w1 w.heap.size 6 length h d 0 0 0 0 0 0 0 0 0 ⟨#[]⟩ (kids:Int))):=hideP ⟨fif_heap hbx _ _ _ _ _ _ _ _ _ _ _ _ _ _ _,fif_below HBB.out (Nat.le_refl _) _ _ _ _ _ _ _ _ _ _ _ _ _ _ _⟩
 obtain⟨c0,c1,c2,c3,c4,c5,c6,c7,c8,c9,c10,c11,c12,c13,c14⟩:=nd_cells hbx
 have fR:∀j,w1.frozen? ⟨w.heap.size,j,none⟩=false:=fun j=>frozen_of_row w1 w.heap.size j _ _ hbx
 clear hb1 hbx b0 b1 b2 b3 b4 b5 b6 b7 b8
 go_wp2
 exact bodyPost_ret (v:=ndV ⟨6,length,h,d,0,0,0,0,0,0,0,0,0,⟨#[]⟩,(kids:Int)⟩) (results_one_cell rfl _ _ w.heap.size _ rfl (loadNd HF.out.1)) rfl ⟨rfl,HF.out.2⟩
abbrev ndA (x:Nd):Array Value:=#[.int .i64 x.k, .int .i64 x.wd, .int .i64 x.ht, .int .i64 x.dp, .int .i64 x.sh, .int .i64 x.fo, .int .i64 x.ch, .int .i64 x.nn, .int .i64 x.gs, .int .i64 x.gp, .int .i64 x.gpo, .int .i64 x.gm, .int .i64 x.gmo, .string x.tx, .int .i64 x.kids]
theorem run_bsN (W:World) (x:Nd):(Instr.buildSlice 24 1 #[(0,ndV x)]).run Tryz.prog W = .ok (.slice (some ⟨W.heap.size,0,none⟩) 1 1) (W.alloc (.cells (ndA x) 36)):=by
 obtain⟨k,wd,ht,dp,sh,fo,ch,nn,gs,gp,gpo,gm,gmo,tx,kids⟩:=x
 kernel_rfl
theorem flatN_app:∀xs ys:List Nd,flatN (xs ++ ys)=flatN xs ++ flatN ys
 | [],ys=>by simp[flatN]
 | x :: xs,ys=>by simp[flatN,flatN_app xs ys,List.append_assoc]
theorem nn_one {w:World} {g:Nat} {x:Nd} (h:w.heap[g]? = some (ndO x)):NN 0 w (.slice (some ⟨g,0,none⟩) 1 1) [x]:=by
 refine .inr ⟨g,0,1,rfl,Nat.le_refl _,Nat.zero_le _,fun _=>(Array.getElem?_eq_some_iff.1 h).1,fun j u hj=>?_⟩
 rw[Nat.zero_add,cell_of_row _ _ j _ 36 _ h]
 have e:flatN [x]=(ndA x).toList:=by simp[flatN,Nd.cells]
 rw[e] at hj
 simpa using hj
theorem wp_appN {w:World} {o:Oper} {a:Act} {K:Act→World→Prop} {Q:Exit→Act→World→Prop} (s x:Operand) (ho:o.op = .call { callee:= .builtin .append,args:=#[s,x],argTypes:=#[24,24] })
 (base:Nat) (v:Value) (n:Nat) (xs:List Nd) (hs:a.eval s=v) (hown:w.ownsRow base 36 15 v n (flatN xs)) (u:Value) (ys:List Nd) (hx:a.eval x=u) (hp:NN 0 w u ys) (hn:n+ys.length≤5000000) (hbase:base≤w.heap.size)
 (h:∀v' w',w'.ownsRow base 36 15 v' (n+ys.length) (flatN (xs ++ ys))→w.grownBy w' v.ownBlock→(v'.ownBlock=v.ownBlock∨v'.ownBlock=some w.heap.size)→K (a.put o.dst v') w'):o.wp Tryz.prog a w K Q:=by
 obtain⟨i0,hi,hz0,hz1,hz2⟩:=info_parts Tryz.info57c
 rcases hp with ⟨rfl,rfl⟩ | ⟨b,off,cap,rfl,hc,_,hb,hq⟩
 ·have hrun:=run_append_owned_none (P:=Tryz.prog) (w:=w) base 24 o.type 36 i0 15 Tryz.underlying24 hi v n _ hown
  unfold Oper.wp
  simp[execOp,ho,resolve,invoke,builtin,hs,hx,hrun,Result.andThen]
  exact h v w (by simpa using hown) ⟨rfl,rfl,rfl,Nat.le_refl _,fun _ _ _=>rfl⟩ (.inl rfl)
 ·obtain⟨v',w',hr,h2,h3,h4,h5⟩:=run_append_own_at (P:=Tryz.prog) w base 24 o.type 36 i0 (ndV Nd.none) 15 128 Tryz.underlying24 hi hz0 hz1 hz2 rfl (by decide) v n _ hown ⟨b,off,none⟩ ys.length cap (flatN ys) (flatN_len ys) (fun j u hj=>by
   have h9:=hq j u hj
   unfold Addr.add
   split
   ·rename_i e;have e2:j=0:=by simpa using e
    subst e2;exact h9
   ·exact h9) (flatN_one ys) (by unfold maxLen;omega) (by omega) hbase
  unfold Oper.wp execOp
  simp only[ho,resolve,invoke,builtin,Sem.run_bind,Sem.run_pure,Result.andThen_ok,List.map_toArray,List.map_cons,List.map_nil,hs,hx,hr]
  exact h v' w' (by rw[flatN_app];exact h2) h3 h5
theorem wpList_appN {w:World} {ops:Array Oper} {rest:List Oper} {o:Oper} {a:Act} {Q:Exit→Act→World→Prop} (hgd:o.guard=none) (s x:Operand) (ho:o.op = .call { callee:= .builtin .append,args:=#[s,x],argTypes:=#[24,24] })
 (base:Nat) (v:Value) (n:Nat) (xs:List Nd) (hs:a.eval s=v) (hown:w.ownsRow base 36 15 v n (flatN xs)) (u:Value) (ys:List Nd) (hx:a.eval x=u) (hp:NN 0 w u ys) (hn:n+ys.length≤5000000) (hbase:base≤w.heap.size)
 (h:∀v' w',w'.ownsRow base 36 15 v' (n+ys.length) (flatN (xs ++ ys))→w.grownBy w' v.ownBlock→(v'.ownBlock=v.ownBlock∨v'.ownBlock=some w.heap.size)→wpList Tryz.prog ops Q rest (a.put o.dst v') w'):wpList Tryz.prog ops Q (o :: rest) a w :=
 wpList_plain hgd fun _ hK=>wp_appN s x ho base v n xs hs hown u ys hx hp hn hbase fun v' w' h2 h3 h4=>hK _ _ (h v' w' h2 h3 h4)
theorem NN.bel {w w':World} {v:Value} {xs:List Nd} (h:NN 0 w v xs) (hb:Below w.heap.size w w'):NN 0 w' v xs:=by
 rcases h with h | ⟨b,off,cap,rfl,h1,h2,h3,h4⟩
 ·exact .inl h
 ·refine .inr ⟨b,off,cap,rfl,h1,h2,fun h=>Nat.lt_of_lt_of_le (h3 h) hb.size,fun j u hj=>?_⟩
  have h0:0<xs.length:=by
   cases xs with
   | nil=>simp[flatN] at hj
   | cons _ _=>simp
  exact (hb.cell (p:=⟨b,off+j,none⟩) (h3 h0)).trans (h4 j u hj)
theorem ndC_cells {w:World} {R:Nat} {x:Nd} (h:w.heap[R]? = some (ndO x)):(∀j,w.cell? ⟨R,j,none⟩=(ndA x)[j]?)∧∀j,w.frozen? ⟨R,j,none⟩=false :=
 ⟨fun j=>cell_of_row w R j _ 36 _ h,fun j=>frozen_of_row w R j _ _ h⟩
theorem nd_15 {w:World} {R:Nat} {x:Nd} (h:w.heap[R]? = some (ndO x)):w.cell? ⟨R,0,none⟩=some (.int .i64 x.k)∧w.cell? ⟨R,1,none⟩=some (.int .i64 x.wd)∧w.cell? ⟨R,2,none⟩=some (.int .i64 x.ht)∧w.cell? ⟨R,3,none⟩=some (.int .i64 x.dp)∧w.cell? ⟨R,4,none⟩=some (.int .i64 x.sh)∧w.cell? ⟨R,5,none⟩=some (.int .i64 x.fo)∧w.cell? ⟨R,6,none⟩=some (.int .i64 x.ch)∧w.cell? ⟨R,7,none⟩=some (.int .i64 x.nn)∧w.cell? ⟨R,8,none⟩=some (.int .i64 x.gs)∧w.cell? ⟨R,9,none⟩=some (.int .i64 x.gp)∧w.cell? ⟨R,10,none⟩=some (.int .i64 x.gpo)∧w.cell? ⟨R,11,none⟩=some (.int .i64 x.gm)∧w.cell? ⟨R,12,none⟩=some (.int .i64 x.gmo)∧w.cell? ⟨R,13,none⟩=some (.string x.tx)∧w.cell? ⟨R,14,none⟩=some (.int .i64 x.kids):=by
 have h:=(ndC_cells h).1
 exact⟨h 0,h 1,h 2,h 3,h 4,h 5,h 6,h 7,h 8,h 9,h 10,h 11,h 12,h 13,h 14⟩
set_option maxRecDepth 20000 in
set_option maxHeartbeats 8000000 in
theorem char8_any (n:Nat) (c:Int) (w:World) (hn:n≤15) :
 Calls Tryz.prog 101 #[.int .i64 (n:Int), .int .i64 c] w fun e w'=>∃x:Nd,(e = .returned (ndV x)∧x.tx=⟨#[]⟩)∧Below w.heap.size w w':=by
 have hR0:=heap_alloc_new w (ndO Nd.none)
 have hB0:=below1 w (ndO Nd.none)
 go_enter Tryz.func101,Tryz.ntmps101
 go_wp2_with fail
 refine (plainFont_any n _ hn).mono ?_
 rintro e w1 ⟨nm,gv,pa,pn,pc,s1,s2,s3,s4,s5,q,r,m,rfl,hr,hm,hb1⟩
 have hsz:w.heap.size<w1.heap.size:=by have:=hb1.size;simp at this;omega
 have hR1:w1.heap[w.heap.size]? = some (ndO Nd.none):=(hb1.block _ (by simp)).trans hR0
 have HB1:Hid (Below w.heap.size w w1):=hideP (below_more hB0 hb1 (by simp))
 obtain⟨ga,gc,rfl⟩:=hr.shape0
 have HR1:=hideP hR1
 have HG:=hideP hr
 clear hR0 hB0 hb1 hR1 hr
 go_wp2_with fail
 have hB2:=below1 w1 (.cells (ftA nm (.slice ga m gc) (.slice pa pn pc) s1 s2 s3 s4 s5 q r) 211)
 refine (glyph_any c _ (HG.out.below hB2) hm).mono ?_
 rintro e w2 ⟨i,rfl,i0,i1,hb2⟩
 have hsz2:w1.heap.size<w2.heap.size:=by have:=hb2.size;simp at this;omega
 have hF2:w2.heap[w1.heap.size]? = some (.cells (ftA nm (.slice ga m gc) (.slice pa pn pc) s1 s2 s3 s4 s5 q r) 211 (0,0)):=(hb2.block _ (by simp)).trans (heap_alloc_new w1 _)
 have hR2:w2.heap[w.heap.size]? = some (ndO Nd.none):=(hb2.block _ (by simp;omega)).trans ((Below.heap_alloc _ _ _ hsz).trans HR1.out)
 have hBB:Below w.heap.size w w2:=below_more (HB1.out.alloc HB1.out.size _) hb2 (by have:=HB1.out.size;simp;omega)
 have hG2:=(HG.out.below hB2).below hb2
 have HBB:=hideP hBB
 have HR2:=hideP hR2
 have HG2:=hideP hG2
 have f1:w2.cell? ⟨w1.heap.size,1,none⟩=some (.slice ga m gc):=cell_of_row _ _ 1 _ 211 _ hF2
 clear hB2 hb2 hF2 hR2 hBB hG2 HG HR1 HB1
 obtain⟨R,hR⟩:∃R,R=w.heap.size:=⟨_,rfl⟩
 rw[← hR] at HR2
 by_cases hi:i<0
 ·obtain⟨r0,r1,r2,r3,r4,r5,r6,r7,r8,r9,r10,r11,r12,r13,r14⟩:=nd_15 HR2.out
  have fR:=(ndC_cells HR2.out).2
  have HF:Hid ((fif w2 R 2 0 0 0 0 0 0 0 0 0 0 0 0 ⟨#[]⟩ 0).heap[R]? = some (ndO ⟨2,0,0,0,0,0,0,0,0,0,0,0,0,⟨#[]⟩,0⟩)∧Below w.heap.size w (fif w2 R 2 0 0 0 0 0 0 0 0 0 0 0 0 ⟨#[]⟩ 0)):=hideP ⟨fif_heap HR2.out _ _ _ _ _ _ _ _ _ _ _ _ _ _ _,fif_below HBB.out (by omega) _ _ _ _ _ _ _ _ _ _ _ _ _ _ _⟩
  rw[← hR]
  clear hR
  go_wp2
  exact bodyPost_ret (v:=ndV ⟨2,0,0,0,0,0,0,0,0,0,0,0,0,⟨#[]⟩,0⟩) (results_cell_row rfl _ _ R 36 _ (0,0) _ rfl HF.out.1 Tryz.underlying36 rfl (by kernel_rfl)) rfl ⟨⟨2,0,0,0,0,0,0,0,0,0,0,0,0,⟨#[]⟩,0⟩,⟨rfl,rfl⟩,HF.out.2⟩
 ·obtain⟨k,rfl⟩:∃k:Nat,i=(k:Int):=⟨i.toNat,by omega⟩
  have hkm:k<m:=by omega
  obtain⟨g,cap,hv,hc⟩:=HG2.out.cell
  obtain⟨hve,hgl⟩:=hv (by omega)
  cases hve
  obtain⟨y0,hy0⟩:=hc (k*4) (by omega)
  obtain⟨y1,hy1⟩:=hc (k*4+1) (by omega)
  obtain⟨y2,hy2⟩:=hc (k*4+2) (by omega)
  obtain⟨y3,hy3⟩:=hc (k*4+3) (by omega)
  have hRA:(w2.alloc (.cells (gyA y0 y1 y2 y3) 215)).heap[R]? = some (ndO Nd.none):=(Below.heap_alloc _ _ _ (by omega)).trans HR2.out
  have HBA:Hid (Below w.heap.size w (w2.alloc (.cells (gyA y0 y1 y2 y3) 215))):=hideP (HBB.out.alloc HBB.out.size _)
  clear hv hc HG2
  obtain⟨r0,r1,r2,r3,r4,r5,r6,r7,r8,r9,r10,r11,r12,r13,r14⟩:=nd_15 hRA
  have fR:=(ndC_cells hRA).2
  have HF:Hid ((fif (w2.alloc (.cells (gyA y0 y1 y2 y3) 215)) R 1 y1 y2 y3 0 (n:Int) c 0 0 0 0 0 0 ⟨#[]⟩ 0).heap[R]? = some (ndO ⟨1,y1,y2,y3,0,(n:Int),c,0,0,0,0,0,0,⟨#[]⟩,0⟩)∧Below w.heap.size w (fif (w2.alloc (.cells (gyA y0 y1 y2 y3) 215)) R 1 y1 y2 y3 0 (n:Int) c 0 0 0 0 0 0 ⟨#[]⟩ 0)):=hideP ⟨fif_heap hRA _ _ _ _ _ _ _ _ _ _ _ _ _ _ _,fif_below HBA.out (by omega) _ _ _ _ _ _ _ _ _ _ _ _ _ _ _⟩
  rw[← hR]
  clear hR hRA
  go_wp2
  exact bodyPost_ret (v:=ndV ⟨1,y1,y2,y3,0,(n:Int),c,0,0,0,0,0,0,⟨#[]⟩,0⟩) (results_cell_row rfl _ _ R 36 _ (0,0) _ rfl HF.out.1 Tryz.underlying36 rfl (by kernel_rfl)) rfl ⟨⟨1,y1,y2,y3,0,(n:Int),c,0,0,0,0,0,0,⟨#[]⟩,0⟩,⟨rfl,rfl⟩,HF.out.2⟩
end Go.Proofs.YtbbehmcekbnkiaaGreat

import Derived.RangeFuncNested
import Derived.RangeFuncBound
import Derived.RangeFuncCalls
import Derived.RangeFuncLeaves
import Derived.Shelf.Abstract
import Derived.Shelf.RegionOpen
import Derived.WalkKit
import Derived.OwnWalkIn
import Derived.TacticsInMore
import Derived.LoopNIn
import Derived.LoopIn
import Derived.Test.YtbbehmcekbnkiaaGreatOnl
import Derived.Test.YtbbehmcekbnkiaaGreatSdp
import Derived.Test.YtbbehmcekbnkiaaGreatCln
import Derived.Test.YtbbehmcekbnkiaaGreatLok
namespace Go.Proofs.YtbbehmcekbnkiaaGreat.Wk
open Go.RowKit Go.Shelf
set_option linter.unusedVariables false
set_option linter.unusedSimpArgs false
attribute [local go_sem] Oper.semAt_some
theorem Src.kept {xs:List Nd} {ao:Option Addr} {Bs b off cap:Nat} {A B:World} {row:Option Nat} (h:Src xs ao Bs b off cap A) (hg:A.grownBy B row) (hr:∀r,row=some r→∃o:Obj,A.heap[r]? = some o∧o.isCells=false):Src xs ao Bs b off cap B:=by
 refine⟨cell_kept h.box hg hr,h.some_,fun i hi=>?_⟩
 obtain⟨y,hk,hc⟩:=h.at_ i hi
 refine⟨y,hk,fun j hj=>?_⟩
 have h1:=hc j hj
 rw[List.getElem?_eq_getElem (show j<y.cells.length from hj)] at h1 ⊢
 exact cell_kept h1 hg hr
theorem Src.zero {xs:List Nd} {ao:Option Addr} {Bs g cap i:Nat} {A:World} (h:Src xs ao Bs g 0 cap A) (hB:g≠Bs):Src xs ao Bs g 0 cap (A.setCell ⟨g,i*15+1,none⟩ (.int .i64 0)):=by
 refine⟨?_,h.some_,fun k hk=>?_⟩
 ·rw[World.cell?_setCell_other _ _ _ _ (by intro e;simp only[Addr.mk.injEq] at e;omega)]
  exact h.box
 ·obtain⟨y,hkin,hc⟩:=h.at_ k hk
  by_cases hik:k=i
  ·subst hik
   refine⟨{ y with wd:=0 },hkin,fun j hj=>?_⟩
   by_cases hj1:j=1
   ·subst hj1
    rw[show 0+k*15+1=k*15+1 by omega]
    have h1:=hc 1 hj
    rw[show 0+k*15+1=k*15+1 by omega] at h1
    exact World.cell?_setCell_same' _ _ _ (by rw[h1];rfl)
   ·rw[World.cell?_setCell_other _ _ _ _ (by intro e;simp only[Addr.mk.injEq] at e;omega),hc j hj]
    have:j=0∨j=2∨j=3∨j=4∨j=5∨j=6∨j=7∨j=8∨j=9∨j=10∨j=11∨j=12∨j=13∨j=14:=by omega
    rcases this with rfl | rfl | rfl | rfl | rfl | rfl | rfl | rfl | rfl | rfl | rfl | rfl | rfl | rfl <;> rfl
  ·refine⟨y,hkin,fun j hj=>?_⟩
   rw[World.cell?_setCell_other _ _ _ _ (by intro e;simp only[Addr.mk.injEq] at e;omega)]
   exact hc j hj
end Go.Proofs.YtbbehmcekbnkiaaGreat.Wk
namespace Go.Proofs.YtbbehmcekbnkiaaGreat
open Go.RowKit
set_option linter.unusedVariables false
set_option linter.unusedSimpArgs false
theorem ask_box6 {t:Nd} {v:Value} (h:ThingQ t v):∃a1 a2 a3 a4 a5 a6:Int,(∀W:World,(Instr.typeAssert v 85 78 true).run Tryz.prog W = .ok (.tuple #[.agg #[.int .i64 a1, .int .i64 a2, .int .i64 a3, .int .i64 a4, .int .i64 a5, .int .i64 a6], .bool (boxB t)]) W)∧(boxB t=true→a1=t.k∧a2=t.wd∧a3=t.ht∧a4=t.dp∧a5=t.sh∧a6=t.kids):=by
 cases hb:boxB t with
 | false =>
  obtain⟨a1,a2,a3,a4,a5,a6,h1⟩:=h.2.1.bx
  rw[hb] at h1
  exact⟨a1,a2,a3,a4,a5,a6,h1,fun h=>by cases h⟩
 | true =>
  obtain⟨_,_,rfl⟩:=h
  obtain⟨k,wd,ht,dp,sh,fo,ch,nn,gs,gp,gpo,gm,gmo,tx,kids⟩:=t
  have hk:k=6∨k=7:=by simpa [boxB] using hb
  rcases hk with rfl | rfl
  ·exact⟨6,wd,ht,dp,sh,kids,fun _=>by kernel_rfl,fun _=>⟨rfl,rfl,rfl,rfl,rfl,rfl⟩⟩
  ·exact⟨7,wd,ht,dp,sh,kids,fun _=>by kernel_rfl,fun _=>⟨rfl,rfl,rfl,rfl,rfl,rfl⟩⟩
set_option maxRecDepth 20000 in
set_option maxHeartbeats 4000000 in
theorem onlyBox6_any {v:Value} {xs:List Nd} {w:World} (h:NRow 0 w v xs) (hs:xs.length≤1048576) :
 Calls Tryz.prog 33 #[v] w fun e w'=>(∃a1 a2 a3 a4 a5 a6:Int,e = .returned (.tuple #[.agg #[.int .i64 a1, .int .i64 a2, .int .i64 a3, .int .i64 a4, .int .i64 a5, .int .i64 a6], .bool (oneB xs)])∧(oneB xs=true→a1=(xs.getD 0 Nd.none).k∧a2=(xs.getD 0 Nd.none).wd∧a3=(xs.getD 0 Nd.none).ht∧a4=(xs.getD 0 Nd.none).dp∧a5=(xs.getD 0 Nd.none).sh∧a6=(xs.getD 0 Nd.none).kids))∧Below w.heap.size w w':=by
 have HC:Hid (∀W,Below w.heap.size w W→Calls Tryz.prog 36 #[v] W fun e w'=>e = .returned (.bool (listB xs))∧Below W.heap.size W w'):=hideP (fun W hW=>implListOk_any (SRow.below ndStable h hW) hs)
 have hsm:=hs
 obtain⟨ao,n,cap,rfl,hl,hr⟩:=h
 obtain⟨lb,hlb⟩:∃lb,lb=listB xs:=⟨_,rfl⟩
 rw[← hlb] at HC
 have HLB:=hideP hlb
 have HL:=hideP hl
 have HR:Hid (0<n→∃b off,ao=some ⟨b,off,none⟩∧0≤b∧b<w.heap.size∧∀i,i<n→∃cs:List Value,cs.length=15∧NdR 0 w cs (xs.getD i Nd.none)∧∀j,j<15→w.cell? ⟨b,off+i*15+j,none⟩=cs[j]?):=hideP hr
 obtain⟨R,hR⟩:∃R,R=oneB xs:=⟨_,rfl⟩
 rw[← hR]
 have HRR:=hideP hR
 have hnm:n≤1048576:=by rw[← hl];exact hs
 clear hr hl hs hlb hR hsm
 go_enter Tryz.func33,Tryz.ntmps33
 go_wp2_with fail
 refine (HC.out _ (below1 _ _)).mono ?_
 rintro e w1 ⟨rfl,hb1⟩
 have hx1:w.heap.size<w1.heap.size:=by have:=hb1.size;simp at this;omega
 have B1:Hid (Below w.heap.size w w1):=hideP (below_more (below1 _ _) hb1 (by simp))
 have BZ:=B1
 have QZ:Hid (∀x,Below w1.heap.size w1 x→∀i,i<6→x.cell? ⟨w.heap.size,i,none⟩=some (.int .i64 0)):=hideP (fun x hx i hi=>by
  rw[Below.cell hx (p:=⟨w.heap.size,i,none⟩) hx1,Below.cell hb1 (p:=⟨w.heap.size,i,none⟩) (by simp)]
  have:i=0∨i=1∨i=2∨i=3∨i=4∨i=5:=by omega
  rcases this with rfl | rfl | rfl | rfl | rfl | rfl <;> simp[go_sem])
 have QF:Hid (∀x,Below w1.heap.size w1 x→∀i,x.frozen? ⟨w.heap.size,i,none⟩=false):=hideP (fun x hx i=>by
  rw[Below.frozen hx (p:=⟨w.heap.size,i,none⟩) hx1,Below.frozen hb1 (p:=⟨w.heap.size,i,none⟩) (by simp)]
  simp[go_sem])
 have z0:=QZ.out w1 (Below.refl _ _) 0 (by omega)
 have z1:=QZ.out w1 (Below.refl _ _) 1 (by omega)
 have z2:=QZ.out w1 (Below.refl _ _) 2 (by omega)
 have z3:=QZ.out w1 (Below.refl _ _) 3 (by omega)
 have z4:=QZ.out w1 (Below.refl _ _) 4 (by omega)
 have z5:=QZ.out w1 (Below.refl _ _) 5 (by omega)
 have zf:=QF.out w1 (Below.refl _ _)
 have HB1:=hideP hb1
 clear hb1
 cases lb with
 | false =>
  have HE:Hid (R=false):=hideP (by rw[HRR.out];unfold oneB;rw[← HLB.out];rfl)
  go_wp2
  refine bodyPost_ret (v:= .tuple #[.agg #[.int .i64 0, .int .i64 0, .int .i64 0, .int .i64 0, .int .i64 0, .int .i64 0], .bool false]) (by simp[results,Tryz.results33,go_sem,z0,z1,z2,z3,z4,z5]) rfl ⟨⟨0,0,0,0,0,0,by rw[HE.out],fun h=>absurd (HE.out.symm.trans h) (by decide)⟩,?_⟩
  (have BZ2:=BZ.out;repeat (first | with_reducible exact BZ2 | (with_reducible refine Below.alloc ?_ ?_ _;rotate_left;focus (first | (simp;done) | (simp;omega))) | (with_reducible refine Below.setCell ?_ ?_ _;rotate_left;focus (first | (simp;done) | (simp;omega)))))
 | true =>
  by_cases hn0:n=0
  ·subst hn0
   have HE:Hid (R=false):=hideP (by rw[HRR.out];unfold oneB;rw[HL.out];simp)
   go_wp2
   refine bodyPost_ret (v:= .tuple #[.agg #[.int .i64 0, .int .i64 0, .int .i64 0, .int .i64 0, .int .i64 0, .int .i64 0], .bool false]) (by simp[results,Tryz.results33,go_sem,z0,z1,z2,z3,z4,z5]) rfl ⟨⟨0,0,0,0,0,0,by rw[HE.out],fun h=>absurd (HE.out.symm.trans h) (by decide)⟩,?_⟩
   (have BZ2:=BZ.out;repeat (first | with_reducible exact BZ2 | (with_reducible refine Below.alloc ?_ ?_ _;rotate_left;focus (first | (simp;done) | (simp;omega))) | (with_reducible refine Below.setCell ?_ ?_ _;rotate_left;focus (first | (simp;done) | (simp;omega)))))
  ·have hnp:0<n:=by omega
   have hnz:((n:Int) == 0)=false:=by simp;omega
   obtain⟨b,off,rfl,_,hb,hc⟩:=HR.out hnp
   obtain⟨cs,hcl,hRel,hcj⟩:=hc 0 hnp
   obtain⟨t,ht⟩:∃t,t=xs.getD 0 Nd.none:=⟨_,rfl⟩
   rw[← ht] at hRel
   have HT:=hideP ht
   have TC:Hid (∀W:World,Calls Tryz.prog 62 #[ndV t] W fun r w'=>(∃v,r = .returned v∧ThingQ t v)∧Below W.heap.size W w'):=hideP (fun W=>thing_q t W)
   obtain⟨bb,hbb⟩:∃bb,bb=boxB t:=⟨_,rfl⟩
   have HBB:=hideP hbb
   obtain⟨kd,wd,hh,dp,sh,fo,ch,nn,gs,gp,gpo,gm,gmo,tx,kids⟩:=t
   rw[show cs=_ from hRel] at hcj
   simp only[Nd.cells,Nat.zero_mul,Nat.add_zero] at hcj
   have hnp':(0:Int)<(n:Int):=by omega
   have g0:w1.cell? ⟨b,off,none⟩=some (.int .i64 kd):=(B1.out.cell (p:=⟨b,off+0,none⟩) hb).trans (by simpa using hcj 0 (by omega))
   have g1:w1.cell? ⟨b,off+1,none⟩=some (.int .i64 wd):=(B1.out.cell (p:=⟨b,off+1,none⟩) hb).trans (by simpa using hcj 1 (by omega))
   have g2:w1.cell? ⟨b,off+2,none⟩=some (.int .i64 hh):=(B1.out.cell (p:=⟨b,off+2,none⟩) hb).trans (by simpa using hcj 2 (by omega))
   have g3:w1.cell? ⟨b,off+3,none⟩=some (.int .i64 dp):=(B1.out.cell (p:=⟨b,off+3,none⟩) hb).trans (by simpa using hcj 3 (by omega))
   have g4:w1.cell? ⟨b,off+4,none⟩=some (.int .i64 sh):=(B1.out.cell (p:=⟨b,off+4,none⟩) hb).trans (by simpa using hcj 4 (by omega))
   have g5:w1.cell? ⟨b,off+5,none⟩=some (.int .i64 fo):=(B1.out.cell (p:=⟨b,off+5,none⟩) hb).trans (by simpa using hcj 5 (by omega))
   have g6:w1.cell? ⟨b,off+6,none⟩=some (.int .i64 ch):=(B1.out.cell (p:=⟨b,off+6,none⟩) hb).trans (by simpa using hcj 6 (by omega))
   have g7:w1.cell? ⟨b,off+7,none⟩=some (.int .i64 nn):=(B1.out.cell (p:=⟨b,off+7,none⟩) hb).trans (by simpa using hcj 7 (by omega))
   have g8:w1.cell? ⟨b,off+8,none⟩=some (.int .i64 gs):=(B1.out.cell (p:=⟨b,off+8,none⟩) hb).trans (by simpa using hcj 8 (by omega))
   have g9:w1.cell? ⟨b,off+9,none⟩=some (.int .i64 gp):=(B1.out.cell (p:=⟨b,off+9,none⟩) hb).trans (by simpa using hcj 9 (by omega))
   have g10:w1.cell? ⟨b,off+10,none⟩=some (.int .i64 gpo):=(B1.out.cell (p:=⟨b,off+10,none⟩) hb).trans (by simpa using hcj 10 (by omega))
   have g11:w1.cell? ⟨b,off+11,none⟩=some (.int .i64 gm):=(B1.out.cell (p:=⟨b,off+11,none⟩) hb).trans (by simpa using hcj 11 (by omega))
   have g12:w1.cell? ⟨b,off+12,none⟩=some (.int .i64 gmo):=(B1.out.cell (p:=⟨b,off+12,none⟩) hb).trans (by simpa using hcj 12 (by omega))
   have g13:w1.cell? ⟨b,off+13,none⟩=some (.string tx):=(B1.out.cell (p:=⟨b,off+13,none⟩) hb).trans (by simpa using hcj 13 (by omega))
   have g14:w1.cell? ⟨b,off+14,none⟩=some (.int .i64 kids):=(B1.out.cell (p:=⟨b,off+14,none⟩) hb).trans (by simpa using hcj 14 (by omega))
   clear hc hcj hcl ht hRel hbb
   by_cases hkd:kids=(n:Int) - 1
   ·have hne:(kids != (n:Int) - 1)=false:=by simp[hkd]
    have hne2:(kids == (n:Int) - 1)=true:=by simp[hkd]
    have HKD:=hideP hkd
    clear hkd
    go_wp2_with fail
    refine (TC.out _).mono ?_
    rintro e w2 ⟨⟨vt,rfl,hth⟩,hb2⟩
    obtain⟨a1,a2,a3,a4,a5,a6,hta,hva⟩:=ask_box6 hth
    rw[← HBB.out] at hta hva
    have HV:=hideP hva
    clear hva
    have HE:Hid (R=bb):=hideP (by rw[HRR.out];unfold oneB;rw[← HLB.out,← HT.out,← HBB.out,HL.out,decide_eq_true hnp];dsimp only;rw[decide_eq_true HKD.out];simp)
    have BZ2:Below w.heap.size w w2:=below_more B1.out hb2 B1.out.size
    have hx2:w.heap.size<w2.heap.size:=Nat.lt_of_lt_of_le hx1 hb2.size
    obtain⟨hc2,hf2⟩:=bcell (HB1.out.trans (hb2.mono HB1.out.size))
    simp only[World.size_alloc] at hc2 hf2
    have BY:=hideP BZ2
    have hsh:vt = .nilIface∨∃X p,vt = .iface X p:=by
     rcases hth.1 with ⟨h,_⟩ | ⟨X,p,_,_,_,_,h,_⟩
     ·exact .inl h
     ·exact .inr ⟨X,p,h⟩
    clear hth hb2 z0 z1 z2 z3 z4 z5 zf g0 g1 g2 g3 g4 g5 g6 g7 g8 g9 g10 g11 g12 g13 g14 BZ2 QZ QF hne hne2 hnz hnp hnp' HC TC HR
    rcases hsh with rfl | ⟨X,p,rfl⟩
    all_goals
     go_wp2
     refine bodyPost_ret (v:= .tuple #[.agg #[.int .i64 a1, .int .i64 a2, .int .i64 a3, .int .i64 a4, .int .i64 a5, .int .i64 a6], .bool bb]) (by simp[results,Tryz.results33,go_sem,hc2,hx2]) rfl ⟨⟨a1,a2,a3,a4,a5,a6,by rw[HE.out],fun h=>by rw[← HT.out];exact HV.out (HE.out.symm.trans h)⟩,?_⟩
     have BY2:=BY.out
     clear hc2 hf2 BY
     repeat (first | with_reducible exact BY2 | (with_reducible refine Below.alloc ?_ ?_ _;rotate_left;focus (first | (simp;done) | (simp;omega))) | (with_reducible refine Below.setCell ?_ ?_ _;rotate_left;focus (first | (simp;done) | (simp;omega))))
   ·have hne:(kids != (n:Int) - 1)=true:=by simpa using hkd
    have hne2:(kids == (n:Int) - 1)=false:=by simpa using hkd
    have HE:Hid (R=false):=hideP (by rw[HRR.out];unfold oneB;rw[← HT.out,HL.out];dsimp only;rw[decide_eq_false hkd];simp)
    go_wp2
    refine bodyPost_ret (v:= .tuple #[.agg #[.int .i64 0, .int .i64 0, .int .i64 0, .int .i64 0, .int .i64 0, .int .i64 0], .bool false]) (by simp[results,Tryz.results33,go_sem,z0,z1,z2,z3,z4,z5]) rfl ⟨⟨0,0,0,0,0,0,by rw[HE.out],fun h=>absurd (HE.out.symm.trans h) (by decide)⟩,?_⟩
    (have BZ2:=BZ.out;repeat (first | with_reducible exact BZ2 | (with_reducible refine Below.alloc ?_ ?_ _;rotate_left;focus (first | (simp;done) | (simp;omega))) | (with_reducible refine Below.setCell ?_ ?_ _;rotate_left;focus (first | (simp;done) | (simp;omega)))))
abbrev w64 (x:Int):Int:=wrap64 x
structure Pn where
 dn:Bool
 x:Int
 y:Int
 e:Nat
abbrev Spt:=Int×Int×Int×Int×Int×Int
def mvP (p:Pn) (d:Int):Pn:=if p.dn then ⟨p.dn,p.x,w64 (p.y+d),p.e⟩ else ⟨p.dn,w64 (p.x+d),p.y,p.e⟩
def atX (p:Pn) (sh:Int):Int:=if p.dn then w64 (p.x+sh) else p.x
def atY (p:Pn) (sh ht:Int):Int:=if p.dn then w64 (p.y+ht) else w64 (p.y+sh)
def byP (p:Pn) (z:Nd):Pn:=if p.dn then mvP p (w64 (z.ht+z.dp)) else mvP p z.wd
def inP (k ht X Y:Int) (e:Nat):Pn:=if k=7 then ⟨true,X,w64 (Y - ht),e⟩ else ⟨false,X,Y,e⟩
def seenP (p:Pn) (z:Nd):Option Spt :=
 if z.k=1 then (if p.dn then none else some (atX p 0,atY p 0 z.ht,z.fo,z.ch,z.wd,z.ht))
 else if 0<z.wd∧0<w64 (z.ht+z.dp) then some (atX p 0,w64 (atY p 0 z.ht+z.dp),0,-1,z.wd,w64 (z.ht+z.dp)) else none
def fitP (s:Spt):Bool:=fitsB s.1 && fitsB s.2.1
def stepS (ns:List Nd) (go:Nat→List Pn→List Spt→List Spt) (at_:Nat) (p:Pn) (ps:List Pn) (acc:List Spt):List Spt :=
 if at_<p.e then
  if (ns.getD at_ Nd.none).k=6∨(ns.getD at_ Nd.none).k=7 then go (at_+1) (inP (ns.getD at_ Nd.none).k (ns.getD at_ Nd.none).ht (atX p (ns.getD at_ Nd.none).sh) (atY p (ns.getD at_ Nd.none).sh (ns.getD at_ Nd.none).ht) (at_+1+(ns.getD at_ Nd.none).kids.toNat) :: byP p (ns.getD at_ Nd.none) :: ps) acc
  else if (ns.getD at_ Nd.none).k=11 then go (at_+1+(ns.getD at_ Nd.none).kids.toNat) (p :: ps) acc
  else if (ns.getD at_ Nd.none).k=2∨(ns.getD at_ Nd.none).k=3 then go (at_+1) (mvP p (ns.getD at_ Nd.none).wd :: ps) acc
  else if (ns.getD at_ Nd.none).k=1∨(ns.getD at_ Nd.none).k=5 then
   match seenP p (ns.getD at_ Nd.none) with
   | none=>go (at_+1) ((if (ns.getD at_ Nd.none).k=1 then p else byP p (ns.getD at_ Nd.none)) :: ps) acc
   | some s=>if fitP s then go (at_+1) (byP p (ns.getD at_ Nd.none) :: ps) (acc ++ [s]) else []
  else go (at_+1) (p :: ps) acc
 else go at_ ps acc
def runS (ns:List Nd):Nat→Nat→List Pn→List Spt→List Spt
 | 0,_,_,acc=>acc
 | _+1,_,[],acc=>acc
 | f+1,at_,p :: ps,acc=>stepS ns (runS ns f) at_ p ps acc
theorem run_step (ns:List Nd) (f at_:Nat) (p:Pn) (ps:List Pn) (acc:List Spt):runS ns (f+1) at_ (p :: ps) acc=stepS ns (runS ns f) at_ p ps acc:=rfl
def spotsL (ns:List Nd) (x y:Int):List Spt:=if oneB ns=true∧fitsB x=true∧fitsB y=true then runS ns (2*ns.length+2) 1 [inP (ns.getD 0 Nd.none).k (ns.getD 0 Nd.none).ht x y ns.length] [] else []
theorem w64_add (a b:Int):w64 (w64 a+b)=w64 (a+b):=by
 unfold w64 wrap64
 omega
theorem w64_in {a:Int} (h : -9223372036854775808≤a∧a≤9223372036854775807):w64 a=a:=by
 unfold w64 wrap64
 omega
def relP (dx dy:Int) (p q:Pn):Prop:=q.dn=p.dn∧q.e=p.e∧q.x=w64 (p.x+dx)∧q.y=w64 (p.y+dy)
def relS (dx dy:Int) (s t:Spt):Prop:=t.1=w64 (s.1+dx)∧t.2.1=w64 (s.2.1+dy)∧t.2.2=s.2.2
theorem w64_sw (a b d:Int):w64 (w64 (a+d)+b)=w64 (w64 (a+b)+d):=by rw[w64_add,w64_add];congr 1;omega
theorem relP.mv {dx dy:Int} {p q:Pn} (h:relP dx dy p q) (d:Int):relP dx dy (mvP p d) (mvP q d):=by
 obtain⟨h1,h2,h3,h4⟩:=h
 unfold mvP
 rw[h1]
 split
 ·exact⟨rfl,h2,h3,by show w64 (q.y+d)=w64 (w64 (p.y+d)+dy);rw[h4,w64_sw]⟩
 ·exact⟨rfl,h2,by show w64 (q.x+d)=w64 (w64 (p.x+d)+dx);rw[h3,w64_sw],h4⟩
theorem relP.by {dx dy:Int} {p q:Pn} (h:relP dx dy p q) (z:Nd):relP dx dy (byP p z) (byP q z):=by
 unfold byP
 rw[h.1]
 split
 ·exact h.mv _
 ·exact h.mv _
theorem relP.atx {dx dy:Int} {p q:Pn} (h:relP dx dy p q) (sh:Int):atX q sh=w64 (atX p sh+dx):=by
 unfold atX
 rw[h.1]
 split
 ·rw[h.2.2.1,w64_sw]
 ·exact h.2.2.1
theorem relP.aty {dx dy:Int} {p q:Pn} (h:relP dx dy p q) (sh ht:Int):atY q sh ht=w64 (atY p sh ht+dy):=by
 unfold atY
 rw[h.1]
 split
 ·rw[h.2.2.2,w64_sw]
 ·rw[h.2.2.2,w64_sw]
theorem relP.inn {dx dy X Y X2 Y2:Int} (k ht:Int) (e:Nat) (hx:X2=w64 (X+dx)) (hy:Y2=w64 (Y+dy)):relP dx dy (inP k ht X Y e) (inP k ht X2 Y2 e):=by
 unfold inP
 split
 ·refine⟨rfl,rfl,hx,?_⟩
  show w64 (Y2 - ht)=w64 (w64 (Y - ht)+dy)
  rw[hy,w64_add,Int.sub_eq_add_neg,w64_add]
  congr 1
  omega
 ·exact⟨rfl,rfl,hx,hy⟩
theorem relP.seen {dx dy:Int} {p q:Pn} (h:relP dx dy p q) (z:Nd):(seenP p z=none∧seenP q z=none)∨∃s t,seenP p z=some s∧seenP q z=some t∧relS dx dy s t:=by
 unfold seenP
 rw[h.1]
 split
 ·split
  ·exact .inl ⟨rfl,rfl⟩
  ·exact .inr ⟨_,_,rfl,rfl,h.atx 0,h.aty 0 z.ht,rfl⟩
 ·split
  ·refine .inr ⟨_,_,rfl,rfl,h.atx 0,?_,rfl⟩
   show w64 (atY q 0 z.ht+z.dp)=w64 (w64 (atY p 0 z.ht+z.dp)+dy)
   rw[h.aty 0 z.ht,w64_sw]
  ·exact .inl ⟨rfl,rfl⟩
def Two {α:Type} (r:α→α→Prop):List α→List α→Prop
 | [],[]=>True
 | a :: us,b :: vs=>r a b∧Two r us vs
 | _,_=>False
theorem Two.snoc {α:Type} {r:α→α→Prop}:∀{us vs:List α} {a b:α},Two r us vs→r a b→Two r (us ++ [a]) (vs ++ [b])
 | [],[],_,_,_,h=>⟨h,trivial⟩
 | _ :: _,_ :: _,_,_,h,g=>⟨h.1,Two.snoc h.2 g⟩
 | [],_ :: _,_,_,h,_=>h.elim
 | _ :: _,[],_,_,h,_=>h.elim
theorem Two.len {α:Type} {r:α→α→Prop}:∀{us vs:List α},Two r us vs→us.length=vs.length
 | [],[],_=>rfl
 | _ :: _,_ :: _,h=>by simp[Two.len h.2]
 | [],_ :: _,h=>h.elim
 | _ :: _,[],h=>h.elim
theorem Two.get {α:Type} {r:α→α→Prop} (d:α):∀{us vs:List α},Two r us vs→∀i,i<us.length→r (us.getD i d) (vs.getD i d)
 | a :: us,b :: vs,h,0,_=>h.1
 | a :: us,b :: vs,h,i+1,hi=>by
  rw[List.getD_cons_succ,List.getD_cons_succ]
  exact Two.get d h.2 i (by simpa using hi)
 | [],_,_,i,hi=>by simp at hi
 | _ :: _,[],h,_,_=>h.elim
theorem run_shift (ns:List Nd) (dx dy:Int):∀(f at_:Nat) (ps qs:List Pn) (acc bcc:List Spt),Two (relP dx dy) ps qs→Two (relS dx dy) acc bcc→runS ns f at_ ps acc=[]∨runS ns f at_ qs bcc=[]∨Two (relS dx dy) (runS ns f at_ ps acc) (runS ns f at_ qs bcc)
 | 0,_,_,_,_,_,_,h=> .inr (.inr (by simpa [runS] using h))
 | f+1,_,[],[],_,_,_,h=> .inr (.inr (by simpa [runS] using h))
 | f+1,at_,p :: ps,q :: qs,acc,bcc,hp,h=>by
  have hpq:=hp.1
  rw[run_step,run_step]
  unfold stepS
  rw[hpq.2.1]
  split
  ·split
   ·exact run_shift ns dx dy f _ _ _ _ _ ⟨relP.inn _ _ _ (hpq.atx _) (hpq.aty _ _),hpq.by _,hp.2⟩ h
   ·split
    ·exact run_shift ns dx dy f _ _ _ _ _ hp h
    ·split
     ·exact run_shift ns dx dy f _ _ _ _ _ ⟨hpq.mv _,hp.2⟩ h
     ·split
      ·rcases hpq.seen (ns.getD at_ Nd.none) with ⟨h1,h2⟩ | ⟨s,t,h1,h2,h3⟩
       ·rw[h1,h2]
        refine run_shift ns dx dy f _ _ _ _ _ ⟨?_,hp.2⟩ h
        split
        ·exact hpq
        ·exact hpq.by _
       ·rw[h1,h2]
        simp only
        split
        ·split
         ·exact run_shift ns dx dy f _ _ _ _ _ ⟨hpq.by _,hp.2⟩ (h.snoc h3)
         ·exact .inr (.inl rfl)
        ·exact .inl rfl
      ·exact run_shift ns dx dy f _ _ _ _ _ hp h
  ·exact run_shift ns dx dy f _ _ _ _ _ hp.2 h
 | _+1,_,[],_ :: _,_,_,h,_=>h.elim
 | _+1,_,_ :: _,[],_,_,h,_=>h.elim
theorem spots_move {ns:List Nd} {x y:Int} (hx : -1073741823≤x∧x≤1073741823) (hy : -1073741823≤y∧y≤1073741823):spotsL ns 0 0=[]∨spotsL ns x y=[]∨Two (relS x y) (spotsL ns 0 0) (spotsL ns x y):=by
 by_cases h:oneB ns=true
 ·by_cases h2:fitsB x=true∧fitsB y=true
  ·unfold spotsL
   rw[if_pos ⟨h,by decide,by decide⟩,if_pos ⟨h,h2⟩]
   refine run_shift ns x y _ _ _ _ _ _ ⟨relP.inn _ _ _ ?_ ?_,trivial⟩ trivial
   ·rw[Int.zero_add,w64_in (by omega)]
   ·rw[Int.zero_add,w64_in (by omega)]
  ·exact .inr (.inl (if_neg (fun g=>h2 g.2)))
 ·exact .inl (if_neg (fun g=>h g.1))
theorem inP_e (k ht X Y:Int) (e:Nat):(inP k ht X Y e).e=e:=by unfold inP;split <;> rfl
theorem mvP_e (p:Pn) (d:Int):(mvP p d).e=p.e:=by unfold mvP;split <;> rfl
theorem byP_e (p:Pn) (z:Nd):(byP p z).e=p.e:=by unfold byP;split <;> exact mvP_e _ _
theorem run_more {ns:List Nd} (hk:∀i,i<ns.length→0≤(ns.getD i Nd.none).kids∧(i:Int)+1+(ns.getD i Nd.none).kids≤ns.length):∀(f at_:Nat) (ps:List Pn) (acc:List Spt),(∀p∈ps,p.e≤ns.length)→2*(ns.length - at_)+ps.length<f→runS ns (f+1) at_ ps acc=runS ns f at_ ps acc
 | 0,_,_,_,_,h=>by omega
 | f+1,at_,[],acc,_,_=>rfl
 | f+1,at_,p :: ps,acc,hp,h=>by
  have hpe:=hp p (List.mem_cons_self ..)
  have hps:∀q∈ps,q.e≤ns.length:=fun q hq=>hp q (List.mem_cons_of_mem _ hq)
  have hall:∀q:Pn,q.e=p.e→∀r∈q :: ps,r.e≤ns.length:=fun q hq r hr=>by
   rcases List.mem_cons.1 hr with rfl | hr
   ·omega
   ·exact hps r hr
  rw[List.length_cons] at h
  rw[run_step,run_step]
  unfold stepS
  split
  ·rename_i hat
   have hki:=hk at_ (by omega)
   obtain⟨kn,hkn⟩:∃kn,kn=(ns.getD at_ Nd.none).kids.toNat:=⟨_,rfl⟩
   rw[← hkn]
   split
   ·refine run_more hk f _ _ _ (fun r hr=>?_) (by simp only[List.length_cons];omega)
    rcases List.mem_cons.1 hr with rfl | hr
    ·rw[inP_e];omega
    ·exact hall _ (byP_e _ _) r hr
   ·split
    ·exact run_more hk f _ _ _ hp (by simp only[List.length_cons];omega)
    ·split
     ·exact run_more hk f _ _ _ (hall _ (mvP_e _ _)) (by simp only[List.length_cons];omega)
     ·split
      ·cases seenP p (ns.getD at_ Nd.none) with
       | none =>
        refine run_more hk f _ _ _ (hall _ ?_) (by simp only[List.length_cons];omega)
        split
        ·rfl
        ·exact byP_e _ _
       | some s =>
        simp only
        split
        ·exact run_more hk f _ _ _ (hall _ (byP_e _ _)) (by simp only[List.length_cons];omega)
        ·rfl
      ·exact run_more hk f _ _ _ hp (by simp only[List.length_cons];omega)
  ·exact run_more hk f _ _ _ hps (by omega)
def liftP (p:Pn):Pn:=⟨p.dn,p.x,p.y,p.e+2⟩
theorem lift_mv (p:Pn) (d:Int):mvP (liftP p) d=liftP (mvP p d):=by
 unfold mvP liftP
 simp only
 split <;> rfl
theorem lift_by (p:Pn) (z:Nd):byP (liftP p) z=liftP (byP p z):=by
 unfold byP
 show (if p.dn=true then _ else _)=_
 split <;> exact lift_mv _ _
theorem lift_in (k ht X Y:Int) (e:Nat):inP k ht X Y (e+2)=liftP (inP k ht X Y e):=by unfold inP;split <;> rfl
theorem lift_seen (p:Pn) (z:Nd):seenP (liftP p) z=seenP p z:=rfl
def botOk (n at_:Nat):List Pn→Prop
 | []=>n≤at_
 | [p]=>p.e=n
 | _ :: q :: ps=>botOk n at_ (q :: ps)
theorem bot_top {n a b:Nat} {p q:Pn} (he:q.e=p.e):∀ps:List Pn,botOk n a (p :: ps)→botOk n b (q :: ps)
 | [],h=>by show q.e=n;rw[he];exact h
 | r :: [],h=>h
 | r :: s :: ps,h=>bot_top (p:=r) (q:=r) rfl (s :: ps) h
theorem bot_pop {n a:Nat} {p:Pn} (hp:p.e≤a):∀ps:List Pn,botOk n a (p :: ps)→botOk n a ps
 | [],h=>by
  have h1:p.e=n:=h
  show n≤a
  omega
 | r :: ps,h=>h
theorem run_lift {ns:List Nd} (hk:∀i,i<ns.length→0≤(ns.getD i Nd.none).kids∧(i:Int)+1+(ns.getD i Nd.none).kids≤ns.length) (a b:Nd) (o:Pn) (ho:o.e=ns.length+2):∀(f at_:Nat) (ps:List Pn) (acc:List Spt),(∀p∈ps,p.e≤ns.length)→botOk ns.length at_ ps→2*(ns.length - at_)+ps.length<f→runS (a :: b :: ns) (f+1) (at_+2) (ps.map liftP ++ [o]) acc=runS ns f at_ ps acc
 | 0,_,_,_,_,_,h=>by omega
 | f+1,at_,[],acc,_,hb,_=>by
  have h1:ns.length≤at_:=hb
  show runS (a :: b :: ns) (f+1+1) (at_+2) [o] acc=_
  rw[run_step]
  unfold stepS
  rw[if_neg (by omega)]
  rfl
 | f+1,at_,p :: ps,acc,hp,hb,h=>by
  have hpe:=hp p (List.mem_cons_self ..)
  have hps:∀q∈ps,q.e≤ns.length:=fun q hq=>hp q (List.mem_cons_of_mem _ hq)
  have hall:∀q:Pn,q.e=p.e→∀r∈q :: ps,r.e≤ns.length:=fun q hq r hr=>by
   rcases List.mem_cons.1 hr with rfl | hr
   ·omega
   ·exact hps r hr
  rw[List.length_cons] at h
  rw[List.map_cons,List.cons_append,run_step,run_step]
  unfold stepS
  have hg:(a :: b :: ns).getD (at_+2) Nd.none=ns.getD at_ Nd.none:=by simp[List.getD]
  rw[hg]
  by_cases hat:at_<p.e
  ·have hat2:at_+2<(liftP p).e:=by show at_+2<p.e+2;omega
   rw[if_pos hat2,if_pos hat]
   have hki:=hk at_ (by omega)
   obtain⟨kn,hkn⟩:∃kn,kn=(ns.getD at_ Nd.none).kids.toNat:=⟨_,rfl⟩
   rw[← hkn]
   split
   ·have h9:=run_lift hk a b o ho f (at_+1) (inP (ns.getD at_ Nd.none).k (ns.getD at_ Nd.none).ht (atX p (ns.getD at_ Nd.none).sh) (atY p (ns.getD at_ Nd.none).sh (ns.getD at_ Nd.none).ht) (at_+1+kn) :: byP p (ns.getD at_ Nd.none) :: ps) acc (fun r hr=>by
     rcases List.mem_cons.1 hr with rfl | hr
     ·rw[inP_e];omega
     ·exact hall _ (byP_e _ _) r hr) (bot_top (byP_e _ _) ps hb) (by simp only[List.length_cons];omega)
    rw[← h9,List.map_cons,List.map_cons,← lift_in,← lift_by,show at_+1+kn+2=at_+2+1+kn by omega]
    rfl
   ·split
    ·have h9:=run_lift hk a b o ho f (at_+1+kn) (p :: ps) acc hp (bot_top rfl ps hb) (by simp only[List.length_cons];omega)
     rw[← h9,show at_+1+kn+2=at_+2+1+kn by omega]
     rfl
    ·split
     ·have h9:=run_lift hk a b o ho f (at_+1) (mvP p (ns.getD at_ Nd.none).wd :: ps) acc (hall _ (mvP_e _ _)) (bot_top (mvP_e _ _) ps hb) (by simp only[List.length_cons];omega)
      rw[← h9,List.map_cons,← lift_mv]
      rfl
     ·split
      ·rw[lift_seen]
       cases seenP p (ns.getD at_ Nd.none) with
       | none =>
        simp only
        have h9:=run_lift hk a b o ho f (at_+1) ((if (ns.getD at_ Nd.none).k=1 then p else byP p (ns.getD at_ Nd.none)) :: ps) acc (hall _ (by split;rfl;exact byP_e _ _)) (bot_top (by split;rfl;exact byP_e _ _) ps hb) (by simp only[List.length_cons];omega)
        rw[← h9,List.map_cons]
        split
        ·rfl
        ·rw[← lift_by]
         rfl
       | some s =>
        simp only
        split
        ·have h9:=run_lift hk a b o ho f (at_+1) (byP p (ns.getD at_ Nd.none) :: ps) (acc ++ [s]) (hall _ (byP_e _ _)) (bot_top (byP_e _ _) ps hb) (by simp only[List.length_cons];omega)
         rw[← h9,List.map_cons,← lift_by]
         rfl
        ·rfl
      ·have h9:=run_lift hk a b o ho f (at_+1) (p :: ps) acc hp (bot_top rfl ps hb) (by simp only[List.length_cons];omega)
       rw[← h9]
       rfl
  ·have hat2:¬at_+2<(liftP p).e:=by show ¬at_+2<p.e+2;omega
   rw[if_neg hat2,if_neg hat]
   have h9:=run_lift hk a b o ho f at_ ps acc hps (bot_pop (by omega) ps hb) (by omega)
   rw[← h9]
theorem spots_kern {ns:List Nd} {x y:Int} {a b:Nd} (h1:oneB ns=true) (hx:fitsB x=true) (hy:fitsB y=true) (hs:(ns.getD 0 Nd.none).sh=0) (hbx:(ns.getD 0 Nd.none).k=6∨(ns.getD 0 Nd.none).k=7) (ha:a.k=6) (hb:b.k=2∧b.wd=x) (h2:oneB (a :: b :: ns)=true)
 (hk:∀i,i<ns.length→0≤(ns.getD i Nd.none).kids∧(i:Int)+1+(ns.getD i Nd.none).kids≤ns.length) (hn:0<ns.length) (hkd:(ns.getD 0 Nd.none).kids=(ns.length:Int) - 1):spotsL (a :: b :: ns) 0 y=spotsL ns x y:=by
 have hx2 : -1073741823≤x∧x≤1073741823:=by unfold fitsB at hx;simpa using hx
 have hy2 : -1073741823≤y∧y≤1073741823:=by unfold fitsB at hy;simpa using hy
 unfold spotsL
 rw[if_pos ⟨h2,by decide,hy⟩,if_pos ⟨h1,hx,hy⟩]
 have g0:(a :: b :: ns).getD 0 Nd.none=a:=rfl
 have g1:(a :: b :: ns).getD 1 Nd.none=b:=rfl
 have g2:(a :: b :: ns).getD 2 Nd.none=ns.getD 0 Nd.none:=by simp[List.getD]
 have hl:(a :: b :: ns).length=ns.length+2:=rfl
 obtain⟨kn,hkn⟩:∃kn,kn=(ns.getD 0 Nd.none).kids.toNat:=⟨_,rfl⟩
 have hkn2:kn+1=ns.length:=by omega
 rw[g0,hl,show 2*(ns.length+2)+2=(2*ns.length+3+1)+1+1 by omega]
 rw[run_step]
 unfold stepS
 rw[inP_e,if_pos (by omega),g1,if_neg (by omega),if_neg (by omega),if_pos (.inl hb.1),hb.2]
 rw[run_step]
 unfold stepS
 rw[mvP_e,inP_e,if_pos (by omega),g2,if_pos hbx,← hkn]
 have e1:mvP (inP a.k a.ht 0 y (ns.length+2)) x=⟨false,x,y,ns.length+2⟩:=by
  unfold inP
  rw[if_neg (by omega)]
  unfold mvP
  rw[if_neg (by simp)]
  simp only
  rw[Int.zero_add,w64_in (by omega)]
 rw[e1]
 have e2:atX ⟨false,x,y,ns.length+2⟩ (ns.getD 0 Nd.none).sh=x:=rfl
 have e3:atY ⟨false,x,y,ns.length+2⟩ (ns.getD 0 Nd.none).sh (ns.getD 0 Nd.none).ht=y:=by
  rw[hs]
  show w64 (y+0)=y
  rw[Int.add_zero,w64_in (by omega)]
 rw[e2,e3,show 2+1+kn=ns.length+2 by omega,lift_in]
 have h9:=run_lift hk a b (byP ⟨false,x,y,ns.length+2⟩ (ns.getD 0 Nd.none)) (byP_e _ _) (2*ns.length+3) 1 [inP (ns.getD 0 Nd.none).k (ns.getD 0 Nd.none).ht x y ns.length] [] (fun p hp=>by rw[List.mem_singleton.1 hp,inP_e];exact Nat.le_refl _) (inP_e _ _ _ _ _) (by simp only[List.length_cons,List.length_nil];omega)
 have h10:=run_more hk (2*ns.length+2) 1 [inP (ns.getD 0 Nd.none).k (ns.getD 0 Nd.none).ht x y ns.length] [] (fun p hp=>by rw[List.mem_singleton.1 hp,inP_e];exact Nat.le_refl _) (by simp only[List.length_cons,List.length_nil];omega)
 rw[← h10]
 exact h9
end Go.Proofs.YtbbehmcekbnkiaaGreat

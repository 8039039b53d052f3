import Derived.Test.YtbbehmcekbnkiaaGreatPlct
namespace Go.Proofs.YtbbehmcekbnkiaaGreat
set_option maxHeartbeats 8000000
open Go.RowKit
set_option linter.unusedVariables false
set_option linter.unusedSimpArgs false
structure Pl where
 fi:Int
 la:Int
 na:Int
 al:Int
 v:Value
def Pl.none:Pl:=⟨0,0,0,0,.slice .none 0 0⟩
def Pl.cells (p:Pl):List Value:=[.int .i64 p.fi,.int .i64 p.la,.int .i64 p.na,.int .i64 p.al,p.v]
def flatP:List Pl->List Value
 | []=>[]
 | p :: ps=>p.cells++flatP ps
theorem flatP_snoc:∀(ps:List Pl) (p:Pl),flatP (ps++[p])=flatP ps++p.cells
 | [],p=>by simp[flatP]
 | q :: ps,p=>by simp[flatP,flatP_snoc ps p,List.append_assoc]
theorem flatP_get:∀(ps:List Pl) (i:Nat),i<ps.length->∀j,j<5->(flatP ps)[i*5+j]?=(ps.getD i Pl.none).cells[j]?
 | [],i,h,_,_=>by simp at h
 | p :: ps,0,h,j,hj=>by
  simp only[flatP,List.getD_cons_zero]
  rw[Nat.zero_mul,Nat.zero_add,List.getElem?_append_left (by rw[show p.cells.length=5 from rfl];exact hj)]
 | p :: ps,i+1,h,j,hj=>by
  simp only[flatP,List.getD_cons_succ]
  rw[List.getElem?_append_right (by rw[show p.cells.length=5 from rfl];omega),show p.cells.length=5 from rfl,show (i+1)*5+j-5=i*5+j by omega]
  exact flatP_get ps i (by simpa using h) j hj
def PlOk (w:World)(cs:List Cl)(ps:List Pl)(k:Nat):Prop:=ps.length=k/\∀i,i<k->(ps.getD i Pl.none).fi=spK cs i/\(ps.getD i Pl.none).la=spK cs (i+1)-1/\(ps.getD i Pl.none).na=natW (cs.getD i Cl.none).ns/\(ps.getD i Pl.none).al=(cs.getD i Cl.none).al/\NRow 0 w (ps.getD i Pl.none).v (cs.getD i Cl.none).ns/\NN 0 w (ps.getD i Pl.none).v (cs.getD i Cl.none).ns
theorem PlOk.snoc {w:World}{cs:List Cl}{ps:List Pl}{k:Nat}(h:PlOk w cs ps k)(p:Pl)(hp:p.fi=spK cs k/\p.la=spK cs (k+1)-1/\p.na=natW (cs.getD k Cl.none).ns/\p.al=(cs.getD k Cl.none).al/\NRow 0 w p.v (cs.getD k Cl.none).ns/\NN 0 w p.v (cs.getD k Cl.none).ns):PlOk w cs (ps++[p]) (k+1):=by
 obtain⟨h1,h2⟩:=h
 refine⟨by simp[h1],fun i hi=>?_⟩
 by_cases e:i=k
 ·subst e
  have:(ps++[p]).getD i Pl.none=p:=by rw[<-h1];simp
  rw[this]
  exact hp
 ·have:(ps++[p]).getD i Pl.none=ps.getD i Pl.none:=by
   simp only[List.getD_eq_getElem?_getD]
   rw[List.getElem?_append_left (by omega)]
  rw[this]
  exact h2 i (by omega)
theorem new5b (w:World)(o:Obj)(a b c d e:Value)(t:TypeId):∀j u,[a,b,c,d,e][j]?=some u->((w.alloc o).alloc (.cells #[a,b,c,d,e] t)).cell? ((⟨w.heap.size+1,0,none⟩:Addr).add j)=some u:=by
 have h:=new5 (w.alloc o) a b c d e t
 rwa [World.size_alloc] at h
theorem one5p (a b c d:Int)(x:Option Addr)(n m:Nat):∀u∈[Value.int .i64 a,.int .i64 b,.int .i64 c,.int .i64 d,.slice x n m],u.oneCell'=true:=by
 intro u hu
 simp at hu
 rcases hu with rfl|rfl|rfl|rfl|rfl<;>rfl
theorem Tryz.info122:(Tryz.prog.info? 122).map (fun i=>(i.zero,i.size,i.bytes))=some (some (plV 0 0 0 0 (.slice none 0 0)),5,56):=by kernel_rfl
structure LInv (w wr:World)(ru:Int)(rv u:Value):Prop where
 bel:Below w.heap.size w wr
 box:wr.heap[w.heap.size]?=some (.cells #[rv,.int .i64 ru] 59 (0,0))
 res:wr.heap[w.heap.size+1]?=some (.cells #[.int .i64 0,.slice none 0 0] 119 (0,0))
 lane:wr.heap[w.heap.size+1+1]?=some (.cells #[.int .i64 ru,u] 119 (0,0))
theorem LInv.lt {w wr:World}{ru:Int}{rv u:Value}(h:LInv w wr ru rv u):w.heap.size+1+1<wr.heap.size:=(glt h.lane)
theorem LInv.below {w wr w2:World}{ru:Int}{rv u:Value}(h:LInv w wr ru rv u)(hb:Below wr.heap.size wr w2):LInv w w2 ru rv u :=
 ⟨below_more h.bel hb h.bel.size,(hb.block _ (by have:=h.lt;omega)).trans h.box,(hb.block _ (by have:=h.lt;omega)).trans h.res,(hb.block _ h.lt).trans h.lane⟩
theorem LInv.grown {w wr w2:World}{ru:Int}{rv u:Value}{r:Option Nat}(h:LInv w wr ru rv u)(hg:wr.grownBy w2 r)(hr:∀j,r=some j->w.heap.size+1+1+1<=j):LInv w w2 ru rv u :=
 ⟨Below.grown h.bel hg h.bel.size (fun j hj=>by have:=hr j hj;omega),(hg.block _ (by have:=h.lt;omega) (fun e=>by have:=hr _ e.symm;omega)).trans h.box,(hg.block _ (by have:=h.lt;omega) (fun e=>by have:=hr _ e.symm;omega)).trans h.res,(hg.block _ h.lt (fun e=>by have:=hr _ e.symm;omega)).trans h.lane⟩
theorem LInv.setU {w wr:World}{ru:Int}{rv u:Value}(h:LInv w wr ru rv u)(x:Value):LInv w (wr.setCell ⟨w.heap.size+1+1,1,none⟩ x) ru rv x :=
 ⟨h.bel.setCell (by simp;omega) _,(Below.heap_setCell _ _ _ _ (by simp;omega)).trans h.box,(Below.heap_setCell _ _ _ _ (by simp)).trans h.res,heap_setCell_same _ (w.heap.size+1+1) 1 _ 119 _ h.lane⟩
theorem LInv.cells {w wr:World}{ru:Int}{rv u:Value}(h:LInv w wr ru rv u):wr.cell? ⟨w.heap.size,0,none⟩=some rv/\wr.cell? ⟨w.heap.size,1,none⟩=some (.int .i64 ru)/\wr.cell? ⟨w.heap.size+1+1,0,none⟩=some (.int .i64 ru)/\wr.cell? ⟨w.heap.size+1+1,1,none⟩=some u/\wr.cell? ⟨w.heap.size+1,0,none⟩=some (.int .i64 0)/\wr.cell? ⟨w.heap.size+1,1,none⟩=some (.slice none 0 0) :=
 ⟨cell_of_row _ _ 0 _ 59 _ h.box,cell_of_row _ _ 1 _ 59 _ h.box,cell_of_row _ _ 0 _ 119 _ h.lane,cell_of_row _ _ 1 _ 119 _ h.lane,cell_of_row _ _ 0 _ 119 _ h.res,cell_of_row _ _ 1 _ 119 _ h.res⟩
theorem LInv.free {w wr:World}{ru:Int}{rv u:Value}(h:LInv w wr ru rv u):(∀j,wr.frozen? ⟨w.heap.size+1+1,j,none⟩=false)/\(∀j,wr.frozen? ⟨w.heap.size+1,j,none⟩=false) :=
 ⟨fun j=>frozen_of_row _ _ j _ _ h.lane,fun j=>frozen_of_row _ _ j _ _ h.res⟩
theorem LInv.start (w:World)(ru:Int)(rv u:Value):LInv w (((w.alloc (.cells #[rv,.int .i64 ru] 59)).alloc (.cells #[.int .i64 0,.slice none 0 0] 119)).alloc (.cells #[.int .i64 ru,u] 119)) ru rv u:=by
 refine⟨below3 _ _ _ _,?_,?_,?_⟩
 ·rw[Below.heap_alloc _ _ _ (by simp;omega),Below.heap_alloc _ _ _ (by simp)]
  exact heap_alloc_new w _
 ·rw[Below.heap_alloc _ _ _ (by simp)]
  have h:=heap_alloc_new (w.alloc (.cells #[rv,.int .i64 ru] 59)) (.cells #[.int .i64 0,.slice none 0 0] 119)
  rwa [World.size_alloc] at h
 ·have h:=heap_alloc_new ((w.alloc (.cells #[rv,.int .i64 ru] 59)).alloc (.cells #[.int .i64 0,.slice none 0 0] 119)) (.cells #[.int .i64 ru,u] 119)
  rwa [World.size_alloc,World.size_alloc] at h
theorem ownG_base {w:World}{base b e size n:Nat}{v:Value}{xs:List Value}(h:w.ownsRow base e size v n xs)(hb:b<=base):w.ownsRow b e size v n xs:=by
 obtain⟨hl,hr⟩:=h
 refine⟨hl,?_⟩
 rcases hr with h1 | ⟨g,cap,cur,rfl,h2,h3⟩
 ·exact .inl h1
 ·exact .inr ⟨g,cap,cur,rfl,Nat.le_trans hb h2,h3⟩
theorem own_setB {W:World}{B0 R e s n:Nat}{v:Value}{xs:List Value}(o:W.ownsRow B0 e s v n xs)(hR:R<B0)(j:Nat)(u:Value):(W.setCell ⟨R,j,none⟩ u).ownsRow B0 e s v n xs :=
 ownG_same o (fun g hg=>Below.heap_setCell _ _ _ _ (fun e=>by have:=(o.lt g hg).1;have e2:g=R:=e;omega))
def LanP (x:Rw)(b:Bool)(e:Ending)(w0 w w':World):Prop:=match b with
 | true=>∃a c ps,e = .returned (.tuple #[.agg #[.int .i64 x.ru,.slice a x.cs.length c],.bool true])/\w'.ownsRow w.heap.size 122 5 (.slice a x.cs.length c) x.cs.length (flatP ps)/\PlOk w0 x.cs ps x.cs.length
 | false=>∃r a n c,e = .returned (.tuple #[.agg #[.int .i64 r,.slice a n c],.bool false])
set_option maxRecDepth 20000 in
theorem laneOf_no (x:Rw){v:Value}{w0 w:World}(cols:Int)(h:CRowN 0 w v x.cs)(hlen:x.cs.length<=1048576)(hno:uptoB x.ru 1073741823=false\/(0<x.ru/\0<x.cs.length)) :
 Calls Tryz.prog 73 #[rwV x v,.int .i64 cols] w fun e w'=>LanP x (rowB x cols) e w0 w w'/\Below w.heap.size w w':=by
 obtain⟨ua,uc,rfl⟩:=h.shape
 have hB:rowB x cols=false:=by
  unfold rowB
  rcases hno with h1|h1
  ·unfold uptoB at h1
   simp only[decide_eq_false_iff_not] at h1
   rw[if_neg (by omega)]
   simp
   omega
  ·rw[if_neg (by omega),decide_eq_false (show ¬x.cs.length=0 by omega),Bool.and_false]
 rw[hB]
 clear h hB
 obtain⟨rcs,ru⟩:=x
 dsimp only at hlen hno ⊢
 have HP:Hid (∀e w',(∃r a n c,e=Ending.returned (.tuple #[.agg #[.int .i64 r,.slice a n c],.bool false]))->LanP ⟨rcs,ru⟩ false e w0 w w'):=hideP (fun e w' h=>h)
 have HU:Hid (∀W,Calls Tryz.prog 40 #[.int .i64 ru,.int .i64 1073741823] W fun e w'=>e = .returned (.bool (uptoB ru 1073741823))/\w'=W):=hideP (fun W=>upTo_any ru 1073741823 W)
 obtain⟨n,hn⟩:=exq (rcs.length)
 rw[<-hn] at hlen hno ⊢
 clear hn
 cases e3:uptoB ru 1073741823 with
 | false =>
  rw[e3] at HU
  clear hno
  go_enter Tryz.func73,Tryz.ntmps73
  go_wp2_with (go_at_call 40;refine(HU.out _).mono ?_;rintro e w1 ⟨rfl,rfl⟩)
  refine bodyPost_ret (v:= .tuple #[.agg #[.int .i64 ru,.slice none 0 0],.bool false]) (by simp[results,Tryz.results73,go_sem]) rfl ⟨HP.out _ _ ⟨_,_,_,_,rfl⟩,?_⟩
  repeat(first|with_reducible exact below3 _ _ _ _|with_reducible exact below2 _ _ _|(with_reducible refine Below.setCell ?_ ?_ _;rotate_left;focus(first|(simp;done)|(simp;omega))))
 | true =>
  rw[e3] at HU hno
  have h1:0<ru:=by rcases hno with h|h;cases h;exact h.1
  have h2:(0:Int)<n:=by rcases hno with h|h;cases h;omega
  clear hno
  go_enter Tryz.func73,Tryz.ntmps73
  go_wp2_with (go_at_call 40;refine(HU.out _).mono ?_;rintro e w1 ⟨rfl,rfl⟩)
  refine bodyPost_ret (v:= .tuple #[.agg #[.int .i64 ru,.slice none 0 0],.bool false]) (by simp[results,Tryz.results73,go_sem]) rfl ⟨HP.out _ _ ⟨_,_,_,_,rfl⟩,?_⟩
  repeat(first|with_reducible exact below3 _ _ _ _|with_reducible exact below2 _ _ _|(with_reducible refine Below.setCell ?_ ?_ _;rotate_left;focus(first|(simp;done)|(simp;omega))))
theorem place_no {cs:List Cl}{cols:Int}{k n:Nat}(hk:k<n)(hc:cellsB cs cols k=true)(h20:cols<=20)(hp:placeB (cs.getD k Cl.none) (spK cs k) cols=false):(cellsB cs cols n&&decide (spK cs n<=cols))=false:=by
 cases hb:cellsB cs cols n with
 | false=>rfl
 | true =>
  have h1:=cellsB_at hb k hk
  have h2:=cellB_sp h1
  have h3:=spK_mono (show k+1<=n by omega) hb
  rw[spK_succ] at h3
  have h4:=spK_bound h20 hc
  unfold cellB at h1
  unfold placeB uptoB at hp
  simp only[Bool.and_eq_true,decide_eq_true_eq] at h1
  rw[h1.2] at hp
  simp only[Bool.true_and,decide_eq_false_iff_not]
  simp only[Bool.and_true,Bool.and_eq_false_iff,decide_eq_false_iff_not] at hp
  omega
theorem place_yes {cs:List Cl}{cols:Int}{k:Nat}(hc:cellsB cs cols k=true)(h20:cols<=20)(hp:placeB (cs.getD k Cl.none) (spK cs k) cols=true):cellsB cs cols (k+1)=true/\spK cs (k+1)<=cols:=by
 have h4:=spK_bound h20 hc
 unfold placeB uptoB at hp
 simp only[Bool.and_eq_true,decide_eq_true_eq] at hp
 refine⟨?_,by rw[spK_succ];omega⟩
 unfold cellsB cellB
 rw[hc,hp.2]
 simp only[Bool.true_and,Bool.and_true,Bool.and_eq_true,decide_eq_true_eq]
 omega
theorem placeB_sp {c:Cl}{f cols:Int}(h:placeB c f cols=true):1<=c.sp/\c.sp<=cols-f:=by
 unfold placeB at h
 simp only[Bool.and_eq_true,decide_eq_true_eq] at h
 exact⟨h.1.1.1,h.1.1.2⟩
set_option maxRecDepth 20000 in
theorem laneOf_rule (x:Rw){v:Value}{w0 w:World}(cols:Int)(h:CRowN 0 w v x.cs)(hu:uptoB x.ru 1073741823=true)(e1:0<x.ru)(hz:x.cs.length=0) :
 Calls Tryz.prog 73 #[rwV x v,.int .i64 cols] w fun e w'=>LanP x (rowB x cols) e w0 w w'/\Below w.heap.size w w':=by
 have hB:rowB x cols=true:=by
  unfold rowB
  unfold uptoB at hu
  simp only[decide_eq_true_eq] at hu
  rw[if_neg (by omega),decide_eq_true e1,decide_eq_true hu.2,decide_eq_true hz]
  rfl
 obtain⟨ua,uc,rfl⟩:=h.shape
 rw[hB]
 clear h hB
 obtain⟨rcs,ru⟩:=x
 dsimp only at hu e1 hz ⊢
 obtain rfl:rcs=[]:=List.eq_nil_of_length_eq_zero hz
 have HU:Hid (∀W,Calls Tryz.prog 40 #[.int .i64 ru,.int .i64 1073741823] W fun e w'=>e = .returned (.bool true)/\w'=W):=hideP (fun W=>by have h:=upTo_any ru 1073741823 W;rw[hu] at h;exact h)
 have HP:Hid (∀w':World,LanP ⟨[],ru⟩ true (.returned (.tuple #[.agg #[.int .i64 ru,.slice none 0 0],.bool true])) w0 w w'):=hideP (fun w'=>⟨none,0,[],rfl,World.ownsRow_nil _ _ _ _,rfl,fun i hi=>absurd hi (by simp)⟩)
 clear hu hz
 simp only[rwV,List.length_nil]
 go_enter Tryz.func73,Tryz.ntmps73
 go_wp2_with (go_at_call 40;refine(HU.out _).mono ?_;rintro e w1 ⟨rfl,rfl⟩)
 go_loopw [33] (fun i wr=>i = .int .i64 0/\LInv w wr ru (.slice ua 0 uc) (.slice none 0 0)) (fun _ _=>0)
 case atStart =>
  exact⟨rfl,LInv.start _ _ _ _⟩
 case round =>
  obtain⟨rfl,LI0⟩:=hrel
  have LI:=hideP LI0
  obtain⟨c0,c1,c2,c3,c4,c5⟩:=LI0.cells
  obtain⟨fz1,fz2⟩:=LI0.free
  have hlt:=LI0.lt
  have hy1:w.heap.size+1<wr.heap.size:=by omega
  have hx1:w.heap.size<wr.heap.size:=by omega
  clear LI0
  go_wp2
  refine bodyPost_ret (v:= .tuple #[.agg #[.int .i64 ru,.slice none 0 0],.bool true]) (by simp[results,Tryz.results73,go_sem,c0,c1,c2,c3,c4,c5,hx1,hy1,hlt]) rfl ⟨HP.out _,?_⟩
  have HBo:=LI.out.bel
  clear c0 c1 c2 c3 c4 c5 fz1 fz2
  repeat(first|with_reducible exact HBo|(with_reducible refine Below.setCell ?_ ?_ _;rotate_left;focus(first|(simp;done)|(simp;omega)))|(with_reducible refine Below.alloc ?_ ?_ _;rotate_left;focus(first|exact HBs|(simp;omega))))
set_option maxRecDepth 20000 in
theorem laneOf_go (x:Rw){v:Value}{w0 w:World}(cols:Int)(h:CRowN 0 w0 v x.cs)(hw0:Below w0.heap.size w0 w)(hs:SmW x)(hc0:1<=cols)(hc1:cols<=20)(hu:uptoB x.ru 1073741823=true)(e1:¬0<x.ru) :
 Calls Tryz.prog 73 #[rwV x v,.int .i64 cols] w fun e w'=>LanP x (rowB x cols) e w0 w w'/\Below w.heap.size w w':=by
 have HV0:rowB x cols=(cellsB x.cs cols x.cs.length&&decide (spK x.cs x.cs.length<=cols)):=by
  unfold rowB
  unfold uptoB at hu
  simp only[decide_eq_true_eq] at hu
  rw[if_pos (by omega)]
 obtain⟨ua,n,uc,rfl,hn,hr⟩:=h
 obtain⟨rcs,ru⟩:=x
 dsimp only at hu e1 hs hn hr HV0 ⊢
 have hlen:n<=1048576:=by rw[<-hn];exact hs.1
 have HR:Hid (0<n->∃b off,ua=some ⟨b,off,none⟩/\0<=b/\b<w0.heap.size/\∀i,i<n->∃cs:List Value,cs.length=3/\ClN 0 w0 cs (rcs.getD i Cl.none)/\∀j,j<3->w0.cell? ⟨b,off+i*3+j,none⟩=cs[j]?):=hr
 have HS:Hid (∀i,i<n->SmC (rcs.getD i Cl.none)):=hideP (by rw[<-hn];exact hs.2)
 have HL:=hideP hn
 have HV:Hid (rowB ⟨rcs,ru⟩ cols=(cellsB rcs cols n&&decide (spK rcs n<=cols))):=hideP (by rw[<-hn];exact HV0)
 have HU:Hid (∀W,Calls Tryz.prog 40 #[.int .i64 ru,.int .i64 1073741823] W fun e w'=>e = .returned (.bool true)/\w'=W):=hideP (fun W=>by have h:=upTo_any ru 1073741823 W;rw[hu] at h;exact h)
 obtain⟨i0,hi0,hz0,hz1,hz2⟩:=info_parts Tryz.info122
 have HI:Hid (i0.bytes=56):=hz2
 have HW0:=hideP hw0
 clear hr hs hn HV0 hu hw0
 go_enter Tryz.func73,Tryz.ntmps73
 go_wp2_with (go_at_call 40;refine(HU.out _).mono ?_;rintro e w1 ⟨rfl,rfl⟩)
 go_loopw [7,33] (fun s i wr=>∃(k:Nat) (m:Int) (a:Option Addr) (c:Nat),k<=n/\i = .int .i64 k/\s = .int .i64 m/\Hid (m=spK rcs k/\cellsB rcs cols k=true)/\0<=m/\m<=cols/\Hid (∃ps,wr.ownsRow (w.heap.size+1+1+1) 122 5 (.slice a k c) k (flatP ps)/\PlOk w0 rcs ps k)/\LInv w wr ru (.slice ua n uc) (.slice a k c))
  (fun _ i _=>n-(intOf i).toNat)
 case atStart =>
  refine⟨0,0,none,0,by omega,rfl,rfl,hideP ⟨rfl,rfl⟩,by omega,by omega,hideP ⟨[],World.ownsRow_nil _ _ _ _,rfl,fun i hi=>absurd hi (by omega)⟩,?_⟩
  exact LInv.start _ _ _ _
 case round =>
  obtain⟨k,m,a,c,hk,rfl,rfl,HM,hm0,hm1,HO,LI0⟩:=hrel
  have LI:=hideP LI0
  obtain⟨c0,c1,c2,c3,c4,c5⟩:=LI0.cells
  obtain⟨fz1,fz2⟩:=LI0.free
  have hlt:=LI0.lt
  clear LI0
  by_cases hkn:k<n
  ·have hki:(k:Int)<(n:Int):=by omega
   obtain⟨b,off,rfl,hlo,hb,hc⟩:=HR (by omega)
   obtain⟨cs,hcl,hRel,hcj⟩:=hc k hkn
   have hsk:=HS k hkn
   obtain⟨t,ht⟩:=exq (rcs.getD k Cl.none)
   rw[<-ht] at hRel hsk
   have HT:Hid (t=rcs.getD k Cl.none):=ht
   obtain⟨u,hcs,hu,huN⟩:=hRel
   obtain⟨va,vn,vc,rfl⟩:∃a n c,u = .slice a n c:=by obtain⟨a,c,rfl⟩:=hu.shape;exact⟨_,_,_,rfl⟩
   have HC:Hid (∀W:World,Below w.heap.size w W->Calls Tryz.prog 95 #[clV t (.slice va vn vc),.int .i64 m,.int .i64 cols] W fun e w'=>PlcP t m cols (.slice va vn vc) (placeB t m cols) e/\Below W.heap.size W w'):=hideP (fun W hW0=>have hW:Below w0.heap.size w0 W:=HW0.out.trans (hW0.mono HW0.out.size);placedAt_any t m cols (hu.below ndStable hW) (huN.abv ⟨hW.size,fun k _ hk=>hW.block k hk⟩) hsk hm0 (by omega) (by omega) hc1)
   have HNN:Hid (NRow 0 w0 (.slice va vn vc) t.ns/\NN 0 w0 (.slice va vn vc) t.ns):=hideP ⟨hu,huN⟩
   clear hu huN hsk
   rw[show cs=_ from hcs] at hcj
   have g0:wr.cell? ⟨b,off+k*3,none⟩=some (.int .i64 t.sp):=((HW0.out.trans (LI.out.bel.mono HW0.out.size)).cell (p:=⟨b,off+k*3,none⟩) hb).trans (hcj 0 (by omega))
   have g1:wr.cell? ⟨b,off+k*3+1,none⟩=some (.int .i64 t.al):=((HW0.out.trans (LI.out.bel.mono HW0.out.size)).cell (p:=⟨b,off+k*3+1,none⟩) hb).trans (hcj 1 (by omega))
   have g2:wr.cell? ⟨b,off+k*3+2,none⟩=some (.slice va vn vc):=((HW0.out.trans (LI.out.bel.mono HW0.out.size)).cell (p:=⟨b,off+k*3+2,none⟩) hb).trans (hcj 2 (by omega))
   clear hc hcj hcl ht hcs
   cases hB:placeB t m cols with
   | false =>
    rw[hB] at HC
    have HPN:Hid (rowB ⟨rcs,ru⟩ cols=false):=hideP (by rw[HV.out];exact place_no hkn HM.out.2 hc1 (by rw[<-HT.out,<-HM.out.1];exact hB))
    obtain⟨sp,al,ns⟩:=t
    simp only[clV] at HC
    dsimp only at g0 g1
    go_wp2_with fail
    refine(HC.out _ LI.out.bel).mono ?_
    rintro e w2 ⟨he,hb2⟩
    have he2:e = .returned (.tuple #[plV 0 0 0 0 (.slice none 0 0),.bool false]):=he
    subst he2
    have LI2:=hideP (LI.out.below hb2)
    obtain⟨d0,d1,d2,d3,d4,d5⟩:=LI2.out.cells
    obtain⟨gz1,gz2⟩:=LI2.out.free
    have hlt2:=LI2.out.lt
    have hy2:w.heap.size+1<w2.heap.size:=by omega
    have hx2:w.heap.size<w2.heap.size:=by omega
    clear hb2 he g0 g1 g2 c0 c1 c2 c3 c4 c5 fz1 fz2 hlt
    go_wp2
    refine bodyPost_ret (v:= .tuple #[.agg #[.int .i64 ru,.slice a k c],.bool false]) (by simp[results,Tryz.results73,go_sem,d0,d1,d2,d3,d4,d5,hx2,hy2,hlt2]) rfl ⟨by rw[HPN.out];exact⟨_,_,_,_,rfl⟩,?_⟩
    have HBo:=LI2.out.bel
    have HBs:=HBo.size
    clear d0 d1 d2 d3 d4 d5 gz1 gz2
    repeat(first|with_reducible exact HBo|(with_reducible refine Below.setCell ?_ ?_ _;rotate_left;focus(first|(simp;done)|(simp;omega)))|(with_reducible refine Below.alloc ?_ ?_ _;rotate_left;focus(first|exact HBs|(simp;omega))))
   | true =>
    rw[hB] at HC
    have hsp:=placeB_sp hB
    have HPY:=hideP (place_yes (cs:=rcs) HM.out.2 hc1 (by rw[<-HT.out,<-HM.out.1];exact hB))
    have HNEW:Hid (∀ps,PlOk w0 rcs ps k->PlOk w0 rcs (ps++[⟨m,m+t.sp-1,natW t.ns,t.al,.slice va vn vc⟩]) (k+1)):=hideP (fun ps hp=>hp.snoc _ ⟨HM.out.1,by rw[spK_succ,<-HT.out,HM.out.1],by rw[<-HT.out],by rw[<-HT.out],by rw[<-HT.out];exact HNN.out.1,by rw[<-HT.out];exact HNN.out.2⟩)
    have HSP:Hid (m+t.sp=spK rcs (k+1)):=hideP (by rw[spK_succ,<-HT.out,HM.out.1])
    clear HNN HT
    obtain⟨sp,al,ns⟩:=t
    simp only[clV] at HC
    dsimp only at g0 g1 hsp HNEW HSP
    obtain⟨na,hna⟩:=exq (natW ns)
    rw[<-hna] at HNEW
    go_wp2_with fail
    refine(HC.out _ LI.out.bel).mono ?_
    rintro e w2 ⟨he,hb2⟩
    have he2:e = .returned (.tuple #[plV m (m+sp-1) na al (.slice va vn vc),.bool true]):=by rw[hna];exact he
    subst he2
    obtain⟨ps,ho,hps⟩:=HO.out
    obtain⟨L,hL⟩:=exq (flatP ps)
    rw[<-hL] at ho
    have HFL:Hid (L=flatP ps/\PlOk w0 rcs ps k):=hideP ⟨hL,hps⟩
    have O2:=hideP (ownG_below ho hb2)
    have HOB:Hid (∀j,(Value.slice a k c).ownBlock=some j->w.heap.size+1+1+1<=j/\j<w2.heap.size):=hideP (fun j hj=>(World.ownsRow.lt O2.out _ hj))
    have LI2:=hideP (LI.out.below hb2)
    obtain⟨d0,d1,d2,d3,d4,d5⟩:=LI2.out.cells
    obtain⟨gz1,gz2⟩:=LI2.out.free
    have hlt2:=LI2.out.lt
    have hy2:w.heap.size+1<w2.heap.size:=by omega
    have hx2:w.heap.size<w2.heap.size:=by omega
    clear hb2 he g0 g1 g2 c0 c1 c2 c3 c4 c5 fz1 fz2 hlt hna ho hps hL HC LI HO
    have wadd:IntKind.i64.wrap (m+sp-1+1)=m+sp-1+1:=by rw[IntKind.wrap_i64];omega
    go_wp2_with (at_builtin;refine wpList_append_own _ rfl _ _ 117 rfl (w.heap.size+1+1+1) 122 i0 (plV 0 0 0 0 (.slice none 0 0)) 5 56 Tryz.underlying117 hi0 hz0 hz1 HI.out rfl (by decide) (.slice a k c) k L rfl ((O2.out.alloc _).alloc _) ⟨w2.heap.size+1,0,none⟩ 1 1 [.int .i64 m,.int .i64 (m+sp-1),.int .i64 na,.int .i64 al,.slice va vn vc] rfl rfl (new5b _ _ _ _ _ _ _ _) (one5p _ _ _ _ _ _ _) (by unfold maxLen;omega) (by omega) (by simp;omega) ?_;intro v4 w4 ho4 hg4 hn4;obtain⟨a4,c4,rfl⟩:=ownG_shape ho4;have LI4:=hideP (((LI2.out.below (below1 _ _)).below (below1 _ _)).grown hg4 (fun j hj=>(HOB.out j hj).1));have O4:=hideP ho4;have q1:w4.cell? ⟨w2.heap.size,1,none⟩=some (.int .i64 (m+sp-1)):=(World.cell?_of_block (w:=(w2.alloc _).alloc _) (a:=⟨w2.heap.size,1,none⟩) (hg4.block w2.heap.size (by simp;omega) (fun e=>by have:=(HOB.out _ e.symm).2;omega))).trans (by simp);obtain⟨f0,f1,f2,f3,f4,f5⟩:=LI4.out.cells;obtain⟨kz1,kz2⟩:=LI4.out.free;have hlt4:=LI4.out.lt;have hsz4:w2.heap.size<w4.heap.size:=(by have:=hg4.size;simp at this;omega);have hne1:¬w2.heap.size=w.heap.size+1+1:=(by omega);have hne2:¬w.heap.size+1+1=w2.heap.size:=(by omega);clear ho4 hg4 hn4 d0 d1 d2 d3 d4 d5 gz1 gz2)
    go_roundw
    case rel =>
     refine⟨k+1,m+sp,a4,c4,by omega,by go_num,rfl,hideP ⟨HSP.out,HPY.out.1⟩,by omega,by have:=HPY.out.2;rw[<-HSP.out] at this;omega,hideP ⟨ps++[⟨m,m+sp-1,na,al,.slice va vn vc⟩],?_,HNEW.out ps HFL.out.2⟩,LI4.out.setU _⟩
     rw[flatP_snoc,<-HFL.out.1]
     exact own_setB O4.out (by omega) 1 _
    case measure=>simp[intOf];omega
  ·have hki:¬(k:Int)<(n:Int):=by omega
   obtain rfl:k=n:=by omega
   have hy1:w.heap.size+1<wr.heap.size:=by omega
   have hx1:w.heap.size<wr.heap.size:=by omega
   go_wp2
   refine bodyPost_ret (v:= .tuple #[.agg #[.int .i64 ru,.slice a k c],.bool true]) (by simp[results,Tryz.results73,go_sem,c0,c1,c2,c3,c4,c5,hx1,hy1,hlt]) rfl ⟨?_,?_⟩
   ·obtain⟨ps,ho,hps⟩:=HO.out
    rw[HV.out,HM.out.2,<-HM.out.1,decide_eq_true hm1]
    refine⟨a,c,ps,by rw[HL.out],?_,by rw[HL.out];exact hps⟩
    rw[HL.out]
    refine ownG_base ?_ (show w.heap.size<=w.heap.size+1+1+1 by omega)
    exact own_setB (own_setB ho (by omega) 0 _) (by omega) 1 _
   ·have HBo:=LI.out.bel
    clear c0 c1 c2 c3 c4 c5 fz1 fz2
    repeat(first|with_reducible exact HBo|(with_reducible refine Below.setCell ?_ ?_ _;rotate_left;focus(first|(simp;done)|(simp;omega)))|(with_reducible refine Below.alloc ?_ ?_ _;rotate_left;focus(first|exact HBs|(simp;omega))))
theorem laneOf_any (x:Rw){v:Value}{w0 w:World}(cols:Int)(h:CRowN 0 w0 v x.cs)(hw0:Below w0.heap.size w0 w)(hs:SmW x)(hc0:1<=cols)(hc1:cols<=20) :
 Calls Tryz.prog 73 #[rwV x v,.int .i64 cols] w fun e w'=>LanP x (rowB x cols) e w0 w w'/\Below w.heap.size w w':=by
 have h2:CRowN 0 w v x.cs:=h.below clNStable hw0
 cases hu:uptoB x.ru 1073741823 with
 | false=>exact laneOf_no x cols h2 hs.1 (.inl hu)
 | true =>
  by_cases hr:0<x.ru/\0<x.cs.length
  ·exact laneOf_no x cols h2 hs.1 (.inr hr)
  ·by_cases h9:0<x.ru
   ·exact laneOf_rule x cols h2 hu h9 (by omega)
   ·exact laneOf_go x cols h hw0 hs hc0 hc1 hu h9
structure Ln where
 ru:Int
 v:Value
def Ln.none:Ln:=⟨0,.slice .none 0 0⟩
def Ln.cells (p:Ln):List Value:=[.int .i64 p.ru,p.v]
def flatL:List Ln->List Value
 | []=>[]
 | p :: ps=>p.cells++flatL ps
theorem flatL_snoc:∀(ps:List Ln) (p:Ln),flatL (ps++[p])=flatL ps++p.cells
 | [],p=>by simp[flatL]
 | q :: ps,p=>by simp[flatL,flatL_snoc ps p,List.append_assoc]
theorem flatL_get:∀(ps:List Ln) (i:Nat),i<ps.length->∀j,j<2->(flatL ps)[i*2+j]?=(ps.getD i Ln.none).cells[j]?
 | [],i,h,_,_=>by simp at h
 | p :: ps,0,h,j,hj=>by
  simp only[flatL,List.getD_cons_zero]
  rw[Nat.zero_mul,Nat.zero_add,List.getElem?_append_left (by rw[show p.cells.length=2 from rfl];exact hj)]
 | p :: ps,i+1,h,j,hj=>by
  simp only[flatL,List.getD_cons_succ]
  rw[List.getElem?_append_right (by rw[show p.cells.length=2 from rfl];omega),show p.cells.length=2 from rfl,show (i+1)*2+j-2=i*2+j by omega]
  exact flatL_get ps i (by simpa using h) j hj
theorem own_neB {W:World}{B0 R e ty s n:Nat}{cs:Array Value}{r:Nat×Nat}{v:Value}{xs:List Value}(hb:W.heap[R]?=some (.cells cs ty r))(o:W.ownsRow B0 e s v n xs)(he:e≠ty):v.ownBlock≠some R:=by
 rcases o.2 with ⟨rfl,_⟩ | ⟨g',cap,cur,rfl,_,hh,_⟩
 ·intro e;cases e
 ·intro e
  simp only[Value.ownBlock,Option.some.injEq] at e
  subst e
  rw[hb] at hh
  cases hh
  exact he rfl
def GRows (w W:World)(rs:List Rw)(ls:List Ln)(k:Nat):Prop:=ls.length=k/\∀i,i<k->(ls.getD i Ln.none).ru=(rs.getD i Rw.none).ru/\∃ps,W.ownsRow w.heap.size 122 5 (ls.getD i Ln.none).v (rs.getD i Rw.none).cs.length (flatP ps)/\PlOk w (rs.getD i Rw.none).cs ps (rs.getD i Rw.none).cs.length
theorem GRows.keep {w W W':World}{rs:List Rw}{ls:List Ln}{k:Nat}(h:GRows w W rs ls k)(hk:∀v n xs,W.ownsRow w.heap.size 122 5 v n xs->W'.ownsRow w.heap.size 122 5 v n xs):GRows w W' rs ls k :=
 ⟨h.1,fun i hi=>by
  obtain⟨h1,ps,h2,h3⟩:=h.2 i hi
  exact⟨h1,ps,hk _ _ _ h2,h3⟩⟩
theorem GRows.below {w W W':World}{rs:List Rw}{ls:List Ln}{k:Nat}(h:GRows w W rs ls k)(hb:Below W.heap.size W W'):GRows w W' rs ls k:=h.keep (fun _ _ _ o=>ownG_below o hb)
theorem GRows.grown {w W W':World}{rs:List Rw}{ls:List Ln}{k B n:Nat}{u:Value}{xs:List Value}(h:GRows w W rs ls k)(o:W.ownsRow B 119 2 u n xs)(hg:W.grownBy W' u.ownBlock):GRows w W' rs ls k:=h.keep (fun _ _ _ o2=>World.ownsRow.kept o2 hg (ownG_ne o2 o (by decide)))
theorem GRows.set {w W:World}{rs:List Rw}{ls:List Ln}{k R ty:Nat}{cs:Array Value}{r:Nat×Nat}(h:GRows w W rs ls k)(hb:W.heap[R]?=some (.cells cs ty r))(he:122≠ty)(j:Nat)(x:Value):GRows w (W.setCell ⟨R,j,none⟩ x) rs ls k:=h.keep (fun _ _ _ o=>own_setR o (own_neB hb o he) j x)
theorem GRows.snoc {w W:World}{rs:List Rw}{ls:List Ln}{k:Nat}(h:GRows w W rs ls k)(p:Ln)(hp:p.ru=(rs.getD k Rw.none).ru/\∃ps,W.ownsRow w.heap.size 122 5 p.v (rs.getD k Rw.none).cs.length (flatP ps)/\PlOk w (rs.getD k Rw.none).cs ps (rs.getD k Rw.none).cs.length):GRows w W rs (ls++[p]) (k+1):=by
 obtain⟨h1,h2⟩:=h
 refine⟨by simp[h1],fun i hi=>?_⟩
 by_cases e:i=k
 ·subst e
  have:(ls++[p]).getD i Ln.none=p:=by rw[<-h1];simp
  rw[this]
  exact hp
 ·have:(ls++[p]).getD i Ln.none=ls.getD i Ln.none:=by
   simp only[List.getD_eq_getElem?_getD]
   rw[List.getElem?_append_left (by omega)]
  rw[this]
  exact h2 i (by omega)
abbrev grO (co gs gp gpo gm gmo:Int)(u:Value):Obj:= .cells #[.int .i64 co,.int .i64 gs,.int .i64 gp,.int .i64 gpo,.int .i64 gm,.int .i64 gmo,u] 110 (0,0)
abbrev tbC (co gs gp gpo gm gmo:Int)(u:Value):Obj:= .cells #[.int .i64 co,.int .i64 gs,.int .i64 gp,.int .i64 gpo,.int .i64 gm,.int .i64 gmo,u] 52 (0,0)
def GridAt (w w':World)(t:Tb)(G:Nat):Prop:=∃u ls,w.heap.size<=G/\w'.heap[G]?=some (grO t.co t.gs t.gp t.gpo t.gm t.gmo u)/\w'.ownsRow w.heap.size 119 2 u t.rs.length (flatL ls)/\GRows w w' t.rs ls t.rs.length
def GrdP (t:Tb)(b:Bool)(e:Ending)(w w':World):Prop:=match b with
 | true=>∃G,e = .returned (.tuple #[.pointer (some ⟨G,0,none⟩),.bool true])/\GridAt w w' t G
 | false=>e = .returned (.tuple #[.pointer none,.bool false])
structure GInv (w wr:World)(co gs gp gpo gm gmo:Int)(tv u:Value)(G:Nat):Prop where
 bel:Below w.heap.size w wr
 box:wr.heap[w.heap.size]?=some (tbC co gs gp gpo gm gmo tv)
 grd:wr.heap[G]?=some (grO co gs gp gpo gm gmo u)
 hG:w.heap.size<G
theorem GInv.lt {w wr:World}{co gs gp gpo gm gmo:Int}{tv u:Value}{G:Nat}(h:GInv w wr co gs gp gpo gm gmo tv u G):G<wr.heap.size:=(glt h.grd)
theorem GInv.same {w wr w2:World}{co gs gp gpo gm gmo:Int}{tv u:Value}{G:Nat}(h:GInv w wr co gs gp gpo gm gmo tv u G)(hb:Below w.heap.size w w2)(h1:w2.heap[w.heap.size]?=wr.heap[w.heap.size]?)(h2:w2.heap[G]?=wr.heap[G]?):GInv w w2 co gs gp gpo gm gmo tv u G:=⟨hb,h1.trans h.box,h2.trans h.grd,h.hG⟩
theorem GInv.below {w wr w2:World}{co gs gp gpo gm gmo:Int}{tv u:Value}{G:Nat}(h:GInv w wr co gs gp gpo gm gmo tv u G)(hb:Below wr.heap.size wr w2):GInv w w2 co gs gp gpo gm gmo tv u G :=
 h.same (below_more h.bel hb h.bel.size) (hb.block _ (by have:=h.lt;have:=h.hG;omega)) (hb.block _ h.lt)
theorem GInv.grown {w wr w2:World}{co gs gp gpo gm gmo:Int}{tv u v:Value}{G n:Nat}{xs:List Value}(h:GInv w wr co gs gp gpo gm gmo tv u G)(o:wr.ownsRow w.heap.size 119 2 v n xs)(hg:wr.grownBy w2 v.ownBlock):GInv w w2 co gs gp gpo gm gmo tv u G :=
 h.same (Below.grown h.bel hg h.bel.size (fun j hj=>(o.lt j hj).1)) (hg.block _ (by have:=h.lt;have:=h.hG;omega) (fun e=>own_neB h.box o (by decide) e.symm)) (hg.block _ h.lt (fun e=>own_neB h.grd o (by decide) e.symm))
theorem GInv.setU {w wr:World}{co gs gp gpo gm gmo:Int}{tv u:Value}{G:Nat}(h:GInv w wr co gs gp gpo gm gmo tv u G)(x:Value):GInv w (wr.setCell ⟨G,6,none⟩ x) co gs gp gpo gm gmo tv x G :=
 ⟨h.bel.setCell (by have:=h.hG;simp;omega) _,(Below.heap_setCell _ _ _ _ (by have:=h.hG;simp;omega)).trans h.box,heap_setCell_same _ G 6 _ 110 _ h.grd,h.hG⟩
theorem GInv.tcells {w wr:World}{co gs gp gpo gm gmo:Int}{tv u:Value}{G:Nat}(h:GInv w wr co gs gp gpo gm gmo tv u G):wr.cell? ⟨w.heap.size,6,none⟩=some tv:=cell_of_row _ _ 6 _ 52 _ h.box
theorem GInv.gcells {w wr:World}{co gs gp gpo gm gmo:Int}{tv u:Value}{G:Nat}(h:GInv w wr co gs gp gpo gm gmo tv u G):wr.cell? ⟨G,0,none⟩=some (.int .i64 co)/\wr.cell? ⟨G,6,none⟩=some u:=⟨cell_of_row _ _ 0 _ 110 _ h.grd,cell_of_row _ _ 6 _ 110 _ h.grd⟩
theorem GInv.free {w wr:World}{co gs gp gpo gm gmo:Int}{tv u:Value}{G:Nat}(h:GInv w wr co gs gp gpo gm gmo tv u G):∀j,wr.frozen? ⟨G,j,none⟩=false:=fun j=>frozen_of_row _ _ j _ _ h.grd
theorem Tryz.info119:(Tryz.prog.info? 119).map (fun i=>(i.zero,i.size,i.bytes))=some (some (.agg #[.int .i64 0,.slice none 0 0]),2,32):=by kernel_rfl
theorem new2 (w:World)(a b:Value)(t:TypeId):∀j u,[a,b][j]?=some u->(w.alloc (.cells #[a,b] t)).cell? ((⟨w.heap.size,0,none⟩:Addr).add j)=some u:=by
 intro j u hj
 match j,hj with
 | 0,hj=>simp at hj;subst hj;simp[Addr.add,go_sem]
 | 1,hj=>simp at hj;subst hj;simp[Addr.add,go_sem]
theorem one2p (a:Int)(x:Option Addr)(n m:Nat):∀u∈[Value.int .i64 a,.slice x n m],u.oneCell'=true:=by
 intro u hu
 simp at hu
 rcases hu with rfl|rfl<;>rfl
set_option maxRecDepth 20000 in
theorem gridOf_any (t:Tb){v:Value}{w:World}(h:RRowN 0 w v t.rs)(hs:SmT t) :
 Calls Tryz.prog 47 #[tbV t v] w fun e w'=>GrdP t (tabB t) e w w'/\Below w.heap.size w w':=by
 obtain⟨ua,n,uc,rfl,hn,hr⟩:=h
 have hlen:n<=1048576:=by rw[<-hn];exact hs.1
 have HR:Hid (0<n->∃b off,ua=some ⟨b,off,none⟩/\0<=b/\b<w.heap.size/\∀i,i<n->∃cs:List Value,cs.length=2/\RwN 0 w cs (t.rs.getD i Rw.none)/\∀j,j<2->w.cell? ⟨b,off+i*2+j,none⟩=cs[j]?):=hr
 have HS:Hid (∀i,i<n->SmW (t.rs.getD i Rw.none)):=hideP (by rw[<-hn];exact hs.2)
 have HL:Hid (t.rs.length=n):=hideP hn
 have HV:Hid (tabB t=(decide (1<=t.co)&&decide (t.co<=20)&&glB t.gs t.gp t.gpo t.gm t.gmo&&decide (n<=200)&&rowsB t.rs t.co n)):=hideP (by unfold tabB headB;rw[<-hn])
 have HG:Hid (∀W,Calls Tryz.prog 72 #[glueV t.gs t.gp t.gpo t.gm t.gmo] W fun e w'=>e = .returned (.bool (glB t.gs t.gp t.gpo t.gm t.gmo))/\Below W.heap.size W w'):=hideP (fun W=>implGlueOk_any _ _ _ _ _ W)
 have HNO:Hid (∀w',tabB t=false->GrdP t (tabB t) (.returned (.tuple #[.pointer none,.bool false])) w w'):=hideP (fun w' hf=>by rw[hf];exact rfl)
 clear hr hs hn
 obtain⟨co,gs,gp,gpo,gm,gmo,rs⟩:=t
 dsimp only at HR HS HV HG HNO HL ⊢
 by_cases e1:co<1
 ·go_enter Tryz.func47,Tryz.ntmps47
  go_wp2
  refine bodyPost_ret (v:= .tuple #[.pointer none,.bool false]) (by simp[results,Tryz.results47,go_sem]) rfl ⟨HNO.out _ ?_,below1 _ _⟩
  rw[HV.out,decide_eq_false (show ¬1<=co by omega)]
  simp
 by_cases e2:20<co
 ·go_enter Tryz.func47,Tryz.ntmps47
  go_wp2
  refine bodyPost_ret (v:= .tuple #[.pointer none,.bool false]) (by simp[results,Tryz.results47,go_sem]) rfl ⟨HNO.out _ ?_,below1 _ _⟩
  rw[HV.out,decide_eq_false (show ¬co<=20 by omega)]
  simp
 cases e3:glB gs gp gpo gm gmo with
 | false =>
  rw[e3] at HG HV
  go_enter Tryz.func47,Tryz.ntmps47
  go_wp2_with fail
  refine(HG.out _).mono ?_
  rintro e w1 ⟨rfl,hb1⟩
  have hx1:w.heap.size<w1.heap.size:=by have:=hb1.size;simp at this;omega
  have B1:Hid (Below w.heap.size w w1):=hideP (below_more (below1 _ _) hb1 (by simp))
  obtain⟨hc1,hf1⟩:=bcell hb1
  simp only[World.size_alloc,World.size_setCell] at hc1 hf1
  clear hb1
  go_wp2
  refine bodyPost_ret (v:= .tuple #[.pointer none,.bool false]) (by simp[results,Tryz.results47,go_sem]) rfl ⟨HNO.out _ ?_,B1.out⟩
  rw[HV.out]
  simp
 | true =>
  rw[e3] at HG HV
  by_cases e4:200<n
  ·have e5:(200:Int)<n:=by omega
   go_enter Tryz.func47,Tryz.ntmps47
   go_wp2_with fail
   refine(HG.out _).mono ?_
   rintro e w1 ⟨rfl,hb1⟩
   have hx1:w.heap.size<w1.heap.size:=by have:=hb1.size;simp at this;omega
   have B1:Hid (Below w.heap.size w w1):=hideP (below_more (below1 _ _) hb1 (by simp))
   obtain⟨hc1,hf1⟩:=bcell hb1
   simp only[World.size_alloc,World.size_setCell] at hc1 hf1
   clear hb1
   go_wp2
   refine bodyPost_ret (v:= .tuple #[.pointer none,.bool false]) (by simp[results,Tryz.results47,go_sem]) rfl ⟨HNO.out _ ?_,B1.out⟩
   rw[HV.out,decide_eq_false (show ¬n<=200 by omega)]
   simp
  ·have e5:¬(200:Int)<n:=by omega
   have HV2:Hid (tabB ⟨co,gs,gp,gpo,gm,gmo,rs⟩=rowsB rs co n):=hideP (by
    rw[HV.out,decide_eq_true (show 1<=co by omega),decide_eq_true (show co<=20 by omega),decide_eq_true (show n<=200 by omega)]
    simp)
   clear HV
   obtain⟨i0,hi0,hz0,hz1,hz2⟩:=info_parts Tryz.info119
   have HI:Hid (i0.bytes=32):=hz2
   go_enter Tryz.func47,Tryz.ntmps47
   go_wp2_with fail
   refine(HG.out _).mono ?_
   rintro e w1 ⟨rfl,hb1⟩
   have hx1:w.heap.size<w1.heap.size:=by have:=hb1.size;simp at this;omega
   have B1:Hid (Below w.heap.size w w1/\w1.heap[w.heap.size]?=some (tbC co gs gp gpo gm gmo (.slice ua n uc))):=hideP ⟨below_more (below1 _ _) hb1 (by simp),(hb1.block _ (by simp)).trans (heap_alloc_new w _)⟩
   obtain⟨hc1,hf1⟩:=bcell hb1
   simp only[World.size_alloc,World.size_setCell] at hc1 hf1
   clear hb1
   go_wp2
   clear hc1 hf1
   obtain⟨G,hG⟩:=exq (w1.heap.size)
   go_loopw [37] (fun i wr=>∃(k:Nat) (a:Option Addr) (c:Nat) (ls:List Ln),k<=n/\i = .int .i64 k/\Hid (rowsB rs co k=true)/\Hid (wr.ownsRow w.heap.size 119 2 (.slice a k c) k (flatL ls)/\GRows w wr rs ls k)/\GInv w wr co gs gp gpo gm gmo (.slice ua n uc) (.slice a k c) G)
    (fun i _=>n-(intOf i).toNat)
   case atStart =>
    refine⟨0,none,0,[],by omega,rfl,hideP rfl,hideP ⟨World.ownsRow_nil _ _ _ _,rfl,fun i hi=>absurd hi (by omega)⟩,?_⟩
    rw[hG]
    exact⟨B1.out.1.alloc B1.out.1.size _,(Below.heap_alloc _ _ _ hx1).trans B1.out.2,heap_alloc_new w1 _,hx1⟩
   case round =>
    rw[<-hG]
    clear hG hx1
    obtain⟨k,a,c,ls,hk,rfl,HM,HO,GI0⟩:=hrel
    have GI:=hideP GI0
    have t6:=GI0.tcells
    obtain⟨q0,q6⟩:=GI0.gcells
    have fz:=GI0.free
    have hGl:=GI0.lt
    have hGw:=GI0.hG
    clear GI0
    by_cases hkn:k<n
    ·have hki:(k:Int)<(n:Int):=by omega
     obtain⟨b,off,rfl,hlo,hb,hc⟩:=HR (by omega)
     obtain⟨cs,hcl,hRel,hcj⟩:=hc k hkn
     have hsk:=HS k hkn
     obtain⟨t,ht⟩:=exq (rs.getD k Rw.none)
     rw[<-ht] at hRel hsk
     have HT:Hid (t=rs.getD k Rw.none):=ht
     obtain⟨u,hcs,hu⟩:=hRel
     obtain⟨va,vn,vc,rfl⟩:∃a n c,u = .slice a n c:=by obtain⟨a,c,rfl⟩:=hu.shape;exact⟨_,_,_,rfl⟩
     have HC:Hid (∀W:World,Below w.heap.size w W->Calls Tryz.prog 73 #[rwV t (.slice va vn vc),.int .i64 co] W fun e w'=>LanP t (rowB t co) e w W w'/\Below W.heap.size W w'):=hideP (fun W hW=>laneOf_any t co hu hW hsk (by omega) (by omega))
     clear hu hsk
     rw[show cs=_ from hcs] at hcj
     have QA:Hid (∀x,Below w.heap.size w x->x.cell? ⟨b,off+k*2,none⟩=some (.slice va vn vc)/\x.cell? ⟨b,off+k*2+1,none⟩=some (.int .i64 t.ru)):=hideP (fun x hx=>⟨(hx.cell (p:=⟨b,off+k*2+0,none⟩) hb).trans (hcj 0 (by omega)),(hx.cell (p:=⟨b,off+k*2+1,none⟩) hb).trans (hcj 1 (by omega))⟩)
     clear hc hcj hcl ht hcs
     obtain⟨R,hR⟩:=exq (rowB t co)
     have HC2:Hid (∀W:World,Below w.heap.size w W->Calls Tryz.prog 73 #[rwV t (.slice va vn vc),.int .i64 co] W fun e w'=>∃r a2 n2 c2,e = .returned (.tuple #[.agg #[.int .i64 r,.slice a2 n2 c2],.bool R])/\(R=true->r=t.ru/\∃ps,w'.ownsRow w.heap.size 122 5 (.slice a2 n2 c2) t.cs.length (flatP ps)/\PlOk w t.cs ps t.cs.length)/\Below W.heap.size W w'):=hideP (fun W hW=>by
      refine(HC.out W hW).mono ?_
      rintro e w' ⟨he,hb'⟩
      rw[<-hR] at he
      cases R with
      | false =>
       obtain⟨r,a2,n2,c2,rfl⟩:=he
       exact⟨r,a2,n2,c2,rfl,(fun h=>by cases h),hb'⟩
      | true =>
       obtain⟨a2,c2,ps,rfl,ho,hp⟩:=he
       exact⟨t.ru,a2,_,c2,rfl,fun _=>⟨rfl,ps,ownG_base ho hW.size,hp⟩,hb'⟩)
     have HRD:=hideP hR
     have HRT:Hid (rowsB rs co (k+1)=R):=hideP (by unfold rowsB;rw[HM.out,<-HT.out,<-hR,Bool.true_and])
     have HTR:Hid (∀(W:World) (r:Int) (a2:Option Addr) (n2 c2:Nat),GRows w W rs ls k->(r=t.ru/\∃ps,W.ownsRow w.heap.size 122 5 (.slice a2 n2 c2) t.cs.length (flatP ps)/\PlOk w t.cs ps t.cs.length)->GRows w W rs (ls++[⟨r,.slice a2 n2 c2⟩]) (k+1)):=hideP (fun W r a2 n2 c2 h1 h2=>h1.snoc _ (by rw[<-HT.out];exact h2))
     have HTX:Hid (∀(W W':World) (r:Int) (a2:Option Addr) (n2 c2:Nat),(∀v n xs,W.ownsRow w.heap.size 122 5 v n xs->W'.ownsRow w.heap.size 122 5 v n xs)->(r=t.ru/\∃ps,W.ownsRow w.heap.size 122 5 (.slice a2 n2 c2) t.cs.length (flatP ps)/\PlOk w t.cs ps t.cs.length)->(r=t.ru/\∃ps,W'.ownsRow w.heap.size 122 5 (.slice a2 n2 c2) t.cs.length (flatP ps)/\PlOk w t.cs ps t.cs.length)):=hideP (fun W W' r a2 n2 c2 hk h=>by
      obtain⟨h1,ps,h2,h3⟩:=h
      exact⟨h1,ps,hk _ _ _ h2,h3⟩)
     obtain⟨INR,hINR⟩:∃INR:World->Int->Option Addr->Nat->Nat->Prop,INR=fun W r a2 n2 c2=>(r=t.ru/\∃ps,W.ownsRow w.heap.size 122 5 (.slice a2 n2 c2) t.cs.length (flatP ps)/\PlOk w t.cs ps t.cs.length):=⟨_,rfl⟩
     have HC3:Hid (∀W:World,Below w.heap.size w W->Calls Tryz.prog 73 #[rwV t (.slice va vn vc),.int .i64 co] W fun e w'=>∃r a2 n2 c2,e = .returned (.tuple #[.agg #[.int .i64 r,.slice a2 n2 c2],.bool R])/\(R=true->INR w' r a2 n2 c2)/\Below W.heap.size W w'):=by rw[hINR];exact HC2
     have HTR3:Hid (∀(W:World) (r:Int) (a2:Option Addr) (n2 c2:Nat),GRows w W rs ls k->INR W r a2 n2 c2->GRows w W rs (ls++[⟨r,.slice a2 n2 c2⟩]) (k+1)):=by rw[hINR];exact HTR
     have HTX3:Hid (∀(W W':World) (r:Int) (a2:Option Addr) (n2 c2:Nat),(∀v n xs,W.ownsRow w.heap.size 122 5 v n xs->W'.ownsRow w.heap.size 122 5 v n xs)->INR W r a2 n2 c2->INR W' r a2 n2 c2):=by rw[hINR];exact HTX
     clear HC HC2 HTR HTX hINR hR HRD HT
     obtain⟨rcs,ru⟩:=t
     simp only[rwV] at HC3 QA
     obtain⟨L,hL⟩:=exq (flatL ls)
     have OL:Hid (wr.ownsRow w.heap.size 119 2 (.slice a k c) k L):=hideP (by rw[hL];exact HO.out.1)
     have GR:Hid (GRows w wr rs ls k):=hideP HO.out.2
     have HLL:=hideP hL
     clear hL HO
     have QS:Hid (∀x,Below wr.heap.size wr x->x.cell? ⟨b,off+k*2,none⟩=some (.slice va vn vc)/\x.cell? ⟨b,off+k*2+1,none⟩=some (.int .i64 ru)/\x.cell? ⟨w.heap.size,6,none⟩=some (.slice (some ⟨b,off,none⟩) n uc)/\x.cell? ⟨G,0,none⟩=some (.int .i64 co)):=hideP (fun x hx=>by
      have h1:=QA.out x (below_more GI.out.bel hx GI.out.bel.size)
      exact⟨h1.1,h1.2,(GI.out.below hx).tcells,(GI.out.below hx).gcells.1⟩)
     have HOB:Hid (∀j,(Value.slice a k c).ownBlock=some j->j<wr.heap.size):=hideP (fun j hj=>(World.ownsRow.lt OL.out _ hj).2)
     have hws:w.heap.size<wr.heap.size:=by omega
     have hws2:w.heap.size<=wr.heap.size:=by omega
     go_wp2_with fail
     go_cut [6,7] (fun s6 s7 W=>∃(r:Int) (a2:Option Addr) (n2 c2 p6:Nat),s6 = .pointer (some ⟨p6,0,none⟩)/\s7 = .bool R/\wr.heap.size<=p6/\Below wr.heap.size wr W/\Hid (W.heap[p6]?=some (.cells #[.int .i64 r,.slice a2 n2 c2] 119 (0,0)))/\Hid (R=true->INR W r a2 n2 c2))
     case first =>
      refine wp_region_held_drew (S:=fun x=>x.cell? ⟨b,off+k*2,none⟩=some (.slice va vn vc)/\x.cell? ⟨b,off+k*2+1,none⟩=some (.int .i64 ru)/\x.cell? ⟨w.heap.size,6,none⟩=some (.slice (some ⟨b,off,none⟩) n uc)/\x.cell? ⟨G,0,none⟩=some (.int .i64 co)) (by kernel_rfl) (QS.out _ ((Below.refl _ _).drew)) (fun hS=>?_)
      refine tkS (i:=0) (v:= .pointer (some ⟨w.heap.size,6,none⟩)) rfl hS ?_
      try simp only[sput]
      refine tkS (i:=1) (v:= .slice (some ⟨b,off,none⟩) n uc) rfl hS ?_
      try simp only[sput]
      refine tkS (i:=2) (v:= .int .i64 k) rfl hS ?_
      try simp only[sput]
      refine tkS (i:=3) (v:= .pointer (some ⟨b,off+k*2,none⟩)) rfl hS ?_
      try simp only[sput]
      refine tkS (i:=4) (v:= .agg #[.slice va vn vc,.int .i64 ru]) rfl hS ?_
      try simp only[sput]
      refine tkS (i:=5) (v:= .pointer (some ⟨G,0,none⟩)) rfl hS ?_
      try simp only[sput]
      refine tkS (i:=6) (v:= .pointer (some ⟨G,0,none⟩)) rfl hS ?_
      try simp only[sput]
      refine tkS (i:=7) (v:= .pointer (some ⟨G,0,none⟩)) rfl hS ?_
      try simp only[sput]
      refine tkS (i:=8) (v:= .int .i64 co) rfl hS ?_
      try simp only[sput]
      refine wpAnyH_ready (rs:=[9,13]) (by kernel_rfl) (by simp) ?_
      refine AllReadyH.cons rfl (fun K hK=>?_) (AllReadyH.cons rfl (fun K hK=>?_) AllReadyH.nil)
      ·rw[if_pos (by first|rfl|go_simp)]
       go_simp
       go_at_call 73
       refine(HC3.out _ GI.out.bel.drew).mono ?_
       rintro e w2 ⟨r,a2,n2,c2,rfl,hin,hb2⟩
       have B2:Below wr.heap.size wr w2:=below_more ((Below.refl _ _).drew) hb2 (Nat.le_refl _)
       have HIN:=hideP hin
       clear hb2 hin
       refine hK.out _ _ (QS.out _ B2) (fun hS=>?_)
       try simp only[sput]
       clear hK K
       refine tkS (i:=10) (v:= .tuple #[.agg #[.int .i64 r,.slice a2 n2 c2],.bool R]) rfl hS ?_
       try simp only[sput]
       refine tkS (i:=11) (v:= .agg #[.int .i64 r,.slice a2 n2 c2]) rfl hS ?_
       try simp only[sput]
       refine tkS (i:=12) (v:= .bool R) rfl hS ?_
       try simp only[sput]
       refine rdS (i:=13) rfl (fun K hK=>?_)
       go_simp
       refine hK.out _ _ (QS.out _ (B2.alloc B2.size _)) (fun hS=>?_)
       try simp only[sput]
       clear hK K
       refine rdS (i:=14) rfl (fun K hK=>?_)
       go_simp
       refine hK.out _ _ (QS.out _ (B2.alloc B2.size _)) (fun hS=>?_)
       try simp only[sput]
       clear hK K
       refine tkS (i:=15) (v:= .bool R) rfl hS ?_
       try simp only[sput]
       refine wpAnyH_done (by kernel_rfl) ?_ _
       obtain⟨W,hW⟩:=exq (w2.alloc (.cells #[.int .i64 r,.slice a2 n2 c2] 119))
       rw[<-hW]
       have BW:Below wr.heap.size wr W:=by rw[hW];exact B2.alloc B2.size _
       have PW:Hid (W.heap[w2.heap.size]?=some (.cells #[.int .i64 r,.slice a2 n2 c2] 119 (0,0))):=hideP (by rw[hW];exact heap_alloc_new w2 _)
       have INW:Hid (R=true->INR W r a2 n2 c2):=hideP (fun h=>HTX3.out w2 W r a2 n2 c2 (fun v n xs o=>by rw[hW];exact o.alloc _) (HIN.out h))
       have hp6a:wr.heap.size<=w2.heap.size:=B2.size
       obtain⟨p6,hp6⟩:=exq (w2.heap.size)
       rw[<-hp6] at PW hp6a ⊢
       clear hW hp6 HIN B2 hS
       go_wp2
       go_meet
       case rel=>exact⟨r,a2,n2,c2,p6,rfl,rfl,hp6a,BW,PW,INW⟩
      ·rw[if_pos (by first|rfl|go_simp)]
       go_simp
       have BA:Below wr.heap.size wr (wr.alloc (.cells #[.int .i64 0,.slice none 0 0] 119)).drew:=((Below.refl _ _).alloc (Nat.le_refl _) _).drew
       refine hK.out _ _ (QS.out _ BA) (fun hS=>?_)
       try simp only[sput]
       clear hK K
       refine rdS (i:=9) rfl (fun K hK=>?_)
       go_simp
       go_at_call 73
       refine(HC3.out _ (below_more GI.out.bel BA GI.out.bel.size)).mono ?_
       rintro e w2 ⟨r,a2,n2,c2,rfl,hin,hb2⟩
       have B2:Below wr.heap.size wr w2:=below_more BA hb2 (by simp)
       have P2:w2.heap[wr.heap.size]?=some (.cells #[.int .i64 0,.slice none 0 0] 119 (0,0)):=(hb2.block _ (by simp)).trans (heap_alloc_new wr _)
       have z0:w2.cell? ⟨wr.heap.size,0,none⟩=some (.int .i64 0):=cell_of_row _ _ 0 _ 119 _ P2
       have z1:w2.cell? ⟨wr.heap.size,1,none⟩=some (.slice none 0 0):=cell_of_row _ _ 1 _ 119 _ P2
       have zf:∀j,w2.frozen? ⟨wr.heap.size,j,none⟩=false:=fun j=>frozen_of_row _ _ j _ _ P2
       have hw2:wr.heap.size<w2.heap.size:=(glt P2)
       have HIN:=hideP hin
       have HP2:=hideP P2
       clear hb2 hin P2
       refine hK.out _ _ (QS.out _ B2) (fun hS=>?_)
       try simp only[sput]
       clear hK K
       refine tkS (i:=10) (v:= .tuple #[.agg #[.int .i64 r,.slice a2 n2 c2],.bool R]) rfl hS ?_
       try simp only[sput]
       refine tkS (i:=11) (v:= .agg #[.int .i64 r,.slice a2 n2 c2]) rfl hS ?_
       try simp only[sput]
       refine tkS (i:=12) (v:= .bool R) rfl hS ?_
       try simp only[sput]
       refine rdS (i:=14) rfl (fun K hK=>?_)
       go_simp
       obtain⟨W,hW⟩:=exq ((w2.setCell ⟨wr.heap.size,0,none⟩ (.int .i64 r)).setCell ⟨wr.heap.size,1,none⟩ (.slice a2 n2 c2))
       rw[<-hW]
       have BW:Below wr.heap.size wr W:=by rw[hW];exact(B2.setCell (Nat.le_refl _) _).setCell (Nat.le_refl _) _
       have PW:Hid (W.heap[wr.heap.size]?=some (.cells #[.int .i64 r,.slice a2 n2 c2] 119 (0,0))):=hideP (by rw[hW];exact heap_setCell_same _ wr.heap.size 1 _ 119 _ (heap_setCell_same _ wr.heap.size 0 _ 119 _ HP2.out))
       have INW:Hid (R=true->INR W r a2 n2 c2):=hideP (fun h=>HTX3.out w2 W r a2 n2 c2 (fun v n xs o=>by rw[hW];exact own_setR (own_setR o (own_neB HP2.out o (by decide)) 0 _) (own_neB HP2.out o (by decide)) 1 _) (HIN.out h))
       refine hK.out _ _ (QS.out _ BW) (fun hS=>?_)
       try simp only[sput]
       clear hK K
       refine tkS (i:=15) (v:= .bool R) rfl hS ?_
       try simp only[sput]
       refine wpAnyH_done (by kernel_rfl) ?_ _
       obtain⟨p6,hp6⟩:=exq (wr.heap.size)
       have hp6a:wr.heap.size<=p6:=by omega
       rw[<-hp6] at PW ⊢
       clear hW hp6 HIN HP2 B2 hS z0 z1 zf hw2 BA
       go_wp2
       go_meet
       case rel=>exact⟨r,a2,n2,c2,p6,rfl,rfl,hp6a,BW,PW,INW⟩
     case rest =>
      obtain⟨r,a2,n2,c2,p6,rfl,rfl,hp6a,BW,PW,INW⟩:=hcut
      obtain⟨W,hW⟩:∃W:World,W=wc:=⟨_,rfl⟩
      rw[<-hW] at BW PW INW ⊢
      clear hW
      have GIW:=hideP (GI.out.below BW)
      have OLW:=hideP (ownG_below OL.out BW)
      have GRW:=hideP (GR.out.below BW)
      obtain⟨m0,m1⟩:W.cell? ⟨p6,0,none⟩=some (.int .i64 r)/\W.cell? ⟨p6,1,none⟩=some (.slice a2 n2 c2):=⟨cell_of_row _ _ 0 _ 119 _ PW.out,cell_of_row _ _ 1 _ 119 _ PW.out⟩
      have q6W:=GIW.out.gcells.2
      have fzW:=GIW.out.free
      have hGW:=GIW.out.lt
      have hpW:p6<W.heap.size:=(glt PW.out)
      have HPN:Hid ((Value.slice a k c).ownBlock≠some p6):=hideP (fun e=>by have:=HOB.out _ e;omega)
      clear t6 q0 q6 fz QS GI OL GR
      cases R with
      | false =>
       go_wp2
       refine bodyPost_ret (v:= .tuple #[.pointer none,.bool false]) (by simp[results,Tryz.results47,go_sem]) rfl ⟨HNO.out _ ?_,GIW.out.bel⟩
       rw[HV2.out,rowsB_down (show k+1<=n by omega) HRT.out]
      | true =>
       go_wp2_with fail
       have HSX:Hid (∀X:World,X.heap[p6]?=W.heap[p6]?->X.cell? ⟨p6,0,none⟩=some (.int .i64 r)/\X.cell? ⟨p6,1,none⟩=some (.slice a2 n2 c2)):=hideP (fun X hX=>⟨cell_of_row _ _ 0 _ 119 _ (hX.trans PW.out),cell_of_row _ _ 1 _ 119 _ (hX.trans PW.out)⟩)
       obtain⟨WB,hWB⟩:=exq ((W.alloc (.cells #[.int .i64 r,.slice a2 n2 c2] 119)).drew)
       have BB:Below W.heap.size W WB:=by rw[hWB];exact((Below.refl _ _).alloc (Nat.le_refl _) _).drew
       have GIB:=hideP (GIW.out.below BB)
       have OLB:=hideP (ownG_below OLW.out BB)
       have GRB:=hideP (GRW.out.below BB)
       have INB:Hid (INR WB r a2 n2 c2):=hideP (HTX3.out W WB r a2 n2 c2 (fun v n xs o=>ownG_below o BB) (INW.out (by first|rfl|trivial)))
       have hsB:WB.heap.size=W.heap.size+1:=by rw[hWB];show (W.alloc _).heap.size=_;rw[World.size_alloc]
       have HSB:=hideP (HSX.out WB (BB.block _ hpW))
       have NB:Hid (∀j u,[Value.int .i64 r,.slice a2 n2 c2][j]?=some u->WB.cell? ((⟨W.heap.size,0,none⟩:Addr).add j)=some u):=hideP (by rw[hWB];exact new2 W _ _ 119)
       have q6B:=GIB.out.gcells.2
       have hbW:w.heap.size<=WB.heap.size:=GIB.out.bel.size
       refine wp_region_held_drew (S:=fun x=>x.cell? ⟨p6,0,none⟩=some (.int .i64 r)/\x.cell? ⟨p6,1,none⟩=some (.slice a2 n2 c2)) (by kernel_rfl) (HSX.out W.drew rfl) (fun hS=>?_)
       refine tkS (i:=0) (v:= .pointer (some ⟨G,0,none⟩)) rfl hS ?_
       try simp only[sput]
       refine tkS (i:=1) (v:= .pointer (some ⟨G,0,none⟩)) rfl hS ?_
       try simp only[sput]
       refine tkS (i:=2) (v:= .pointer (some ⟨G,0,none⟩)) rfl hS ?_
       try simp only[sput]
       refine tkS (i:=3) (v:= .pointer (some ⟨G,6,none⟩)) rfl hS ?_
       try simp only[sput]
       refine tkS (i:=5) (v:= .agg #[.int .i64 r,.slice a2 n2 c2]) rfl hS ?_
       try simp only[sput]
       refine wpAnyH_ready (rs:=[4,6]) (by kernel_rfl) (by simp) ?_
       refine AllReadyH.cons rfl (fun K hK=>?_) (AllReadyH.cons rfl (fun K hK=>?_) AllReadyH.nil)
       ·rw[if_pos (by first|rfl|go_simp)]
        go_simp
        refine hK.out _ _ (HSX.out W.drew rfl) (fun hS=>?_)
        try simp only[sput]
        clear hK K
        refine rdS (i:=6) rfl (fun K hK=>?_)
        go_simp
        refine hK.out _ _ (by rw[<-hWB];exact HSB.out) (fun hS=>?_)
        try simp only[sput]
        clear hK K
        refine rdS (i:=7) rfl (fun K hK=>?_)
        rw[<-hWB]
        refine wp_append_own _ _ _ 108 rfl w.heap.size 119 i0 (.agg #[.int .i64 0,.slice none 0 0]) 2 32 Tryz.underlying108 hi0 hz0 hz1 HI.out rfl (by decide) (.slice a k c) k L rfl OLB.out ⟨W.heap.size,0,none⟩ 1 1 [.int .i64 r,.slice a2 n2 c2] rfl rfl NB.out (one2p _ _ _ _) (by unfold maxLen;omega) (by omega) hbW ?_
        intro v6 w6 ho6 hg6 hn6
        obtain⟨u6,d6,rfl⟩:=ownG_shape ho6
        have GI6:=hideP (GIB.out.grown OLB.out hg6)
        have GR6:=hideP (GRB.out.grown OLB.out hg6)
        have IN6:Hid (INR w6 r a2 n2 c2):=hideP (HTX3.out WB w6 r a2 n2 c2 (fun v n xs o=>World.ownsRow.kept o hg6 (ownG_ne o OLB.out (by decide))) INB.out)
        have O6:=hideP ho6
        have hb6:w6.heap[p6]?=W.heap[p6]?:=(hg6.block p6 (by omega) (fun e=>HPN.out e.symm)).trans (BB.block _ hpW)
        have T6:=hideP (HSX.out w6 hb6)
        have hGp:¬p6=G:=by omega
        have T7:=hideP (HSX.out (w6.setCell ⟨G,6,none⟩ (.slice u6 (k+1) d6)) ((Below.heap_setCell _ _ _ _ (by simp;omega)).trans hb6))
        have q66:=GI6.out.gcells.2
        have fz6:=GI6.out.free
        have hG6:=GI6.out.lt
        clear ho6 hg6 hn6 hb6
        refine hK.out _ _ (T6.out) (fun hS=>?_)
        try simp only[sput]
        clear hK K
        refine tkS (i:=8) (v:= .pointer (some ⟨G,0,none⟩)) rfl hS ?_
        try simp only[sput]
        refine tkS (i:=9) (v:= .pointer (some ⟨G,6,none⟩)) rfl hS ?_
        try simp only[sput]
        refine rdS (i:=10) rfl (fun K hK=>?_)
        go_simp
        refine hK.out _ _ (T7.out) (fun hS=>?_)
        try simp only[sput]
        clear hK K
        refine wpAnyH_done (by kernel_rfl) ?_ _
        have HFIN:Hid ((w6.setCell ⟨G,6,none⟩ (.slice u6 (k+1) d6)).ownsRow w.heap.size 119 2 (.slice u6 (k+1) d6) (k+1) (flatL (ls++[⟨r,.slice a2 n2 c2⟩]))/\GRows w (w6.setCell ⟨G,6,none⟩ (.slice u6 (k+1) d6)) rs (ls++[⟨r,.slice a2 n2 c2⟩]) (k+1)):=hideP (by
         refine⟨?_,(HTR3.out w6 r a2 n2 c2 GR6.out IN6.out).set GI6.out.grd (by decide) 6 _⟩
         rw[flatL_snoc,<-HLL.out]
         exact own_setR O6.out (own_neB GI6.out.grd O6.out (by decide)) 6 _)
        have GI7:=hideP (GI6.out.setU (.slice u6 (k+1) d6))
        clear q66 fz6 hG6 hS T6 T7 GI6 GR6 IN6 O6 m0 m1 q6W fzW q6B
        go_wp2
        go_roundw
        case rel=>exact⟨k+1,u6,d6,ls++[⟨r,.slice a2 n2 c2⟩],by omega,by go_num,HRT,HFIN,GI7.out⟩
        case measure=>simp[intOf];omega
       ·rw[if_pos (by first|rfl|go_simp)]
        go_simp
        refine hK.out _ _ (by rw[<-hWB];exact HSB.out) (fun hS=>?_)
        try simp only[sput]
        clear hK K
        refine rdS (i:=4) rfl (fun K hK=>?_)
        go_simp
        refine hK.out _ _ (by rw[<-hWB];exact HSB.out) (fun hS=>?_)
        try simp only[sput]
        clear hK K
        refine rdS (i:=7) rfl (fun K hK=>?_)
        rw[<-hWB]
        refine wp_append_own _ _ _ 108 rfl w.heap.size 119 i0 (.agg #[.int .i64 0,.slice none 0 0]) 2 32 Tryz.underlying108 hi0 hz0 hz1 HI.out rfl (by decide) (.slice a k c) k L rfl OLB.out ⟨W.heap.size,0,none⟩ 1 1 [.int .i64 r,.slice a2 n2 c2] rfl rfl NB.out (one2p _ _ _ _) (by unfold maxLen;omega) (by omega) hbW ?_
        intro v6 w6 ho6 hg6 hn6
        obtain⟨u6,d6,rfl⟩:=ownG_shape ho6
        have GI6:=hideP (GIB.out.grown OLB.out hg6)
        have GR6:=hideP (GRB.out.grown OLB.out hg6)
        have IN6:Hid (INR w6 r a2 n2 c2):=hideP (HTX3.out WB w6 r a2 n2 c2 (fun v n xs o=>World.ownsRow.kept o hg6 (ownG_ne o OLB.out (by decide))) INB.out)
        have O6:=hideP ho6
        have hb6:w6.heap[p6]?=W.heap[p6]?:=(hg6.block p6 (by omega) (fun e=>HPN.out e.symm)).trans (BB.block _ hpW)
        have T6:=hideP (HSX.out w6 hb6)
        have hGp:¬p6=G:=by omega
        have T7:=hideP (HSX.out (w6.setCell ⟨G,6,none⟩ (.slice u6 (k+1) d6)) ((Below.heap_setCell _ _ _ _ (by simp;omega)).trans hb6))
        have q66:=GI6.out.gcells.2
        have fz6:=GI6.out.free
        have hG6:=GI6.out.lt
        clear ho6 hg6 hn6 hb6
        refine hK.out _ _ (T6.out) (fun hS=>?_)
        try simp only[sput]
        clear hK K
        refine tkS (i:=8) (v:= .pointer (some ⟨G,0,none⟩)) rfl hS ?_
        try simp only[sput]
        refine tkS (i:=9) (v:= .pointer (some ⟨G,6,none⟩)) rfl hS ?_
        try simp only[sput]
        refine rdS (i:=10) rfl (fun K hK=>?_)
        go_simp
        refine hK.out _ _ (T7.out) (fun hS=>?_)
        try simp only[sput]
        clear hK K
        refine wpAnyH_done (by kernel_rfl) ?_ _
        have HFIN:Hid ((w6.setCell ⟨G,6,none⟩ (.slice u6 (k+1) d6)).ownsRow w.heap.size 119 2 (.slice u6 (k+1) d6) (k+1) (flatL (ls++[⟨r,.slice a2 n2 c2⟩]))/\GRows w (w6.setCell ⟨G,6,none⟩ (.slice u6 (k+1) d6)) rs (ls++[⟨r,.slice a2 n2 c2⟩]) (k+1)):=hideP (by
         refine⟨?_,(HTR3.out w6 r a2 n2 c2 GR6.out IN6.out).set GI6.out.grd (by decide) 6 _⟩
         rw[flatL_snoc,<-HLL.out]
         exact own_setR O6.out (own_neB GI6.out.grd O6.out (by decide)) 6 _)
        have GI7:=hideP (GI6.out.setU (.slice u6 (k+1) d6))
        clear q66 fz6 hG6 hS T6 T7 GI6 GR6 IN6 O6 m0 m1 q6W fzW q6B
        go_wp2
        go_roundw
        case rel=>exact⟨k+1,u6,d6,ls++[⟨r,.slice a2 n2 c2⟩],by omega,by go_num,HRT,HFIN,GI7.out⟩
        case measure=>simp[intOf];omega
    ·have hki:¬(k:Int)<(n:Int):=by omega
     obtain rfl:k=n:=by omega
     go_wp2
     refine bodyPost_ret (v:= .tuple #[.pointer (some ⟨G,0,none⟩),.bool true]) (by simp[results,Tryz.results47,go_sem]) rfl ⟨?_,GI.out.bel⟩
     rw[HV2.out,HM.out]
     refine⟨G,rfl,.slice a k c,ls,by omega,GI.out.grd,?_,?_⟩
     ·rw[HL.out];exact HO.out.1
     ·rw[HL.out];exact HO.out.2
end Go.Proofs.YtbbehmcekbnkiaaGreat

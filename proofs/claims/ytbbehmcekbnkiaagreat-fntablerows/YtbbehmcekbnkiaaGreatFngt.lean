import Derived.Test.YtbbehmcekbnkiaaGreatProg
import Derived.WalkSpells
import Derived.Deep.Light
import Derived.BigQuiet
import Derived.WalkSmall
import Derived.Deep.DeepCutAuto
import Derived.Deep.RegionHeld3
import Derived.Laws.AppendOwnNone
namespace Go.Proofs.YtbbehmcekbnkiaaGreat
set_option maxHeartbeats 8000000
set_option maxRecDepth 20000
open Go.RowKit
set_option linter.unusedVariables false
set_option linter.unusedSimpArgs false
theorem bcell {W w1:World}(hb:Below W.heap.size W w1):(∀b o,b<W.heap.size->w1.cell? ⟨b,o,none⟩=W.cell? ⟨b,o,none⟩)/\(∀b o,b<W.heap.size->w1.frozen? ⟨b,o,none⟩=W.frozen? ⟨b,o,none⟩) :=
 ⟨fun b o h=>hb.cell (p:=⟨b,o,none⟩) h,fun b o h=>hb.frozen (p:=⟨b,o,none⟩) h⟩
theorem below1 (w:World)(o:Obj):Below w.heap.size w (w.alloc o):=(Below.refl _ _).alloc (Nat.le_refl _) _
theorem below2 (w:World)(o o2:Obj):Below w.heap.size w ((w.alloc o).alloc o2):=(below1 w o).alloc (by simp) _
theorem below_more {w W w1:World}{B:Nat}(h:Below B w W)(hb:Below W.heap.size W w1)(hB:B<=W.heap.size):Below B w w1:=h.trans (hb.mono hB)
theorem hideP {p:Prop}(h:p):Hid p:=h
theorem retB {a b:Bool}(h:a=b):Ending.returned (Value.bool a)=Ending.returned (Value.bool b):=by rw[h]
structure Abv (lo:Nat)(w w':World):Prop where
 size:w.heap.size<=w'.heap.size
 block:∀k,lo<=k->k<w.heap.size->w'.heap[k]?=w.heap[k]?
theorem Abv.below {lo:Nat}{w w':World}(h:Below w.heap.size w w'):Abv lo w w':=⟨h.size,fun k _ hk=>h.block k hk⟩
end Go.Proofs.YtbbehmcekbnkiaaGreat
namespace Go.Proofs.YtbbehmcekbnkiaaGreat
open Go.RowKit
theorem sput : (∀ (a : Act) (d : Tmp) (v : Value), a.put (some d) v = { a with tmps := a.tmps.setIfInBounds d v }) ∧ (∀ (a : Act) (v : Value), a.put none v = a) ∧ (∀ {α : Type} {xs : List α} {i : Nat} (h : i < xs.toArray.size), xs.toArray[i] = xs[i]'(by simpa using h)) ∧ (∀ {α : Type} (a : α) (ys : List α) (h : 0 < (a :: ys).length), (a :: ys)[0] = a) ∧ (∀ {α : Type} (a : α) (ys : List α) (i : Nat) (h : i + 1 < (a :: ys).length), (a :: ys)[i + 1] = ys[i]'(by simpa using h)) ∧ (∀ {α : Type} (l : List α) (i : Nat) (a : α), l.toArray.setIfInBounds i a = (l.set i a).toArray) ∧ (∀ {α : Type} {x : α} {xs : List α} {a : α}, (x :: xs).set 0 a = a :: xs) ∧ (∀ {α : Type} {x : α} {xs : List α} {i : Nat} {a : α}, (x :: xs).set (i + 1) a = x :: xs.set i a) :=
  ⟨fun _ _ _ => rfl, fun _ _ => rfl, List.getElem_toArray, List.getElem_cons_zero, List.getElem_cons_succ, List.setIfInBounds_toArray, List.set_cons_zero, List.set_cons_succ⟩
theorem glt {α : Type} {a : Array α} {i : Nat} {v : α} (h : a[i]? = some v) : i < a.size := (Array.getElem?_eq_some_iff.1 h).1
theorem exq {α : Type} (a : α) : ∃ x, x = a := ⟨a, rfl⟩
end Go.Proofs.YtbbehmcekbnkiaaGreat
namespace Go.Proofs.YtbbehmcekbnkiaaGreat
open Go.RowKit
set_option linter.unusedVariables false
set_option linter.unusedSimpArgs false
def IsB (e:Ending):Prop:=∃b:Bool,e = .returned (.bool b)
def AtK (n:Nat)(v:Value):Prop:=∃k:Nat,k<=n/\v = .int .i64 (k:Int)
theorem AtK.next {n k:Nat}(h:k<n):AtK n (.int .i64 ((k:Int)+1)):=⟨k+1,h,rfl⟩
theorem letter2_any (c:Int)(w:World):Calls Tryz.prog 143 #[.int .u8 c] w fun e w'=>IsB e/\w'=w:=by
 go_enter Tryz.func143,Tryz.ntmps143
 go_wp2
 all_goals(go_ret;exact⟨⟨_,rfl⟩,rfl⟩)
theorem in6_any (s:ByteArray)(c:Int)(w:World)(hs:s.size<=1000):Calls Tryz.prog 144 #[.string s,.int .i64 c] w fun e w'=>IsB e/\w'=w:=by
 go_enter Tryz.func144,Tryz.ntmps144
 go_wp2
 go_loop [5] (fun s5=>AtK s.size s5) (fun s5=>s.size-(intOf s5).toNat)
 case atStart=>exact⟨0,Nat.zero_le _,rfl⟩
 case round =>
  obtain⟨k,hk,rfl⟩:=hrel
  by_cases hlt:k<s.size
  ·have hli:(k:Int)<(s.size:Int):=by omega
   go_wp2
   all_goals first
    | (go_ret;exact⟨⟨_,rfl⟩,rfl⟩)
    | exact⟨AtK.next hlt,by simp only[intOf];omega⟩
  ·have hli:¬(k:Int)<(s.size:Int):=by omega
   go_wp2
   go_ret
   exact⟨⟨_,rfl⟩,rfl⟩
theorem abs_small (n:Int)(w:World)(h0:0<=n)(h1:n<=15):Calls Tryz.prog 128 #[.int .i64 n] w fun e w'=>e = .returned (.int .u64 n)/\w'=w:=by
 have hn:¬n<0:=by omega
 go_enter Tryz.func128,Tryz.ntmps128
 go_wp2
 go_ret
 exact⟨rfl,rfl⟩
def IsS (n:Nat)(e:Ending):Prop:=∃s:ByteArray,e = .returned (.string s)/\s.size<=n
def DecJ (w:World)(v0 v3:Value)(wr:World):Prop:=∃(m:Nat) (s:ByteArray),v0 = .int .u64 (m:Int)/\v3 = .string s/\s.size+m<=15/\Below w.heap.size w wr
theorem conv1 (w:World)(x:Int):(convert 22 9 (.slice (some ⟨w.heap.size,0,none⟩) 1 1)).run Tryz.prog (w.alloc (.cells #[.int .u8 x] 5)) = .ok (.string (strOfNums [x])) (w.alloc (.cells #[.int .u8 x] 5)):=by
 refine run_convert_bytes_arg (w.alloc (.cells #[.int .u8 x] 5)) 22 5 Tryz.underlying22 Tryz.underlying5 w.heap.size 0 1 1 [x] rfl ?_ 9 Tryz.underlying9
 intro i hi
 obtain rfl:i=0:=by omega
 simp
theorem num1 (x:Int):(strOfNums [x]).size=1:=by rw[strOfNums_size];rfl
theorem decimal_small (n:Nat)(w:World)(h1:n<=15):Calls Tryz.prog 142 #[.int .u64 (n:Int)] w fun e w'=>IsS 20 e/\Below w.heap.size w w':=by
 go_enter Tryz.func142,Tryz.ntmps142
 go_wp2
 go_loopw [0,3] (fun s0 s3 wr=>DecJ w s0 s3 wr) (fun s0 _ _=>(intOf s0).toNat)
 case atStart=>exact⟨n,_,rfl,rfl,by show 0+n<=15;omega,Below.refl _ _⟩
 case round =>
  obtain⟨m,s,rfl,rfl,hsm,hb⟩:=hrel
  have HB:=hideP hb
  clear hb
  by_cases hlt:9<m
  ·have hli:(9:Int)<(m:Int):=by omega
   have hc:=conv1 wr (48+(m:Int) % 10)
   have h1s:=num1 (48+(m:Int) % 10)
   obtain⟨q,hq⟩:=exq (strOfNums [48+(m:Int) % 10])
   rw[<-hq] at hc h1s
   clear hq
   have ha:=run_string_add_sum (P:=Tryz.prog) (wr.alloc (.cells #[.int .u8 (48+(m:Int) % 10)] 5)) q s (by omega)
   have hz:(q++s).size=1+s.size:=by rw[ByteArray.size_append,h1s]
   go_wp2
   refine⟨⟨m / 10,q++s,rfl,rfl,by omega,HB.out.alloc (Below.size HB.out) _⟩,by simp only[intOf];omega⟩
  ·have hli:¬(9:Int)<(m:Int):=by omega
   have hc:=conv1 wr (48+(m:Int))
   have h1s:=num1 (48+(m:Int))
   obtain⟨q,hq⟩:=exq (strOfNums [48+(m:Int)])
   rw[<-hq] at hc h1s
   clear hq
   have ha:=run_string_add_sum (P:=Tryz.prog) (wr.alloc (.cells #[.int .u8 (48+(m:Int))] 5)) q s (by omega)
   have hz:(q++s).size=1+s.size:=by rw[ByteArray.size_append,h1s]
   go_wp2
   go_ret
   exact⟨⟨q++s,rfl,by omega⟩,HB.out.alloc (Below.size HB.out) _⟩
theorem signed_small (n:Nat)(w:World)(h1:n<=15):Calls Tryz.prog 129 #[.int .i64 (n:Int)] w fun e w'=>IsS 20 e/\Below w.heap.size w w':=by
 have hn:¬(n:Int)<0:=by omega
 go_enter Tryz.func129,Tryz.ntmps129
 go_wp2_with fail
 refine(abs_small n w (by omega) (by omega)).mono ?_
 rintro e w1 ⟨rfl,rfl⟩
 go_wp2_with fail
 refine(decimal_small n _ h1).mono ?_
 rintro e w2 ⟨⟨s,rfl,hs⟩,hb⟩
 have HB:=hideP hb
 clear hb
 go_wp2
 go_ret
 exact⟨⟨s,rfl,hs⟩,HB.out⟩
abbrev gyA (a b c d:Int):Array Value:=#[.int .i64 a,.int .i64 b,.int .i64 c,.int .i64 d]
abbrev gyO (a b c d:Int):Obj:= .cells (gyA a b c d) 215 (0,0)
abbrev gyV (a b c d:Int):Value:= .agg (gyA a b c d)
def PG (w wi:World)(R G:Nat)(a b c d:Int):Prop:=Below w.heap.size w wi/\wi.heap[R]?=some (gyO 0 0 0 0)/\wi.heap[G]?=some (gyO a b c d)
theorem gy_cells {w:World}{g:Nat}{a b c d:Int}(h:w.heap[g]?=some (gyO a b c d)):w.cell? ⟨g,0,none⟩=some (.int .i64 a)/\w.cell? ⟨g,1,none⟩=some (.int .i64 b)/\w.cell? ⟨g,2,none⟩=some (.int .i64 c)/\w.cell? ⟨g,3,none⟩=some (.int .i64 d):=by
 refine⟨?_,?_,?_,?_⟩<;>(rw[cell_of_row w g _ _ 215 (0,0) h];rfl)
theorem PG.set2 {w wi:World}{R G:Nat}{a b c d:Int}(h:PG w wi R G a b c d)(hG:w.heap.size<=G)(hRG:R≠G)(x:Int):PG w (wi.setCell ⟨G,2,none⟩ (.int .i64 x)) R G a b x d :=
 ⟨h.1.setCell (p:=⟨G,2,none⟩) hG _,(Below.heap_setCell _ _ _ _ hRG).trans h.2.1,heap_setCell_same wi G 2 _ 215 _ h.2.2⟩
theorem PG.set3 {w wi:World}{R G:Nat}{a b c d:Int}(h:PG w wi R G a b c d)(hG:w.heap.size<=G)(hRG:R≠G)(x:Int):PG w (wi.setCell ⟨G,3,none⟩ (.int .i64 x)) R G a b c x :=
 ⟨h.1.setCell (p:=⟨G,3,none⟩) hG _,(Below.heap_setCell _ _ _ _ hRG).trans h.2.1,heap_setCell_same wi G 3 _ 215 _ h.2.2⟩
abbrev four (w:World)(R:Nat)(a b c d:Int):World:=(((w.setCell ⟨R,0,none⟩ (.int .i64 a)).setCell ⟨R,1,none⟩ (.int .i64 b)).setCell ⟨R,2,none⟩ (.int .i64 c)).setCell ⟨R,3,none⟩ (.int .i64 d)
theorem four_heap {w:World}{R:Nat}{a0 b0 c0 d0:Int}(h:w.heap[R]?=some (gyO a0 b0 c0 d0))(a b c d:Int):(four w R a b c d).heap[R]?=some (gyO a b c d) :=
 heap_setCell_same _ R 3 _ 215 _ (heap_setCell_same _ R 2 _ 215 _ (heap_setCell_same _ R 1 _ 215 _ (heap_setCell_same _ R 0 _ 215 _ h)))
theorem plain6_any (n c:Int)(w:World)(hn0:0<=n)(hn1:n<=15)(hc0:1<=c)(hc1:c<=126) :
 Calls Tryz.prog 130 #[.int .i64 n,.int .i64 c] w fun e w'=>∃a b c d:Int,e = .returned (gyV a b c d)/\Below w.heap.size w w':=by
 go_enter Tryz.func130,Tryz.ntmps130
 go_upto_region 3 with fail
 have d0:∃a b d e:Int,Hid (PG w ((w.alloc (.cells (gyA 0 0 0 0) 215)).alloc (.cells (gyA c (wrap64 (6553*(8+n)*(4+(c*7+n) % 6))) (3*(6553*(8+n))) 0) 215)) w.heap.size (w.heap.size+1) a b d e):=by
  exact⟨_,_,_,_,below2 _ _ _,(Below.heap_alloc _ _ _ (by simp)).trans (heap_alloc_new w _),by
   have:=heap_alloc_new (w.alloc (.cells (gyA 0 0 0 0) 215)) (.cells (gyA c (wrap64 (6553*(8+n)*(4+(c*7+n) % 6))) (3*(6553*(8+n))) 0) 215)
   simpa using this⟩
 generalize World.alloc _ _=W at d0 ⊢
 obtain⟨R,hR⟩:=exq (w.heap.size)
 obtain⟨G,hG⟩:=exq (w.heap.size+1)
 rw[<-hG,<-hR] at d0
 rw[<-hG,<-hR]
 have hRr:w.heap.size<=R:=by omega
 have hGr:w.heap.size<=G:=by omega
 have hRG:R≠G:=by omega
 obtain⟨a,b,x,d,DD⟩:=d0
 clear hR hG
 obtain⟨u,hu⟩:∃u:Int,u=6553*(8+n):=⟨_,rfl⟩
 rw[<-hu]
 have hu0:52424<=u:=by omega
 have hu1:u<=150719:=by omega
 clear hu
 go_cut [32] (fun s32 wc=>(∃t:Bool,s32 = .bool t/\True)/\Hid (PG w wc R G a b x d))
 case first =>
  go_wp2_with fail
  refine(letter2_any c _).mono ?_
  rintro e w1 ⟨⟨b1,rfl⟩,hw1⟩
  subst hw1
  cases b1
  all_goals go_wp2
  all_goals go_meet
  all_goals exact⟨⟨_,rfl,trivial⟩,DD⟩
 case rest =>
  obtain⟨⟨t,rfl,_⟩,DD⟩:=hcut
  obtain⟨g0,g1,g2,g3⟩:=gy_cells DD.2.2
  have fG:∀j,wc.frozen? ⟨G,j,none⟩=false:=fun j=>frozen_of_row wc G j _ _ DD.2.2
  go_upto_if 32 with fail
  go_cut [] (fun wc=>∃a b x d:Int,Hid (PG w wc R G a b x d))
  case first =>
   cases t with
   | false =>
    go_wp2
    go_meet
    case rel=>exact⟨_,_,_,_,DD⟩
   | true =>
    go_wp2
    go_meet
    case rel=>exact⟨_,_,_,_,PG.set2 DD hGr hRG _⟩
  case rest =>
  clear DD g0 g1 g2 g3 fG
  obtain⟨a,b,x,d,DD⟩:=hcut
  go_wp2_with fail
  refine(in6_any _ _ _ (by decide)).mono ?_
  rintro e w2 ⟨⟨b2,rfl⟩,hw2⟩
  have DE:Hid (PG w w2 R G a b x d):=by rw[hw2];exact DD
  clear hw2 DD
  have DD:=DE
  clear DE
  obtain⟨g0,g1,g2,g3⟩:=gy_cells DD.2.2
  have fG:∀j,w2.frozen? ⟨G,j,none⟩=false:=fun j=>frozen_of_row w2 G j _ _ DD.2.2
  obtain⟨r0,r1,r2,r3⟩:=gy_cells DD.2.1
  have fR:∀j,w2.frozen? ⟨R,j,none⟩=false:=fun j=>frozen_of_row w2 R j _ _ DD.2.1
  cases b2 with
  | false =>
   have HF:Hid ((four w2 R a b x d).heap[R]?=some (gyO a b x d)/\Below w.heap.size w (four w2 R a b x d)) :=
    ⟨four_heap DD.2.1 _ _ _ _,(((DD.1.setCell (p:=⟨R,0,none⟩) hRr _).setCell (p:=⟨R,1,none⟩) hRr _).setCell (p:=⟨R,2,none⟩) hRr _).setCell (p:=⟨R,3,none⟩) hRr _⟩
   clear DD
   go_wp2
   exact bodyPost_ret (v:=gyV a b x d) (results_cell_row rfl _ _ R 215 _ (0,0) _ rfl HF.1 Tryz.underlying215 rfl (by kernel_rfl)) rfl ⟨a,b,x,d,rfl,HF.2⟩
  | true =>
   have D3:=PG.set3 DD hGr hRG (2*u)
   obtain⟨h0,h1,h2,h3⟩:=gy_cells D3.2.2
   obtain⟨q0,q1,q2,q3⟩:=gy_cells D3.2.1
   have HF:Hid ((four (w2.setCell ⟨G,3,none⟩ (.int .i64 (2*u))) R a b x (2*u)).heap[R]?=some (gyO a b x (2*u))/\Below w.heap.size w (four (w2.setCell ⟨G,3,none⟩ (.int .i64 (2*u))) R a b x (2*u))) :=
    ⟨four_heap D3.2.1 _ _ _ _,(((D3.1.setCell (p:=⟨R,0,none⟩) hRr _).setCell (p:=⟨R,1,none⟩) hRr _).setCell (p:=⟨R,2,none⟩) hRr _).setCell (p:=⟨R,3,none⟩) hRr _⟩
   clear DD D3
   go_wp2
   exact bodyPost_ret (v:=gyV a b x (2*u)) (results_cell_row rfl _ _ R 215 _ (0,0) _ rfl HF.1 Tryz.underlying215 rfl (by kernel_rfl)) rfl ⟨a,b,x,2*u,rfl,HF.2⟩
section
variable {P : Program} {ops : Array Oper} {Q : Exit -> Act -> World -> Prop} {md : Region.Mode} {S : World -> Prop} {i : Nat} {oi : Oper} {v : Value} {fuel : Nat} {listed : Array Bool} {a : Act} {w : World}
theorem tkS (hi:ops[i]?=some oi)(hS:S w)(h:wpAnyH P md ops Q S fuel (listed.setIfInBounds i true) (a.put oi.dst v) w)
 (hb:(Region.noSelect ops&&(Region.free md ops listed i&&(Region.ready md ops listed).contains i))=true:=by kernel_rfl) (hw:Region.wanted oi (yielded ops a.tmps)=true:=by first|rfl|go_simp) (hr:∀w,S w->(execOp a.eval oi).run P w = .ok (.value v) w:=by intro wx hx;go_split_ands;go_simp)
 (hQ:∀c a w,Q (.panic c) (a.put oi.dst v) w->Q (.panic c) a w:=by exact fun _ _ _ h=>h):wpAnyH P md ops Q S (fuel+1) listed a w:=by
 simp only[Bool.and_eq_true] at hb
 exact wpAnyH_take hi hb.1 hb.2.1 hb.2.2 hQ (Or.inl ⟨hw,hr⟩) hS h
theorem rdS (hi:ops[i]?=some oi)(h:∀K:Act->World->Prop,Shut (∀a w,S w->(S w->wpAnyH P md ops Q S fuel (listed.setIfInBounds i true) a w)->K a w)->Oper.wp P oi a w K Q)
 (hr:Region.ready md ops listed=[i]:=by kernel_rfl) (hw:Region.wanted oi (yielded ops a.tmps)=true:=by first|rfl|go_simp):wpAnyH P md ops Q S (fuel+1) listed a w :=
 wpAnyH_ready hr (by simp) (AllReadyH.cons hi (fun K hK=>by rw[if_pos hw];exact h K hK) AllReadyH.nil)
end
theorem info_parts4 {P:Program}{t:TypeId}{z:Value}{s b:Nat}(h:(P.info? t).map (fun i=>(i.zero,i.size,i.bytes))=some (some z,s,b)):∃i,P.info? t=some i/\i.zero=some z/\i.size=s/\i.bytes=b:=by
 cases hi:P.info? t with
 | none=>rw[hi] at h;cases h
 | some i=>rw[hi] at h;simp only[Option.map_some,Option.some.injEq,Prod.mk.injEq] at h;exact⟨i,rfl,h.1,h.2.1,h.2.2⟩
theorem Tryz.info215q:(Tryz.prog.info? 215).map (fun i=>(i.zero,i.size,i.bytes))=some (some (gyV 0 0 0 0),4,32):=by kernel_rfl
theorem Tryz.info230q:(Tryz.prog.info? 230).map (fun i=>(i.zero,i.size,i.bytes))=some (some (gyV 0 0 0 0),4,32):=by kernel_rfl
def Kind4 (t e:Nat):Prop:=(t=208/\e=215)\/(t=209/\e=230)
theorem Kind4.facts {t e:Nat}(h:Kind4 t e):Tryz.prog.underlying t=some (.slice e)/\∃i,Tryz.prog.info? e=some i/\i.zero=some (gyV 0 0 0 0)/\i.size=4/\i.bytes=32:=by
 rcases h with ⟨rfl,rfl⟩ | ⟨rfl,rfl⟩
 ·exact⟨Tryz.underlying208,info_parts4 Tryz.info215q⟩
 ·exact⟨Tryz.underlying209,info_parts4 Tryz.info230q⟩
def R4 (e base:Nat)(w:World)(v:Value)(n:Nat):Prop:=∃xs:List Value,w.ownsRow base e 4 v n xs/\∀u∈xs,∃i:Int,u = .int .i64 i
theorem wp_app4 {t e:Nat}(hk:Kind4 t e){w:World}{o:Oper}{a:Act}{K:Act->World->Prop}{Q:Exit->Act->World->Prop}(s x:Operand)(ho:o.op = .call { callee:= .builtin .append,args:=#[s,x],argTypes:=#[t,t] })
 (base:Nat) (v:Value) (n:Nat) (hs:a.eval s=v) (hown:R4 e base w v n) (b:Nat) (a1 a2 a3 a4:Int) (hx:a.eval x = .slice (some ⟨b,0,none⟩) 1 1) (hb:w.heap[b]?=some (.cells (gyA a1 a2 a3 a4) e (0,0))) (hn:n<=100000) (hbase:base<=w.heap.size)
 (h:∀v' w',R4 e base w' v' (n+1)->w.grownBy w' v.ownBlock->(v'.ownBlock=v.ownBlock\/v'.ownBlock=some w.heap.size)->K (a.put o.dst v') w'):o.wp Tryz.prog a w K Q:=by
 obtain⟨hT,i0,hi,hz0,hz1,hz2⟩:=hk.facts
 obtain⟨xs,hown,hall⟩:=hown
 obtain⟨v',w',hr,h2,h3,h4,h5⟩:=run_append_own_at (P:=Tryz.prog) w base t o.type e i0 (gyV 0 0 0 0) 4 32 hT hi hz0 hz1 hz2 rfl (by decide) v n _ hown ⟨b,0,none⟩ 1 1 [.int .i64 a1,.int .i64 a2,.int .i64 a3,.int .i64 a4] rfl (fun j u hj=>by
  have h9:w.cell? ⟨b,j,none⟩=some u:=by
   rw[cell_of_row w b j _ e _ hb]
   simpa using hj
  unfold Addr.add
  split
  ·rename_i e2;have e3:j=0:=by simpa using e2
   subst e3;exact h9
  ·simpa using h9) (by simp[Value.oneCell']) (by unfold maxLen;omega) (by omega) hbase
 unfold Oper.wp execOp
 simp only[ho,resolve,invoke,builtin,Sem.run_bind,Sem.run_pure,Result.andThen_ok,List.map_toArray,List.map_cons,List.map_nil,hs,hx,hr]
 refine h v' w' ⟨_,h2,fun u hu=>?_⟩ h3 h5
 rcases List.mem_append.1 hu with h|h
 ·exact hall u h
 ·simp only[List.mem_cons,List.not_mem_nil,or_false] at h
  rcases h with rfl|rfl|rfl|rfl<;>exact⟨_,rfl⟩
theorem R4.nil (e base:Nat)(w:World):R4 e base w (.slice none 0 0) 0:=⟨[],World.ownsRow_nil _ _ _ _,fun u hu=>by cases hu⟩
theorem R4.apart {e base n T ty:Nat}{w:World}{v:Value}{c:Array Value}(h:R4 e base w v n)(hT:w.heap[T]?=some (.cells c ty (0,0)))(hne:e≠ty):v.ownBlock≠some T:=by
 obtain⟨xs,ho,_⟩:=h
 intro hg
 rcases ho.2 with ⟨rfl,_⟩ | ⟨g',cap,cur,rfl,_,hg',_⟩
 ·cases hg
 ·simp[Value.ownBlock] at hg
  subst hg
  rw[hg'] at hT
  simp at hT
  exact hne hT.2
theorem R4.keep {e base n:Nat}{w w':World}{v:Value}(h:R4 e base w v n)(hb:∀g,v.ownBlock=some g->w'.heap[g]?=w.heap[g]?):R4 e base w' v n:=by
 obtain⟨xs,ho,ha⟩:=h
 refine⟨xs,⟨ho.1,?_⟩,ha⟩
 rcases ho.2 with h' | ⟨g,cap,cur,rfl,hg0,hg,hr⟩
 ·exact .inl h'
 ·exact .inr ⟨g,cap,cur,rfl,hg0,(hb g rfl).trans hg,hr⟩
theorem R4.lt {e base n g:Nat}{w:World}{v:Value}(h:R4 e base w v n)(hg:v.ownBlock=some g):base<=g/\g<w.heap.size:=by
 obtain⟨xs,ho,_⟩:=h
 rcases ho.2 with ⟨rfl,_⟩ | ⟨g',cap,cur,rfl,hg0,hg',hr⟩
 ·cases hg
 ·simp[Value.ownBlock] at hg
  subst hg
  exact⟨hg0,(glt hg')⟩
theorem R4.below {e base n:Nat}{w w':World}{v:Value}(h:R4 e base w v n)(hb:Below w.heap.size w w'):R4 e base w' v n:=h.keep fun g hg=>hb.block g (h.lt hg).2
abbrev ftA (nm:ByteArray)(gv pv:Value)(s1 s2 s3 s4 s5 q r:Int):Array Value:=#[.string nm,gv,pv,.int .i64 s1,.int .i64 s2,.int .i64 s3,.int .i64 s4,.int .i64 s5,.int .i64 q,.int .i64 r]
abbrev ftO (nm:ByteArray)(gv pv:Value)(s1 s2 s3 s4 s5 q r:Int):Obj:= .cells (ftA nm gv pv s1 s2 s3 s4 s5 q r) 211 (0,0)
abbrev ftZ:Obj:=ftO ⟨#[]⟩ (.slice none 0 0) (.slice none 0 0) 0 0 0 0 0 0 0
def PFr (w wr:World)(R F:Nat)(gv pv:Value)(n1 n2:Nat):Prop :=
 (∃nm s1 s2 s3 s4 s5 q r,wr.heap[F]?=some (ftO nm gv pv s1 s2 s3 s4 s5 q r))/\wr.heap[R]?=some ftZ/\R4 215 w.heap.size wr gv n1/\R4 230 w.heap.size wr pv n2/\Below w.heap.size w wr
theorem PFr.c1 {w wr:World}{R F n1 n2:Nat}{gv pv:Value}(h:PFr w wr R F gv pv n1 n2):wr.cell? ⟨F,1,none⟩=some gv:=by
 obtain⟨nm,s1,s2,s3,s4,s5,q,r,h⟩:=h.1
 rw[cell_of_row wr F _ _ 211 (0,0) h];rfl
theorem PFr.c2 {w wr:World}{R F n1 n2:Nat}{gv pv:Value}(h:PFr w wr R F gv pv n1 n2):wr.cell? ⟨F,2,none⟩=some pv:=by
 obtain⟨nm,s1,s2,s3,s4,s5,q,r,h⟩:=h.1
 rw[cell_of_row wr F _ _ 211 (0,0) h];rfl
theorem PFr.fz {w wr:World}{R F n1 n2:Nat}{gv pv:Value}(h:PFr w wr R F gv pv n1 n2)(j:Nat):wr.frozen? ⟨F,j,none⟩=false:=by
 obtain⟨nm,s1,s2,s3,s4,s5,q,r,h⟩:=h.1
 exact frozen_of_row wr F j _ _ h
theorem PFr.lt {w wr:World}{R F n1 n2:Nat}{gv pv:Value}(h:PFr w wr R F gv pv n1 n2):F<wr.heap.size/\R<wr.heap.size:=by
 obtain⟨nm,s1,s2,s3,s4,s5,q,r,h1⟩:=h.1
 exact⟨(glt h1),(glt h.2.1)⟩
theorem PFr.below {w wr w':World}{R F n1 n2:Nat}{gv pv:Value}(h:PFr w wr R F gv pv n1 n2)(hb:Below wr.heap.size wr w'):PFr w w' R F gv pv n1 n2:=by
 have hl:=h.lt
 obtain⟨⟨nm,s1,s2,s3,s4,s5,q,r,h1⟩,h2,h3,h4,h5⟩:=h
 exact⟨⟨nm,s1,s2,s3,s4,s5,q,r,(hb.block F hl.1).trans h1⟩,(hb.block R hl.2).trans h2,h3.below hb,h4.below hb,below_more h5 hb h5.size⟩
theorem PFr.app1 {w wr w':World}{R F n1 n2 m:Nat}{gv pv v':Value}(h:PFr w wr R F gv pv n1 n2)(hR:R4 215 w.heap.size w' v' m)(hg:wr.grownBy w' gv.ownBlock):(∃nm s1 s2 s3 s4 s5 q r,w'.heap[F]?=some (ftO nm gv pv s1 s2 s3 s4 s5 q r))/\w'.heap[R]?=some ftZ/\R4 230 w.heap.size w' pv n2/\Below w.heap.size w w':=by
 have hl:=h.lt
 obtain⟨⟨nm,s1,s2,s3,s4,s5,q,r,h1⟩,h2,h3,h4,h5⟩:=h
 refine⟨⟨nm,s1,s2,s3,s4,s5,q,r,(hg.block F hl.1 (fun he=>h3.apart h1 (by decide) he.symm)).trans h1⟩,(hg.block R hl.2 (fun he=>h3.apart h2 (by decide) he.symm)).trans h2,h4.keep fun g hgp=>hg.block g (h4.lt hgp).2 (fun he=>?_),Below.grown h5 hg h5.size fun k hk=>(h3.lt hk).1⟩
 obtain⟨xs,ho,_⟩:=h4
 rcases ho.2 with ⟨rfl,_⟩ | ⟨g',cap,cur,rfl,_,hg',_⟩
 ·cases hgp
 ·simp[Value.ownBlock] at hgp
  subst hgp
  obtain⟨ys,ho3,_⟩:=h3
  rcases ho3.2 with ⟨rfl,_⟩ | ⟨g3,cap3,cur3,rfl,_,hg3,_⟩
  ·cases he
  ·simp[Value.ownBlock] at he
   subst he
   rw[hg'] at hg3
   simp at hg3
theorem PFr.put1 {w w':World}{R F n2 m:Nat}{gv pv v':Value}(h1:∃nm s1 s2 s3 s4 s5 q r,w'.heap[F]?=some (ftO nm gv pv s1 s2 s3 s4 s5 q r))(h2:w'.heap[R]?=some ftZ)(h3:R4 215 w.heap.size w' v' m)(h4:R4 230 w.heap.size w' pv n2)(h5:Below w.heap.size w w')(hF:w.heap.size<=F)(hRF:R≠F):PFr w (w'.setCell ⟨F,1,none⟩ v') R F v' pv m n2:=by
 obtain⟨nm,s1,s2,s3,s4,s5,q,r,h1⟩:=h1
 exact⟨⟨nm,s1,s2,s3,s4,s5,q,r,heap_setCell_same w' F 1 _ 211 _ h1⟩,(Below.heap_setCell _ _ _ _ hRF).trans h2,
  h3.keep (fun g hg=>Below.heap_setCell _ _ _ _ (fun he=>h3.apart h1 (by decide) (by rw[hg,he]))),h4.keep (fun g hg=>Below.heap_setCell _ _ _ _ (fun he=>h4.apart h1 (by decide) (by rw[hg,he]))),h5.setCell (p:=⟨F,1,none⟩) hF _⟩
theorem idx_str (s:ByteArray)(k:Nat)(h:k<s.size):∃x:Int,0<=x/\x<=255/\∀W,(Instr.index 9 (.string s) (.int .i64 (k:Int))).run Tryz.prog W = .ok (.int .u8 x) W:=by
 have h2:(k:Int)<s.size:=by omega
 refine⟨((s[k]'h).toNat:Int),by omega,by have:=(s[k]'h).toNat_lt;omega,fun W=>?_⟩
 simp[go_sem,h,h2]
theorem wpList_app4 {t e:Nat}(hk:Kind4 t e){w:World}{ops:Array Oper}{rest:List Oper}{o:Oper}{a:Act}{Q:Exit->Act->World->Prop}(hgd:o.guard=none)(s x:Operand)(ho:o.op = .call { callee:= .builtin .append,args:=#[s,x],argTypes:=#[t,t] })
 (base:Nat) (v:Value) (n:Nat) (hs:a.eval s=v) (hown:R4 e base w v n) (b:Nat) (a1 a2 a3 a4:Int) (hx:a.eval x = .slice (some ⟨b,0,none⟩) 1 1) (hb:w.heap[b]?=some (.cells (gyA a1 a2 a3 a4) e (0,0))) (hn:n<=100000) (hbase:base<=w.heap.size)
 (h:∀v' w',R4 e base w' v' (n+1)->w.grownBy w' v.ownBlock->(v'.ownBlock=v.ownBlock\/v'.ownBlock=some w.heap.size)->wpList Tryz.prog ops Q rest (a.put o.dst v') w'):wpList Tryz.prog ops Q (o :: rest) a w :=
 wpList_plain hgd fun _ hK=>wp_app4 hk s x ho base v n hs hown b a1 a2 a3 a4 hx hb hn hbase fun v' w' h2 h3 h4=>hK _ _ (h v' w' h2 h3 h4)
theorem wpList_app8 {t e:Nat}(hk:Kind4 t e){w:World}{ops:Array Oper}{rest:List Oper}{o:Oper}{a:Act}{Q:Exit->Act->World->Prop}(hgd:o.guard=none)(s x:Operand)(ho:o.op = .call { callee:= .builtin .append,args:=#[s,x],argTypes:=#[t,t] })
 (base:Nat) (v:Value) (n:Nat) (hs:a.eval s=v) (hown:R4 e base w v n) (b:Nat) (a1 a2 a3 a4 b1 b2 b3 b4:Int) (hx:a.eval x = .slice (some ⟨b,0,none⟩) 2 2) (hb:w.heap[b]?=some (.cells (gyA a1 a2 a3 a4++gyA b1 b2 b3 b4) e (0,0))) (hn:n<=100000) (hbase:base<=w.heap.size)
 (h:∀v' w',R4 e base w' v' (n+2)->w.grownBy w' v.ownBlock->wpList Tryz.prog ops Q rest (a.put o.dst v') w'):wpList Tryz.prog ops Q (o :: rest) a w:=by
 refine wpList_plain hgd fun K hK=>?_
 obtain⟨hT,i0,hi,hz0,hz1,hz2⟩:=hk.facts
 obtain⟨xs,hown,hall⟩:=hown
 obtain⟨v',w',hr,h2,h3,h4,h5⟩:=run_append_own_at (P:=Tryz.prog) w base t o.type e i0 (gyV 0 0 0 0) 4 32 hT hi hz0 hz1 hz2 rfl (by decide) v n _ hown ⟨b,0,none⟩ 2 2 [.int .i64 a1,.int .i64 a2,.int .i64 a3,.int .i64 a4,.int .i64 b1,.int .i64 b2,.int .i64 b3,.int .i64 b4] rfl (fun j u hj=>by
  have h9:w.cell? ⟨b,j,none⟩=some u:=by
   rw[cell_of_row w b j _ e _ hb]
   simpa using hj
  unfold Addr.add
  split
  ·rename_i e2;have e3:j=0:=by simpa using e2
   subst e3;exact h9
  ·simpa using h9) (by simp[Value.oneCell']) (by unfold maxLen;omega) (by omega) hbase
 unfold Oper.wp execOp
 simp only[ho,resolve,invoke,builtin,Sem.run_bind,Sem.run_pure,Result.andThen_ok,List.map_toArray,List.map_cons,List.map_nil,hs,hx,hr]
 refine hK _ _ (h v' w' ⟨_,h2,fun u hu=>?_⟩ h3)
 rcases List.mem_append.1 hu with h|h
 ·exact hall u h
 ·simp only[List.mem_cons,List.not_mem_nil,or_false] at h
  rcases h with rfl|rfl|rfl|rfl|rfl|rfl|rfl|rfl<;>exact⟨_,rfl⟩
theorem PFr.app2 {w wr w':World}{R F n1 n2 m:Nat}{gv pv v':Value}(h:PFr w wr R F gv pv n1 n2)(hR:R4 230 w.heap.size w' v' m)(hg:wr.grownBy w' pv.ownBlock):(∃nm s1 s2 s3 s4 s5 q r,w'.heap[F]?=some (ftO nm gv pv s1 s2 s3 s4 s5 q r))/\w'.heap[R]?=some ftZ/\R4 215 w.heap.size w' gv n1/\Below w.heap.size w w':=by
 have hl:=h.lt
 obtain⟨⟨nm,s1,s2,s3,s4,s5,q,r,h1⟩,h2,h3,h4,h5⟩:=h
 refine⟨⟨nm,s1,s2,s3,s4,s5,q,r,(hg.block F hl.1 (fun he=>h4.apart h1 (by decide) he.symm)).trans h1⟩,(hg.block R hl.2 (fun he=>h4.apart h2 (by decide) he.symm)).trans h2,h3.keep fun g hgp=>hg.block g (h3.lt hgp).2 (fun he=>?_),Below.grown h5 hg h5.size fun k hk=>(h4.lt hk).1⟩
 obtain⟨xs,ho,_⟩:=h3
 rcases ho.2 with ⟨rfl,_⟩ | ⟨g',cap,cur,rfl,_,hg',_⟩
 ·cases hgp
 ·simp[Value.ownBlock] at hgp
  subst hgp
  obtain⟨ys,ho3,_⟩:=h4
  rcases ho3.2 with ⟨rfl,_⟩ | ⟨g3,cap3,cur3,rfl,_,hg3,_⟩
  ·cases he
  ·simp[Value.ownBlock] at he
   subst he
   rw[hg'] at hg3
   simp at hg3
theorem PFr.put2 {w w':World}{R F n1 m:Nat}{gv pv v':Value}(h1:∃nm s1 s2 s3 s4 s5 q r,w'.heap[F]?=some (ftO nm gv pv s1 s2 s3 s4 s5 q r))(h2:w'.heap[R]?=some ftZ)(h3:R4 215 w.heap.size w' gv n1)(h4:R4 230 w.heap.size w' v' m)(h5:Below w.heap.size w w')(hF:w.heap.size<=F)(hRF:R≠F):PFr w (w'.setCell ⟨F,2,none⟩ v') R F gv v' n1 m:=by
 obtain⟨nm,s1,s2,s3,s4,s5,q,r,h1⟩:=h1
 exact⟨⟨nm,s1,s2,s3,s4,s5,q,r,heap_setCell_same w' F 2 _ 211 _ h1⟩,(Below.heap_setCell _ _ _ _ hRF).trans h2,
  h3.keep (fun g hg=>Below.heap_setCell _ _ _ _ (fun he=>h3.apart h1 (by decide) (by rw[hg,he]))),h4.keep (fun g hg=>Below.heap_setCell _ _ _ _ (fun he=>h4.apart h1 (by decide) (by rw[hg,he]))),h5.setCell (p:=⟨F,2,none⟩) hF _⟩
theorem R4.shape {e base n:Nat}{w:World}{v:Value}(h:R4 e base w v (n+1)):∃a c,v = .slice a (n+1) c:=by
 obtain⟨xs,h,_⟩:=h
 rcases h.2 with ⟨_,h0⟩ | ⟨g,cap,cur,rfl,_⟩
 ·omega
 ·exact⟨_,_,rfl⟩
theorem R4.shape0 {e base n:Nat}{w:World}{v:Value}(h:R4 e base w v n):∃a c,v = .slice a n c:=by
 obtain⟨xs,h,_⟩:=h
 rcases h.2 with ⟨rfl,rfl⟩ | ⟨g,cap,cur,rfl,_⟩
 ·exact⟨_,_,rfl⟩
 ·exact⟨_,_,rfl⟩
theorem ft_cell {w:World}{F:Nat}{gv pv:Value}(h:∃nm s1 s2 s3 s4 s5 q r,w.heap[F]?=some (ftO nm gv pv s1 s2 s3 s4 s5 q r)):w.cell? ⟨F,1,none⟩=some gv/\w.cell? ⟨F,2,none⟩=some pv/\(∀j,w.frozen? ⟨F,j,none⟩=false)/\F<w.heap.size:=by
 obtain⟨nm,s1,s2,s3,s4,s5,q,r,h1⟩:=h
 exact⟨by rw[cell_of_row w F 1 _ 211 _ h1];rfl,by rw[cell_of_row w F 2 _ 211 _ h1];rfl,fun j=>frozen_of_row w F j _ _ h1,(glt h1)⟩
end Go.Proofs.YtbbehmcekbnkiaaGreat

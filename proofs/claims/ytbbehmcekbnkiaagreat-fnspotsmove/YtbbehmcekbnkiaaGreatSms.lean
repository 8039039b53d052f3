import Derived.Test.YtbbehmcekbnkiaaGreatSpu
import Derived.Test.YtbbehmcekbnkiaaGreatBsl
import Derived.Test.YtbbehmcekbnkiaaGreatPlc
import Derived.Test.YtbbehmcekbnkiaaGreatCln
import Derived.Laws.Rows
import Derived.Laws.Tables
import Derived.Maps.AppendAt
import Derived.Test.YtbbehmcekbnkiaaGreatFng
import Derived.Test.YtbbehmcekbnkiaaGreatThb
namespace Go.Proofs.YtbbehmcekbnkiaaGreat
open Go.RowKit
set_option linter.unusedVariables false
set_option linter.unusedSimpArgs false
theorem heap_alloc_new2 (w:World) (a b:Obj):((w.alloc a).alloc b).heap[w.heap.size+1]? = some b:=by
 have h:=heap_alloc_new (w.alloc a) b
 rwa [show (w.alloc a).heap.size=w.heap.size+1 by simp] at h
def PenAt (w:World) (b:Nat) (p:Pn):Prop:=w.heap[b]? = some (.cells #[.bool p.dn, .int .i64 p.x, .int .i64 p.y, .int .i64 (p.e:Int)] 155 (0,0))
def PF (b:Nat) (w w':World):Prop:=w'.os=w.os∧w'.tape=w.tape∧w'.output=w.output∧w.heap.size≤w'.heap.size∧∀c,c<w.heap.size→c≠b→w'.heap[c]? = w.heap[c]?
theorem PF.refl (b:Nat) (w:World):PF b w w:=⟨rfl,rfl,rfl,Nat.le_refl _,fun _ _ _=>rfl⟩
theorem PF.below {b:Nat} {w a c:World} (h:PF b w a) (hb:Below a.heap.size a c):PF b w c :=
 ⟨hb.os.trans h.1,hb.tape.trans h.2.1,hb.output.trans h.2.2.1,Nat.le_trans h.2.2.2.1 hb.size,fun x hx hn=>(hb.block x (Nat.lt_of_lt_of_le hx h.2.2.2.1)).trans (h.2.2.2.2 x hx hn)⟩
theorem PF.set {b:Nat} {w a:World} (h:PF b w a) (o:Nat) (v:Value):PF b w (a.setCell ⟨b,o,none⟩ v) :=
 ⟨h.1,h.2.1,h.2.2.1,by rw[World.size_setCell];exact h.2.2.2.1,fun x hx hn=>(Below.heap_setCell _ _ _ _ hn).trans (h.2.2.2.2 x hx hn)⟩
theorem PF.drew {b:Nat} {w a:World} (h:PF b w a):PF b w a.drew:=h
theorem PF.trans {b:Nat} {w a c:World} (h:PF b w a) (g:PF b a c):PF b w c :=
 ⟨g.1.trans h.1,g.2.1.trans h.2.1,g.2.2.1.trans h.2.2.1,Nat.le_trans h.2.2.2.1 g.2.2.2.1,fun x hx hn=>(g.2.2.2.2 x (Nat.lt_of_lt_of_le hx h.2.2.2.1) hn).trans (h.2.2.2.2 x hx hn)⟩
theorem PF.row {b R:Nat} {w a:World} (h:PF b w a) (hR:w.heap.size≤R) (cs:Array Value):PF b w (a.setRow R cs):=by
 have hb:Below w.heap.size a (a.setRow R cs):=below_setRow (Below.refl _ _) hR cs
 exact⟨hb.os.trans h.1,hb.tape.trans h.2.1,hb.output.trans h.2.2.1,Nat.le_trans h.2.2.2.1 hb.size,fun c hc hn=>(hb.block c hc).trans (h.2.2.2.2 c hc hn)⟩
theorem PenAt.row {w a:World} {b R:Nat} {p:Pn} (h:PenAt a b p) (hb:b<w.heap.size) (hR:w.heap.size≤R) (cs:Array Value):PenAt (a.setRow R cs) b p :=
 ((below_setRow (B:=w.heap.size) (Below.refl _ a) hR cs).block b hb).trans h
theorem PenAt.lt {w:World} {b:Nat} {p:Pn} (h:PenAt w b p):b<w.heap.size:=(Array.getElem?_eq_some_iff.1 h).1
theorem PenAt.bel {w w':World} {b:Nat} {p:Pn} (h:PenAt w b p) (hb:Below w.heap.size w w'):PenAt w' b p:=(hb.block b h.lt).trans h
theorem PenAt.cells {w:World} {b:Nat} {p:Pn} (h:PenAt w b p):w.cell? ⟨b,0,none⟩=some (.bool p.dn)∧w.cell? ⟨b,1,none⟩=some (.int .i64 p.x)∧w.cell? ⟨b,2,none⟩=some (.int .i64 p.y)∧w.cell? ⟨b,3,none⟩=some (.int .i64 (p.e:Int))∧∀o,w.frozen? ⟨b,o,none⟩=false:=by
 refine⟨?_,?_,?_,?_,fun o=>?_⟩
 ·rw[cell_of_row w b 0 _ 155 _ h];rfl
 ·rw[cell_of_row w b 1 _ 155 _ h];rfl
 ·rw[cell_of_row w b 2 _ 155 _ h];rfl
 ·rw[cell_of_row w b 3 _ 155 _ h];rfl
 ·rw[World.frozen?,h];rfl
set_option maxRecDepth 20000 in
set_option maxHeartbeats 4000000 in
theorem move_any {w:World} {b:Nat} {p:Pn} (d:Int) (h:PenAt w b p) :
 Calls Tryz.prog 71 #[.pointer (some ⟨b,0,none⟩), .int .i64 d] w fun e w'=>(∃v,e = .returned v)∧PenAt w' b (mvP p d)∧PF b w w':=by
 obtain⟨c0,c1,c2,c3,fz⟩:=h.cells
 have hb:=h.lt
 have H:=hideP h
 obtain⟨dn,x,y,e⟩:=p
 simp only at c0 c1 c2 c3
 clear h
 cases dn with
 | false =>
  have HE:Hid (PenAt (w.setCell ⟨b,1,none⟩ (.int .i64 (wrap64 (x+d)))) b (mvP ⟨false,x,y,e⟩ d)):=hideP (heap_setCell_same w b 1 _ 155 _ H.out)
  go_enter Tryz.func71,Tryz.ntmps71
  go_wp2
  go_end0
  exact⟨⟨_,rfl⟩,HE.out,(PF.refl b w).set _ _⟩
 | true =>
  have HE:Hid (PenAt (w.setCell ⟨b,2,none⟩ (.int .i64 (wrap64 (y+d)))) b (mvP ⟨true,x,y,e⟩ d)):=hideP (heap_setCell_same w b 2 _ 155 _ H.out)
  go_enter Tryz.func71,Tryz.ntmps71
  go_wp2
  go_end0
  exact⟨⟨_,rfl⟩,HE.out,(PF.refl b w).set _ _⟩
set_option maxRecDepth 20000 in
set_option maxHeartbeats 4000000 in
theorem penIn_any (k wd ht dp sh kids X Y:Int) (e:Nat) (w:World) :
 Calls Tryz.prog 46 #[.agg #[.int .i64 k, .int .i64 wd, .int .i64 ht, .int .i64 dp, .int .i64 sh, .int .i64 kids], .int .i64 X, .int .i64 Y, .int .i64 (e:Int)] w fun r w'=>∃b,r = .returned (.pointer (some ⟨b,0,none⟩))∧w.heap.size≤b∧PenAt w' b (inP k ht X Y e)∧Below w.heap.size w w':=by
 by_cases h7:k=7
 ·subst h7
  go_enter Tryz.func46,Tryz.ntmps46
  go_wp2
  go_ret
  exact⟨w.heap.size+1,rfl,by omega,by have h:=heap_alloc_new2 w (.cells #[.int .i64 7, .int .i64 wd, .int .i64 ht, .int .i64 dp, .int .i64 sh, .int .i64 kids] 78) (.cells #[.bool true, .int .i64 X, .int .i64 (wrap64 (Y - ht)), .int .i64 (e:Int)] 155);exact h,below2 _ _ _⟩
 ·have h7b:(k == 7)=false:=by simp[h7]
  have HI:Hid (inP k ht X Y e=⟨false,X,Y,e⟩):=hideP (by unfold inP;rw[if_neg h7])
  go_enter Tryz.func46,Tryz.ntmps46
  go_wp2
  go_ret
  exact⟨w.heap.size+1,rfl,by omega,by rw[HI.out];have h:=heap_alloc_new2 w (.cells #[.int .i64 k, .int .i64 wd, .int .i64 ht, .int .i64 dp, .int .i64 sh, .int .i64 kids] 78) (.cells #[.bool false, .int .i64 X, .int .i64 Y, .int .i64 (e:Int)] 155);exact h,below2 _ _ _⟩
set_option maxRecDepth 20000 in
set_option maxHeartbeats 4000000 in
theorem put_any {w:World} {b:Nat} {p:Pn} (z:Nd) (sh:Int) (h:PenAt w b p) :
 Calls Tryz.prog 70 #[.pointer (some ⟨b,0,none⟩), .agg #[.int .i64 z.wd, .int .i64 z.ht, .int .i64 z.dp], .int .i64 sh] w fun e w'=>e = .returned (.tuple #[.int .i64 (atX p sh), .int .i64 (atY p sh z.ht)])∧PenAt w' b (byP p z)∧PF b w w':=by
 have MC:Hid (∀(d:Int) W,Below w.heap.size w W→Calls Tryz.prog 71 #[.pointer (some ⟨b,0,none⟩), .int .i64 d] W fun e w'=>(∃v,e = .returned v)∧PenAt w' b (mvP p d)∧PF b W w'):=hideP (fun d W hW=>move_any d (h.bel hW))
 obtain⟨wd,hwd⟩:∃v,v=z.wd:=⟨_,rfl⟩
 obtain⟨ht,hht⟩:∃v,v=z.ht:=⟨_,rfl⟩
 obtain⟨dp,hdp⟩:∃v,v=z.dp:=⟨_,rfl⟩
 have HB:Hid (byP p z=if p.dn then mvP p (w64 (ht+dp)) else mvP p wd):=hideP (by rw[hht,hdp,hwd];rfl)
 rw[← hwd,← hht,← hdp]
 clear hwd hht hdp
 have B1:=hideP (below1 w (.cells #[.int .i64 wd, .int .i64 ht, .int .i64 dp] 63))
 have h1:=h.bel B1.out
 obtain⟨c0,c1,c2,c3,fz⟩:=h1.cells
 have hb:=h1.lt
 have hq:=heap_alloc_new w (.cells #[.int .i64 wd, .int .i64 ht, .int .i64 dp] 63)
 have hbw:=h.lt
 have s0:(w.alloc (.cells #[.int .i64 wd, .int .i64 ht, .int .i64 dp] 63)).cell? ⟨w.heap.size,0,none⟩=some (.int .i64 wd):=by rw[cell_of_row _ _ 0 _ _ _ hq];rfl
 have s1:(w.alloc (.cells #[.int .i64 wd, .int .i64 ht, .int .i64 dp] 63)).cell? ⟨w.heap.size,1,none⟩=some (.int .i64 ht):=by rw[cell_of_row _ _ 1 _ _ _ hq];rfl
 have s2:(w.alloc (.cells #[.int .i64 wd, .int .i64 ht, .int .i64 dp] 63)).cell? ⟨w.heap.size,2,none⟩=some (.int .i64 dp):=by rw[cell_of_row _ _ 2 _ _ _ hq];rfl
 have HQ:=hideP hq
 obtain⟨dn,x,y,e⟩:=p
 simp only at c0 c1 c2 c3
 clear h h1 hq
 obtain⟨G,hG⟩:∃G,G=w.heap.size:=⟨_,rfl⟩
 rw[← hG] at s0 s1 s2 HQ
 go_enter Tryz.func70,Tryz.ntmps70
 go_upto_region 1 with fail
 rw[← hG]
 have HGS:Hid (G=w.heap.size):=hideP hG
 clear hG
 generalize World.alloc _ _=W1 at B1 c0 c1 c2 c3 fz hb s0 s1 s2 HQ ⊢
 have hGl:G<W1.heap.size:=World.block_lt_of_cell? W1 _ s0
 have HBG:Hid (b≠G):=hideP (by have:=HGS.out;omega)
 have BD:Hid (Below w.heap.size w W1.drew):=hideP (Below.drew B1.out)
 cases dn with
 | false =>
  have HBF:Hid (byP ⟨false,x,y,e⟩ z=mvP ⟨false,x,y,e⟩ wd):=hideP HB.out
  have HX:Hid (atX ⟨false,x,y,e⟩ sh=x∧atY ⟨false,x,y,e⟩ sh ht=wrap64 (y+sh)):=hideP ⟨rfl,rfl⟩
  go_wp2_with (go_region)
  refine (MC.out wd W1.drew BD.out).mono ?_
  rintro e w2 ⟨⟨vr,rfl⟩,hp2,hf2⟩
  have P2:=hideP hp2
  have F2:Hid (PF b w w2):=hideP ((((PF.refl b w).below B1.out).drew).trans hf2)
  clear hp2 hf2 c0 c1 c2 c3 fz s0 s1 s2
  go_wp2
  refine bodyPost_ret (v:= .tuple #[.int .i64 x, .int .i64 (wrap64 (y+sh))]) (by simp[results,Tryz.results70,go_sem]) rfl ⟨by rw[HX.out.1,HX.out.2],by rw[HBF.out];exact P2.out,F2.out⟩
 | true =>
  have HBF:Hid (byP ⟨true,x,y,e⟩ z=mvP ⟨true,x,y,e⟩ (wrap64 (ht+dp))):=hideP HB.out
  have HX:Hid (atX ⟨true,x,y,e⟩ sh=wrap64 (x+sh)∧atY ⟨true,x,y,e⟩ sh ht=wrap64 (y+ht)):=hideP ⟨rfl,rfl⟩
  go_wp2_with (go_region)
  refine (MC.out (wrap64 (ht+dp)) W1.drew BD.out).mono ?_
  rintro e w2 ⟨⟨vr,rfl⟩,hp2,hf2⟩
  have P2:=hideP hp2
  have F2:Hid (PF b w w2):=hideP ((((PF.refl b w).below B1.out).drew).trans hf2)
  have q2:w2.heap[G]? = some (.cells #[.int .i64 wd, .int .i64 ht, .int .i64 dp] 63 (0,0)):=(hf2.2.2.2.2 G hGl (fun e=>HBG.out e.symm)).trans HQ.out
  have t1:w2.cell? ⟨G,1,none⟩=some (.int .i64 ht):=by rw[cell_of_row _ _ 1 _ _ _ q2];rfl
  have hGl2:G<w2.heap.size:=World.block_lt_of_cell? w2 _ t1
  clear hp2 hf2 c0 c1 c2 c3 fz s0 s1 s2 q2
  go_wp2_with (go_region)
  refine bodyPost_ret (v:= .tuple #[.int .i64 (wrap64 (x+sh)), .int .i64 (wrap64 (y+ht))]) (by simp[results,Tryz.results70,go_sem]) rfl ⟨by rw[HX.out.1,HX.out.2],by rw[HBF.out];exact P2.out,F2.out⟩
abbrev sptV (s:Spt):Value:= .agg #[.int .i64 s.1, .int .i64 s.2.1, .int .i64 s.2.2.1, .int .i64 s.2.2.2.1, .int .i64 s.2.2.2.2.1, .int .i64 s.2.2.2.2.2]
def SeenR (p:Pn) (z:Nd) (e:Ending):Prop:=∃(s:Spt) (b:Bool),e = .returned (.tuple #[sptV s, .bool b])∧seenP p z=(if b=true then some s else none)
set_option maxRecDepth 20000 in
set_option maxHeartbeats 4000000 in
theorem spotL_any {w:World} {b:Nat} {p:Pn} (z:Nd) (hk:z.k=1) (h:PenAt w b p) :
 Calls Tryz.prog 172 #[.agg #[.int .i64 z.fo, .int .i64 z.ch, .int .i64 z.wd, .int .i64 z.ht, .int .i64 z.dp], .pointer (some ⟨b,0,none⟩)] w fun e w'=>SeenR p z e∧PenAt w' b (if p.dn=true then p else byP p z)∧PF b w w':=by
 have PC:Hid (∀W,Below w.heap.size w W→Calls Tryz.prog 70 #[.pointer (some ⟨b,0,none⟩), .agg #[.int .i64 z.wd, .int .i64 z.ht, .int .i64 z.dp], .int .i64 0] W fun e w'=>e = .returned (.tuple #[.int .i64 (atX p 0), .int .i64 (atY p 0 z.ht)])∧PenAt w' b (byP p z)∧PF b W w'):=hideP (fun W hW=>put_any z 0 (h.bel hW))
 have HSN:Hid (p.dn=false→seenP p z=some (atX p 0,atY p 0 z.ht,z.fo,z.ch,z.wd,z.ht)):=hideP (fun hd=>by unfold seenP;rw[if_pos hk,hd];rfl)
 have HSD:Hid (p.dn=true→seenP p z=none):=hideP (fun hd=>by unfold seenP;rw[if_pos hk,hd];rfl)
 have HPD:Hid (∀W,Below w.heap.size w W→W.cell? ⟨b,0,none⟩=some (.bool p.dn)∧b<W.heap.size):=hideP (fun W hW=>⟨(h.bel hW).cells.1,(h.bel hW).lt⟩)
 have HP:=hideP h
 obtain⟨dn,hdn⟩:∃d,d=p.dn:=⟨_,rfl⟩
 rw[← hdn] at HSN HSD HPD
 rw[← hdn]
 obtain⟨wd,hwd⟩:∃v,v=z.wd:=⟨_,rfl⟩
 obtain⟨ht,hht⟩:∃v,v=z.ht:=⟨_,rfl⟩
 obtain⟨dp,hdp⟩:∃v,v=z.dp:=⟨_,rfl⟩
 obtain⟨fo,hfo⟩:∃v,v=z.fo:=⟨_,rfl⟩
 obtain⟨ch,hch⟩:∃v,v=z.ch:=⟨_,rfl⟩
 rw[← hwd,← hht,← hdp] at PC
 rw[← hwd,← hht,← hfo,← hch] at HSN
 rw[← hwd,← hht,← hdp,← hfo,← hch]
 obtain⟨X,hX⟩:∃v,v=atX p 0:=⟨_,rfl⟩
 obtain⟨Y,hY⟩:∃v,v=atY p 0 ht:=⟨_,rfl⟩
 rw[← hX,← hY] at PC HSN
 have hbl:=h.lt
 clear hk h hdn hwd hht hdp hfo hch hX hY
 go_enter Tryz.func172,Tryz.ntmps172
 go_upto_region 1 with fail
 have hq0:=heap_alloc_new2 w (.cells #[.int .i64 fo, .int .i64 ch, .int .i64 wd, .int .i64 ht, .int .i64 dp] 132) (.cells #[.int .i64 0, .int .i64 0, .int .i64 0, .int .i64 0, .int .i64 0, .int .i64 0] 47)
 have hq1:((w.alloc (.cells #[.int .i64 fo, .int .i64 ch, .int .i64 wd, .int .i64 ht, .int .i64 dp] 132)).alloc (.cells #[.int .i64 0, .int .i64 0, .int .i64 0, .int .i64 0, .int .i64 0, .int .i64 0] 47)).heap[w.heap.size]? = some (.cells #[.int .i64 fo, .int .i64 ch, .int .i64 wd, .int .i64 ht, .int .i64 dp] 132 (0,0)):=(Below.heap_alloc _ _ _ (by simp)).trans (heap_alloc_new w _)
 have B1:=hideP (below2 w (.cells #[.int .i64 fo, .int .i64 ch, .int .i64 wd, .int .i64 ht, .int .i64 dp] 132) (.cells #[.int .i64 0, .int .i64 0, .int .i64 0, .int .i64 0, .int .i64 0, .int .i64 0] 47))
 obtain⟨G,hG⟩:∃G,G=w.heap.size:=⟨_,rfl⟩
 obtain⟨R,hR⟩:∃R,R=w.heap.size+1:=⟨_,rfl⟩
 rw[← hG] at hq1
 rw[← hR] at hq0
 rw[← hR,← hG]
 have HN:Hid (b≠G∧b≠R∧G≠R∧w.heap.size≤R):=hideP (by omega)
 clear hG hR
 generalize (World.alloc (World.alloc _ _) _)=W1 at B1 hq0 hq1 ⊢
 obtain⟨c0,hb1⟩:=HPD.out W1 B1.out
 have hRl:R<W1.heap.size:=(Array.getElem?_eq_some_iff.1 hq0).1
 have fR:∀o,W1.frozen? ⟨R,o,none⟩=false:=fun o=>by rw[World.frozen?,hq0];rfl
 have P1:=hideP (HP.out.bel B1.out)
 have HQ0:=hideP hq0
 have HQ1:=hideP hq1
 cases dn with
 | true =>
  have HSN2:Hid (seenP p z=none):=hideP (HSD.out rfl)
  clear hq0 hq1 fR
  go_wp2_with (refine wpList_store_row rfl 47 _ _ rfl R rfl _ #[.int .i64 0, .int .i64 0, .int .i64 0, .int .i64 0, .int .i64 0, .int .i64 0] rfl 47 HQ0.out (by kernel_rfl) rfl (by kernel_rfl) ?_)
  refine bodyPost_ret (v:= .tuple #[sptV (0,0,0,0,0,0), .bool false]) (results_cell_tmp rfl _ _ R _ _ rfl rfl (run_loadVar_row _ _ 47 47 _ (0,0) _ (setRow_heap _ _ _ _ _ _ HQ0.out) Tryz.underlying47 rfl (by kernel_rfl))) rfl ⟨⟨_,false,rfl,by rw[HSN2.out];rfl⟩,?_,?_⟩
  ·exact P1.out.row hbl HN.out.2.2.2 _
  ·exact ((PF.refl b w).below B1.out).row HN.out.2.2.2 _
 | false =>
  have HSN2:=hideP (HSN.out rfl)
  have s2:W1.cell? ⟨G,2,none⟩=some (.int .i64 wd):=by rw[cell_of_row _ _ 2 _ _ _ hq1];rfl
  have s3:W1.cell? ⟨G,3,none⟩=some (.int .i64 ht):=by rw[cell_of_row _ _ 3 _ _ _ hq1];rfl
  have s4:W1.cell? ⟨G,4,none⟩=some (.int .i64 dp):=by rw[cell_of_row _ _ 4 _ _ _ hq1];rfl
  have hG1:G<W1.heap.size:=(Array.getElem?_eq_some_iff.1 hq1).1
  clear hq0 hq1 fR
  go_wp2_with fail
  refine (PC.out W1 B1.out).mono ?_
  rintro e w2 ⟨rfl,hp2,hf2⟩
  have P2:=hideP hp2
  have F2:Hid (PF b w w2):=hideP (((PF.refl b w).below B1.out).trans hf2)
  have g2:w2.heap[G]? = _:=(hf2.2.2.2.2 G (Array.getElem?_eq_some_iff.1 HQ1.out).1 (fun e=>HN.out.1 e.symm)).trans HQ1.out
  have r2:w2.heap[R]? = _:=(hf2.2.2.2.2 R hRl (fun e=>HN.out.2.1 e.symm)).trans HQ0.out
  have l0:w2.cell? ⟨G,0,none⟩=some (.int .i64 fo):=by rw[cell_of_row _ _ 0 _ _ _ g2];rfl
  have l1:w2.cell? ⟨G,1,none⟩=some (.int .i64 ch):=by rw[cell_of_row _ _ 1 _ _ _ g2];rfl
  have l2:w2.cell? ⟨G,2,none⟩=some (.int .i64 wd):=by rw[cell_of_row _ _ 2 _ _ _ g2];rfl
  have l3:w2.cell? ⟨G,3,none⟩=some (.int .i64 ht):=by rw[cell_of_row _ _ 3 _ _ _ g2];rfl
  have l4:w2.cell? ⟨G,4,none⟩=some (.int .i64 dp):=by rw[cell_of_row _ _ 4 _ _ _ g2];rfl
  have hG2:G<w2.heap.size:=(Array.getElem?_eq_some_iff.1 g2).1
  have R2:=hideP r2
  clear hp2 hf2 g2 r2 c0 s2 s3 s4 hG1
  go_wp2_with (refine wpList_store_row rfl 47 _ _ rfl R rfl _ #[.int .i64 X, .int .i64 Y, .int .i64 fo, .int .i64 ch, .int .i64 wd, .int .i64 ht] rfl 47 R2.out (by kernel_rfl) rfl (by kernel_rfl) ?_)
  refine bodyPost_ret (v:= .tuple #[sptV (X,Y,fo,ch,wd,ht), .bool true]) (results_cell_tmp rfl _ _ R _ _ rfl rfl (run_loadVar_row _ _ 47 47 _ (0,0) _ (setRow_heap _ _ _ _ _ _ R2.out) Tryz.underlying47 rfl (by kernel_rfl))) rfl ⟨⟨_,true,rfl,by rw[HSN2.out];rfl⟩,?_,?_⟩
  ·exact P2.out.row hbl HN.out.2.2.2 _
  ·exact F2.out.row HN.out.2.2.2 _
set_option maxRecDepth 20000 in
set_option maxHeartbeats 4000000 in
theorem spotR_any {w:World} {b:Nat} {p:Pn} (z:Nd) (hk:z.k≠1) (h:PenAt w b p) :
 Calls Tryz.prog 174 #[.agg #[.int .i64 z.wd, .int .i64 z.ht, .int .i64 z.dp], .pointer (some ⟨b,0,none⟩)] w fun e w'=>SeenR p z e∧PenAt w' b (byP p z)∧PF b w w':=by
 have PC:Hid (∀W,Below w.heap.size w W→Calls Tryz.prog 70 #[.pointer (some ⟨b,0,none⟩), .agg #[.int .i64 z.wd, .int .i64 z.ht, .int .i64 z.dp], .int .i64 0] W fun e w'=>e = .returned (.tuple #[.int .i64 (atX p 0), .int .i64 (atY p 0 z.ht)])∧PenAt w' b (byP p z)∧PF b W w'):=hideP (fun W hW=>put_any z 0 (h.bel hW))
 have HSN:Hid (seenP p z=if 0<z.wd∧0<wrap64 (z.ht+z.dp) then some (atX p 0,wrap64 (atY p 0 z.ht+z.dp),0,-1,z.wd,wrap64 (z.ht+z.dp)) else none):=hideP (by unfold seenP;rw[if_neg hk])
 have HP:=hideP h
 obtain⟨wd,hwd⟩:∃v,v=z.wd:=⟨_,rfl⟩
 obtain⟨ht,hht⟩:∃v,v=z.ht:=⟨_,rfl⟩
 obtain⟨dp,hdp⟩:∃v,v=z.dp:=⟨_,rfl⟩
 rw[← hwd,← hht,← hdp] at PC HSN
 rw[← hwd,← hht,← hdp]
 obtain⟨X,hX⟩:∃v,v=atX p 0:=⟨_,rfl⟩
 obtain⟨Y,hY⟩:∃v,v=atY p 0 ht:=⟨_,rfl⟩
 rw[← hX,← hY] at PC HSN
 obtain⟨H,hH⟩:∃v,v=wrap64 (ht+dp):=⟨_,rfl⟩
 rw[← hH] at HSN
 have hH2:=hH.symm
 have hbl:=h.lt
 clear hk h hwd hht hdp hX hY hH
 go_enter Tryz.func174,Tryz.ntmps174
 go_upto_region 1 with fail
 have hq0:=heap_alloc_new2 w (.cells #[.int .i64 wd, .int .i64 ht, .int .i64 dp] 135) (.cells #[.int .i64 0, .int .i64 0, .int .i64 0, .int .i64 0, .int .i64 0, .int .i64 0] 47)
 have hq1:((w.alloc (.cells #[.int .i64 wd, .int .i64 ht, .int .i64 dp] 135)).alloc (.cells #[.int .i64 0, .int .i64 0, .int .i64 0, .int .i64 0, .int .i64 0, .int .i64 0] 47)).heap[w.heap.size]? = some (.cells #[.int .i64 wd, .int .i64 ht, .int .i64 dp] 135 (0,0)):=(Below.heap_alloc _ _ _ (by simp)).trans (heap_alloc_new w _)
 have B1:=hideP (below2 w (.cells #[.int .i64 wd, .int .i64 ht, .int .i64 dp] 135) (.cells #[.int .i64 0, .int .i64 0, .int .i64 0, .int .i64 0, .int .i64 0, .int .i64 0] 47))
 obtain⟨G,hG⟩:∃G,G=w.heap.size:=⟨_,rfl⟩
 obtain⟨R,hR⟩:∃R,R=w.heap.size+1:=⟨_,rfl⟩
 rw[← hG] at hq1
 rw[← hR] at hq0
 rw[← hR,← hG]
 have HN:Hid (b≠G∧b≠R∧G≠R∧w.heap.size≤R):=hideP (by omega)
 clear hG hR
 generalize (World.alloc (World.alloc _ _) _)=W1 at B1 hq0 hq1 ⊢
 have hRl:R<W1.heap.size:=(Array.getElem?_eq_some_iff.1 hq0).1
 have s0:W1.cell? ⟨G,0,none⟩=some (.int .i64 wd):=by rw[cell_of_row _ _ 0 _ _ _ hq1];rfl
 have s1:W1.cell? ⟨G,1,none⟩=some (.int .i64 ht):=by rw[cell_of_row _ _ 1 _ _ _ hq1];rfl
 have s2:W1.cell? ⟨G,2,none⟩=some (.int .i64 dp):=by rw[cell_of_row _ _ 2 _ _ _ hq1];rfl
 have hG1:G<W1.heap.size:=(Array.getElem?_eq_some_iff.1 hq1).1
 have HQ0:=hideP hq0
 have HQ1:=hideP hq1
 clear hq0 hq1
 go_wp2_with fail
 refine (PC.out W1 B1.out).mono ?_
 rintro e w2 ⟨rfl,hp2,hf2⟩
 have P2:=hideP hp2
 have F2:Hid (PF b w w2):=hideP (((PF.refl b w).below B1.out).trans hf2)
 have g2:w2.heap[G]? = _:=(hf2.2.2.2.2 G (Array.getElem?_eq_some_iff.1 HQ1.out).1 (fun e=>HN.out.1 e.symm)).trans HQ1.out
 have r2:w2.heap[R]? = _:=(hf2.2.2.2.2 R hRl (fun e=>HN.out.2.1 e.symm)).trans HQ0.out
 have l0:w2.cell? ⟨G,0,none⟩=some (.int .i64 wd):=by rw[cell_of_row _ _ 0 _ _ _ g2];rfl
 have l1:w2.cell? ⟨G,1,none⟩=some (.int .i64 ht):=by rw[cell_of_row _ _ 1 _ _ _ g2];rfl
 have l2:w2.cell? ⟨G,2,none⟩=some (.int .i64 dp):=by rw[cell_of_row _ _ 2 _ _ _ g2];rfl
 have hG2:G<w2.heap.size:=(Array.getElem?_eq_some_iff.1 g2).1
 have R2:=hideP r2
 clear hp2 hf2 g2 r2 s0 s1 s2 hG1
 by_cases h1:0<wd
 ·have h1d:decide (wd > 0)=true:=decide_eq_true h1
  by_cases h2:0<H
  ·have h2d:decide (H > 0)=true:=decide_eq_true h2
   have HSN2:=hideP (HSN.out.trans (if_pos ⟨h1,h2⟩))
   go_wp2_with (refine wpList_store_row rfl 47 _ _ rfl R rfl _ #[.int .i64 X, .int .i64 (wrap64 (Y+dp)), .int .i64 0, .int .i64 (-1), .int .i64 wd, .int .i64 H] rfl 47 R2.out (by kernel_rfl) rfl (by kernel_rfl) ?_)
   refine bodyPost_ret (v:= .tuple #[sptV (X,wrap64 (Y+dp),0,-1,wd,H), .bool true]) (results_cell_tmp rfl _ _ R _ _ rfl rfl (run_loadVar_row _ _ 47 47 _ (0,0) _ (setRow_heap _ _ _ _ _ _ R2.out) Tryz.underlying47 rfl (by kernel_rfl))) rfl ⟨⟨_,true,rfl,by rw[HSN2.out];rfl⟩,?_,?_⟩
   ·exact P2.out.row hbl HN.out.2.2.2 _
   ·exact F2.out.row HN.out.2.2.2 _
  ·have h2d:decide (H > 0)=false:=decide_eq_false h2
   have HSN2:=hideP (HSN.out.trans (if_neg (fun g=>h2 g.2)))
   go_wp2_with (refine wpList_store_row rfl 47 _ _ rfl R rfl _ #[.int .i64 X, .int .i64 (wrap64 (Y+dp)), .int .i64 0, .int .i64 (-1), .int .i64 wd, .int .i64 H] rfl 47 R2.out (by kernel_rfl) rfl (by kernel_rfl) ?_)
   refine bodyPost_ret (v:= .tuple #[sptV (X,wrap64 (Y+dp),0,-1,wd,H), .bool false]) (results_cell_tmp rfl _ _ R _ _ rfl rfl (run_loadVar_row _ _ 47 47 _ (0,0) _ (setRow_heap _ _ _ _ _ _ R2.out) Tryz.underlying47 rfl (by kernel_rfl))) rfl ⟨⟨_,false,rfl,by rw[HSN2.out];rfl⟩,?_,?_⟩
   ·exact P2.out.row hbl HN.out.2.2.2 _
   ·exact F2.out.row HN.out.2.2.2 _
 ·have h1d:decide (wd > 0)=false:=decide_eq_false h1
  have HSN2:=hideP (HSN.out.trans (if_neg (fun g=>h1 g.1)))
  go_wp2_with (refine wpList_store_row rfl 47 _ _ rfl R rfl _ #[.int .i64 X, .int .i64 (wrap64 (Y+dp)), .int .i64 0, .int .i64 (-1), .int .i64 wd, .int .i64 H] rfl 47 R2.out (by kernel_rfl) rfl (by kernel_rfl) ?_)
  refine bodyPost_ret (v:= .tuple #[sptV (X,wrap64 (Y+dp),0,-1,wd,H), .bool false]) (results_cell_tmp rfl _ _ R _ _ rfl rfl (run_loadVar_row _ _ 47 47 _ (0,0) _ (setRow_heap _ _ _ _ _ _ R2.out) Tryz.underlying47 rfl (by kernel_rfl))) rfl ⟨⟨_,false,rfl,by rw[HSN2.out];rfl⟩,?_,?_⟩
  ·exact P2.out.row hbl HN.out.2.2.2 _
  ·exact F2.out.row HN.out.2.2.2 _
def spC (s:Spt):List Value:=[.int .i64 s.1, .int .i64 s.2.1, .int .i64 s.2.2.1, .int .i64 s.2.2.2.1, .int .i64 s.2.2.2.2.1, .int .i64 s.2.2.2.2.2]
def flatS (l:List Spt):List Value:=l.flatMap spC
abbrev spA (s:Spt):Array Value:=#[.int .i64 s.1, .int .i64 s.2.1, .int .i64 s.2.2.1, .int .i64 s.2.2.2.1, .int .i64 s.2.2.2.2.1, .int .i64 s.2.2.2.2.2]
theorem Tryz.info47d:(Tryz.prog.info? 47).map (fun i=>(i.zero,i.size,i.bytes))=some (some (.agg #[.int .i64 0, .int .i64 0, .int .i64 0, .int .i64 0, .int .i64 0, .int .i64 0]),6,48):=by kernel_rfl
theorem Tryz.info97d:(Tryz.prog.info? 97).map (fun i=>(i.zero,i.size,i.bytes))=some (some (.pointer none),1,8):=by kernel_rfl
theorem flatS_app (xs:List Spt) (s:Spt):flatS (xs ++ [s])=flatS xs ++ spC s:=by simp[flatS]
theorem wp_appP {w:World} {o:Oper} {a:Act} {K:Act→World→Prop} {Q:Exit→Act→World→Prop} (s x:Operand) (ho:o.op = .call { callee:= .builtin .append,args:=#[s,x],argTypes:=#[44,44] })
 (base:Nat) (v:Value) (n:Nat) (cs:List Spt) (hs:a.eval s=v) (hown:w.ownsRow base 47 6 v n (flatS cs)) (b:Nat) (sp:Spt) (hx:a.eval x = .slice (some ⟨b,0,none⟩) 1 1) (hb:w.heap[b]? = some (.cells (spA sp) 47 (0,0))) (hn:n≤100000) (hbase:base≤w.heap.size)
 (h:∀v' w',w'.ownsRow base 47 6 v' (n+1) (flatS (cs ++ [sp]))→w.grownBy w' v.ownBlock→(v'.ownBlock=v.ownBlock∨v'.ownBlock=some w.heap.size)→K (a.put o.dst v') w'):o.wp Tryz.prog a w K Q:=by
 obtain⟨i0,hi,hz0,hz1,hz2⟩:=info_parts Tryz.info47d
 obtain⟨v',w',hr,h2,h3,h4,h5⟩:=run_append_own_at (P:=Tryz.prog) w base 44 o.type 47 i0 (.agg #[.int .i64 0, .int .i64 0, .int .i64 0, .int .i64 0, .int .i64 0, .int .i64 0]) 6 48 Tryz.underlying44 hi hz0 hz1 hz2 rfl (by decide) v n _ hown ⟨b,0,none⟩ 1 1 (spC sp) rfl (fun j u hj=>by
  have h9:w.cell? ⟨b,j,none⟩=some u:=by
   rw[cell_of_row w b j _ 47 _ hb]
   simpa [spC] using hj
  unfold Addr.add
  split
  ·rename_i e2;have e3:j=0:=by simpa using e2
   subst e3;exact h9
  ·simpa using h9) (by simp[spC,Value.oneCell']) (by unfold maxLen;omega) (by omega) hbase
 unfold Oper.wp execOp
 simp only[ho,resolve,invoke,builtin,Sem.run_bind,Sem.run_pure,Result.andThen_ok,List.map_toArray,List.map_cons,List.map_nil,hs,hx,hr]
 refine h v' w' ?_ h3 h5
 rw[flatS_app]
 exact h2
theorem wpList_appP {w:World} {ops:Array Oper} {rest:List Oper} {o:Oper} {a:Act} {Q:Exit→Act→World→Prop} (hgd:o.guard=none) (s x:Operand) (ho:o.op = .call { callee:= .builtin .append,args:=#[s,x],argTypes:=#[44,44] })
 (base:Nat) (v:Value) (n:Nat) (cs:List Spt) (hs:a.eval s=v) (hown:w.ownsRow base 47 6 v n (flatS cs)) (b:Nat) (sp:Spt) (hx:a.eval x = .slice (some ⟨b,0,none⟩) 1 1) (hb:w.heap[b]? = some (.cells (spA sp) 47 (0,0))) (hn:n≤100000) (hbase:base≤w.heap.size)
 (h:∀v' w',w'.ownsRow base 47 6 v' (n+1) (flatS (cs ++ [sp]))→w.grownBy w' v.ownBlock→(v'.ownBlock=v.ownBlock∨v'.ownBlock=some w.heap.size)→wpList Tryz.prog ops Q rest (a.put o.dst v') w'):wpList Tryz.prog ops Q (o :: rest) a w :=
 wpList_plain hgd fun _ hK=>wp_appP s x ho base v n cs hs hown b sp hx hb hn hbase fun v' w' h2 h3 h4=>hK _ _ (h v' w' h2 h3 h4)
theorem wp_appB {w:World} {o:Oper} {a:Act} {K:Act→World→Prop} {Q:Exit→Act→World→Prop} (s x:Operand) (ho:o.op = .call { callee:= .builtin .append,args:=#[s,x],argTypes:=#[153,153] })
 (base:Nat) (v:Value) (n:Nat) (L:List Value) (hs:a.eval s=v) (hown:w.ownsRow base 97 1 v n L) (b c:Nat) (hx:a.eval x = .slice (some ⟨b,0,none⟩) 1 1) (hb:w.heap[b]? = some (.cells #[.pointer (some ⟨c,0,none⟩)] 97 (0,0))) (hn:n≤100000) (hbase:base≤w.heap.size)
 (h:∀v' w',w'.ownsRow base 97 1 v' (n+1) (L ++ [.pointer (some ⟨c,0,none⟩)])→w.grownBy w' v.ownBlock→(v'.ownBlock=v.ownBlock∨v'.ownBlock=some w.heap.size)→K (a.put o.dst v') w'):o.wp Tryz.prog a w K Q:=by
 obtain⟨i0,hi,hz0,hz1,hz2⟩:=info_parts Tryz.info97d
 obtain⟨v',w',hr,h2,h3,h4,h5⟩:=run_append_own_at (P:=Tryz.prog) w base 153 o.type 97 i0 (.pointer none) 1 8 Tryz.underlying153 hi hz0 hz1 hz2 rfl (by decide) v n _ hown ⟨b,0,none⟩ 1 1 [.pointer (some ⟨c,0,none⟩)] rfl (fun j u hj=>by
  have h9:w.cell? ⟨b,j,none⟩=some u:=by
   rw[cell_of_row w b j _ 97 _ hb]
   simpa using hj
  unfold Addr.add
  split
  ·rename_i e2;have e3:j=0:=by simpa using e2
   subst e3;exact h9
  ·simpa using h9) (by simp[Value.oneCell']) (by unfold maxLen;omega) (by omega) hbase
 unfold Oper.wp execOp
 simp only[ho,resolve,invoke,builtin,Sem.run_bind,Sem.run_pure,Result.andThen_ok,List.map_toArray,List.map_cons,List.map_nil,hs,hx,hr]
 exact h v' w' h2 h3 h5
theorem wpList_appB {w:World} {ops:Array Oper} {rest:List Oper} {o:Oper} {a:Act} {Q:Exit→Act→World→Prop} (hgd:o.guard=none) (s x:Operand) (ho:o.op = .call { callee:= .builtin .append,args:=#[s,x],argTypes:=#[153,153] })
 (base:Nat) (v:Value) (n:Nat) (L:List Value) (hs:a.eval s=v) (hown:w.ownsRow base 97 1 v n L) (b c:Nat) (hx:a.eval x = .slice (some ⟨b,0,none⟩) 1 1) (hb:w.heap[b]? = some (.cells #[.pointer (some ⟨c,0,none⟩)] 97 (0,0))) (hn:n≤100000) (hbase:base≤w.heap.size)
 (h:∀v' w',w'.ownsRow base 97 1 v' (n+1) (L ++ [.pointer (some ⟨c,0,none⟩)])→w.grownBy w' v.ownBlock→(v'.ownBlock=v.ownBlock∨v'.ownBlock=some w.heap.size)→wpList Tryz.prog ops Q rest (a.put o.dst v') w'):wpList Tryz.prog ops Q (o :: rest) a w :=
 wpList_plain hgd fun _ hK=>wp_appB s x ho base v n L hs hown b c hx hb hn hbase fun v' w' h2 h3 h4=>hK _ _ (h v' w' h2 h3 h4)
theorem run_bsP (W:World) (s:Spt):(Instr.buildSlice 44 1 #[(0, .agg (spA s))]).run Tryz.prog W = .ok (.slice (some ⟨W.heap.size,0,none⟩) 1 1) (W.alloc (.cells (spA s) 47)):=by
 obtain⟨a,b,c,d,e,f⟩:=s
 kernel_rfl
theorem wpList_mv {P:Program} {w:World} {ops:Array Oper} {rest:List Oper} {o:Oper} {a:Act} {Q:Exit→Act→World→Prop} (hgd:o.guard=none) (x:Operand) (ho:o.op = .move x) {v:Value} (hx:a.eval x=v)
 (h:wpList P ops Q rest (a.put o.dst v) w):wpList P ops Q (o :: rest) a w:=by
 refine wpList_plain hgd fun K hK=>?_
 unfold Oper.wp
 simp[execOp,ho,hx,Result.andThen]
 exact hK _ _ h
theorem wpList_ldr {P:Program} {w:World} {ops:Array Oper} {rest:List Oper} {o:Oper} {a:Act} {Q:Exit→Act→World→Prop} (hgd:o.guard=none) (t:TypeId) (p:Operand) (ho:o.op=Op.load t p) (g:Nat) (hp:a.eval p = .pointer (some ⟨g,0,none⟩))
 (cs:Array Value) (ty:TypeId) (fr:Nat×Nat) (hg:w.heap[g]? = some (.cells cs ty fr)) (d:TypeDesc) (hu:P.underlying t=some d) (hd:(match d with | .struct _ | .array _ _=>true | _=>false)=true) (hi:(P.info? t).map (·.size)=some cs.size)
 (h:wpList P ops Q rest (a.put o.dst (.agg cs)) w):wpList P ops Q (o :: rest) a w:=by
 refine wpList_plain hgd fun K hK=>?_
 have hr:=run_loadVar_row (P:=P) w g ty t cs fr d hg hu hd hi
 unfold Oper.wp execOp
 simp only[ho,hp,Instr.loadAt,Instr.sureAddr,Sem.run_bind,Sem.run_pure,Result.andThen_ok,hr]
 exact hK _ _ h
theorem size47:(Tryz.prog.info? 47).map (·.size)=some 6:=by kernel_rfl
abbrev zsp:Spt:=(0,0,0,0,0,0)
theorem flatS_get:∀(l:List Spt) (i:Nat),i<l.length→∀j,j<6→(flatS l)[i*6+j]? = (spC (l.getD i zsp))[j]?
 | [],i,h,_,_=>by simp at h
 | s :: l,0,h,j,hj=>by
  rw[show flatS (s :: l)=spC s ++ flatS l from rfl,Nat.zero_mul,Nat.zero_add,List.getElem?_append_left (by show j<6;exact hj)]
  rfl
 | s :: l,i+1,h,j,hj=>by
  simp only[List.length_cons] at h
  rw[show flatS (s :: l)=spC s ++ flatS l from rfl,List.getElem?_append_right (by show 6≤_;omega),show (i+1)*6+j - (spC s).length=i*6+j by show (i+1)*6+j - 6=_;omega,List.getD_cons_succ]
  exact flatS_get l i (by omega) j hj
theorem flatS_set:∀(l:List Spt) (i:Nat),i<l.length→∀(a b:Int),((flatS l).set (i*6) (.int .i64 a)).set (i*6+1) (.int .i64 b)=flatS (l.set i (a,b,(l.getD i zsp).2.2))
 | [],i,h,_,_=>by simp at h
 | s :: l,0,h,a,b=>by simp[flatS,spC]
 | s :: l,i+1,h,a,b=>by
  simp only[List.length_cons] at h
  rw[show flatS (s :: l)=spC s ++ flatS l from rfl,List.set_append_right _ _ (by show 6≤_;omega),List.set_append_right _ _ (by show 6≤_;omega)]
  have h1:=flatS_set l i (by omega) a b
  rw[show (i+1)*6 - (spC s).length=i*6 by show (i+1)*6 - 6=_;omega,show (i+1)*6+1 - (spC s).length=i*6+1 by show (i+1)*6+1 - 6=_;omega,h1]
  rfl
def SpRow (w:World) (v:Value) (l:List Spt):Prop:=∃ao cap,v = .slice ao l.length cap∧l.length≤9223372036854775807∧(0<l.length→∃b off,ao=some ⟨b,off,none⟩∧b<w.heap.size∧∀i,i<l.length→∀j,j<6→w.cell? ⟨b,off+i*6+j,none⟩=(spC (l.getD i zsp))[j]?)
theorem own_sp {w:World} {base n:Nat} {v:Value} {l:List Spt} (h:w.ownsRow base 47 6 v n (flatS l)) (hn:l.length=n):SpRow w v l:=by
 obtain⟨hl,⟨rfl,rfl⟩ | ⟨g,cap,cur,rfl,hg,hb,hc,hm,hs,ht⟩⟩:=h
 ·exact⟨none,0,by rw[hn],by omega,fun h=>by omega⟩
 ·refine⟨_,cap,by rw[hn],by unfold maxLen at hm;omega,fun h=>⟨g,0,rfl,(Array.getElem?_eq_some_iff.1 hb).1,fun i hi j hj=>?_⟩⟩
  have h1:=World.ownsRow.cellAt (w:=w) (base:=base) (e:=47) (size:=6) (g:=g) (n:=n) (cap:=cap) (xs:=flatS l) ⟨hl, .inr ⟨g,cap,cur,rfl,hg,hb,hc,hm,hs,ht⟩⟩ (i*6+j) (by omega)
  rw[Nat.zero_add,h1]
  exact flatS_get l i hi j hj
theorem spot_same (a b c d e f:Int) (w:World):(binOp .neq 47 (.agg #[.int .i64 a, .int .i64 b, .int .i64 c, .int .i64 d, .int .i64 e, .int .i64 f]) (.agg #[.int .i64 a, .int .i64 b, .int .i64 c, .int .i64 d, .int .i64 e, .int .i64 f])).run Tryz.prog w = .ok (.bool false) w:=by
 have u2:=Tryz.underlying2
 have hS:Tryz.prog.underlying 47=some (.struct (Tryz.prog.fieldsOf 47)):=by kernel_rfl
 have hp:Tryz.prog.stoodInHeld 47=false:=by kernel_rfl
 rw[run_neq_struct,show (10000:Nat)=9999+1 from rfl,run_equalIn_agg w 9999 47 _ _ hS hp]
 simp only[Program.fieldsOf,Tryz.underlying47]
 go_simp
set_option maxRecDepth 20000 in
set_option maxHeartbeats 8000000 in
theorem sameSpots_any {v1 v2:Value} {l:List Spt} {w:World} (h1:SpRow w v1 l) (h2:SpRow w v2 l) :
 Calls Tryz.prog 19 #[v1,v2] w fun e w'=>e = .returned (.bool true)∧Below w.heap.size w w':=by
 obtain⟨n,hn⟩:∃n,n=l.length:=⟨_,rfl⟩
 obtain⟨ao1,cap1,rfl,hx,hr1⟩:=h1
 obtain⟨ao2,cap2,rfl,_,hr2⟩:=h2
 rw[← hn] at hx hr1 hr2 ⊢
 have HR1:Hid (0<n→∃b off,ao1=some ⟨b,off,none⟩∧b<w.heap.size∧∀i,i<n→∀j,j<6→w.cell? ⟨b,off+i*6+j,none⟩=(spC (l.getD i zsp))[j]?):=hr1
 have HR2:Hid (0<n→∃b off,ao2=some ⟨b,off,none⟩∧b<w.heap.size∧∀i,i<n→∀j,j<6→w.cell? ⟨b,off+i*6+j,none⟩=(spC (l.getD i zsp))[j]?):=hr2
 clear hn hr1 hr2
 go_enter Tryz.func19,Tryz.ntmps19
 go_wp2
 go_loopw [5] (fun i wr=>∃k:Nat,k≤n∧i = .int .i64 k∧Below w.heap.size w wr) (fun i _=>n - (intOf i).toNat)
 case atStart=>exact⟨0,by omega,rfl,Below.refl _ _⟩
 case round =>
  obtain⟨k,hk,rfl,hbel⟩:=hrel
  by_cases hkn:k<n
  ·have hki:(k:Int)<(n:Int):=by omega
   obtain⟨b,off,rfl,hb,hc⟩:=HR1 (by omega)
   obtain⟨b',off',rfl,hb',hc'⟩:=HR2 (by omega)
   have hcj:=hc k hkn
   have hcj':=hc' k hkn
   obtain⟨⟨c0,c1,c2,c3,c4,c5⟩,ht⟩:∃t,t=l.getD k zsp:=⟨_,rfl⟩
   rw[← ht] at hcj hcj'
   have hneq:=spot_same c0 c1 c2 c3 c4 c5
   simp only[spC] at hcj hcj'
   have BD:Below w.heap.size w wr.drew:=Below.drew hbel
   have HBD:=hideP BD
   have hS:(fun x:World=>(x.cell? ⟨b,off+k*6,none⟩=some (.int .i64 c0)∧x.cell? ⟨b,off+k*6+1,none⟩=some (.int .i64 c1)∧x.cell? ⟨b,off+k*6+2,none⟩=some (.int .i64 c2)∧x.cell? ⟨b,off+k*6+3,none⟩=some (.int .i64 c3)∧x.cell? ⟨b,off+k*6+4,none⟩=some (.int .i64 c4)∧x.cell? ⟨b,off+k*6+5,none⟩=some (.int .i64 c5))∧(x.cell? ⟨b',off'+k*6,none⟩=some (.int .i64 c0)∧x.cell? ⟨b',off'+k*6+1,none⟩=some (.int .i64 c1)∧x.cell? ⟨b',off'+k*6+2,none⟩=some (.int .i64 c2)∧x.cell? ⟨b',off'+k*6+3,none⟩=some (.int .i64 c3)∧x.cell? ⟨b',off'+k*6+4,none⟩=some (.int .i64 c4)∧x.cell? ⟨b',off'+k*6+5,none⟩=some (.int .i64 c5))) wr.drew:=⟨⟨(BD.cell (p:=⟨b,off+k*6,none⟩) hb).trans (hcj 0 (by omega)),(BD.cell (p:=⟨b,off+k*6+1,none⟩) hb).trans (hcj 1 (by omega)),(BD.cell (p:=⟨b,off+k*6+2,none⟩) hb).trans (hcj 2 (by omega)),(BD.cell (p:=⟨b,off+k*6+3,none⟩) hb).trans (hcj 3 (by omega)),(BD.cell (p:=⟨b,off+k*6+4,none⟩) hb).trans (hcj 4 (by omega)),(BD.cell (p:=⟨b,off+k*6+5,none⟩) hb).trans (hcj 5 (by omega))⟩,⟨(BD.cell (p:=⟨b',off'+k*6,none⟩) hb').trans (hcj' 0 (by omega)),(BD.cell (p:=⟨b',off'+k*6+1,none⟩) hb').trans (hcj' 1 (by omega)),(BD.cell (p:=⟨b',off'+k*6+2,none⟩) hb').trans (hcj' 2 (by omega)),(BD.cell (p:=⟨b',off'+k*6+3,none⟩) hb').trans (hcj' 3 (by omega)),(BD.cell (p:=⟨b',off'+k*6+4,none⟩) hb').trans (hcj' 4 (by omega)),(BD.cell (p:=⟨b',off'+k*6+5,none⟩) hb').trans (hcj' 5 (by omega))⟩⟩
   clear hc hc' hcj hcj' hbel ht BD
   go_upto_region 6 with fail
   refine wp_region_held_drew (S:=fun x=>(x.cell? ⟨b,off+k*6,none⟩=some (.int .i64 c0)∧x.cell? ⟨b,off+k*6+1,none⟩=some (.int .i64 c1)∧x.cell? ⟨b,off+k*6+2,none⟩=some (.int .i64 c2)∧x.cell? ⟨b,off+k*6+3,none⟩=some (.int .i64 c3)∧x.cell? ⟨b,off+k*6+4,none⟩=some (.int .i64 c4)∧x.cell? ⟨b,off+k*6+5,none⟩=some (.int .i64 c5))∧(x.cell? ⟨b',off'+k*6,none⟩=some (.int .i64 c0)∧x.cell? ⟨b',off'+k*6+1,none⟩=some (.int .i64 c1)∧x.cell? ⟨b',off'+k*6+2,none⟩=some (.int .i64 c2)∧x.cell? ⟨b',off'+k*6+3,none⟩=some (.int .i64 c3)∧x.cell? ⟨b',off'+k*6+4,none⟩=some (.int .i64 c4)∧x.cell? ⟨b',off'+k*6+5,none⟩=some (.int .i64 c5))) (by kernel_rfl) hS (fun hS=>?_)
   refine tkS (i:=0) (v:= .slice (some ⟨b,off,none⟩) n cap1) rfl hS ?_
   try simp only[Act.put,List.getElem_toArray,List.getElem_cons_zero,List.getElem_cons_succ,List.setIfInBounds_toArray,List.set_cons_zero,List.set_cons_succ]
   refine tkS (i:=1) (v:= .int .i64 (k:Int)) rfl hS ?_
   try simp only[Act.put,List.getElem_toArray,List.getElem_cons_zero,List.getElem_cons_succ,List.setIfInBounds_toArray,List.set_cons_zero,List.set_cons_succ]
   refine tkS (i:=2) (v:= .pointer (some ⟨b,off+k*6,none⟩)) rfl hS ?_
   try simp only[Act.put,List.getElem_toArray,List.getElem_cons_zero,List.getElem_cons_succ,List.setIfInBounds_toArray,List.set_cons_zero,List.set_cons_succ]
   refine tkS (i:=3) (v:= .agg #[.int .i64 c0, .int .i64 c1, .int .i64 c2, .int .i64 c3, .int .i64 c4, .int .i64 c5]) rfl hS ?_
   try simp only[Act.put,List.getElem_toArray,List.getElem_cons_zero,List.getElem_cons_succ,List.setIfInBounds_toArray,List.set_cons_zero,List.set_cons_succ]
   refine tkS (i:=4) (v:= .slice (some ⟨b',off',none⟩) n cap2) rfl hS ?_
   try simp only[Act.put,List.getElem_toArray,List.getElem_cons_zero,List.getElem_cons_succ,List.setIfInBounds_toArray,List.set_cons_zero,List.set_cons_succ]
   refine tkS (i:=5) (v:= .int .i64 (k:Int)) rfl hS ?_
   try simp only[Act.put,List.getElem_toArray,List.getElem_cons_zero,List.getElem_cons_succ,List.setIfInBounds_toArray,List.set_cons_zero,List.set_cons_succ]
   refine tkS (i:=6) (v:= .pointer (some ⟨b',off'+k*6,none⟩)) rfl hS ?_
   try simp only[Act.put,List.getElem_toArray,List.getElem_cons_zero,List.getElem_cons_succ,List.setIfInBounds_toArray,List.set_cons_zero,List.set_cons_succ]
   refine tkS (i:=7) (v:= .agg #[.int .i64 c0, .int .i64 c1, .int .i64 c2, .int .i64 c3, .int .i64 c4, .int .i64 c5]) rfl hS ?_
   try simp only[Act.put,List.getElem_toArray,List.getElem_cons_zero,List.getElem_cons_succ,List.setIfInBounds_toArray,List.set_cons_zero,List.set_cons_succ]
   refine tkS (i:=8) (v:= .bool false) rfl hS ?_
   try simp only[Act.put,List.getElem_toArray,List.getElem_cons_zero,List.getElem_cons_succ,List.setIfInBounds_toArray,List.set_cons_zero,List.set_cons_succ]
   refine wpAnyH_done (by kernel_rfl) ?_ _
   go_wp2
   go_roundw
   case rel=>exact⟨k+1,by omega,by go_num,HBD.out⟩
   case measure=>simp[intOf];omega
  ·have hki:¬(k:Int)<(n:Int):=by omega
   have HB:Hid (Below w.heap.size w wr):=hbel
   clear hbel
   go_wp2
   go_ret
   exact⟨rfl,HB⟩
end Go.Proofs.YtbbehmcekbnkiaaGreat

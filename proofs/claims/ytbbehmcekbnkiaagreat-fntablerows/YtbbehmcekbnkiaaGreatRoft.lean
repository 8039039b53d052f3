import Derived.Test.YtbbehmcekbnkiaaGreatApnt
namespace Go.Proofs.YtbbehmcekbnkiaaGreat
set_option maxHeartbeats 8000000
open Go.RowKit
set_option linter.unusedVariables false
set_option linter.unusedSimpArgs false
theorem ask_letter (x:Nd):∃c0 c1 c2 c3 c4:Int,(∀W:World,(Instr.typeAssert (thV x) 85 132 true).run Tryz.prog W = .ok (.tuple #[.agg #[.int .i64 c0,.int .i64 c1,.int .i64 c2,.int .i64 c3,.int .i64 c4],.bool (x.k == 1)]) W)/\(x.k=1->c2=x.wd/\c3=x.ht/\c4=x.dp):=by
 obtain⟨k,wd,ht,dp,sh,fo,ch,nn,gs,gp,gpo,gm,gmo,tx,kids⟩:=x
 by_cases hk:1<=k/\k<=11
 ·rcases kinds hk.1 hk.2 with rfl|rfl|rfl|rfl|rfl|rfl|rfl|rfl|rfl|rfl|rfl
  ·exact⟨fo,ch,wd,ht,dp,fun _=>by kernel_rfl,fun _=>⟨rfl,rfl,rfl⟩⟩
  ·exact⟨0,0,0,0,0,fun _=>by kernel_rfl,fun h=>absurd h (by simp)⟩
  ·exact⟨0,0,0,0,0,fun _=>by kernel_rfl,fun h=>absurd h (by simp)⟩
  ·exact⟨0,0,0,0,0,fun _=>by kernel_rfl,fun h=>absurd h (by simp)⟩
  ·exact⟨0,0,0,0,0,fun _=>by kernel_rfl,fun h=>absurd h (by simp)⟩
  ·exact⟨0,0,0,0,0,fun _=>by kernel_rfl,fun h=>absurd h (by simp)⟩
  ·exact⟨0,0,0,0,0,fun _=>by kernel_rfl,fun h=>absurd h (by simp)⟩
  ·exact⟨0,0,0,0,0,fun _=>by kernel_rfl,fun h=>absurd h (by simp)⟩
  ·exact⟨0,0,0,0,0,fun _=>by kernel_rfl,fun h=>absurd h (by simp)⟩
  ·exact⟨0,0,0,0,0,fun _=>by kernel_rfl,fun h=>absurd h (by simp)⟩
  ·exact⟨0,0,0,0,0,fun _=>by kernel_rfl,fun h=>absurd h (by simp)⟩
 ·exact⟨0,0,0,0,0,fun _=>by rw[thV_0 _ hk,show (k == 1)=false by simp;omega];kernel_rfl,fun h=>absurd (show k=1 from h) (by omega)⟩
theorem ask_rule (x:Nd):∃c0 c1 c2:Int,(∀W:World,(Instr.typeAssert (thV x) 85 135 true).run Tryz.prog W = .ok (.tuple #[.agg #[.int .i64 c0,.int .i64 c1,.int .i64 c2],.bool (x.k == 5)]) W)/\(x.k=5->c0=x.wd/\c1=x.ht/\c2=x.dp):=by
 obtain⟨k,wd,ht,dp,sh,fo,ch,nn,gs,gp,gpo,gm,gmo,tx,kids⟩:=x
 by_cases hk:1<=k/\k<=11
 ·rcases kinds hk.1 hk.2 with rfl|rfl|rfl|rfl|rfl|rfl|rfl|rfl|rfl|rfl|rfl
  ·exact⟨0,0,0,fun _=>by kernel_rfl,fun h=>absurd h (by simp)⟩
  ·exact⟨0,0,0,fun _=>by kernel_rfl,fun h=>absurd h (by simp)⟩
  ·exact⟨0,0,0,fun _=>by kernel_rfl,fun h=>absurd h (by simp)⟩
  ·exact⟨0,0,0,fun _=>by kernel_rfl,fun h=>absurd h (by simp)⟩
  ·exact⟨wd,ht,dp,fun _=>by kernel_rfl,fun _=>⟨rfl,rfl,rfl⟩⟩
  ·exact⟨0,0,0,fun _=>by kernel_rfl,fun h=>absurd h (by simp)⟩
  ·exact⟨0,0,0,fun _=>by kernel_rfl,fun h=>absurd h (by simp)⟩
  ·exact⟨0,0,0,fun _=>by kernel_rfl,fun h=>absurd h (by simp)⟩
  ·exact⟨0,0,0,fun _=>by kernel_rfl,fun h=>absurd h (by simp)⟩
  ·exact⟨0,0,0,fun _=>by kernel_rfl,fun h=>absurd h (by simp)⟩
  ·exact⟨0,0,0,fun _=>by kernel_rfl,fun h=>absurd h (by simp)⟩
 ·exact⟨0,0,0,fun _=>by rw[thV_0 _ hk,show (k == 5)=false by simp;omega];kernel_rfl,fun h=>absurd (show k=5 from h) (by omega)⟩
theorem ask_box (x:Nd):∃c0 c1 c2 c3 c4 c5:Int,(∀W:World,(Instr.typeAssert (thV x) 85 78 true).run Tryz.prog W = .ok (.tuple #[.agg #[.int .i64 c0,.int .i64 c1,.int .i64 c2,.int .i64 c3,.int .i64 c4,.int .i64 c5],.bool (x.k == 6||x.k == 7)]) W)/\(x.k=6\/x.k=7->c1=x.wd/\c2=x.ht/\c3=x.dp/\c4=x.sh):=by
 obtain⟨k,wd,ht,dp,sh,fo,ch,nn,gs,gp,gpo,gm,gmo,tx,kids⟩:=x
 by_cases hk:1<=k/\k<=11
 ·rcases kinds hk.1 hk.2 with rfl|rfl|rfl|rfl|rfl|rfl|rfl|rfl|rfl|rfl|rfl
  ·exact⟨0,0,0,0,0,0,fun _=>by kernel_rfl,fun h=>absurd h (by simp)⟩
  ·exact⟨0,0,0,0,0,0,fun _=>by kernel_rfl,fun h=>absurd h (by simp)⟩
  ·exact⟨0,0,0,0,0,0,fun _=>by kernel_rfl,fun h=>absurd h (by simp)⟩
  ·exact⟨0,0,0,0,0,0,fun _=>by kernel_rfl,fun h=>absurd h (by simp)⟩
  ·exact⟨0,0,0,0,0,0,fun _=>by kernel_rfl,fun h=>absurd h (by simp)⟩
  ·exact⟨6,wd,ht,dp,sh,kids,fun _=>by kernel_rfl,fun _=>⟨rfl,rfl,rfl,rfl⟩⟩
  ·exact⟨7,wd,ht,dp,sh,kids,fun _=>by kernel_rfl,fun _=>⟨rfl,rfl,rfl,rfl⟩⟩
  ·exact⟨0,0,0,0,0,0,fun _=>by kernel_rfl,fun h=>absurd h (by simp)⟩
  ·exact⟨0,0,0,0,0,0,fun _=>by kernel_rfl,fun h=>absurd h (by simp)⟩
  ·exact⟨0,0,0,0,0,0,fun _=>by kernel_rfl,fun h=>absurd h (by simp)⟩
  ·exact⟨0,0,0,0,0,0,fun _=>by kernel_rfl,fun h=>absurd h (by simp)⟩
 ·exact⟨0,0,0,0,0,0,fun _=>by rw[thV_0 _ hk,show (k == 6||k == 7)=false by simp;omega];kernel_rfl,fun h=>absurd (show k=6\/k=7 from h) (by omega)⟩
structure Frs (S:Nat->Prop)(w w':World):Prop where
 os:w'.os=w.os
 tape:w'.tape=w.tape
 out:w'.output=w.output
 size:w.heap.size<=w'.heap.size
 block:∀b,b<w.heap.size->¬S b->w'.heap[b]?=w.heap[b]?
theorem Frs.refl (S:Nat->Prop)(w:World):Frs S w w:=⟨rfl,rfl,rfl,Nat.le_refl _,fun _ _ _=>rfl⟩
theorem Frs.below {S:Nat->Prop}{w a b:World}(h:Frs S w a)(hb:Below a.heap.size a b):Frs S w b :=
 ⟨hb.os.trans h.os,hb.tape.trans h.tape,hb.output.trans h.out,Nat.le_trans h.size hb.size,fun x hx hn=>(hb.block x (Nat.lt_of_lt_of_le hx h.size)).trans (h.block x hx hn)⟩
theorem Frs.grown {S:Nat->Prop}{w a b:World}{r:Option Nat}(h:Frs S w a)(hg:a.grownBy b r)(hr:∀j,r=some j->S j\/w.heap.size<=j):Frs S w b :=
 ⟨hg.os.trans h.os,hg.tape.trans h.tape,hg.output.trans h.out,Nat.le_trans h.size hg.size,fun x hx hn=>(hg.block x (Nat.lt_of_lt_of_le hx h.size) (fun e=>by rcases hr x e.symm with h1|h1;exact hn h1;omega)).trans (h.block x hx hn)⟩
theorem Frs.set {S:Nat->Prop}{w a:World}(h:Frs S w a){p:Addr}(hp:S p.block)(v:Value):Frs S w (a.setCell p v) :=
 ⟨h.os,h.tape,h.out,by simpa [World.setCell] using h.size,fun x hx hn=>(Below.heap_setCell _ _ _ _ (fun e=>hn (by rw[e];exact hp))).trans (h.block x hx hn)⟩
theorem Frs.toBelow {S:Nat->Prop}{B:Nat}{w0 w a:World}(h0:Below B w0 w)(h:Frs S w a)(hS:∀b,S b->B<=b)(hB:B<=w.heap.size):Below B w0 a :=
 ⟨h.os.trans h0.os,h.tape.trans h0.tape,h.out.trans h0.output,Nat.le_trans h0.size h.size,fun k hk=>(h.block k (Nat.lt_of_lt_of_le hk hB) (fun hs=>by have:=hS k hs;omega)).trans (h0.block k hk)⟩
theorem own_neR {W:World}{B0 R e s n:Nat}{k wd h d len:Int}{g p v:Value}{xs:List Value}(B:Bun W R k wd h d len g p)(o:W.ownsRow B0 e s v n xs)(he:e≠130):v.ownBlock≠some R:=by
 rcases o.2 with ⟨rfl,_⟩ | ⟨g',cap,cur,rfl,_,hh,_⟩
 ·intro e;cases e
 ·intro e
  simp only[Value.ownBlock,Option.some.injEq] at e
  subst e
  rw[B.box] at hh
  cases hh
  exact he rfl
theorem own_setR {W:World}{B0 R e s n:Nat}{v:Value}{xs:List Value}(o:W.ownsRow B0 e s v n xs)(hne:v.ownBlock≠some R)(j:Nat)(u:Value):(W.setCell ⟨R,j,none⟩ u).ownsRow B0 e s v n xs :=
 ownG_same o (fun g hg=>Below.heap_setCell _ _ _ _ (fun e=>hne (by rw[hg];exact congrArg some e)))
set_option maxRecDepth 20000 in
theorem addGlue_any {w:World}{R B0 n m:Nat}{k wd h d len:Int}{g p:Value}{gs:List Shr.Gl}{ps:List Value}(at_:Int)(y:Shr.Gl)(B:Bun w R k wd h d len g p)(og:w.ownsRow B0 34 5 g n (f5 gs))(op:w.ownsRow B0 3 1 p m ps)(hB0:B0<=R)(hn:n<=20001)(hm:m<=20001) :
 Calls Tryz.prog 57 #[.pointer (some ⟨R,0,none⟩),.int .i64 at_,.agg #[.int .i64 y.s,.int .i64 y.p,.int .i64 y.po,.int .i64 y.m,.int .i64 y.mo]] w fun e w'=>(∃v,e = .returned v)/\(∃g' p',Bun w' R k wd h d len g' p'/\w'.ownsRow B0 34 5 g' (n+1) (f5 (gs++[y]))/\w'.ownsRow B0 3 1 p' (m+1) (ps++[.int .i64 at_]))/\Frs (fun b=>b=R\/g.ownBlock=some b\/p.ownBlock=some b) w w':=by
 obtain⟨i0,hi0,hy0,hy1,hy2⟩:=info_parts Shr.Tryz.info34
 obtain⟨i1,hi1,hz0,hz1,hz2⟩:=info_parts Tryz.info3
 have hRw:=B.lt
 have hBw:B0<=w.heap.size:=Nat.le_trans hB0 (Nat.le_of_lt hRw)
 obtain⟨ga,gc,rfl⟩:=ownG_shape og
 obtain⟨pa,pc,rfl⟩:=ownG_shape op
 have HY:Hid (f5 (gs++[y])=f5 gs++[.int .i64 y.s,.int .i64 y.p,.int .i64 y.po,.int .i64 y.m,.int .i64 y.mo]):=hideP (f5_snoc gs y)
 obtain⟨L,hL⟩:=exq (f5 gs)
 rw[<-hL] at og HY
 clear hL
 have HB:=hideP B
 have OG:=hideP og
 have OP:=hideP op
 have HGP:Hid ((Value.slice pa m pc).ownBlock=none\/(Value.slice pa m pc).ownBlock≠(Value.slice ga n gc).ownBlock):=hideP (ownG_ne op og (by decide))
 have HGR:Hid ((Value.slice ga n gc).ownBlock≠some R):=hideP (own_neR B og (by decide))
 obtain⟨b0,b1,b2,b3,b4,b5,b6,b7,b8⟩:=B.cells
 have fz:=B.free
 clear og op B
 obtain⟨y0,y1,y2,y3,y4⟩:=y
 go_enter Tryz.func57,Tryz.ntmps57
 go_wp2_with fail
 obtain⟨WA,hWA⟩:=exq (w.alloc (.cells #[.int .i64 y0,.int .i64 y1,.int .i64 y2,.int .i64 y3,.int .i64 y4] 34))
 rw[<-hWA]
 have BA:Hid (Bun WA R k wd h d len (.slice ga n gc) (.slice pa m pc)):=hideP (by rw[hWA];exact HB.out.alloc _)
 have hsA:WA.heap.size=w.heap.size+1:=by rw[hWA];simp
 have HSX:Hid (∀X:World,X.heap[w.heap.size]?=WA.heap[w.heap.size]?->X.cell? ⟨w.heap.size,0,none⟩=some (.int .i64 y0)/\X.cell? ⟨w.heap.size,1,none⟩=some (.int .i64 y1)/\X.cell? ⟨w.heap.size,2,none⟩=some (.int .i64 y2)/\X.cell? ⟨w.heap.size,3,none⟩=some (.int .i64 y3)/\X.cell? ⟨w.heap.size,4,none⟩=some (.int .i64 y4)):=hideP (fun X hX=>by
  have k1:X.heap[w.heap.size]?=some (.cells #[.int .i64 y0,.int .i64 y1,.int .i64 y2,.int .i64 y3,.int .i64 y4] 34 (0,0)):=by rw[hX,hWA];exact heap_alloc_new w _
  exact⟨cell_of_row X _ 0 _ 34 _ k1,cell_of_row X _ 1 _ 34 _ k1,cell_of_row X _ 2 _ 34 _ k1,cell_of_row X _ 3 _ 34 _ k1,cell_of_row X _ 4 _ 34 _ k1⟩)
 have OGA:Hid (WA.ownsRow B0 34 5 (.slice ga n gc) n L):=hideP (by rw[hWA];exact OG.out.alloc _)
 have OPA:Hid (WA.ownsRow B0 3 1 (.slice pa m pc) m ps):=hideP (by rw[hWA];exact OP.out.alloc _)
 have FA:Hid (Frs (fun b=>b=R\/(Value.slice ga n gc).ownBlock=some b\/(Value.slice pa m pc).ownBlock=some b) w WA):=hideP (by rw[hWA];exact(Frs.refl _ _).below (below1 _ _))
 have HGT:Hid ((Value.slice ga n gc).ownBlock≠some w.heap.size):=hideP (fun e=>by have:=(World.ownsRow.lt OG.out _ e).2;omega)
 obtain⟨a0,a1,a2,a3,a4,a5,a6,a7,a8⟩:=BA.out.cells
 have fzA:=BA.out.free
 have hRA:=BA.out.lt
 clear hWA b0 b1 b2 b3 b4 b5 b6 b7 b8 fz
 refine wp_region_held_drew (S:=fun x=>x.cell? ⟨w.heap.size,0,none⟩=some (.int .i64 y0)/\x.cell? ⟨w.heap.size,1,none⟩=some (.int .i64 y1)/\x.cell? ⟨w.heap.size,2,none⟩=some (.int .i64 y2)/\x.cell? ⟨w.heap.size,3,none⟩=some (.int .i64 y3)/\x.cell? ⟨w.heap.size,4,none⟩=some (.int .i64 y4)) (by kernel_rfl) (HSX.out WA.drew rfl) (fun hS=>?_)
 refine tkS (i:=0) (v:= .pointer (some ⟨R,0,none⟩)) rfl hS ?_
 try simp only[sput]
 refine tkS (i:=1) (v:= .pointer (some ⟨R,0,none⟩)) rfl hS ?_
 try simp only[sput]
 refine tkS (i:=2) (v:= .pointer (some ⟨R,0,none⟩)) rfl hS ?_
 try simp only[sput]
 refine tkS (i:=3) (v:= .pointer (some ⟨R,7,none⟩)) rfl hS ?_
 try simp only[sput]
 refine tkS (i:=5) (v:= .agg #[.int .i64 y0,.int .i64 y1,.int .i64 y2,.int .i64 y3,.int .i64 y4]) rfl hS ?_
 try simp only[sput]
 obtain⟨WB,hWB⟩:=exq ((WA.alloc (.cells #[.int .i64 y0,.int .i64 y1,.int .i64 y2,.int .i64 y3,.int .i64 y4] 34)).drew)
 have BB:Hid (Bun WB R k wd h d len (.slice ga n gc) (.slice pa m pc)):=hideP (by rw[hWB];exact(BA.out.alloc _).drew)
 have OGB:Hid (WB.ownsRow B0 34 5 (.slice ga n gc) n L):=hideP (by rw[hWB];exact ownG_below OGA.out ((Below.alloc (Below.refl _ _) (Nat.le_refl _) _).drew))
 have OPB:Hid (WB.ownsRow B0 3 1 (.slice pa m pc) m ps):=hideP (by rw[hWB];exact ownG_below OPA.out ((Below.alloc (Below.refl _ _) (Nat.le_refl _) _).drew))
 have FB:Hid (Frs (fun b=>b=R\/(Value.slice ga n gc).ownBlock=some b\/(Value.slice pa m pc).ownBlock=some b) w WB):=hideP (by rw[hWB];exact FA.out.below ((Below.alloc (Below.refl _ _) (Nat.le_refl _) _).drew))
 have hsB:WB.heap.size=w.heap.size+1+1:=by rw[hWB];show (WA.alloc _).heap.size=_;rw[World.size_alloc,hsA]
 have HSB:Hid (WB.cell? ⟨w.heap.size,0,none⟩=some (.int .i64 y0)/\WB.cell? ⟨w.heap.size,1,none⟩=some (.int .i64 y1)/\WB.cell? ⟨w.heap.size,2,none⟩=some (.int .i64 y2)/\WB.cell? ⟨w.heap.size,3,none⟩=some (.int .i64 y3)/\WB.cell? ⟨w.heap.size,4,none⟩=some (.int .i64 y4)):=hideP (HSX.out WB (by rw[hWB];exact Below.heap_alloc WA _ _ (by omega)))
 have NB:Hid (∀j u,[.int .i64 y0,.int .i64 y1,.int .i64 y2,.int .i64 y3,.int .i64 y4][j]?=some u->WB.cell? ((⟨w.heap.size+1,0,none⟩:Addr).add j)=some u):=hideP (by rw[hWB,<-hsA];exact new5 WA _ _ _ _ _ 34)
 have c7B:=BB.out.cells.2.2.2.2.2.2.2.1
 refine wpAnyH_ready (rs:=[4,6]) (by kernel_rfl) (by simp) ?_
 refine AllReadyH.cons rfl (fun K hK=>?_) (AllReadyH.cons rfl (fun K hK=>?_) AllReadyH.nil)
 ·rw[if_pos (by first|rfl|go_simp)]
  go_simp
  refine hK.out _ _ (HSX.out WA.drew rfl) (fun hS=>?_)
  try simp only[sput]
  clear hK K
  refine rdS (i:=6) rfl (fun K hK=>?_)
  go_simp
  refine hK.out _ _ (by rw[<-hWB];exact HSB.out) (fun hS=>?_)
  try simp only[sput]
  clear hK K
  refine rdS (i:=7) rfl (fun K hK=>?_)
  rw[<-hWB]
  refine wp_append_own _ _ _ 127 rfl B0 34 i0 (.agg #[.int .i64 0,.int .i64 0,.int .i64 0,.int .i64 0,.int .i64 0]) 5 40 Tryz.underlying127 hi0 hy0 hy1 hy2 rfl (by decide) (.slice ga n gc) n L rfl OGB.out ⟨w.heap.size+1,0,none⟩ 1 1 [.int .i64 y0,.int .i64 y1,.int .i64 y2,.int .i64 y3,.int .i64 y4] rfl rfl NB.out (one5 _ _ _ _ _) (by unfold maxLen;omega) (by omega) (by omega) ?_
  intro v6 w6 ho6 hg6 hn6
  obtain⟨u6,d6,rfl⟩:=ownG_shape ho6
  have B6:Hid (Bun w6 R k wd h d len (.slice ga n gc) (.slice pa m pc)):=hideP (BB.out.same (hg6.block R BB.out.lt (fun e=>HGR.out e.symm)))
  have O6:=hideP ho6
  have P6:Hid (w6.ownsRow B0 3 1 (.slice pa m pc) m ps):=hideP (World.ownsRow.kept OPB.out hg6 HGP.out)
  have F6:Hid (Frs (fun b=>b=R\/(Value.slice ga n gc).ownBlock=some b\/(Value.slice pa m pc).ownBlock=some b) w w6):=hideP (FB.out.grown hg6 (fun j hj=> .inl (.inr (.inl hj))))
  have T6:=hideP (HSX.out w6 ((hg6.block _ (by omega) (fun e=>HGT.out e.symm)).trans (by rw[hWB];exact Below.heap_alloc WA _ _ (by omega))))
  have c76:=B6.out.cells.2.2.2.2.2.2.2.1
  have fz6:=B6.out.free
  have hR6:=B6.out.lt
  have T7:=hideP (HSX.out (w6.setCell ⟨R,7,none⟩ (.slice u6 (n+1) d6)) ((Below.heap_setCell _ _ _ _ (by simp;omega)).trans ((hg6.block _ (by omega) (fun e=>HGT.out e.symm)).trans (by rw[hWB];exact Below.heap_alloc WA _ _ (by omega)))))
  clear ho6 hg6 hn6
  refine hK.out _ _ T6.out (fun hS=>?_)
  try simp only[sput]
  clear hK K
  refine tkS (i:=8) (v:= .pointer (some ⟨R,0,none⟩)) rfl hS ?_
  try simp only[sput]
  refine tkS (i:=9) (v:= .pointer (some ⟨R,7,none⟩)) rfl hS ?_
  try simp only[sput]
  refine rdS (i:=10) rfl (fun K hK=>?_)
  go_simp
  refine hK.out _ _ T7.out (fun hS=>?_)
  try simp only[sput]
  clear hK K
  refine wpAnyH_done (by kernel_rfl) ?_ _
  obtain⟨W7,hW7⟩:=exq (w6.setCell ⟨R,7,none⟩ (.slice u6 (n+1) d6))
  rw[<-hW7]
  have NR6:=hideP (own_neR B6.out O6.out (by decide))
  have PR6:=hideP (own_neR B6.out P6.out (by decide))
  have B7:Hid (Bun W7 R k wd h d len (.slice u6 (n+1) d6) (.slice pa m pc)):=hideP (by rw[hW7];exact B6.out.setG _)
  have O7:Hid (W7.ownsRow B0 34 5 (.slice u6 (n+1) d6) (n+1) (L++[.int .i64 y0,.int .i64 y1,.int .i64 y2,.int .i64 y3,.int .i64 y4])):=hideP (by rw[hW7];exact own_setR O6.out NR6.out 7 _)
  have P7:Hid (W7.ownsRow B0 3 1 (.slice pa m pc) m ps):=hideP (by rw[hW7];exact own_setR P6.out PR6.out 7 _)
  have F7:Hid (Frs (fun b=>b=R\/(Value.slice ga n gc).ownBlock=some b\/(Value.slice pa m pc).ownBlock=some b) w W7):=hideP (by rw[hW7];exact F6.out.set (.inl rfl) _)
  have c8:=B7.out.cells.2.2.2.2.2.2.2.2
  have fz7:=B7.out.free
  have hR7:=B7.out.lt
  have hB7:B0<=W7.heap.size:=Nat.le_trans hB0 (Nat.le_of_lt hR7)
  clear hW7 hS c76 fz6 hR6 a0 a1 a2 a3 a4 a5 a6 a7 a8 fzA hRA hsA hsB hWB c7B
  go_wp2_with (at_builtin;refine wpList_append_own _ rfl _ _ 128 rfl B0 3 i1 (.int .i64 0) 1 8 Tryz.underlying128 hi1 hz0 hz1 hz2 rfl (by decide) (.slice pa m pc) m ps rfl (P7.out.alloc _) ⟨W7.heap.size,0,none⟩ 1 1 [.int .i64 at_] rfl rfl (cell_one_new _ _ _) (by intro u hu;simp at hu;subst hu;rfl) (by unfold maxLen;omega) (by omega) (by simp;omega) ?_;intro v8 w8 ho8 hg8 hn8;obtain⟨u8,d8,rfl⟩:=ownG_shape ho8;have B8:Hid (Bun w8 R k wd h d len (.slice u6 (n+1) d6) (.slice pa m pc)):=hideP ((B7.out.alloc _).same (hg8.block R (by simp;omega) (fun e=>own_neR B7.out P7.out (by decide) e.symm)));have O8:=hideP ho8;have G8:Hid (w8.ownsRow B0 34 5 (.slice u6 (n+1) d6) (n+1) (L++[.int .i64 y0,.int .i64 y1,.int .i64 y2,.int .i64 y3,.int .i64 y4])):=hideP (World.ownsRow.kept (O7.out.alloc _) hg8 (ownG_ne O7.out P7.out (by decide)));have F8:Hid (Frs (fun b=>b=R\/(Value.slice ga n gc).ownBlock=some b\/(Value.slice pa m pc).ownBlock=some b) w w8):=hideP ((F7.out.below (below1 _ _)).grown hg8 (fun j hj=> .inl (.inr (.inr hj))));have c88:=B8.out.cells.2.2.2.2.2.2.2.2;have fz8:=B8.out.free;have hR8:=B8.out.lt;clear ho8 hg8 hn8 c8 fz7)
  go_end0
  refine⟨⟨_,rfl⟩,⟨_,_,B8.out.setP _,?_,own_setR O8.out (own_neR B8.out O8.out (by decide)) 8 _⟩,F8.out.set (.inl rfl) _⟩
  rw[HY.out]
  exact own_setR G8.out (own_neR B8.out G8.out (by decide)) 8 _
 ·rw[if_pos (by first|rfl|go_simp)]
  go_simp
  refine hK.out _ _ (by rw[<-hWB];exact HSB.out) (fun hS=>?_)
  try simp only[sput]
  clear hK K
  refine rdS (i:=4) rfl (fun K hK=>?_)
  go_simp
  refine hK.out _ _ (by rw[<-hWB];exact HSB.out) (fun hS=>?_)
  try simp only[sput]
  clear hK K
  refine rdS (i:=7) rfl (fun K hK=>?_)
  rw[<-hWB]
  refine wp_append_own _ _ _ 127 rfl B0 34 i0 (.agg #[.int .i64 0,.int .i64 0,.int .i64 0,.int .i64 0,.int .i64 0]) 5 40 Tryz.underlying127 hi0 hy0 hy1 hy2 rfl (by decide) (.slice ga n gc) n L rfl OGB.out ⟨w.heap.size+1,0,none⟩ 1 1 [.int .i64 y0,.int .i64 y1,.int .i64 y2,.int .i64 y3,.int .i64 y4] rfl rfl NB.out (one5 _ _ _ _ _) (by unfold maxLen;omega) (by omega) (by omega) ?_
  intro v6 w6 ho6 hg6 hn6
  obtain⟨u6,d6,rfl⟩:=ownG_shape ho6
  have B6:Hid (Bun w6 R k wd h d len (.slice ga n gc) (.slice pa m pc)):=hideP (BB.out.same (hg6.block R BB.out.lt (fun e=>HGR.out e.symm)))
  have O6:=hideP ho6
  have P6:Hid (w6.ownsRow B0 3 1 (.slice pa m pc) m ps):=hideP (World.ownsRow.kept OPB.out hg6 HGP.out)
  have F6:Hid (Frs (fun b=>b=R\/(Value.slice ga n gc).ownBlock=some b\/(Value.slice pa m pc).ownBlock=some b) w w6):=hideP (FB.out.grown hg6 (fun j hj=> .inl (.inr (.inl hj))))
  have T6:=hideP (HSX.out w6 ((hg6.block _ (by omega) (fun e=>HGT.out e.symm)).trans (by rw[hWB];exact Below.heap_alloc WA _ _ (by omega))))
  have c76:=B6.out.cells.2.2.2.2.2.2.2.1
  have fz6:=B6.out.free
  have hR6:=B6.out.lt
  have T7:=hideP (HSX.out (w6.setCell ⟨R,7,none⟩ (.slice u6 (n+1) d6)) ((Below.heap_setCell _ _ _ _ (by simp;omega)).trans ((hg6.block _ (by omega) (fun e=>HGT.out e.symm)).trans (by rw[hWB];exact Below.heap_alloc WA _ _ (by omega)))))
  clear ho6 hg6 hn6
  refine hK.out _ _ T6.out (fun hS=>?_)
  try simp only[sput]
  clear hK K
  refine tkS (i:=8) (v:= .pointer (some ⟨R,0,none⟩)) rfl hS ?_
  try simp only[sput]
  refine tkS (i:=9) (v:= .pointer (some ⟨R,7,none⟩)) rfl hS ?_
  try simp only[sput]
  refine rdS (i:=10) rfl (fun K hK=>?_)
  go_simp
  refine hK.out _ _ T7.out (fun hS=>?_)
  try simp only[sput]
  clear hK K
  refine wpAnyH_done (by kernel_rfl) ?_ _
  obtain⟨W7,hW7⟩:=exq (w6.setCell ⟨R,7,none⟩ (.slice u6 (n+1) d6))
  rw[<-hW7]
  have NR6:=hideP (own_neR B6.out O6.out (by decide))
  have PR6:=hideP (own_neR B6.out P6.out (by decide))
  have B7:Hid (Bun W7 R k wd h d len (.slice u6 (n+1) d6) (.slice pa m pc)):=hideP (by rw[hW7];exact B6.out.setG _)
  have O7:Hid (W7.ownsRow B0 34 5 (.slice u6 (n+1) d6) (n+1) (L++[.int .i64 y0,.int .i64 y1,.int .i64 y2,.int .i64 y3,.int .i64 y4])):=hideP (by rw[hW7];exact own_setR O6.out NR6.out 7 _)
  have P7:Hid (W7.ownsRow B0 3 1 (.slice pa m pc) m ps):=hideP (by rw[hW7];exact own_setR P6.out PR6.out 7 _)
  have F7:Hid (Frs (fun b=>b=R\/(Value.slice ga n gc).ownBlock=some b\/(Value.slice pa m pc).ownBlock=some b) w W7):=hideP (by rw[hW7];exact F6.out.set (.inl rfl) _)
  have c8:=B7.out.cells.2.2.2.2.2.2.2.2
  have fz7:=B7.out.free
  have hR7:=B7.out.lt
  have hB7:B0<=W7.heap.size:=Nat.le_trans hB0 (Nat.le_of_lt hR7)
  clear hW7 hS c76 fz6 hR6 a0 a1 a2 a3 a4 a5 a6 a7 a8 fzA hRA hsA hsB hWB c7B
  go_wp2_with (at_builtin;refine wpList_append_own _ rfl _ _ 128 rfl B0 3 i1 (.int .i64 0) 1 8 Tryz.underlying128 hi1 hz0 hz1 hz2 rfl (by decide) (.slice pa m pc) m ps rfl (P7.out.alloc _) ⟨W7.heap.size,0,none⟩ 1 1 [.int .i64 at_] rfl rfl (cell_one_new _ _ _) (by intro u hu;simp at hu;subst hu;rfl) (by unfold maxLen;omega) (by omega) (by simp;omega) ?_;intro v8 w8 ho8 hg8 hn8;obtain⟨u8,d8,rfl⟩:=ownG_shape ho8;have B8:Hid (Bun w8 R k wd h d len (.slice u6 (n+1) d6) (.slice pa m pc)):=hideP ((B7.out.alloc _).same (hg8.block R (by simp;omega) (fun e=>own_neR B7.out P7.out (by decide) e.symm)));have O8:=hideP ho8;have G8:Hid (w8.ownsRow B0 34 5 (.slice u6 (n+1) d6) (n+1) (L++[.int .i64 y0,.int .i64 y1,.int .i64 y2,.int .i64 y3,.int .i64 y4])):=hideP (World.ownsRow.kept (O7.out.alloc _) hg8 (ownG_ne O7.out P7.out (by decide)));have F8:Hid (Frs (fun b=>b=R\/(Value.slice ga n gc).ownBlock=some b\/(Value.slice pa m pc).ownBlock=some b) w w8):=hideP ((F7.out.below (below1 _ _)).grown hg8 (fun j hj=> .inl (.inr (.inr hj))));have c88:=B8.out.cells.2.2.2.2.2.2.2.2;have fz8:=B8.out.free;have hR8:=B8.out.lt;clear ho8 hg8 hn8 c8 fz7)
  go_end0
  refine⟨⟨_,rfl⟩,⟨_,_,B8.out.setP _,?_,own_setR O8.out (own_neR B8.out O8.out (by decide)) 8 _⟩,F8.out.set (.inl rfl) _⟩
  rw[HY.out]
  exact own_setR G8.out (own_neR B8.out G8.out (by decide)) 8 _
theorem Frs.fr {S:Nat->Prop}{w a b:World}{R:Nat}(h:Frs S w a)(hf:Shr.Fr R a b)(hR:S R):Frs S w b :=
 ⟨hf.1.trans h.os,hf.2.1.trans h.tape,hf.2.2.1.trans h.out,Nat.le_trans h.size hf.2.2.2.1,fun x hx hn=>(hf.2.2.2.2 x (Nat.lt_of_lt_of_le hx h.size) (fun e=>hn (e ▸ hR))).trans (h.block x hx hn)⟩
theorem Frs.alloc {S:Nat->Prop}{w a:World}(h:Frs S w a)(o:Obj):Frs S w (a.alloc o):=h.below (below1 _ _)
theorem Frs.frs {S T:Nat->Prop}{w a b:World}(h:Frs S w a)(h2:Frs T a b)(hT:∀x,T x->S x):Frs S w b :=
 ⟨h2.os.trans h.os,h2.tape.trans h.tape,h2.out.trans h.out,Nat.le_trans h.size h2.size,fun x hx hn=>(h2.block x (Nat.lt_of_lt_of_le hx h.size) (fun e=>hn (hT x e))).trans (h.block x hx hn)⟩
theorem Bun.kept {A B:World}{R:Nat}{k wd h d len:Int}{g p:Value}{row:Option Nat}(Bn:Bun A R k wd h d len g p)(hg:A.grownBy B row)(hr:∀r,row=some r->∃o:Obj,A.heap[r]?=some o/\o.isCells=false):Bun B R k wd h d len g p :=
 Bn.same (hg.block R Bn.lt (fun e=>by obtain⟨o,ho,hc⟩:=hr R e.symm;rw[Bn.box] at ho;cases ho;cases hc))
theorem ownG_kept {v:Value}{base e s n:Nat}{xs:List Value}{A B:World}{row:Option Nat}(h:A.ownsRow base e s v n xs)(hg:A.grownBy B row)(hr:∀r,row=some r->∃o:Obj,A.heap[r]?=some o/\o.isCells=false):B.ownsRow base e s v n xs:=by
 refine World.ownsRow.kept h hg ?_
 obtain⟨hl,⟨rfl,_⟩ | ⟨g,cap,cur,rfl,_,hb,_⟩⟩:=h
 ·exact .inl rfl
 ·refine .inr fun e=>?_
  obtain⟨o,ho,hc⟩:=hr g e.symm
  rw[hb] at ho
  cases ho
  cases hc
def plainOp (o:Oper):Bool:=match o.op with | .defer _=>false|_=>true
theorem plain_spec {ops:Array Oper}(h:ops.all plainOp=true):∀(i:Nat) (o:Oper),ops[i]?=some o->∀c,o.op≠ .defer c:=by
 intro i o ho c hc
 have h1:=Array.all_eq_true_iff_forall_mem.1 h o (Array.mem_of_getElem? ho)
 unfold plainOp at h1
 rw[hc] at h1
 cases h1
theorem boxed_kept {A B:World}{row:Option Nat}{k:Nat}{t:TypeId}{v:Value}(h:Boxed A k t v)(hg:A.grownBy B row)(hr:∀r,row=some r->∃o:Obj,A.heap[r]?=some o/\o.isCells=false):Boxed B k t v :=
 h.kept hg (fun e=>by obtain⟨o,ho,hc⟩:=hr k e.symm;unfold Boxed at h;rw[h] at ho;cases ho;cases hc)
theorem good_sh {x:Nd}(h:goodB x=true):(x.k=1\/x.k=5)->x.sh=0:=by
 unfold goodB specB at h
 simp only[Bool.and_eq_true] at h
 have h2:=h.1.1.1.1.1.2
 rw[eqNd_iff] at h2
 intro hk
 have h3:=congrArg Nd.sh h2
 rw[h3]
 rcases hk with hk|hk<;>simp[Nd.used,hk]
structure RJ (w:World)(xs:List Nd)(ao:Option Addr)(n cap Bs:Nat)(Z:List Nat)(g p:Value)(W:World):Prop where
 ptr:Boxed W (w.heap.size+1) 75 (.pointer (some ⟨w.heap.size,0,none⟩))
 src:Boxed W Bs 24 (.slice ao n cap)
 bun:Bun W w.heap.size 6 0 (rowTo xs Z).h (rowTo xs Z).d (rowTo xs Z).w g p
 gs:W.ownsRow w.heap.size 34 5 g (rowTo xs Z).gs.length (f5 (rowTo xs Z).gs)
 ps:W.ownsRow w.heap.size 3 1 p (gluesAt xs Z).length ((natI (gluesAt xs Z)).map (Value.int .i64))
def RS2 (w:World)(g p:Value)(b:Nat):Prop:=b=w.heap.size\/g.ownBlock=some b\/p.ownBlock=some b
theorem own_cells_block {W:World}{base e s n k:Nat}{v:Value}{xs:List Value}(h:W.ownsRow base e s v n xs)(hk:v.ownBlock=some k):∃cs,W.heap[k]?=some (.cells cs e (0,0)):=by
 rcases h.2 with ⟨rfl,_⟩ | ⟨g,cap,cur,rfl,_,hh,_⟩
 ·cases hk
 ·simp only[Value.ownBlock,Option.some.injEq] at hk
  subst hk
  exact⟨_,hh⟩
theorem rj_round {w W W':World}{xs:List Nd}{ao:Option Addr}{n cap Bs b off:Nat}{Z:List Nat}{g p:Value}(h:RJ w xs ao n cap Bs Z g p W)(hB:Below w.heap.size w W)(F:Frs (RS2 w g p) W W')(hb:0<xs.length->b<w.heap.size) :
 KeepsOthers W W'/\(Src xs ao Bs b off cap W->Src xs ao Bs b off cap W')/\Boxed W' (w.heap.size+1) 75 (.pointer (some ⟨w.heap.size,0,none⟩))/\Boxed W' Bs 24 (.slice ao n cap)/\Below w.heap.size w W':=by
 have hcell:∀k,RS2 w g p k->∃cs t,W.heap[k]?=some (.cells cs t (0,0))/\t≠75/\t≠24:=by
  intro k hk
  rcases hk with rfl|hk|hk
  ·exact⟨_,130,h.bun.box,by decide,by decide⟩
  ·obtain⟨cs,hc⟩:=own_cells_block h.gs hk
   exact⟨_,34,hc,by decide,by decide⟩
  ·obtain⟨cs,hc⟩:=own_cells_block h.ps hk
   exact⟨_,3,hc,by decide,by decide⟩
 have hge:∀k,RS2 w g p k->w.heap.size<=k:=by
  intro k hk
  rcases hk with rfl|hk|hk
  ·exact Nat.le_refl _
  ·exact(World.ownsRow.lt h.gs k hk).1
  ·exact(World.ownsRow.lt h.ps k hk).1
 have h1:¬RS2 w g p (w.heap.size+1):=fun hk=>by
  obtain⟨cs,t,hc,ht,_⟩:=hcell _ hk
  have:=h.ptr
  unfold Boxed at this
  rw[this] at hc
  cases hc
  exact ht rfl
 have h2:¬RS2 w g p Bs:=fun hk=>by
  obtain⟨cs,t,hc,_,ht⟩:=hcell _ hk
  have:=h.src
  unfold Boxed at this
  rw[this] at hc
  cases hc
  exact ht rfl
 have hbs:=F.block Bs h.src.lt h2
 refine⟨⟨F.size,fun k o hk ho=>?_⟩,fun hsrc=>?_,(F.block _ h.ptr.lt h1).trans h.ptr,hbs.trans h.src,F.toBelow hB hge hB.size⟩
 ·have hlt:=(glt hk)
  refine(F.block k hlt (fun hs=>?_)).trans hk
  obtain⟨cs,t,hc,_⟩:=hcell k hs
  rw[hk] at hc
  cases hc
  cases ho
 ·refine⟨(World.cell?_of_block (w:=W) (a:=⟨Bs,0,none⟩) hbs).trans hsrc.box,hsrc.some_,fun i hi=>?_⟩
  obtain⟨y,hk,hcy⟩:=hsrc.at_ i hi
  have hbl:=hb (by omega)
  refine⟨y,hk,fun j hj=>?_⟩
  exact(World.cell?_of_block (w:=W) (a:=⟨b,off+i*15+j,none⟩) (F.block b (Nat.lt_of_lt_of_le hbl hB.size) (fun hs=>by have:=hge b hs;omega))).trans (hcy j hj)
theorem rj_tall {w W W2:World}{xs:List Nd}{ao:Option Addr}{n cap Bs:Nat}{Z:List Nat}{g p:Value}{o:Obj}(h:RJ w xs ao n cap Bs Z g p W)(hf:Shr.Fr w.heap.size (W.alloc o) W2) :
 W2.ownsRow w.heap.size 34 5 g (rowTo xs Z).gs.length (f5 (rowTo xs Z).gs)/\W2.ownsRow w.heap.size 3 1 p (gluesAt xs Z).length ((natI (gluesAt xs Z)).map (Value.int .i64)):=by
 have k1:=own_neR h.bun h.gs (by decide)
 have k2:=own_neR h.bun h.ps (by decide)
 refine⟨ownG_same h.gs (fun b hb=>?_),ownG_same h.ps (fun b hb=>?_)⟩
 ·have hlt:=(World.ownsRow.lt h.gs b hb).2
  exact(hf.2.2.2.2 b (by simp;omega) (fun e=>k1 (by rw[hb,e]))).trans (Below.heap_alloc _ _ _ hlt)
 ·have hlt:=(World.ownsRow.lt h.ps b hb).2
  exact(hf.2.2.2.2 b (by simp;omega) (fun e=>k2 (by rw[hb,e]))).trans (Below.heap_alloc _ _ _ hlt)
set_option maxRecDepth 100000 in
theorem rowOf_in {v:Value}{xs:List Nd}{w:World}(h:NRow 0 w v xs)(AOK0:AllOk xs)(hin:∀i,i<xs.length->NdIn (xs.getD i Nd.none))(hs0:∀i,i<xs.length->((xs.getD i Nd.none).k=1\/(xs.getD i Nd.none).k=5)->(xs.getD i Nd.none).sh=0) :
 CallsIn Fence.wide 5 Tryz.prog 31 #[v] w fun e W'=>(∃g p,e = .returned (.pointer (some ⟨w.heap.size,0,none⟩))/\Bun W' w.heap.size 6 0 (hpS xs).h (hpS xs).d (hpS xs).w g p/\W'.ownsRow w.heap.size 34 5 g (hpS xs).gs.length (f5 (hpS xs).gs)/\W'.ownsRow w.heap.size 3 1 p (gluesAt xs (begins xs)).length ((natI (gluesAt xs (begins xs))).map (Value.int .i64)))/\Below w.heap.size w W':=by
 have AOK:=hideP AOK0
 have HIN:=hideP hin
 have HS0:=hideP hs0
 obtain⟨ao,n,cap,rfl,hl,hr⟩:=h
 have hnm:n<=20000:=by rw[<-hl];exact AOK0.len
 have HL:=hideP hl
 obtain⟨b,off,hbo⟩:∃b off,0<n->ao=some ⟨b,off,none⟩/\b<w.heap.size/\∀j u,(flatN xs)[j]?=some u->w.cell? ⟨b,off+j,none⟩=some u:=by
  by_cases hn0:0<n
  ·obtain⟨b,off,e,_,hb,hc⟩:=hr hn0
   exact⟨b,off,fun _=>⟨e,hb,row_cells (fun i hi=>hc i (by rw[<-hl];exact hi))⟩⟩
  ·exact⟨0,0,fun h=>absurd h hn0⟩
 have HBO:=hideP hbo
 clear hr hl hbo AOK0 hin hs0
 refine callsIn_of_wp_marks Tryz.func31 rfl trivial ?_ rfl
 simp only[Tryz.ntmps31,List.size_toArray,List.length_cons,List.length_nil,Nat.reduceAdd,Nat.reduceSub,Array.replicate_succ,Array.replicate_zero,List.push_toArray,List.append_toArray,List.nil_append,List.cons_append]
 gi_wp2_with fail
 refine⟨trivial,CallsIn.mono (callsIn_wide.2 (eachItem_any ao n cap _)) ?_⟩
 rintro e w2 ⟨rfl,rfl⟩
 gi_wp2_with fail
 obtain⟨W0,hW0⟩:=exq (((w.alloc (.cells #[.int .i64 6,.int .i64 0,.int .i64 0,.int .i64 0,.int .i64 0,.int .i64 0,.int .i64 0,.slice none 0 0,.slice none 0 0] 130)).alloc (.cells #[.pointer (some ⟨w.heap.size,0,none⟩)] 75)).alloc (.cells #[.slice ao n cap] 24))
 rw[<-hW0]
 have hB0:Below w.heap.size w W0:=by rw[hW0];exact below3 _ _ _ _
 have hptr:Boxed W0 (w.heap.size+1) 75 (.pointer (some ⟨w.heap.size,0,none⟩)):=by
  rw[hW0]
  have h:=Boxed.new (w.alloc (.cells #[.int .i64 6,.int .i64 0,.int .i64 0,.int .i64 0,.int .i64 0,.int .i64 0,.int .i64 0,.slice none 0 0,.slice none 0 0] 130)) 75 (.pointer (some ⟨w.heap.size,0,none⟩))
  rw[World.size_alloc] at h
  exact h.alloc _
 have hsrc:Boxed W0 (w.heap.size+1+1) 24 (.slice ao n cap):=by
  rw[hW0]
  have h:=Boxed.new ((w.alloc (.cells #[.int .i64 6,.int .i64 0,.int .i64 0,.int .i64 0,.int .i64 0,.int .i64 0,.int .i64 0,.slice none 0 0,.slice none 0 0] 130)).alloc (.cells #[.pointer (some ⟨w.heap.size,0,none⟩)] 75)) 24 (.slice ao n cap)
  rw[World.size_alloc,World.size_alloc] at h
  exact h
 have hbun:Bun W0 w.heap.size 6 0 0 0 0 (.slice none 0 0) (.slice none 0 0):=by
  rw[hW0]
  exact Bun.alloc (Bun.alloc ⟨heap_alloc_new w _⟩ _) _
 have hsz:W0.heap.size=w.heap.size+3:=by rw[hW0];simp
 clear hW0
 obtain⟨Bs,hBs⟩:=exq (w.heap.size+1+1)
 rw[<-hBs] at hsrc ⊢
 have HSR:Hid (Src xs ao Bs b off cap W0):=hideP (by
  refine⟨by rw[HL.out];exact hsrc.cell,fun h=>(HBO.out (by rw[<-HL.out];exact h)).1,fun i hi=>⟨xs.getD i Nd.none,⟨rfl,rfl⟩,fun j hj=>?_⟩⟩
  obtain⟨_,hbw,hcell⟩:=HBO.out (by rw[<-HL.out];omega)
  have h1:=flatN_get xs i hi j hj
  rw[List.getElem?_eq_getElem (show j<(xs.getD i Nd.none).cells.length from hj)] at h1 ⊢
  have h2:=hcell _ _ h1
  rw[show off+i*15+j=off+(i*15+j) by omega]
  exact(hB0.cell (p:=⟨b,off+(i*15+j),none⟩) hbw).trans h2)
 have HBW:Hid (0<xs.length->b<w.heap.size):=hideP (fun h=>(HBO.out (by rw[<-HL.out];exact h)).2.1)
 have hys2:xs.length<=20000/\∀i,i<xs.length->0<=(xs.getD i Nd.none).kids/\(xs.getD i Nd.none).kids<=20000:=⟨AOK.out.len,AOK.out.weak⟩
 refine wpIn_rangeFunc_ownF (F:=Fence.wide) (n:=5) rfl (by omega) (gf:=65) (lb:=#[.pointer (some ⟨Bs,0,none⟩)]) rfl trivial (enters_of Tryz.func65 (by kernel_rfl) rfl)
  (each_stops 4 (by omega) xs ao Bs b off cap hys2.1 hys2.2 W0 HSR.out) (fun h1 h2 h=>h2 (h1 h)) ?keepb (Below.refl _ _) (fun _=>rfl)
  (fun pre W=>(∃g p,RJ w xs ao n cap Bs (pre.map (fun x=>x.1.1)) g p W)/\Below w.heap.size w W)
  (fun _ _ _=>False) ?ownI (fun _ _ _ _ _ hs _ _=>hs) ?start ?a1z ?assign ?body ?done ?stop
 case assign =>
  intro l x W K hK
  simp[Item.encs]
  gi_wp2
  exact hK
 case start=>exact⟨⟨_,_,⟨hptr,hsrc,hbun,World.ownsRow_nil _ _ _ _,World.ownsRow_nil _ _ _ _⟩⟩,hB0⟩
 case keepb =>
  intro W l o o' hl hlo hoc _ hsrc
  exact hsrc.kept (grownBy_putObj' W l o') (fun r e=>by cases e;exact⟨o,hlo,hoc⟩)
 case ownI =>
  refine OwnFrom.and (Own.from ?_ _) (ownFrom_below (Nat.le_refl _) (by omega))
  rintro s A B row ⟨g,p,h1⟩ hg hr
  exact⟨g,p,boxed_kept h1.ptr hg hr,boxed_kept h1.src hg hr,h1.bun.kept hg hr,ownG_kept h1.gs hg hr,ownG_kept h1.ps hg hr⟩
 case stop =>
  rintro D c pre W _ _ h _
  exact h.elim
 case done =>
  rintro D its' W hD hst ⟨⟨g,p,hj⟩,hB⟩ hK
  have hc2:=hj.ptr.cell
  have HJ:Hid (RJ w xs ao n cap Bs (begins xs) g p W):=hideP (by
   have e:its'.map (fun x=>x.1.1)=begins xs:=hst
   rw[e] at hj
   exact hj)
  have HBB:=hideP hB
  clear hj hB
  gi_wp2
  refine⟨by simp,.inl ⟨_,_,rfl,run_takeDeferred hK,?_⟩⟩
  have hg:=grownBy_putObj' W D (.deferred none)
  have hr:∀r,(some D)=some r->∃o:Obj,W.heap[r]?=some o/\o.isCells=false:=fun r e=>by cases e;exact⟨_,hK,rfl⟩
  exact⟨_,results_tmp rfl _ _ _,⟨g,p,rfl,HJ.out.bun.kept hg hr,ownG_kept HJ.out.gs hg hr,ownG_kept HJ.out.ps hg hr⟩,HBB.out.trans (belowK_b (w:=w) (Nat.le_refl _) W D _ _ (by omega) hK rfl rfl)⟩
 case body =>
  rintro l pre x W ⟨⟨g,p,hj⟩,hB⟩ hpl
  have hat:=x.2.1
  obtain⟨y,hy,hyq⟩:=x.2.2
  have hvt:x.1.2=thV (xs.getD x.1.1 Nd.none):=by rw[hyq.2.2,hy.1]
  obtain⟨at_,ha⟩:∃a,x.1.1=a:=⟨_,rfl⟩
  obtain⟨vt,hv⟩:∃v,x.1.2=v:=⟨_,rfl⟩
  rw[hv,ha] at hvt
  rw[ha] at hat
  rw[ha,hv]
  obtain⟨Z,hZ⟩:=exq (pre.map (fun x=>x.1.1))
  rw[<-hZ] at hj
  have HA:Hid ((pre++[x]).map (fun x=>x.1.1)=Z++[at_]):=hideP (by rw[List.map_append,List.map_singleton,ha,<-hZ])
  have HZ:Hid (∀q∈Z,q<xs.length):=hideP (by rw[hZ];intro q hq;obtain⟨z,_,rfl⟩:=List.mem_map.1 hq;exact z.2.1)
  have hZl:Z.length=pre.length:=by rw[hZ,List.length_map]
  have HRI:Hid (RIn (rowTo xs Z) Z.length):=hideP (rowTo_in xs HIN.out Z HZ.out)
  have hzl:Z.length<=20000:=by have:=HL.out;omega
  have hNI:=HIN.out at_ hat
  have hS0:=HS0.out at_ hat
  have hwb : -1152921504606846976<=(rowTo xs Z).w/\(rowTo xs Z).w<=1152921504606846976:=⟨by have:=HRI.out.w1;omega,by have:=HRI.out.w2;omega⟩
  have hgl:(rowTo xs Z).gs.length<=20001:=by have:=HRI.out.n;omega
  have hpl2:(gluesAt xs Z).length<=20001:=by have:=List.length_filter_le (fun p=>(xs.getD p Nd.none).k == 3) Z;unfold gluesAt;omega
  clear ha hv hy hyq hZ hZl hpl
  obtain⟨nd,hnd⟩:=exq (xs.getD at_ Nd.none)
  rw[<-hnd] at hvt hNI hS0
  have HSS:=hideP hS0
  clear hS0
  have HND:Hid (rowTo xs (Z++[at_])=rowStep (rowTo xs Z) nd):=hideP (by rw[rowTo_snoc,hnd])
  have HG3:Hid (nd.k=3->gluesAt xs (Z++[at_])=gluesAt xs Z++[at_]):=hideP (fun e=>gluesAt_yes xs Z (by rw[<-hnd];exact e))
  have HG0:Hid (nd.k≠3->gluesAt xs (Z++[at_])=gluesAt xs Z):=hideP (fun e=>gluesAt_no xs Z (by rw[<-hnd];exact e))
  obtain⟨l0,l1,l2,l3,l4,AL,AL'⟩:=ask_letter nd
  obtain⟨r0,r1,r2,AR,AR'⟩:=ask_rule nd
  obtain⟨x0,x1,x2,x3,x4,x5,AX,AX'⟩:=ask_box nd
  obtain⟨k0,AK,AK'⟩:=ask_kern nd
  obtain⟨s0,s1,s2,s3,s4,s5,AS,AS'⟩:=ask_space nd
  have hsh:=thV_shape nd
  rw[<-hvt] at AL AR AX AK AS hsh
  have hcp:=hj.ptr.cell
  have HJ:=hideP hj
  have HBB:=hideP hB
  have hlt:=hj.ptr.lt
  have hlt0:=hj.bun.lt
  clear hj hB hvt hnd hsh hBs
  by_cases h1:nd.k=1
  ·have hk:nd.k=1\/nd.k=1:= .inl h1
   have qAL:(nd.k == 1)=true:=by rcases hk with hk|hk<;>simp[hk]
   rw[qAL] at AL
   have qAR:(nd.k == 5)=false:=by simp;omega
   rw[qAR] at AR
   have qAX:(nd.k == 6||nd.k == 7)=false:=by simp;omega
   rw[qAX] at AX
   have qAK:(nd.k == 2)=false:=by simp;omega
   rw[qAK] at AK
   have qAS:(nd.k == 3)=false:=by simp;omega
   rw[qAS] at AS
   obtain⟨rfl,rfl,rfl⟩:=AL' (by omega)
   clear AL' AR' AX' AK' AS' qAL qAR qAX qAK qAS
   gi_wp2_with (rw[Oper.semAt_some _ _ _ (by intro c h;cases h)];unfold execOp;simp only[Act.eval];go_simp)
   refine⟨trivial,CallsIn.mono (callsIn_wide.2 (beside_any nd.wd nd.ht nd.dp 0 (HJ.out.bun.alloc _) hwb hNI.wd hNI.ht hNI.dp ⟨by omega,by omega⟩)) ?_⟩
   rintro e W2 ⟨⟨vr,rfl⟩,hbun2,hfr2⟩
   have F2:=Frs.fr ((Frs.refl (RS2 w g p) W).alloc _) hfr2 (.inl rfl)
   obtain⟨d1,d2,d3,d4,d5⟩:=rj_round HJ.out HBB.out F2 HBW.out
   obtain⟨e1,e2⟩:=rj_tall HJ.out hfr2
   have HD:Hid (KeepsOthers W W2/\(Src xs ao Bs b off cap W->Src xs ao Bs b off cap W2)/\RJ w xs ao n cap Bs (Z++[at_]) g p W2/\Below w.heap.size w W2):=hideP (by
    refine⟨d1,d2,⟨d3,d4,?_,?_,?_⟩,d5⟩
    ·rw[HND.out,rowStep_1 h1]
     show Bun W2 _ 6 0 (Shr.mxI (rowTo xs Z).h (nd.ht-nd.sh)) (Shr.mxI (rowTo xs Z).d (nd.dp+nd.sh)) ((rowTo xs Z).w+nd.wd) g p
     rw[HSS.out (by omega)]
     exact hbun2
    ·rw[HND.out,rowStep_1 h1];exact e1
    ·rw[HG0.out (by omega)];exact e2)
   clear d1 d2 d3 d4 d5 e1 e2 F2 hbun2 hfr2
   gi_wp2
   exact⟨HD.out.1,HD.out.2.1,⟨_,_,by have h:=HD.out.2.2.1;rw[<-HA.out] at h;exact h⟩,HD.out.2.2.2⟩
  by_cases h5:nd.k=5
  ·have hk:nd.k=5\/nd.k=5:= .inl h5
   have qAL:(nd.k == 1)=false:=by simp;omega
   rw[qAL] at AL
   have qAR:(nd.k == 5)=true:=by rcases hk with hk|hk<;>simp[hk]
   rw[qAR] at AR
   have qAX:(nd.k == 6||nd.k == 7)=false:=by simp;omega
   rw[qAX] at AX
   have qAK:(nd.k == 2)=false:=by simp;omega
   rw[qAK] at AK
   have qAS:(nd.k == 3)=false:=by simp;omega
   rw[qAS] at AS
   obtain⟨rfl,rfl,rfl⟩:=AR' (by omega)
   clear AL' AR' AX' AK' AS' qAL qAR qAX qAK qAS
   gi_wp2_with (rw[Oper.semAt_some _ _ _ (by intro c h;cases h)];unfold execOp;simp only[Act.eval];go_simp)
   refine⟨trivial,CallsIn.mono (callsIn_wide.2 (beside_any nd.wd nd.ht nd.dp 0 (HJ.out.bun.alloc _) hwb hNI.wd hNI.ht hNI.dp ⟨by omega,by omega⟩)) ?_⟩
   rintro e W2 ⟨⟨vr,rfl⟩,hbun2,hfr2⟩
   have F2:=Frs.fr ((Frs.refl (RS2 w g p) W).alloc _) hfr2 (.inl rfl)
   obtain⟨d1,d2,d3,d4,d5⟩:=rj_round HJ.out HBB.out F2 HBW.out
   obtain⟨e1,e2⟩:=rj_tall HJ.out hfr2
   have HD:Hid (KeepsOthers W W2/\(Src xs ao Bs b off cap W->Src xs ao Bs b off cap W2)/\RJ w xs ao n cap Bs (Z++[at_]) g p W2/\Below w.heap.size w W2):=hideP (by
    refine⟨d1,d2,⟨d3,d4,?_,?_,?_⟩,d5⟩
    ·rw[HND.out,rowStep_5 h5]
     show Bun W2 _ 6 0 (Shr.mxI (rowTo xs Z).h (nd.ht-nd.sh)) (Shr.mxI (rowTo xs Z).d (nd.dp+nd.sh)) ((rowTo xs Z).w+nd.wd) g p
     rw[HSS.out (by omega)]
     exact hbun2
    ·rw[HND.out,rowStep_5 h5];exact e1
    ·rw[HG0.out (by omega)];exact e2)
   clear d1 d2 d3 d4 d5 e1 e2 F2 hbun2 hfr2
   gi_wp2
   exact⟨HD.out.1,HD.out.2.1,⟨_,_,by have h:=HD.out.2.2.1;rw[<-HA.out] at h;exact h⟩,HD.out.2.2.2⟩
  by_cases h6:nd.k=6\/nd.k=7
  ·have hk:=h6
   have hst:∀s,rowStep s nd=s.tall nd:=fun s=>by rcases h6 with h|h;exact rowStep_6 h;exact rowStep_7 h
   have qAL:(nd.k == 1)=false:=by simp;omega
   rw[qAL] at AL
   have qAR:(nd.k == 5)=false:=by simp;omega
   rw[qAR] at AR
   have qAX:(nd.k == 6||nd.k == 7)=true:=by rcases hk with hk|hk<;>simp[hk]
   rw[qAX] at AX
   have qAK:(nd.k == 2)=false:=by simp;omega
   rw[qAK] at AK
   have qAS:(nd.k == 3)=false:=by simp;omega
   rw[qAS] at AS
   obtain⟨rfl,rfl,rfl,rfl⟩:=AX' (by omega)
   clear AL' AR' AX' AK' AS' qAL qAR qAX qAK qAS
   gi_wp2_with (rw[Oper.semAt_some _ _ _ (by intro c h;cases h)];unfold execOp;simp only[Act.eval];go_simp)
   refine⟨trivial,CallsIn.mono (callsIn_wide.2 (beside_any nd.wd nd.ht nd.dp nd.sh (HJ.out.bun.alloc _) hwb hNI.wd hNI.ht hNI.dp hNI.sh)) ?_⟩
   rintro e W2 ⟨⟨vr,rfl⟩,hbun2,hfr2⟩
   have F2:=Frs.fr ((Frs.refl (RS2 w g p) W).alloc _) hfr2 (.inl rfl)
   obtain⟨d1,d2,d3,d4,d5⟩:=rj_round HJ.out HBB.out F2 HBW.out
   obtain⟨e1,e2⟩:=rj_tall HJ.out hfr2
   have HD:Hid (KeepsOthers W W2/\(Src xs ao Bs b off cap W->Src xs ao Bs b off cap W2)/\RJ w xs ao n cap Bs (Z++[at_]) g p W2/\Below w.heap.size w W2):=hideP (by
    refine⟨d1,d2,⟨d3,d4,?_,?_,?_⟩,d5⟩
    ·rw[HND.out,hst]
     show Bun W2 _ 6 0 (Shr.mxI (rowTo xs Z).h (nd.ht-nd.sh)) (Shr.mxI (rowTo xs Z).d (nd.dp+nd.sh)) ((rowTo xs Z).w+nd.wd) g p
     exact hbun2
    ·rw[HND.out,hst];exact e1
    ·rw[HG0.out (by omega)];exact e2)
   clear d1 d2 d3 d4 d5 e1 e2 F2 hbun2 hfr2
   gi_wp2
   exact⟨HD.out.1,HD.out.2.1,⟨_,_,by have h:=HD.out.2.2.1;rw[<-HA.out] at h;exact h⟩,HD.out.2.2.2⟩
  by_cases h2:nd.k=2
  ·have qAL:(nd.k == 1)=false:=by simp;omega
   rw[qAL] at AL
   have qAR:(nd.k == 5)=false:=by simp;omega
   rw[qAR] at AR
   have qAX:(nd.k == 6||nd.k == 7)=false:=by simp;omega
   rw[qAX] at AX
   have qAK:(nd.k == 2)=true:=by simp[h2]
   rw[qAK] at AK
   have qAS:(nd.k == 3)=false:=by simp;omega
   rw[qAS] at AS
   obtain rfl:=AK' h2
   clear AL' AR' AX' AK' AS' qAL qAR qAX qAK qAS
   gi_wp2_with (rw[Oper.semAt_some _ _ _ (by intro c h;cases h)];unfold execOp;simp only[Act.eval];go_simp)
   have hwr:IntKind.i64.wrap ((rowTo xs Z).w+nd.wd)=(rowTo xs Z).w+nd.wd:=by have:=hNI.wd;rw[IntKind.wrap_i64];omega
   obtain⟨WA,hWA⟩:=exq (W.alloc (.cells #[.int .i64 nd.wd] 137))
   rw[<-hWA]
   have BA:Hid (Bun WA w.heap.size 6 0 (rowTo xs Z).h (rowTo xs Z).d (rowTo xs Z).w g p):=hideP (by rw[hWA];exact HJ.out.bun.alloc _)
   have hcpA:WA.cell? ⟨w.heap.size+1,0,none⟩=some (.pointer (some ⟨w.heap.size,0,none⟩)):=by rw[hWA];exact(HJ.out.ptr.alloc _).cell
   have hcT:WA.cell? ⟨W.heap.size,0,none⟩=some (.int .i64 nd.wd):=by rw[hWA];simp[go_sem]
   have hc6:=BA.out.cells.2.2.2.2.2.2.1
   have fzA:=BA.out.free
   have hltA:=BA.out.lt
   have hTw:w.heap.size+1<W.heap.size:=hlt
   have W9:Hid (Bun (WA.setCell ⟨w.heap.size,6,none⟩ (.int .i64 ((rowTo xs Z).w+nd.wd))) w.heap.size 6 0 (rowTo xs Z).h (rowTo xs Z).d ((rowTo xs Z).w+nd.wd) g p/\Shr.Fr w.heap.size (W.alloc (.cells #[.int .i64 nd.wd] 137)) (WA.setCell ⟨w.heap.size,6,none⟩ (.int .i64 ((rowTo xs Z).w+nd.wd)))):=hideP ⟨BA.out.setL _,by rw[hWA];exact Shr.Fr.set (Shr.Fr.refl _ _) (.inl rfl) _⟩
   clear hWA
   refine region_heldR (S:=fun X=>X.cell? ⟨w.heap.size+1,0,none⟩=some (.pointer (some ⟨w.heap.size,0,none⟩))/\X.cell? ⟨W.heap.size,0,none⟩=some (.int .i64 nd.wd)) (by kernel_rfl) (plain_spec (by kernel_rfl)) (by rintro⟨a,w,h⟩;exact h) ?_
   have hS:WA.drew.cell? ⟨w.heap.size+1,0,none⟩=some (.pointer (some ⟨w.heap.size,0,none⟩))/\WA.drew.cell? ⟨W.heap.size,0,none⟩=some (.int .i64 nd.wd):=⟨hcpA,hcT⟩
   refine tkS (i:=0) (v:= .pointer (some ⟨w.heap.size,0,none⟩)) rfl hS ?_
   try simp only[sput]
   refine tkS (i:=1) (v:= .pointer (some ⟨w.heap.size,0,none⟩)) rfl hS ?_
   try simp only[sput]
   refine tkS (i:=2) (v:= .pointer (some ⟨w.heap.size,6,none⟩)) rfl hS ?_
   try simp only[sput]
   refine tkS (i:=4) (v:= .pointer (some ⟨W.heap.size,0,none⟩)) rfl hS ?_
   try simp only[sput]
   refine tkS (i:=5) (v:= .int .i64 nd.wd) rfl hS ?_
   try simp only[sput]
   refine rdS (i:=3) rfl (fun K hK=>?_)
   go_simp
   refine hK.out _ _ hS (fun _=>?_)
   try simp only[sput]
   clear hK K
   refine tkS (i:=6) (v:= .int .i64 ((rowTo xs Z).w+nd.wd)) rfl hS ?_ (hr:=fun wx hx=>by obtain⟨hx1,hx2⟩:=hx;go_simp;first|done|(go_num;done)|(go_bits;done)|(go_bits;trivial))
   try simp only[sput]
   refine tkS (i:=7) (v:= .pointer (some ⟨w.heap.size,0,none⟩)) rfl hS ?_
   try simp only[sput]
   refine tkS (i:=8) (v:= .pointer (some ⟨w.heap.size,6,none⟩)) rfl hS ?_
   try simp only[sput]
   refine rdS (i:=9) rfl (fun K hK=>?_)
   go_simp
   refine hK.out _ _ ⟨(World.cell?_setCell_far _ _ _ _ (by simp)).trans hcpA,(World.cell?_setCell_far _ _ _ _ (by simp;omega)).trans hcT⟩ (fun _=>?_)
   try simp only[sput]
   clear hK K
   refine wpAnyH_done (by kernel_rfl) ?_ _
   obtain⟨W2,hW2⟩:=exq ((WA.setCell ⟨w.heap.size,6,none⟩ (.int .i64 ((rowTo xs Z).w+nd.wd))).drew)
   rw[<-hW2]
   have hbun2:Bun W2 w.heap.size 6 0 (rowTo xs Z).h (rowTo xs Z).d ((rowTo xs Z).w+nd.wd) g p:=by rw[hW2];exact W9.out.1.drew
   have hfr2:Shr.Fr w.heap.size (W.alloc (.cells #[.int .i64 nd.wd] 137)) W2:=by rw[hW2];exact Shr.Fr.drew W9.out.2
   clear hW2
   have F2:=Frs.fr ((Frs.refl (RS2 w g p) W).alloc _) hfr2 (.inl rfl)
   obtain⟨d1,d2,d3,d4,d5⟩:=rj_round HJ.out HBB.out F2 HBW.out
   obtain⟨e1,e2⟩:=rj_tall HJ.out hfr2
   have HD:Hid (KeepsOthers W W2/\(Src xs ao Bs b off cap W->Src xs ao Bs b off cap W2)/\RJ w xs ao n cap Bs (Z++[at_]) g p W2/\Below w.heap.size w W2):=hideP (by
    refine⟨d1,d2,⟨d3,d4,?_,?_,?_⟩,d5⟩
    ·rw[HND.out,rowStep_2 h2];exact hbun2
    ·rw[HND.out,rowStep_2 h2];exact e1
    ·rw[HG0.out (by omega)];exact e2)
   clear d1 d2 d3 d4 d5 e1 e2 F2 hbun2 hfr2
   gi_wp2
   exact⟨HD.out.1,HD.out.2.1,⟨_,_,by have h:=HD.out.2.2.1;rw[<-HA.out] at h;exact h⟩,HD.out.2.2.2⟩
  by_cases h3:nd.k=3
  ·have qAL:(nd.k == 1)=false:=by simp;omega
   rw[qAL] at AL
   have qAR:(nd.k == 5)=false:=by simp;omega
   rw[qAR] at AR
   have qAX:(nd.k == 6||nd.k == 7)=false:=by simp;omega
   rw[qAX] at AX
   have qAK:(nd.k == 2)=false:=by simp;omega
   rw[qAK] at AK
   have qAS:(nd.k == 3)=true:=by simp[h3]
   rw[qAS] at AS
   obtain⟨rfl,rfl,rfl,rfl,rfl,rfl⟩:=AS' h3
   clear AL' AR' AX' AK' AS' qAL qAR qAX qAK qAS
   gi_wp2_with (rw[Oper.semAt_some _ _ _ (by intro c h;cases h)];unfold execOp;simp only[Act.eval];go_simp)
   refine⟨trivial,CallsIn.mono (callsIn_wide.2 (addGlue_any (at_:Int) (glOf nd) (HJ.out.bun.alloc _) (HJ.out.gs.alloc _) (HJ.out.ps.alloc _) (Nat.le_refl _) hgl hpl2)) ?_⟩
   rintro e W2 ⟨⟨vr,rfl⟩,⟨g',p',hbun2,hg2,hp2⟩,hfr2⟩
   have F2:Frs (RS2 w g p) W W2:=Frs.frs ((Frs.refl (RS2 w g p) W).alloc _) hfr2 (fun x hx=>hx)
   obtain⟨d1,d2,d3,d4,d5⟩:=rj_round HJ.out HBB.out F2 HBW.out
   have HD:Hid (KeepsOthers W W2/\(Src xs ao Bs b off cap W->Src xs ao Bs b off cap W2)/\RJ w xs ao n cap Bs (Z++[at_]) g' p' W2/\Below w.heap.size w W2):=hideP (by
    refine⟨d1,d2,⟨d3,d4,?_,?_,?_⟩,d5⟩
    ·rw[HND.out,rowStep_3 h3];exact hbun2
    ·rw[HND.out,rowStep_3 h3];show W2.ownsRow _ 34 5 g' ((rowTo xs Z).gs++[glOf nd]).length (f5 ((rowTo xs Z).gs++[glOf nd]));rw[List.length_append];exact hg2
    ·rw[HG3.out h3,List.length_append];unfold natI;rw[List.map_append,List.map_append];exact hp2)
   clear d1 d2 d3 d4 d5 F2 hbun2 hfr2 hg2 hp2
   gi_wp2
   exact⟨HD.out.1,HD.out.2.1,⟨_,_,by have h:=HD.out.2.2.1;rw[<-HA.out] at h;exact h⟩,HD.out.2.2.2⟩
  have hn1:rowStep (rowTo xs Z) nd=rowTo xs Z:=rowStep_0 h1 h2 h3 h5 (by omega) (by omega)
  have qAL:(nd.k == 1)=false:=by simp;omega
  rw[qAL] at AL
  have qAR:(nd.k == 5)=false:=by simp;omega
  rw[qAR] at AR
  have qAX:(nd.k == 6||nd.k == 7)=false:=by simp;omega
  rw[qAX] at AX
  have qAK:(nd.k == 2)=false:=by simp;omega
  rw[qAK] at AK
  have qAS:(nd.k == 3)=false:=by simp;omega
  rw[qAS] at AS
  have HD:Hid (RJ w xs ao n cap Bs (Z++[at_]) g p W):=hideP (by
   obtain⟨c1,c2,c3,c4,c5⟩:=HJ.out
   refine⟨c1,c2,?_,?_,?_⟩
   ·rw[HND.out,hn1];exact c3
   ·rw[HND.out,hn1];exact c4
   ·rw[HG0.out h3];exact c5)
  clear AL' AR' AX' AK' AS' qAL qAR qAX qAK qAS hn1
  gi_wp2_with (rw[Oper.semAt_some _ _ _ (by intro c h;cases h)];unfold execOp;simp only[Act.eval];go_simp)
  exact⟨KeepsOthers.refl _,id,⟨_,_,by have h:=HD.out;rw[<-HA.out] at h;exact h⟩,HBB.out⟩
end Go.Proofs.YtbbehmcekbnkiaaGreat

import Derived.Test.YtbbehmcekbnkiaaGreatBslt
namespace Go.Proofs.YtbbehmcekbnkiaaGreat
open Go.RowKit
set_option linter.unusedVariables false
set_option linter.unusedSimpArgs false
theorem Tryz.info24:(Tryz.prog.info? 24).map (fun i=>(i.zero,i.size,i.bytes))=some (some (.slice none 0 0),1,24):=by kernel_rfl
theorem pb_six {w W:World}{T:Nat}(h:PB w W)(hT:w.heap.size<T)(a b c d e f:Int):PB w (Shr.six W T a b c d e f) :=
 ⟨Shr.six_other h.box (by omega) _ _ _ _ _ _,by
  have h0:=h.bel
  repeat(first|with_reducible exact h0|(with_reducible refine Below.setCell ?_ ?_ _;rotate_left;focus(show w.heap.size<=T;omega)))⟩
theorem own_six {W:World}{base e s n T:Nat}{v:Value}{ys:List Value}{a0 b0 c0 d0 e0 f0:Int}(h:W.ownsRow base e s v n ys)(hT:W.heap[T]?=some (Shr.setO a0 b0 c0 d0 e0 f0))(he:e≠28)(a b c d e' f:Int):(Shr.six W T a b c d e' f).ownsRow base e s v n ys :=
 ownG_same h (fun g hg=>Shr.six_same (fun q=>by
  subst q
  obtain⟨cs,hc⟩:=own_cells_block h hg
  rw[hT] at hc
  cases hc
  exact he rfl) _ _ _ _ _ _)
theorem nn_below {w W:World}{v:Value}{xs:List Nd}(h:NN 0 w v xs)(hb:Below w.heap.size w W):NN 0 W v xs:=by
 rcases h with h | ⟨b,off,cap,h1,h2,h3,h4,h5⟩
 ·exact .inl h
 ·refine .inr ⟨b,off,cap,h1,h2,h3,fun hp=>Nat.lt_of_lt_of_le (h4 hp) hb.size,fun j u hj=>?_⟩
  have hlt:j<(flatN xs).length:=(List.getElem?_eq_some_iff.1 hj).1
  rw[flatN_len] at hlt
  exact(hb.cell (p:=⟨b,off+j,none⟩) (h4 (by omega))).trans (h5 j u hj)
theorem put_own {w:World}{base n:Nat}{ao:Option Addr}{cap:Nat}{L:List Value}(h:w.ownsRow base 36 15 (.slice ao n cap) n L)(h1:∀u∈L,u.oneCell'=true):Put w (.slice ao n cap) n L:=by
 refine⟨ao,cap,rfl,h.1,h1,?_⟩
 rcases h.2 with ⟨e,h0⟩ | ⟨g,c,cur,e,_,hh,_⟩
 ·cases e
  exact .inl ⟨rfl,rfl,rfl⟩
 ·cases e
  exact .inr ⟨g,0,rfl,(glt hh),fun j u hj=>by rw[Nat.zero_add];exact(own_cell h hj).1⟩
theorem set_next {xs:List Nd}{ps:List Nat}{ls:List Int}{j:Nat}(hj:j<ps.length)(hl:ls.length=ps.length)(b:Nd):b :: setL (ps.take (j+1)) (ls.take (j+1)) xs=(b :: setL (ps.take j) (ls.take j) xs).set (ps.getD j 0+1) (((b :: setL (ps.take j) (ls.take j) xs).getD (ps.getD j 0+1) Nd.none).wide (ls.getD j 0)):=by
 have h1:ps.take (j+1)=ps.take j++[ps.getD j 0]:=by rw[List.take_succ_eq_append_getElem hj];simp[List.getD,List.getElem?_eq_getElem hj]
 have h2:ls.take (j+1)=ls.take j++[ls.getD j 0]:=by rw[List.take_succ_eq_append_getElem (by omega)];simp[List.getD,List.getElem?_eq_getElem (show j<ls.length by omega)]
 rw[h1,h2,setL_snoc _ _ _ _ _ (by rw[List.length_take,List.length_take];omega),List.set_cons_succ]
 rfl
structure PInv (w wr:World)(T O g N uc m:Nat)(X:List Nd)(L:List Value)(z0 z1 z2 z3 z4 z5:Int):Prop where
 pb:PB w wr
 set:wr.heap[T]?=some (Shr.setO z0 z1 z2 z3 z4 z5)
 wid:wr.ownsRow w.heap.size 2 1 (.slice (some ⟨O,0,none⟩) m m) m L
 own:wr.ownsRow w.heap.size 36 15 (.slice (some ⟨g,0,none⟩) N uc) N (flatN X)
theorem PInv.put {w wr:World}{T O g N uc m:Nat}{X:List Nd}{L:List Value}{z0 z1 z2 z3 z4 z5:Int}(h:PInv w wr T O g N uc m X L z0 z1 z2 z3 z4 z5)(hX:X.length=N){q:Nat}(hq:q<N)(hg:w.heap.size<=g)(l:Int):PInv w (wr.setCell ⟨g,q*15+1,none⟩ (.int .i64 l)) T O g N uc m (X.set q ((X.getD q Nd.none).wide l)) L z0 z1 z2 z3 z4 z5:=by
 have hne:∀{e:Nat} {cs:Array Value} {k:Nat},wr.heap[k]?=some (.cells cs e (0,0))->e≠36->k≠g:=by
  intro e cs k hk he hkg
  subst hkg
  obtain⟨cs',hc⟩:=own_cells_block h.own rfl
  rw[hk] at hc
  cases hc
  exact he rfl
 refine⟨⟨(Below.heap_setCell _ _ _ _ (hne h.pb.box (by decide))).trans h.pb.box,h.pb.bel.setCell hg _⟩,(Below.heap_setCell _ _ _ _ (hne h.set (by decide))).trans h.set,?_,?_⟩
 ·refine ownG_same h.wid (fun b hb=>Below.heap_setCell _ _ _ _ ?_)
  obtain⟨cs,hc⟩:=own_cells_block h.wid hb
  exact hne hc (by decide)
 ·rw[flatN_wide _ _ _ (by rw[hX];exact hq)]
  exact own_set h.own _ _
set_option maxRecDepth 20000 in
set_option maxHeartbeats 8000000 in
theorem pack_yes {v:Value}{xs:List Nd}{w:World}{R B0:Nat}{g p:Value}(mode size:Int)(B:Bun w R 6 0 (hpS xs).h (hpS xs).d (hpS xs).w g p)(og:w.ownsRow B0 34 5 g (hpS xs).gs.length (f5 (hpS xs).gs))(op:w.ownsRow B0 3 1 p (gluesAt xs (begins xs)).length ((natI (gluesAt xs (begins xs))).map (Value.int .i64)))(hN:NN 0 w v xs)(hl:listB xs=true)(hfs:fitsB size=true)(hno:(decide ((hpS xs).gs.length<=10000)&&fitsB (hpS xs).w&&fitsB (hpTo xs mode size))=true) :
 Calls Tryz.prog 32 #[.pointer (some ⟨R,0,none⟩),v,.int .i64 mode,.int .i64 size] w fun e w'=>Below w.heap.size w w'/\PakP xs mode size w.heap.size (prgB xs mode size) e w':=by
 have hin:=hpS_in hl
 have hbl:=begins_len hl
 obtain⟨gs,hgs⟩:=exq ((hpS xs).gs)
 have HW:Hid (∀W,Below w.heap.size w W->Calls Tryz.prog 58 #[.pointer (some ⟨R,0,none⟩),.int .i64 mode,.int .i64 size] W fun e w'=>e = .returned (.int .i64 (hpTo xs mode size))/\Below W.heap.size W w'):=hideP (fun W hW=>wanted_any mode size (B.below hW) (own_GRow (ownG_below og hW) rfl) (fun x hx=>by
  have h:=hin.ok x hx
  unfold Shr.Gl.ok Shr.okB Shr.fitsB at h
  simp only[Bool.and_eq_true,decide_eq_true_eq] at h
  omega) (by have:=hin.n;omega) ⟨by have:=hin.w1;omega,by have:=hin.w2;omega⟩ (of_decide_eq_true hfs))
 have hyes:=hno
 simp only[Bool.and_eq_true,decide_eq_true_eq] at hyes
 obtain⟨⟨hc1,hfw⟩,hft⟩:=hyes
 have hgl:Shr.glsOk (hpS xs).gs=true:=by
  unfold Shr.glsOk
  rw[show (hpS xs).gs.all (fun g=>g.ok)=true from List.all_eq_true.2 (fun g hg=>hin.ok g hg),decide_eq_true hc1]
  rfl
 have HSH:Hid (∀W,Below w.heap.size w W->Calls Tryz.prog 59 #[g,.int .i64 (hpS xs).w,.int .i64 (hpTo xs mode size)] W fun e w'=>∃O:Nat,e = .returned (.tuple #[.slice (some ⟨O,0,none⟩) (hpS xs).gs.length (hpS xs).gs.length,(Shr.shareS (hpS xs).gs (hpQ xs mode size)).v])/\w'.ownsRow W.heap.size 2 1 (.slice (some ⟨O,0,none⟩) (hpS xs).gs.length (hpS xs).gs.length) (hpS xs).gs.length ((hpL xs mode size).map (Value.int .i64))/\Below W.heap.size W w'):=hideP (fun W hW=>Shr.implShare_ok (hpS xs).w (hpTo xs mode size) (hpQ xs mode size) (own_GRow (ownG_below og hW) rfl) hgl hfw hft rfl)
 have FC1:Hid (∀W,Calls Tryz.prog 44 #[.int .i64 (hpS xs).w] W fun e w'=>e = .returned (.bool true)/\w'=W):=hideP (fun W=>by rw[<-hfw];exact implFits_any _ _)
 have FC2:Hid (∀W,Calls Tryz.prog 44 #[.int .i64 (hpTo xs mode size)] W fun e w'=>e = .returned (.bool true)/\w'=W):=hideP (fun W=>by rw[<-hft];exact implFits_any _ _)
 have HAR:Hid (∀W,Below w.heap.size w W->Calls Tryz.prog 61 #[.pointer (some ⟨R,0,none⟩),.int .i64 (hpTo xs mode size),.int .i64 (xs.length:Int)] W fun e w'=>e = .returned (.agg #[.int .i64 6,.int .i64 (hpTo xs mode size),.int .i64 (hpS xs).h,.int .i64 (hpS xs).d,.int .i64 0,.int .i64 0,.int .i64 0,.int .i64 0,.int .i64 0,.int .i64 0,.int .i64 0,.int .i64 0,.int .i64 0,.string ⟨#[]⟩,.int .i64 (xs.length:Int)])/\Below W.heap.size W w'):=hideP (fun W hW=>around_any (hpTo xs mode size) xs.length (B.below hW))
 obtain⟨S,hS⟩:=exq (Shr.shareS (hpS xs).gs (hpQ xs mode size))
 obtain⟨z0,z1,z2,z3,z4,z5⟩:=S
 have hSV:(Shr.shareS (hpS xs).gs (hpQ xs mode size)).v=Shr.setV z0 z1 z2 z3 z4 z5:=by rw[<-hS]
 rw[hSV] at HSH
 have HSS:Hid (Shr.shareS (hpS xs).gs (hpQ xs mode size)=⟨z0,z1,z2,z3,z4,z5⟩):=hideP hS.symm
 rw[<-hpS_n xs] at op
 have HB:=hideP B
 have HG:=hideP og
 have HP:=hideP op
 have HN:=hideP hN
 have HLI:=hideP hl
 have HNO:=hideP hno
 have HNW:Hid ((hpS xs).gs.length=(gluesAt xs (begins xs)).length):=hideP (hpS_n xs)
 obtain⟨ga,gc,rfl⟩:=ownG_shape og
 obtain⟨pa,pc,rfl⟩:=ownG_shape op
 obtain⟨tt,htt⟩:=exq (hpTo xs mode size)
 have HTT:=hideP htt
 rw[<-htt] at HW HSH FC2 HAR
 obtain⟨m,hm⟩:=exq ((hpS xs).gs.length)
 have HM:=hideP hm
 rw[<-hm] at HB HG HSH HP
 have HLL:Hid ((hpL xs mode size).length=m):=hideP (by rw[hpL_len,hm,hpS_n])
 have HPC:Hid (0<m->∃pb,pa=some ⟨pb,0,none⟩/\∀j,j<m->pb<w.heap.size/\w.cell? ⟨pb,j,none⟩=some (.int .i64 (((gluesAt xs (begins xs)).getD j 0:Nat):Int))):=hideP (fun hp=>by
  have h0:=HP.out
  rcases h0.2 with ⟨e,h1⟩ | ⟨pb,c,cur,e,_,hh,_⟩
  ·omega
  ·cases e
   exact⟨pb,rfl,fun j hj=>⟨(glt hh),natI_at h0 (by rw[hm,hpS_n]) hj⟩⟩)
 have hRw:=B.lt
 have HC:Hid (∀W,Below w.heap.size w W->W.cell? ⟨R,6,none⟩=some (.int .i64 (hpS xs).w)/\W.cell? ⟨R,7,none⟩=some (.slice ga m gc)/\W.cell? ⟨R,8,none⟩=some (.slice pa m pc)):=hideP (fun W hW=>⟨(HB.out.below hW).cells.2.2.2.2.2.2.1,(HB.out.below hW).cells.2.2.2.2.2.2.2.1,(HB.out.below hW).cells.2.2.2.2.2.2.2.2⟩)
 have HPB:Hid (prgB xs mode size=listB (hpN xs mode size)):=hideP (by unfold prgB;rw[hno,Bool.true_and])
 have hd:decide ((10000:Int)<(m:Int))=false:=by simp;omega
 have hd0:¬(10000:Int)<(m:Int):=by omega
 obtain⟨n,hn⟩:=exq (xs.length)
 have HNX:=hideP hn
 have hn2:n<=20000:=by rw[hn];exact(allOk hl).len
 rw[<-hn] at HAR
 obtain⟨va,vc,hvs⟩:∃a c,v = .slice a n c:=by
  rcases hN with ⟨rfl,rfl⟩ | ⟨b,off,cap,rfl,_⟩
  ·exact⟨_,_,by rw[hn];rfl⟩
  ·exact⟨_,_,by rw[hn]⟩
 subst hvs
 clear og op B hN hl hfs htt hgs hm hin hbl hno hS hSV hfw hft hgl hn
 go_enter Tryz.func32,Tryz.ntmps32
 go_wp2_with fail
 refine(HW.out _ (below1 _ _)).mono ?_
 rintro e w1 ⟨rfl,hb1⟩
 have HP1:Hid (PB w w1):=hideP ((PB.start w).below hb1)
 clear hb1 HW
 obtain⟨c6,c7,c8⟩:=HC.out w1 HP1.out.bel
 go_wp2_with (go_at_call 44;first|(refine(FC1.out _).mono ?_;rintro _ w9 ⟨rfl,h9⟩;have h9':=h9.symm;subst h9';clear h9)|(refine(FC2.out _).mono ?_;rintro _ w9 ⟨rfl,h9⟩;have h9':=h9.symm;subst h9';clear h9))
 go_cut [10,11] (fun s10 s11 wc=>∃O T:Nat,s10 = .slice (some ⟨O,0,none⟩) m m/\s11 = .pointer (some ⟨T,0,none⟩)/\Hid (PB w wc)/\Hid (wc.heap[T]?=some (Shr.setO z0 z1 z2 z3 z4 z5))/\Hid (wc.ownsRow w.heap.size 2 1 (.slice (some ⟨O,0,none⟩) m m) m ((hpL xs mode size).map (Value.int .i64)))/\w.heap.size<T)
 case first =>
  have hS1:w1.drew.cell? ⟨R,6,none⟩=some (.int .i64 (hpS xs).w)/\w1.drew.cell? ⟨R,7,none⟩=some (.slice ga m gc):=⟨c6,c7⟩
  refine wp_region_held_drew (S:=fun x=>x.cell? ⟨R,6,none⟩=some (.int .i64 (hpS xs).w)/\x.cell? ⟨R,7,none⟩=some (.slice ga m gc)) (by kernel_rfl) hS1 (fun hS=>?_)
  refine tkS (i:=0) (v:= .pointer (some ⟨R,0,none⟩)) rfl hS ?_
  try simp only[sput]
  refine tkS (i:=1) (v:= .pointer (some ⟨R,0,none⟩)) rfl hS ?_
  try simp only[sput]
  refine tkS (i:=2) (v:= .pointer (some ⟨R,7,none⟩)) rfl hS ?_
  try simp only[sput]
  refine tkS (i:=3) (v:= .slice ga m gc) rfl hS ?_
  try simp only[sput]
  refine tkS (i:=4) (v:= .pointer (some ⟨R,0,none⟩)) rfl hS ?_
  try simp only[sput]
  refine tkS (i:=5) (v:= .pointer (some ⟨R,0,none⟩)) rfl hS ?_
  try simp only[sput]
  refine tkS (i:=6) (v:= .pointer (some ⟨R,6,none⟩)) rfl hS ?_
  try simp only[sput]
  refine tkS (i:=7) (v:= .int .i64 (hpS xs).w) rfl hS ?_
  try simp only[sput]
  refine tkS (i:=8) (v:= .int .i64 tt) rfl hS ?_
  try simp only[sput]
  refine wpAnyH_ready (rs:=[9,13]) (by kernel_rfl) (by simp) ?_
  refine AllReadyH.cons rfl (fun K hK=>?_) (AllReadyH.cons rfl (fun K hK=>?_) AllReadyH.nil)
  ·rw[if_pos (by first|rfl|go_simp)]
   go_simp
   go_at_call 59
   refine(HSH.out _ (HP1.out.bel.drew)).mono ?_
   rintro e w2 ⟨O,rfl,ho2,hb2⟩
   have HP2:Hid (PB w w2):=hideP (HP1.out.below (below_more ((Below.refl _ _).drew) hb2 (Nat.le_refl _)))
   have HO2:Hid (w2.ownsRow w.heap.size 2 1 (.slice (some ⟨O,0,none⟩) m m) m ((hpL xs mode size).map (Value.int .i64))):=hideP (ownG_mono ho2 HP1.out.bel.size)
   clear ho2 hb2
   obtain⟨k6,k7,k8⟩:=HC.out w2 HP2.out.bel
   refine hK.out _ _ ⟨k6,k7⟩ (fun hS=>?_)
   try simp only[sput]
   clear hK K
   refine tkS (i:=10) (v:= .tuple #[.slice (some ⟨O,0,none⟩) m m,Shr.setV z0 z1 z2 z3 z4 z5]) rfl hS ?_
   try simp only[sput]
   refine tkS (i:=11) (v:= .slice (some ⟨O,0,none⟩) m m) rfl hS ?_
   try simp only[sput]
   refine tkS (i:=12) (v:=Shr.setV z0 z1 z2 z3 z4 z5) rfl hS ?_
   try simp only[sput]
   refine rdS (i:=13) rfl (fun K hK=>?_)
   go_simp
   obtain⟨w3,hw3⟩:=exq (w2.alloc (.cells #[.int .i64 0,.int .i64 0,.int .i64 0,.int .i64 0,.int .i64 0,.int .i64 0] 28))
   obtain⟨T,hT⟩:=exq (w2.heap.size)
   rw[<-hw3,<-hT]
   have HP3:Hid (PB w w3):=hideP (by rw[hw3];exact HP2.out.below (below1 _ _))
   have HT3:Hid (w3.heap[T]?=some (Shr.setO 0 0 0 0 0 0)):=hideP (by rw[hw3,hT];exact heap_alloc_new w2 _)
   have HO3:Hid (w3.ownsRow w.heap.size 2 1 (.slice (some ⟨O,0,none⟩) m m) m ((hpL xs mode size).map (Value.int .i64))):=hideP (by rw[hw3];exact HO2.out.alloc _)
   have hwT:w.heap.size<T:=by rw[hT];exact(glt HP2.out.box)
   clear hw3 hT k6 k7 k8 HP2 HO2
   obtain⟨k6,k7,k8⟩:=HC.out w3 HP3.out.bel
   refine hK.out _ _ ⟨k6,k7⟩ (fun hS=>?_)
   try simp only[sput]
   clear hK K
   refine tkS (i:=14) (v:= .slice (some ⟨O,0,none⟩) m m) rfl hS ?_
   try simp only[sput]
   have t0:=cell_of_row w3 T 0 _ 28 _ HT3.out
   have t1:=cell_of_row w3 T 1 _ 28 _ HT3.out
   have t2:=cell_of_row w3 T 2 _ 28 _ HT3.out
   have t3:=cell_of_row w3 T 3 _ 28 _ HT3.out
   have t4:=cell_of_row w3 T 4 _ 28 _ HT3.out
   have t5:=cell_of_row w3 T 5 _ 28 _ HT3.out
   have fT:∀j,w3.frozen? ⟨T,j,none⟩=false:=fun j=>frozen_of_row w3 T j _ _ HT3.out
   have HP4:Hid (PB w (Shr.six w3 T z0 z1 z2 z3 z4 z5)):=hideP (pb_six HP3.out hwT z0 z1 z2 z3 z4 z5)
   obtain⟨j6,j7,j8⟩:=HC.out _ HP4.out.bel
   refine rdS (i:=15) rfl (fun K hK=>?_)
   go_simp
   refine hK.out _ _ ⟨j6,j7⟩ (fun hS=>?_)
   try simp only[sput]
   clear hK K
   refine wpAnyH_done (by kernel_rfl) ?_ _
   obtain⟨w4,hw4⟩:=exq (((((((w3.setCell ⟨T,0,none⟩ (.int .i64 z0)).setCell ⟨T,1,none⟩ (.int .i64 z1)).setCell ⟨T,2,none⟩ (.int .i64 z2)).setCell ⟨T,3,none⟩ (.int .i64 z3)).setCell ⟨T,4,none⟩ (.int .i64 z4)).setCell ⟨T,5,none⟩ (.int .i64 z5)))
   rw[<-hw4]
   have HP5:Hid (PB w w4):=hideP (by rw[hw4];exact HP4.out)
   have HT4:Hid (w4.heap[T]?=some (Shr.setO z0 z1 z2 z3 z4 z5)):=hideP (by rw[hw4];exact Shr.six_heap HT3.out _ _ _ _ _ _)
   have HO4:Hid (w4.ownsRow w.heap.size 2 1 (.slice (some ⟨O,0,none⟩) m m) m ((hpL xs mode size).map (Value.int .i64))):=hideP (by rw[hw4];exact own_six HO3.out HT3.out (by decide) _ _ _ _ _ _)
   clear hw4 t0 t1 t2 t3 t4 t5 fT j6 j7 j8 k6 k7 k8 hS HP3 HT3 HO3 HP4 hS1
   go_wp2
   go_meet
   case rel=>exact⟨O,T,rfl,rfl,HP5,HT4,HO4,hwT⟩
  ·rw[if_pos (by first|rfl|go_simp)]
   go_simp
   obtain⟨w2',hw2⟩:∃w2',w2'=(w1.alloc (.cells #[.int .i64 0,.int .i64 0,.int .i64 0,.int .i64 0,.int .i64 0,.int .i64 0] 28)).drew:=⟨_,rfl⟩
   obtain⟨T,hT⟩:=exq (w1.heap.size)
   rw[<-hw2,<-hT]
   have HP2:Hid (PB w w2'):=hideP (by rw[hw2];exact HP1.out.below ((below1 _ _).drew))
   have HT2:Hid (w2'.heap[T]?=some (Shr.setO 0 0 0 0 0 0)):=hideP (by rw[hw2,hT];exact heap_alloc_new w1 _)
   have hwT:w.heap.size<T:=by rw[hT];exact(glt HP1.out.box)
   clear hw2 hT
   obtain⟨k6,k7,k8⟩:=HC.out w2' HP2.out.bel
   refine hK.out _ _ ⟨k6,k7⟩ (fun hS=>?_)
   try simp only[sput]
   clear hK K
   refine rdS (i:=9) rfl (fun K hK=>?_)
   go_simp
   go_at_call 59
   refine(HSH.out _ HP2.out.bel).mono ?_
   rintro e w3 ⟨O,rfl,ho2,hb2⟩
   have HP3:Hid (PB w w3):=hideP (HP2.out.below hb2)
   have HO3:Hid (w3.ownsRow w.heap.size 2 1 (.slice (some ⟨O,0,none⟩) m m) m ((hpL xs mode size).map (Value.int .i64))):=hideP (ownG_mono ho2 HP2.out.bel.size)
   have HT3:Hid (w3.heap[T]?=some (Shr.setO 0 0 0 0 0 0)):=hideP ((hb2.block _ (glt HT2.out)).trans HT2.out)
   clear ho2 hb2 HT2 k6 k7 k8 HP2
   obtain⟨k6,k7,k8⟩:=HC.out w3 HP3.out.bel
   refine hK.out _ _ ⟨k6,k7⟩ (fun hS=>?_)
   try simp only[sput]
   clear hK K
   refine tkS (i:=10) (v:= .tuple #[.slice (some ⟨O,0,none⟩) m m,Shr.setV z0 z1 z2 z3 z4 z5]) rfl hS ?_
   try simp only[sput]
   refine tkS (i:=11) (v:= .slice (some ⟨O,0,none⟩) m m) rfl hS ?_
   try simp only[sput]
   refine tkS (i:=12) (v:=Shr.setV z0 z1 z2 z3 z4 z5) rfl hS ?_
   try simp only[sput]
   refine tkS (i:=14) (v:= .slice (some ⟨O,0,none⟩) m m) rfl hS ?_
   try simp only[sput]
   have t0:=cell_of_row w3 T 0 _ 28 _ HT3.out
   have t1:=cell_of_row w3 T 1 _ 28 _ HT3.out
   have t2:=cell_of_row w3 T 2 _ 28 _ HT3.out
   have t3:=cell_of_row w3 T 3 _ 28 _ HT3.out
   have t4:=cell_of_row w3 T 4 _ 28 _ HT3.out
   have t5:=cell_of_row w3 T 5 _ 28 _ HT3.out
   have fT:∀j,w3.frozen? ⟨T,j,none⟩=false:=fun j=>frozen_of_row w3 T j _ _ HT3.out
   have HP4:Hid (PB w (Shr.six w3 T z0 z1 z2 z3 z4 z5)):=hideP (pb_six HP3.out hwT z0 z1 z2 z3 z4 z5)
   obtain⟨j6,j7,j8⟩:=HC.out _ HP4.out.bel
   refine rdS (i:=15) rfl (fun K hK=>?_)
   go_simp
   refine hK.out _ _ ⟨j6,j7⟩ (fun hS=>?_)
   try simp only[sput]
   clear hK K
   refine wpAnyH_done (by kernel_rfl) ?_ _
   obtain⟨w4,hw4⟩:=exq (((((((w3.setCell ⟨T,0,none⟩ (.int .i64 z0)).setCell ⟨T,1,none⟩ (.int .i64 z1)).setCell ⟨T,2,none⟩ (.int .i64 z2)).setCell ⟨T,3,none⟩ (.int .i64 z3)).setCell ⟨T,4,none⟩ (.int .i64 z4)).setCell ⟨T,5,none⟩ (.int .i64 z5)))
   rw[<-hw4]
   have HP5:Hid (PB w w4):=hideP (by rw[hw4];exact HP4.out)
   have HT4:Hid (w4.heap[T]?=some (Shr.setO z0 z1 z2 z3 z4 z5)):=hideP (by rw[hw4];exact Shr.six_heap HT3.out _ _ _ _ _ _)
   have HO4:Hid (w4.ownsRow w.heap.size 2 1 (.slice (some ⟨O,0,none⟩) m m) m ((hpL xs mode size).map (Value.int .i64))):=hideP (by rw[hw4];exact own_six HO3.out HT3.out (by decide) _ _ _ _ _ _)
   clear hw4 t0 t1 t2 t3 t4 t5 fT j6 j7 j8 k6 k7 k8 hS HP3 HT3 HO3 HP4 hS1
   go_wp2
   go_meet
   case rel=>exact⟨O,T,rfl,rfl,HP5,HT4,HO4,hwT⟩
 case rest =>
  obtain⟨O,T,rfl,rfl,HP5,HT4,HO4,hwT⟩:=hcut
  obtain⟨w4,hw4⟩:∃w4:World,w4=wc:=⟨_,rfl⟩
  rw[<-hw4] at HP5 HT4 HO4 ⊢
  clear hw4 HP1
  obtain⟨i0,hi,hy0,hy1,hy2⟩:=info_parts Tryz.info57c
  obtain⟨i1,hi1,hz0,hz1,hz2⟩:=info_parts Tryz.info24
  go_wp2_with fail
  refine(HAR.out _ HP5.out.bel).mono ?_
  rintro e w5 ⟨rfl,hb5⟩
  go_simp
  go_step
  refine wpList_bs1 rfl 24 1 0 _ rfl rfl (run_bs1 w5 6 tt (hpS xs).h (hpS xs).d n) ?_
  obtain⟨w6,hw6⟩:=exq (w5.alloc (.cells #[.int .i64 6,.int .i64 tt,.int .i64 (hpS xs).h,.int .i64 (hpS xs).d,.int .i64 0,.int .i64 0,.int .i64 0,.int .i64 0,.int .i64 0,.int .i64 0,.int .i64 0,.int .i64 0,.int .i64 0,.string ⟨#[]⟩,.int .i64 (n:Int)] 36))
  obtain⟨A1,hA1⟩:=exq (w5.heap.size)
  rw[<-hw6,<-hA1]
  have B46:Below w4.heap.size w4 w6:=by rw[hw6];exact below_more hb5 (below1 _ _) hb5.size
  have HP6:Hid (PB w w6):=hideP (HP5.out.below B46)
  have HT6:Hid (w6.heap[T]?=some (Shr.setO z0 z1 z2 z3 z4 z5)):=hideP ((B46.block _ (glt HT4.out)).trans HT4.out)
  have HO6:Hid (w6.ownsRow w.heap.size 2 1 (.slice (some ⟨O,0,none⟩) m m) m ((hpL xs mode size).map (Value.int .i64))):=hideP (ownG_below HO4.out B46)
  have HA6:Hid (w6.ownsRow w.heap.size 36 15 (.slice (some ⟨A1,0,none⟩) 1 1) 1 (flatN [boxN 6 tt (hpS xs).h (hpS xs).d n])):=hideP (by rw[hw6,hA1];exact own_made1 w5 (Nat.le_trans HP5.out.bel.size hb5.size) #[.int .i64 6,.int .i64 tt,.int .i64 (hpS xs).h,.int .i64 (hpS xs).d,.int .i64 0,.int .i64 0,.int .i64 0,.int .i64 0,.int .i64 0,.int .i64 0,.int .i64 0,.int .i64 0,.int .i64 0,.string ⟨#[]⟩,.int .i64 (n:Int)] rfl)
  clear hw6 hA1 hb5 B46 HP5 HT4 HO4
  go_wp2_with fail
  refine(copyNodes_any (nn_below HN.out HP6.out.bel) (by rw[<-HNX.out];omega) (fun i hi=>by have:=(allOk HLI.out).text i hi;omega)).mono ?_
  rintro e w7 ⟨vn,rfl,ho7,hb7⟩
  rw[<-HNX.out] at ho7
  obtain⟨na,nc,rfl⟩:=ownG_shape ho7
  go_simp
  go_step
  refine wpList_bs2 rfl 37 2 0 1 _ _ rfl rfl rfl (run_bs2 w7 _ _ _ _ _ _) ?_
  obtain⟨w8,hw8⟩:=exq (w7.alloc (.cells #[.slice (some ⟨A1,0,none⟩) 1 1,.slice na n nc] 24))
  obtain⟨A2,hA2⟩:=exq (w7.heap.size)
  rw[<-hw8,<-hA2]
  have B68:Below w6.heap.size w6 w8:=by rw[hw8];exact below_more hb7 (below1 _ _) hb7.size
  have HP8:Hid (PB w w8):=hideP (HP6.out.below B68)
  have HT8:Hid (w8.heap[T]?=some (Shr.setO z0 z1 z2 z3 z4 z5)):=hideP ((B68.block _ (glt HT6.out)).trans HT6.out)
  have HO8:Hid (w8.ownsRow w.heap.size 2 1 (.slice (some ⟨O,0,none⟩) m m) m ((hpL xs mode size).map (Value.int .i64))):=hideP (ownG_below HO6.out B68)
  have HQ1:Hid (Put w8 (.slice (some ⟨A1,0,none⟩) 1 1) 1 (flatN [boxN 6 tt (hpS xs).h (hpS xs).d n])):=hideP (put_own (ownG_below HA6.out B68) (flatN_one _))
  have HQ2:Hid (Put w8 (.slice na n nc) n (flatN xs)):=hideP (by rw[hw8];exact put_own (ho7.alloc _) (flatN_one _))
  have d0:w8.cell? ⟨A2,0,none⟩=some (.slice (some ⟨A1,0,none⟩) 1 1):=by rw[hw8,hA2];simp[go_sem]
  have d1:w8.cell? ⟨A2,1,none⟩=some (.slice na n nc):=by rw[hw8,hA2];simp[go_sem]
  clear hw8 hA2 ho7 hb7 B68 HP6 HT6 HO6 HA6
  go_wp2_with fail
  refine(concat_two d0 d1 HQ1.out HQ2.out (by omega) (by omega) (by omega)).mono ?_
  rintro e w9 ⟨u9,rfl,ho9,hb9⟩
  have HP9:Hid (PB w w9):=hideP (HP8.out.below hb9)
  have HT9:Hid (w9.heap[T]?=some (Shr.setO z0 z1 z2 z3 z4 z5)):=hideP ((hb9.block _ (glt HT8.out)).trans HT8.out)
  have HO9:Hid (w9.ownsRow w.heap.size 2 1 (.slice (some ⟨O,0,none⟩) m m) m ((hpL xs mode size).map (Value.int .i64))):=hideP (ownG_below HO8.out hb9)
  obtain⟨N1,hN1⟩:=exq (1+n)
  rw[<-hN1] at ho9
  have hN1p:0<N1:=by omega
  have hN1b:N1<=20001:=by omega
  have HN1:=hideP hN1
  obtain⟨ua,uc,rfl,hug⟩:=own_shape ho9
  obtain⟨g9,rfl,hg9,_⟩:=hug hN1p
  have hgw:w.heap.size<=g9:=Nat.le_trans HP8.out.bel.size hg9
  have HX9:Hid (w9.ownsRow w.heap.size 36 15 (.slice (some ⟨g9,0,none⟩) N1 uc) N1 (flatN (boxN 6 tt (hpS xs).h (hpS xs).d n :: setL ((gluesAt xs (begins xs)).take 0) ((hpL xs mode size).take 0) xs))):=hideP (ownG_mono ho9 HP8.out.bel.size)
  clear ho9 hb9 hug hg9 HP8 HT8 HO8 HQ1 HQ2 d0 d1 hN1
  obtain⟨k6,k7,k8⟩:=HC.out w9 HP9.out.bel
  go_wp2_with fail
  go_loopw [67] (fun i wr=>∃j:Nat,j<=m/\i = .int .i64 j/\PInv w wr T O g9 N1 uc m (boxN 6 tt (hpS xs).h (hpS xs).d n :: setL ((gluesAt xs (begins xs)).take j) ((hpL xs mode size).take j) xs) ((hpL xs mode size).map (Value.int .i64)) z0 z1 z2 z3 z4 z5) (fun i _=>m-(intOf i).toNat)
  case atStart=>exact⟨0,by omega,rfl,HP9.out,HT9.out,HO9.out,HX9.out⟩
  case round =>
   obtain⟨j,hj,rfl,hinv⟩:=hrel
   have HI:=hideP hinv
   clear hinv
   by_cases hjm:j<m
   ·have hji:(j:Int)<(m:Int):=by omega
    obtain⟨pb,rfl,hpb⟩:=HPC.out (by omega)
    have e0:=(HI.out.pb.bel.cell (p:=⟨pb,j,none⟩) (hpb j hjm).1).trans (hpb j hjm).2
    have e1:wr.cell? ⟨O,j,none⟩=some (.int .i64 ((hpL xs mode size).getD j 0)):=by
     have h1:=World.ownsRow.cellAt HI.out.wid j (by omega)
     rw[h1,List.getElem?_map,List.getElem?_eq_getElem (show j<(hpL xs mode size).length by rw[HLL.out];exact hjm)]
     simp[List.getD,List.getElem?_eq_getElem (show j<(hpL xs mode size).length by rw[HLL.out];exact hjm)]
    have HNX2:Hid (boxN 6 tt (hpS xs).h (hpS xs).d n :: setL ((gluesAt xs (begins xs)).take (j+1)) ((hpL xs mode size).take (j+1)) xs=(boxN 6 tt (hpS xs).h (hpS xs).d n :: setL ((gluesAt xs (begins xs)).take j) ((hpL xs mode size).take j) xs).set ((gluesAt xs (begins xs)).getD j 0+1) (((boxN 6 tt (hpS xs).h (hpS xs).d n :: setL ((gluesAt xs (begins xs)).take j) ((hpL xs mode size).take j) xs).getD ((gluesAt xs (begins xs)).getD j 0+1) Nd.none).wide ((hpL xs mode size).getD j 0))):=hideP (set_next (by rw[<-HNW.out,<-HM.out];exact hjm) (by rw[HLL.out,HM.out,HNW.out]) _)
    obtain⟨lv,hlv⟩:=exq ((hpL xs mode size).getD j 0)
    obtain⟨pn,hpn⟩:=exq ((gluesAt xs (begins xs)).getD j 0)
    rw[<-hlv] at e1 HNX2
    rw[<-hpn] at e0 HNX2
    have hpl:pn<n:=by
     rw[hpn,HNX.out]
     refine(glues_in (xs:=xs) ?_).1
     have hjl:j<(gluesAt xs (begins xs)).length:=by rw[<-HNW.out,<-HM.out];exact hjm
     rw[List.getD_eq_getElem?_getD,List.getElem?_eq_getElem hjl]
     exact List.getElem_mem hjl
    obtain⟨X,hX⟩:=exq (boxN 6 tt (hpS xs).h (hpS xs).d n :: setL ((gluesAt xs (begins xs)).take j) ((hpL xs mode size).take j) xs)
    rw[<-hX] at HI HNX2
    have hXl:X.length=N1:=by rw[hX,List.length_cons,setL_len,<-HNX.out,HN1.out];omega
    obtain⟨q,hq⟩:=exq (pn+1)
    rw[<-hq] at HNX2
    have hqN:q<N1:=by rw[HN1.out];omega
    obtain⟨x,hx⟩:∃x:Int,x=(pn:Int):=⟨_,rfl⟩
    rw[<-hx] at e0
    have hxq:1+x=(q:Int):=by omega
    have hqi:(q:Int)<(N1:Int):=by omega
    obtain⟨e2,e3⟩:=own_cell HI.out.own (flatN_at X q (by rw[hXl];exact hqN) 1 (by omega) (u:= .int .i64 (X.getD q Nd.none).wd) rfl)
    obtain⟨wd0,hwd0⟩:=exq ((X.getD q Nd.none).wd)
    rw[<-hwd0] at e2
    have HI2:Hid (PInv w (wr.setCell ⟨g9,q*15+1,none⟩ (.int .i64 lv)) T O g9 N1 uc m (X.set q ((X.getD q Nd.none).wide lv)) ((hpL xs mode size).map (Value.int .i64)) z0 z1 z2 z3 z4 z5):=hideP (HI.out.put hXl hqN hgw lv)
    clear hlv hpn hX hwd0 hq hx hXl
    go_wp2
    go_roundw
    case rel=>exact⟨j+1,by omega,by go_num,by rw[HNX2.out];exact HI2.out⟩
    case measure=>simp[intOf];omega
   ·have hji:¬(j:Int)<(m:Int):=by omega
    obtain rfl:j=m:=by omega
    have hXX:boxN 6 tt (hpS xs).h (hpS xs).d n :: setL ((gluesAt xs (begins xs)).take j) ((hpL xs mode size).take j) xs=hpN xs mode size:=by
     unfold hpN
     rw[<-HTT.out,<-HNX.out,List.take_of_length_le (by rw[<-HNW.out,<-HM.out];exact Nat.le_refl _),List.take_of_length_le (by rw[HLL.out];exact Nat.le_refl _)]
    rw[hXX] at HI
    have hXl:(hpN xs mode size).length=N1:=by rw[<-hXX,List.length_cons,setL_len,<-HNX.out,HN1.out];omega
    have HLK:Hid (∀W,Below wr.heap.size wr W->Calls Tryz.prog 36 #[.slice (some ⟨g9,0,none⟩) N1 uc] W fun e w'=>e = .returned (.bool (listB (hpN xs mode size)))/\Below W.heap.size W w'):=hideP (fun W hW=>implListOk_any (SRow.mono ndStable (own_NRow (ownG_below HI.out.own hW) hXl) (Nat.zero_le _)) (by rw[hXl];omega))
    have HXL:=hideP hXl
    clear hXX hXl
    go_wp2_with fail
    refine(HLK.out _ (Below.refl _ _)).mono ?_
    rintro e w9 ⟨rfl,hb10⟩
    have HP9:Hid (PB w w9):=hideP (HI.out.pb.below hb10)
    have HT9:Hid (w9.heap[T]?=some (Shr.setO z0 z1 z2 z3 z4 z5)):=hideP ((hb10.block _ (glt HI.out.set)).trans HI.out.set)
    have HX9:Hid (w9.ownsRow w.heap.size 36 15 (.slice (some ⟨g9,0,none⟩) N1 uc) N1 (flatN (hpN xs mode size))):=hideP (ownG_below HI.out.own hb10)
    clear hb10
    obtain⟨lb,hlb⟩:=exq (listB (hpN xs mode size))
    rw[<-hlb]
    have HPR:Hid (prgB xs mode size=lb):=hideP (by rw[HPB.out,hlb])
    clear hlb
    have t0:=cell_of_row w9 T 0 _ 28 _ HT9.out
    have t1:=cell_of_row w9 T 1 _ 28 _ HT9.out
    have t2:=cell_of_row w9 T 2 _ 28 _ HT9.out
    have t3:=cell_of_row w9 T 3 _ 28 _ HT9.out
    have t4:=cell_of_row w9 T 4 _ 28 _ HT9.out
    have t5:=cell_of_row w9 T 5 _ 28 _ HT9.out
    clear hi hy0 hy1 hy2 hi1 hz0 hz1 hz2 k6 k7 k8 hN1p hN1b hgw hwT hRw hn2 hd hd0 hj hji
    cases lb with
    | false =>
     have HF:Hid ((ans w9 w.heap.size (.slice none 0 0) 0 0 0 0 0 0).heap[w.heap.size]?=some (packO (.slice none 0 0) 0 0 0 0 0 0)/\Below w.heap.size w (ans w9 w.heap.size (.slice none 0 0) 0 0 0 0 0 0)):=hideP ⟨ans_heap HP9.out _ _ _ _ _ _ _,ans_below HP9.out _ _ _ _ _ _ _⟩
     go_simp
     (first|go_values|go_skip|go_guarded|go_step|go_upon|go_in|go_back)
     (first|go_values|go_skip|go_guarded|go_step|go_upon|go_in|go_back)
     (first|go_values|go_skip|go_guarded|go_step|go_upon|go_in|go_back)
     (first|go_values|go_skip|go_guarded|go_step|go_upon|go_in|go_back)
     (first|go_values|go_skip|go_guarded|go_step|go_upon|go_in|go_back)
     (first|go_values|go_skip|go_guarded|go_step|go_upon|go_in|go_back)
     (first|go_values|go_skip|go_guarded|go_step|go_upon|go_in|go_back)
     (first|go_values|go_skip|go_guarded|go_step|go_upon|go_in|go_back)
     (first|go_values|go_skip|go_guarded|go_step|go_upon|go_in|go_back)
     (first|go_values|go_skip|go_guarded|go_step|go_upon|go_in|go_back)
     (first|go_values|go_skip|go_guarded|go_step|go_upon|go_in|go_back)
     (first|go_values|go_skip|go_guarded|go_step|go_upon|go_in|go_back)
     (first|go_values|go_skip|go_guarded|go_step|go_upon|go_in|go_back)
     refine wpList_store_row rfl 30 _ _ rfl w.heap.size rfl _ #[.slice none 0 0,.int .i64 0,.int .i64 0,.int .i64 0,.int .i64 0,.int .i64 0,.int .i64 0] rfl 30 HP9.out.box (by kernel_rfl) rfl (by kernel_rfl) ?_
     go_wp2
     exact bodyPost_ret (v:=packV (.slice none 0 0) ⟨0,0,0,0,0,0⟩) (results_one_cell rfl _ _ w.heap.size _ rfl (loadPack HF.out.1)) rfl ⟨HF.out.2,by rw[HPR.out];exact rfl⟩
    | true =>
     have HF:Hid ((ans w9 w.heap.size (.slice (some ⟨g9,0,none⟩) N1 uc) z0 z1 z2 z3 z4 z5).heap[w.heap.size]?=some (packO (.slice (some ⟨g9,0,none⟩) N1 uc) z0 z1 z2 z3 z4 z5)/\Below w.heap.size w (ans w9 w.heap.size (.slice (some ⟨g9,0,none⟩) N1 uc) z0 z1 z2 z3 z4 z5)):=hideP ⟨ans_heap HP9.out _ _ _ _ _ _ _,ans_below HP9.out _ _ _ _ _ _ _⟩
     have HXF:Hid ((ans w9 w.heap.size (.slice (some ⟨g9,0,none⟩) N1 uc) z0 z1 z2 z3 z4 z5).ownsRow w.heap.size 36 15 (.slice (some ⟨g9,0,none⟩) N1 uc) (xs.length+1) (flatN (hpN xs mode size))):=hideP (by rw[show xs.length+1=N1 by rw[HN1.out,HNX.out];omega];exact ans_own HP9.out HX9.out _ _ _ _ _ _ _)
     go_simp
     (first|go_values|go_skip|go_guarded|go_step|go_upon|go_in|go_back)
     (first|go_values|go_skip|go_guarded|go_step|go_upon|go_in|go_back)
     (first|go_values|go_skip|go_guarded|go_step|go_upon|go_in|go_back)
     (first|go_values|go_skip|go_guarded|go_step|go_upon|go_in|go_back)
     (first|go_values|go_skip|go_guarded|go_step|go_upon|go_in|go_back)
     (first|go_values|go_skip|go_guarded|go_step|go_upon|go_in|go_back)
     (first|go_values|go_skip|go_guarded|go_step|go_upon|go_in|go_back)
     (first|go_values|go_skip|go_guarded|go_step|go_upon|go_in|go_back)
     (first|go_values|go_skip|go_guarded|go_step|go_upon|go_in|go_back)
     (first|go_values|go_skip|go_guarded|go_step|go_upon|go_in|go_back)
     (first|go_values|go_skip|go_guarded|go_step|go_upon|go_in|go_back)
     (first|go_values|go_skip|go_guarded|go_step|go_upon|go_in|go_back)
     (first|go_values|go_skip|go_guarded|go_step|go_upon|go_in|go_back)
     (first|go_values|go_skip|go_guarded|go_step|go_upon|go_in|go_back)
     (first|go_values|go_skip|go_guarded|go_step|go_upon|go_in|go_back)
     (first|go_values|go_skip|go_guarded|go_step|go_upon|go_in|go_back)
     (first|go_values|go_skip|go_guarded|go_step|go_upon|go_in|go_back)
     (first|go_values|go_skip|go_guarded|go_step|go_upon|go_in|go_back)
     (first|go_values|go_skip|go_guarded|go_step|go_upon|go_in|go_back)
     refine wpList_bd2 rfl 30 0 1 _ _ rfl rfl rfl (run_bd28 w9 _ _ _ _ _ _ _ _ _) ?_
     refine wpList_store_row rfl 30 _ _ rfl w.heap.size rfl _ #[.slice (some ⟨g9,0,none⟩) N1 uc,.int .i64 z0,.int .i64 z1,.int .i64 z2,.int .i64 z3,.int .i64 z4,.int .i64 z5] rfl 30 HP9.out.box (by kernel_rfl) rfl (by kernel_rfl) ?_
     go_wp2
     exact bodyPost_ret (v:=packV (.slice (some ⟨g9,0,none⟩) N1 uc) ⟨z0,z1,z2,z3,z4,z5⟩) (results_one_cell rfl _ _ w.heap.size _ rfl (loadPack HF.out.1)) rfl ⟨HF.out.2,by rw[HPR.out];exact⟨_,by rw[HSS.out],HXF.out⟩⟩
end Go.Proofs.YtbbehmcekbnkiaaGreat

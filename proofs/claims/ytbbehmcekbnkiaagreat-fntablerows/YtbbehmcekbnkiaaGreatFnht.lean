import Derived.Test.YtbbehmcekbnkiaaGreatFngt
namespace Go.Proofs.YtbbehmcekbnkiaaGreat
set_option maxHeartbeats 8000000
set_option maxRecDepth 20000
open Go.RowKit
set_option linter.unusedVariables false
set_option linter.unusedSimpArgs false
def G1 (w:World)(R F:Nat)(v5:Value)(wr:World):Prop:=∃(k n1:Nat) (gv:Value),k<=126/\v5 = .int .i64 ((k:Int)+1)/\n1<=k/\PFr w wr R F gv (.slice none 0 0) n1 0
def G2 (w:World)(R F:Nat)(gv:Value)(n1:Nat)(v8:Value)(wr:World):Prop:=∃(i n2:Nat) (pv:Value),i<=6/\v8 = .int .i64 (i:Int)/\n2<=1+4*i/\PFr w wr R F gv pv n1 n2
def G3 (w:World)(R F:Nat)(gv:Value)(n1 i l:Nat)(v10:Value)(wr:World):Prop:=∃(j n2:Nat) (pv:Value),j<=l/\v10 = .int .i64 (j:Int)/\n2<=1+4*i+j/\PFr w wr R F gv pv n1 n2
abbrev ten (w:World)(R:Nat)(nm:ByteArray)(gv pv:Value)(s1 s2 s3 s4 s5 q r:Int):World:=(((((((((w.setCell ⟨R,0,none⟩ (.string nm)).setCell ⟨R,1,none⟩ gv).setCell ⟨R,2,none⟩ pv).setCell ⟨R,3,none⟩ (.int .i64 s1)).setCell ⟨R,4,none⟩ (.int .i64 s2)).setCell ⟨R,5,none⟩ (.int .i64 s3)).setCell ⟨R,6,none⟩ (.int .i64 s4)).setCell ⟨R,7,none⟩ (.int .i64 s5)).setCell ⟨R,8,none⟩ (.int .i64 q)).setCell ⟨R,9,none⟩ (.int .i64 r)
theorem ten_heap {w:World}{R:Nat}(h:w.heap[R]?=some ftZ)(nm:ByteArray)(gv pv:Value)(s1 s2 s3 s4 s5 q r:Int):(ten w R nm gv pv s1 s2 s3 s4 s5 q r).heap[R]?=some (ftO nm gv pv s1 s2 s3 s4 s5 q r):=by
 have h0:=heap_setCell_same _ R 0 _ 211 (.string nm) h
 have h1:=heap_setCell_same _ R 1 _ 211 gv h0
 have h2:=heap_setCell_same _ R 2 _ 211 pv h1
 have h3:=heap_setCell_same _ R 3 _ 211 (.int .i64 s1) h2
 have h4:=heap_setCell_same _ R 4 _ 211 (.int .i64 s2) h3
 have h5:=heap_setCell_same _ R 5 _ 211 (.int .i64 s3) h4
 have h6:=heap_setCell_same _ R 6 _ 211 (.int .i64 s4) h5
 have h7:=heap_setCell_same _ R 7 _ 211 (.int .i64 s5) h6
 have h8:=heap_setCell_same _ R 8 _ 211 (.int .i64 q) h7
 have h9:=heap_setCell_same _ R 9 _ 211 (.int .i64 r) h8
 refine h9.trans ?_
 kernel_rfl
theorem ten_other {w:World}{R b:Nat}(hb:R≠b)(nm:ByteArray)(gv pv:Value)(s1 s2 s3 s4 s5 q r:Int):(ten w R nm gv pv s1 s2 s3 s4 s5 q r).heap[b]?=w.heap[b]?:=by
 unfold ten
 iterate 10 (refine(Below.heap_setCell _ _ _ _ (fun e=>hb e.symm)).trans ?_)
 rfl
theorem ten_below {w0 w:World}{R:Nat}{nm:ByteArray}{gv pv:Value}{s1 s2 s3 s4 s5 q r:Int}(h:Below w0.heap.size w0 w)(hR:w0.heap.size<=R):Below w0.heap.size w0 (ten w R nm gv pv s1 s2 s3 s4 s5 q r):=by
 unfold ten
 iterate 10 (refine Below.setCell ?_ hR _)
 exact h
theorem PFr.ten {w wr:World}{R F n1 n2:Nat}{gv pv:Value}(h:PFr w wr R F gv pv n1 n2)(hR:w.heap.size<=R):∃(nm:ByteArray) (s1 s2 s3 s4 s5 q r:Int),wr.heap[F]?=some (ftO nm gv pv s1 s2 s3 s4 s5 q r)/\(ten wr R nm gv pv s1 s2 s3 s4 s5 q r).heap[R]?=some (ftO nm gv pv s1 s2 s3 s4 s5 q r)/\R4 215 w.heap.size (ten wr R nm gv pv s1 s2 s3 s4 s5 q r) gv n1/\Below w.heap.size w (ten wr R nm gv pv s1 s2 s3 s4 s5 q r):=by
 obtain⟨⟨nm,s1,s2,s3,s4,s5,q,r,h1⟩,h2,h3,h4,h5⟩:=h
 exact⟨nm,s1,s2,s3,s4,s5,q,r,h1,ten_heap h2 ..,h3.keep fun g hg=>ten_other (fun e=>h3.apart h2 (by decide) (by rw[hg,e])) ..,ten_below h5 hR⟩
theorem PFr.drew {w wr:World}{R F n1 n2:Nat}{gv pv:Value}(h:PFr w wr R F gv pv n1 n2):PFr w wr.drew R F gv pv n1 n2:=h.below (Below.drew (Below.refl _ _))
theorem plainFont_any (n:Nat)(w:World)(hn:n<=15) :
 Calls Tryz.prog 115 #[.int .i64 (n:Int)] w fun e w'=>∃(nm:ByteArray) (gv:Value) (pa:Option Addr) (pn pc:Nat) (s1 s2 s3 s4 s5 q r:Int) (m:Nat),e = .returned (.agg (ftA nm gv (.slice pa pn pc) s1 s2 s3 s4 s5 q r))/\R4 215 w.heap.size w' gv m/\m<=200/\Below w.heap.size w w':=by
 have hn0:¬(n:Int)<0:=by omega
 have hn1:¬(15:Int)<(n:Int):=by omega
 go_enter Tryz.func115,Tryz.ntmps115
 go_wp2_with fail
 refine(signed_small n _ hn).mono ?_
 rintro e w1 ⟨⟨s,rfl,hs⟩,hb1⟩
 have hp:(ByteArray.mk #[112,108,97,105,110]).size=5:=rfl
 have hadd:=run_string_add_sum (P:=Tryz.prog) w1 ⟨#[112,108,97,105,110]⟩ s (by omega)
 have h1z:w.heap.size<w1.heap.size:=by have:=hb1.size;simp at this;omega
 have hR1:w1.heap[w.heap.size]?=some ftZ:=(hb1.block _ (by simp)).trans (heap_alloc_new w _)
 have HB1:Hid (Below w.heap.size w w1):=below_more (below1 w _) hb1 (by simp)
 obtain⟨nm,hnm⟩:=exq ((ByteArray.mk #[112,108,97,105,110]++s))
 rw[<-hnm] at hadd
 have HR1:=hideP hR1
 clear hb1 hs hnm hR1
 go_upto_region 5 with fail
 have d0:Hid (PFr w (w1.alloc (.cells (ftA nm (.slice none 0 0) (.slice none 0 0) (3*(6553*(8+(n:Int)))) (3*(6553*(8+(n:Int))) / 2) 0 (6553*(8+(n:Int))) 0 (10*(6553*(8+(n:Int)))) (4*(6553*(8+(n:Int))))) 211)) w.heap.size w1.heap.size (.slice none 0 0) (.slice none 0 0) 0 0) :=
  hideP ⟨⟨_,_,_,_,_,_,_,_,heap_alloc_new w1 _⟩,(Below.heap_alloc _ _ _ h1z).trans HR1.out,R4.nil _ _ _,R4.nil _ _ _,HB1.out.alloc HB1.out.size _⟩
 generalize World.alloc _ _=Wf at d0 ⊢
 obtain⟨R,hR⟩:=exq (w.heap.size)
 obtain⟨F,hF⟩:=exq (w1.heap.size)
 have hRF:R≠F:=by omega
 have hwF:w.heap.size<=F:=by omega
 have hwR:w.heap.size<=R:=by omega
 rw[<-hF,<-hR] at d0
 rw[<-hF,<-hR]
 clear hR hF HB1 HR1 hadd hp h1z
 obtain⟨u,hu⟩:∃u:Int,u=6553*(8+(n:Int)):=⟨_,rfl⟩
 rw[<-hu]
 have hu0:52424<=u:=by omega
 have hu1:u<=150719:=by omega
 clear hu
 go_wp2_with fail
 go_loopw [5] (fun s5 wr=>Hid (G1 w R F s5 wr)) (fun s5 _=>127-(intOf s5).toNat)
 case atStart=>exact hideP ⟨0,0,_,by omega,rfl,Nat.le_refl _,d0.out⟩
 case round =>
  obtain⟨k,n1,gv,hk,rfl,hnk,hpf⟩:=hrel.out
  have HPF:=hideP hpf
  clear hrel hpf d0
  obtain⟨wp,rfl⟩:∃wp:World,wp=wr:=⟨_,rfl⟩
  by_cases hlt:k<126
  ·have hki:(k:Int)+1<=126:=by omega
   go_upto_region 8 with fail
   go_cut [45] (fun s45 wc=>(∃t:Bool,s45 = .bool t/\True)/\wc=wp)
   case first =>
    go_wp2
    all_goals go_meet
    all_goals exact⟨⟨_,rfl,trivial⟩,rfl⟩
   case rest =>
    obtain⟨⟨t,rfl,_⟩,rfl⟩:=hcut
    cases t with
    | false =>
     go_wp2
     go_roundw
     case rel=>exact hideP ⟨k+1,n1,gv,by omega,by go_num,by omega,HPF.out⟩
     case measure=>simp[intOf];omega
    | true =>
     go_upto_region 9 with fail
     have hF1:wc.drew.heap.size=wc.heap.size:=rfl
     refine wp_region_held_drew (S:=fun _=>True) (by kernel_rfl) trivial (fun _=>?_)
     refine tkS (i:=0) (v:= .pointer (some ⟨F,1,none⟩)) rfl trivial ?_
     try simp only[sput]
     refine tkS (i:=2) (v:= .int .i64 (n:Int)) rfl trivial ?_
     try simp only[sput]
     refine tkS (i:=3) (v:= .int .i64 ((k:Int)+1)) rfl trivial ?_
     try simp only[sput]
     refine wpAnyH_ready (rs:=[1,4]) (by kernel_rfl) (by simp) ?_
     refine AllReadyH.cons rfl (fun K hK=>?_) (AllReadyH.cons rfl (fun K hK=>?_) AllReadyH.nil)
     ·rw[if_pos (by first|rfl|go_simp)]
      have hc1:=HPF.out.drew.c1
      go_simp
      refine hK.out _ _ trivial (fun _=>?_)
      try simp only[sput]
      clear hK K
      refine rdS (i:=4) rfl (fun K hK=>?_)
      go_simp
      go_at_call 130
      refine(plain6_any (n:Int) ((k:Int)+1) _ (by omega) (by omega) (by omega) (by omega)).mono ?_
      rintro e w2 ⟨g1,g2,g3,g4,rfl,hb2⟩
      refine hK.out _ _ trivial (fun _=>?_)
      try simp only[sput]
      clear hK K
      refine rdS (i:=5) rfl (fun K hK=>?_)
      go_simp
      refine hK.out _ _ trivial (fun _=>?_)
      try simp only[sput]
      clear hK K
      have P3:=(HPF.out.drew.below hb2).below (below1 w2 (.cells (gyA g1 g2 g3 g4) 215))
      have hblk:=heap_alloc_new w2 (.cells (gyA g1 g2 g3 g4) 215)
      refine rdS (i:=6) rfl (fun K hK=>?_)
      refine wp_app4 (.inl ⟨rfl,rfl⟩) _ _ rfl w.heap.size gv n1 rfl P3.2.2.1 _ g1 g2 g3 g4 rfl hblk (by omega) P3.2.2.2.2.size ?_
      intro v5 w5 hr5 hg5 _
      obtain⟨q1,q2,q3,q4⟩:=P3.app1 hr5 hg5
      have P5:=hideP (PFr.put1 q1 q2 hr5 q3 q4 hwF hRF)
      obtain⟨xs5,hr5',_⟩:=hr5
      obtain⟨a5,c5,rfl⟩:∃a c,v5 = .slice a (n1+1) c:=by
       rcases hr5'.2 with ⟨_,h0⟩ | ⟨g,cap,cur,rfl,_⟩
       ·omega
       ·exact⟨_,_,rfl⟩
      have hq1:∃c,w5.heap[F]?=some (.cells c 211 (0,0))/\c.size=10:=by
       obtain⟨nm,s1,s2,s3,s4,s5,q,r,h1⟩:=q1
       exact⟨_,h1,rfl⟩
      obtain⟨c10,hc10,hs10⟩:=hq1
      have hcF:w5.cell? ⟨F,1,none⟩=some (c10[1]'(by omega)):=by rw[cell_of_row w5 F 1 c10 211 _ hc10];simp
      have hfF:w5.frozen? ⟨F,1,none⟩=false:=frozen_of_row w5 F 1 _ _ hc10
      clear q1 q2 q3 q4 hr5' hg5 P3 hblk
      refine hK.out _ _ trivial (fun _=>?_)
      try simp only[sput]
      clear hK K
      refine tkS (i:=7) (v:= .pointer (some ⟨F,1,none⟩)) rfl trivial ?_
      try simp only[sput]
      refine rdS (i:=8) rfl (fun K hK=>?_)
      go_simp
      refine hK.out _ _ trivial (fun _=>?_)
      try simp only[sput]
      clear hK K
      refine wpAnyH_done (by kernel_rfl) ?_ _
      go_wp2
      go_roundw
      case rel=>exact hideP ⟨k+1,n1+1,_,by omega,by go_num,by omega,P5.out⟩
      case measure=>simp[intOf];omega
     ·rw[if_pos (by first|rfl|go_simp)]
      go_simp
      go_at_call 130
      refine(plain6_any (n:Int) ((k:Int)+1) _ (by omega) (by omega) (by omega) (by omega)).mono ?_
      rintro e w2 ⟨g1,g2,g3,g4,rfl,hb2⟩
      refine hK.out _ _ trivial (fun _=>?_)
      try simp only[sput]
      clear hK K
      refine wpAnyH_ready (rs:=[1,5]) (by kernel_rfl) (by simp) ?_
      refine AllReadyH.cons rfl (fun K hK=>?_) (AllReadyH.cons rfl (fun K hK=>?_) AllReadyH.nil)
      ·rw[if_pos (by first|rfl|go_simp)]
       have hc1:=(HPF.out.drew.below hb2).c1
       go_simp
       refine hK.out _ _ trivial (fun _=>?_)
       try simp only[sput]
       clear hK K
       refine rdS (i:=5) rfl (fun K hK=>?_)
       go_simp
       refine hK.out _ _ trivial (fun _=>?_)
       try simp only[sput]
       clear hK K
       have P3:=(HPF.out.drew.below hb2).below (below1 w2 (.cells (gyA g1 g2 g3 g4) 215))
       have hblk:=heap_alloc_new w2 (.cells (gyA g1 g2 g3 g4) 215)
       refine rdS (i:=6) rfl (fun K hK=>?_)
       refine wp_app4 (.inl ⟨rfl,rfl⟩) _ _ rfl w.heap.size gv n1 rfl P3.2.2.1 _ g1 g2 g3 g4 rfl hblk (by omega) P3.2.2.2.2.size ?_
       intro v5 w5 hr5 hg5 _
       obtain⟨q1,q2,q3,q4⟩:=P3.app1 hr5 hg5
       have P5:=hideP (PFr.put1 q1 q2 hr5 q3 q4 hwF hRF)
       obtain⟨xs5,hr5',_⟩:=hr5
       obtain⟨a5,c5,rfl⟩:∃a c,v5 = .slice a (n1+1) c:=by
        rcases hr5'.2 with ⟨_,h0⟩ | ⟨g,cap,cur,rfl,_⟩
        ·omega
        ·exact⟨_,_,rfl⟩
       have hq1:∃c,w5.heap[F]?=some (.cells c 211 (0,0))/\c.size=10:=by
        obtain⟨nm,s1,s2,s3,s4,s5,q,r,h1⟩:=q1
        exact⟨_,h1,rfl⟩
       obtain⟨c10,hc10,hs10⟩:=hq1
       have hcF:w5.cell? ⟨F,1,none⟩=some (c10[1]'(by omega)):=by rw[cell_of_row w5 F 1 c10 211 _ hc10];simp
       have hfF:w5.frozen? ⟨F,1,none⟩=false:=frozen_of_row w5 F 1 _ _ hc10
       clear q1 q2 q3 q4 hr5' hg5 P3 hblk
       refine hK.out _ _ trivial (fun _=>?_)
       try simp only[sput]
       clear hK K
       refine tkS (i:=7) (v:= .pointer (some ⟨F,1,none⟩)) rfl trivial ?_
       try simp only[sput]
       refine rdS (i:=8) rfl (fun K hK=>?_)
       go_simp
       refine hK.out _ _ trivial (fun _=>?_)
       try simp only[sput]
       clear hK K
       refine wpAnyH_done (by kernel_rfl) ?_ _
       go_wp2
       go_roundw
       case rel=>exact hideP ⟨k+1,n1+1,_,by omega,by go_num,by omega,P5.out⟩
       case measure=>simp[intOf];omega
      ·rw[if_pos (by first|rfl|go_simp)]
       go_simp
       refine hK.out _ _ trivial (fun _=>?_)
       try simp only[sput]
       clear hK K
       refine rdS (i:=1) rfl (fun K hK=>?_)
       have hc1:=((HPF.out.drew.below hb2).below (below1 w2 (.cells (gyA g1 g2 g3 g4) 215))).c1
       go_simp
       refine hK.out _ _ trivial (fun _=>?_)
       try simp only[sput]
       clear hK K
       have P3:=(HPF.out.drew.below hb2).below (below1 w2 (.cells (gyA g1 g2 g3 g4) 215))
       have hblk:=heap_alloc_new w2 (.cells (gyA g1 g2 g3 g4) 215)
       refine rdS (i:=6) rfl (fun K hK=>?_)
       refine wp_app4 (.inl ⟨rfl,rfl⟩) _ _ rfl w.heap.size gv n1 rfl P3.2.2.1 _ g1 g2 g3 g4 rfl hblk (by omega) P3.2.2.2.2.size ?_
       intro v5 w5 hr5 hg5 _
       obtain⟨q1,q2,q3,q4⟩:=P3.app1 hr5 hg5
       have P5:=hideP (PFr.put1 q1 q2 hr5 q3 q4 hwF hRF)
       obtain⟨xs5,hr5',_⟩:=hr5
       obtain⟨a5,c5,rfl⟩:∃a c,v5 = .slice a (n1+1) c:=by
        rcases hr5'.2 with ⟨_,h0⟩ | ⟨g,cap,cur,rfl,_⟩
        ·omega
        ·exact⟨_,_,rfl⟩
       have hq1:∃c,w5.heap[F]?=some (.cells c 211 (0,0))/\c.size=10:=by
        obtain⟨nm,s1,s2,s3,s4,s5,q,r,h1⟩:=q1
        exact⟨_,h1,rfl⟩
       obtain⟨c10,hc10,hs10⟩:=hq1
       have hcF:w5.cell? ⟨F,1,none⟩=some (c10[1]'(by omega)):=by rw[cell_of_row w5 F 1 c10 211 _ hc10];simp
       have hfF:w5.frozen? ⟨F,1,none⟩=false:=frozen_of_row w5 F 1 _ _ hc10
       clear q1 q2 q3 q4 hr5' hg5 P3 hblk
       refine hK.out _ _ trivial (fun _=>?_)
       try simp only[sput]
       clear hK K
       refine tkS (i:=7) (v:= .pointer (some ⟨F,1,none⟩)) rfl trivial ?_
       try simp only[sput]
       refine rdS (i:=8) rfl (fun K hK=>?_)
       go_simp
       refine hK.out _ _ trivial (fun _=>?_)
       try simp only[sput]
       clear hK K
       refine wpAnyH_done (by kernel_rfl) ?_ _
       go_wp2
       go_roundw
       case rel=>exact hideP ⟨k+1,n1+1,_,by omega,by go_num,by omega,P5.out⟩
       case measure=>simp[intOf];omega
  ·have hki:¬(k:Int)+1<=126:=by omega
   have hn126:n1<=126:=by omega
   go_upto_region 11 with fail
   go_cut [] (fun wc=>∃pv,Hid (PFr w wc R F gv pv n1 1))
   case first =>
    have DB:=hideP (HPF.out.below (below1 wp (.cells (gyA 1 105 3 0) 230)))
    have c2:=HPF.out.c2
    have hfl:=HPF.out.lt.1
    have f2:=HPF.out.fz
    have NB:=hideP (heap_alloc_new wp (.cells (gyA 1 105 3 0) 230))
    go_wp2_with (at_builtin;refine wpList_app4 (.inr ⟨rfl,rfl⟩) rfl _ _ rfl w.heap.size (.slice none 0 0) 0 rfl DB.out.2.2.2.1 _ 1 105 3 0 rfl NB.out (by omega) DB.out.2.2.2.2.size ?_;intro v5 w5 hr5 hg5 _;obtain⟨q1,q2,q3,q4⟩:=DB.out.app2 hr5 hg5;have P5:=hideP (PFr.put2 q1 q2 q3 hr5 q4 hwF hRF);obtain⟨a5,c5,rfl⟩:=hr5.shape;obtain⟨_,c5F,f5F,l5F⟩:=ft_cell q1;clear q1 q2 q3 q4 hr5 hg5 DB)
    go_meet
    case rel=>exact⟨_,P5⟩
   case rest =>
    clear HPF
    obtain⟨pv,HPF⟩:=hcut
    go_upto_region 13 with fail
    obtain⟨ls,hls⟩:=exq (ByteArray.mk #[65,76,84,86,87,89])
    have hl6:ls.size=6:=by rw[hls];rfl
    rw[<-hls]
    clear hls
    obtain⟨kn,hkn⟩:∃kn:Int,kn = -((u+1) / 2):=⟨_,rfl⟩
    rw[<-hkn]
    clear hkn
    go_wp2_with fail
    go_loopw [8,9,10] (fun s8 _ _ wr=>Hid (G2 w R F gv n1 s8 wr)) (fun s8 _ _ _=>7-(intOf s8).toNat)
    case atStart=>exact hideP ⟨0,1,pv,by omega,rfl,by omega,HPF.out⟩
    case round =>
     obtain⟨i,n2,pv,hi,rfl,hn2,hpf⟩:=hrel.out
     clear HPF
     have HPF:=hideP hpf
     clear hrel hpf
     obtain⟨wo,rfl⟩:∃wo:World,wo=wr:=⟨_,rfl⟩
     by_cases hlt:i<ls.size
     ·have hli:(i:Int)<(ls.size:Int):=by omega
      go_upto_region 17 with fail
      go_cut [73] (fun s73 wc=>(∃t:Bool,s73 = .bool t/\True)/\wc=wo)
      case first =>
       go_wp2
       all_goals go_meet
       all_goals exact⟨⟨_,rfl,trivial⟩,rfl⟩
      case rest =>
       obtain⟨⟨t,rfl,_⟩,rfl⟩:=hcut
       go_upto_if 73 with fail
       go_cut [9] (fun s9 wd=>(∃r:ByteArray,s9 = .string r/\r.size<=4)/\wd=wc)
       case first =>
        cases t
        all_goals go_wp2
        all_goals go_meet
        all_goals exact⟨⟨_,rfl,by decide⟩,rfl⟩
       case rest =>
        rename_i wd
        obtain⟨⟨rs,rfl,hrs⟩,hwd⟩:=hcut
        subst hwd
        go_wp2_with fail
        go_loopw [10] (fun s10 wq=>Hid (G3 w R F gv n1 i rs.size s10 wq)) (fun s10 _=>rs.size-(intOf s10).toNat)
        case atStart=>exact hideP ⟨0,n2,pv,by omega,rfl,by omega,HPF.out⟩
        case round =>
         obtain⟨j,n2',pv',hj,rfl,hn2',hpf⟩:=hrel.out
         clear HPF
         have HPF:=hideP hpf
         clear hrel hpf
         by_cases hjl:j<rs.size
         ·have hji:(j:Int)<(rs.size:Int):=by omega
          go_upto_region 22 with fail
          obtain⟨x1,hx0,hx1,hi1⟩:=idx_str ls i hlt
          obtain⟨x2,hy0,hy1,hi2⟩:=idx_str rs j hjl
          have wx1:IntKind.i64.wrap x1=x1:=by rw[IntKind.wrap_i64];omega
          have wx2:IntKind.i64.wrap x2=x2:=by rw[IntKind.wrap_i64];omega
          refine wp_region_held_drew (S:=fun _=>True) (by kernel_rfl) trivial (fun _=>?_)
          refine tkS (i:=0) (v:= .pointer (some ⟨F,2,none⟩)) rfl trivial ?_
          try simp only[sput]
          refine tkS (i:=2) (v:= .string ls) rfl trivial ?_
          try simp only[sput]
          refine tkS (i:=3) (v:= .int .i64 (i:Int)) rfl trivial ?_
          try simp only[sput]
          refine tkS (i:=4) (v:= .int .u8 x1) rfl trivial ?_
          try simp only[sput]
          refine tkS (i:=5) (v:= .int .i64 x1) rfl trivial ?_
          try simp only[sput]
          refine tkS (i:=6) (v:= .string rs) rfl trivial ?_
          try simp only[sput]
          refine tkS (i:=7) (v:= .int .i64 (j:Int)) rfl trivial ?_
          try simp only[sput]
          refine tkS (i:=8) (v:= .int .u8 x2) rfl trivial ?_
          try simp only[sput]
          refine tkS (i:=9) (v:= .int .i64 x2) rfl trivial ?_
          try simp only[sput]
          refine tkS (i:=10) (v:= .int .i64 kn) rfl trivial ?_
          try simp only[sput]
          refine tkS (i:=11) (v:=gyV x1 x2 (-1) kn) rfl trivial ?_
          try simp only[sput]
          refine wpAnyH_ready (rs:=[1,12]) (by kernel_rfl) (by simp) ?_
          refine AllReadyH.cons rfl (fun K hK=>?_) (AllReadyH.cons rfl (fun K hK=>?_) AllReadyH.nil)
          ·rw[if_pos (by first|rfl|go_simp)]
           have hc1:=HPF.out.drew.c2
           go_simp
           refine hK.out _ _ trivial (fun _=>?_)
           try simp only[sput]
           clear hK K
           refine rdS (i:=12) rfl (fun K hK=>?_)
           go_simp
           refine hK.out _ _ trivial (fun _=>?_)
           try simp only[sput]
           clear hK K
           have P3:=hideP ((HPF.out.drew).below (below1 wr.drew (.cells (gyA x1 x2 (-1) kn) 230)))
           have hblk:=heap_alloc_new wr.drew (.cells (gyA x1 x2 (-1) kn) 230)
           refine rdS (i:=13) rfl (fun K hK=>?_)
           refine wp_app4 (.inr ⟨rfl,rfl⟩) _ _ rfl w.heap.size pv' n2' rfl P3.out.2.2.2.1 _ x1 x2 (-1) kn rfl hblk (by omega) P3.out.2.2.2.2.size ?_
           intro v5 w5 hr5 hg5 _
           obtain⟨q1,q2,q3,q4⟩:=P3.out.app2 hr5 hg5
           have P5:=hideP (PFr.put2 q1 q2 q3 hr5 q4 hwF hRF)
           obtain⟨a5,c5,rfl⟩:=hr5.shape
           obtain⟨_,c5F,f5F,l5F⟩:=ft_cell q1
           clear q1 q2 q3 q4 hr5 hg5 P3 hblk
           refine hK.out _ _ trivial (fun _=>?_)
           try simp only[sput]
           clear hK K
           refine tkS (i:=14) (v:= .pointer (some ⟨F,2,none⟩)) rfl trivial ?_
           try simp only[sput]
           refine rdS (i:=15) rfl (fun K hK=>?_)
           go_simp
           refine hK.out _ _ trivial (fun _=>?_)
           try simp only[sput]
           clear hK K
           refine wpAnyH_done (by kernel_rfl) ?_ _
           go_wp2
           go_roundw
           case rel=>exact hideP ⟨j+1,n2'+1,_,by omega,by go_num,by omega,P5.out⟩
           case measure=>simp[intOf];omega
          ·rw[if_pos (by first|rfl|go_simp)]
           go_simp
           refine hK.out _ _ trivial (fun _=>?_)
           try simp only[sput]
           clear hK K
           refine rdS (i:=1) rfl (fun K hK=>?_)
           have hc0:=HPF.out.drew.c2
           have hfl:=HPF.out.drew.lt.1
           have hc1:=(HPF.out.below (below1 wr (.cells (gyA x1 x2 (-1) kn) 230))).c2
           go_simp
           refine hK.out _ _ trivial (fun _=>?_)
           try simp only[sput]
           clear hK K
           have P3:=hideP ((HPF.out.drew).below (below1 wr.drew (.cells (gyA x1 x2 (-1) kn) 230)))
           have hblk:=heap_alloc_new wr.drew (.cells (gyA x1 x2 (-1) kn) 230)
           refine rdS (i:=13) rfl (fun K hK=>?_)
           refine wp_app4 (.inr ⟨rfl,rfl⟩) _ _ rfl w.heap.size pv' n2' rfl P3.out.2.2.2.1 _ x1 x2 (-1) kn rfl hblk (by omega) P3.out.2.2.2.2.size ?_
           intro v5 w5 hr5 hg5 _
           obtain⟨q1,q2,q3,q4⟩:=P3.out.app2 hr5 hg5
           have P5:=hideP (PFr.put2 q1 q2 q3 hr5 q4 hwF hRF)
           obtain⟨a5,c5,rfl⟩:=hr5.shape
           obtain⟨_,c5F,f5F,l5F⟩:=ft_cell q1
           clear q1 q2 q3 q4 hr5 hg5 P3 hblk
           refine hK.out _ _ trivial (fun _=>?_)
           try simp only[sput]
           clear hK K
           refine tkS (i:=14) (v:= .pointer (some ⟨F,2,none⟩)) rfl trivial ?_
           try simp only[sput]
           refine rdS (i:=15) rfl (fun K hK=>?_)
           go_simp
           refine hK.out _ _ trivial (fun _=>?_)
           try simp only[sput]
           clear hK K
           refine wpAnyH_done (by kernel_rfl) ?_ _
           go_wp2
           go_roundw
           case rel=>exact hideP ⟨j+1,n2'+1,_,by omega,by go_num,by omega,P5.out⟩
           case measure=>simp[intOf];omega
         ·have hji:¬(j:Int)<(rs.size:Int):=by omega
          go_wp2
          go_roundw
          case rel=>exact hideP ⟨i+1,n2',pv',by omega,by go_num,by omega,HPF.out⟩
          case measure=>simp[intOf];omega
     ·have hli:¬(i:Int)<(ls.size:Int):=by omega
      have hn25:n2<=25:=by omega
      go_upto_region 23 with fail
      go_cut [] (fun wc=>∃pv n2,Hid (PFr w wc R F gv pv n1 n2))
      case first =>
       have DB:=hideP (HPF.out.below (below1 wo (.cells (gyA 102 102 1 0++gyA 102 105 2 0) 230)))
       have c2:=HPF.out.c2
       have hfl:=HPF.out.lt.1
       have f2:=HPF.out.fz
       have NB:=hideP (heap_alloc_new wo (.cells (gyA 102 102 1 0++gyA 102 105 2 0) 230))
       go_wp2_with (at_builtin;refine wpList_app8 (.inr ⟨rfl,rfl⟩) rfl _ _ rfl w.heap.size pv n2 rfl DB.out.2.2.2.1 _ 102 102 1 0 102 105 2 0 rfl NB.out (by omega) DB.out.2.2.2.2.size ?_;intro v5 w5 hr5 hg5;obtain⟨q1,q2,q3,q4⟩:=DB.out.app2 hr5 hg5;have P5:=hideP (PFr.put2 q1 q2 q3 hr5 q4 hwF hRF);obtain⟨a5,c5,rfl⟩:=hr5.shape;obtain⟨_,c5F,f5F,l5F⟩:=ft_cell q1;clear q1 q2 q3 q4 hr5 hg5 DB)
       go_meet
       case rel=>exact⟨_,_,P5⟩
      case rest =>
       clear HPF
       obtain⟨pv,n2,HPF⟩:=hcut
       obtain⟨ga,gc,rfl⟩:=HPF.out.2.2.1.shape0
       obtain⟨pa,pc,rfl⟩:=HPF.out.2.2.2.1.shape0
       obtain⟨nm',s1,s2,s3,s4,s5,q,r,hF,hR,hr4,hbl⟩:=HPF.out.ten hwR
       have hRz:=HPF.out.2.1
       have fcell:∀j,wc.cell? ⟨F,j,none⟩=(ftA nm' (.slice ga n1 gc) (.slice pa n2 pc) s1 s2 s3 s4 s5 q r)[j]?:=fun j=>cell_of_row wc F j _ 211 _ hF
       have rcell:∀j,wc.cell? ⟨R,j,none⟩=(ftA ⟨#[]⟩ (.slice none 0 0) (.slice none 0 0) 0 0 0 0 0 0 0)[j]?:=fun j=>cell_of_row wc R j _ 211 _ hRz
       have f0:=fcell 0
       have f1:=fcell 1
       have f2:=fcell 2
       have f3:=fcell 3
       have f4:=fcell 4
       have f5:=fcell 5
       have f6:=fcell 6
       have f7:=fcell 7
       have f8:=fcell 8
       have f9:=fcell 9
       have fz:∀j,wc.frozen? ⟨R,j,none⟩=false:=fun j=>frozen_of_row wc R j _ _ hRz
       have r0:=rcell 0
       have r1:=rcell 1
       have r2:=rcell 2
       have r3:=rcell 3
       have r4:=rcell 4
       have r5:=rcell 5
       have r6:=rcell 6
       have r7:=rcell 7
       have r8:=rcell 8
       have r9:=rcell 9
       have HF:Hid _:=hideP (And.intro hR (And.intro hr4 hbl))
       clear fcell rcell hF hRz hR hr4 hbl HPF
       simp only[List.getElem?_toArray,List.getElem?_cons_zero,List.getElem?_cons_succ] at f0 f1 f2 f3 f4 f5 f6 f7 f8 f9 r0 r1 r2 r3 r4 r5 r6 r7 r8 r9
       go_wp2
       exact bodyPost_ret (v:= .agg (ftA nm' (.slice ga n1 gc) (.slice pa n2 pc) s1 s2 s3 s4 s5 q r)) (results_cell_row rfl _ _ R 211 _ (0,0) _ rfl HF.out.1 Tryz.underlying211 rfl (by kernel_rfl)) rfl ⟨nm',_,⟨_,_,_,_,_,_,_,_,_,_,rfl⟩,n1,HF.out.2.1,by omega,HF.out.2.2⟩
theorem R4.cell {e base n:Nat}{w:World}{v:Value}(h:R4 e base w v n):∃(g cap:Nat),(0<n->v = .slice (some ⟨g,0,none⟩) n cap/\g<w.heap.size)/\∀j,j<n*4->∃x:Int,w.cell? ⟨g,j,none⟩=some (.int .i64 x):=by
 obtain⟨xs,⟨hl,h⟩,hall⟩:=h
 rcases h with ⟨_,h0⟩ | ⟨g,cap,cur,rfl,_,hb,hn,hm,hs,hx⟩
 ·exact⟨0,0,fun h=>by omega,fun j hj=>by omega⟩
 ·refine⟨g,cap,fun _=>⟨rfl,(glt hb)⟩,fun j hj=>?_⟩
  have hjx:j<xs.length:=by omega
  obtain⟨x,hxj⟩:=hall xs[j] (List.getElem_mem hjx)
  refine⟨x,?_⟩
  rw[cell_of_row w g j cur e _ hb,<-Array.getElem?_toList]
  have h1:xs[j]?=some (.int .i64 x):=by rw[List.getElem?_eq_getElem hjx,hxj]
  rw[<-hx,List.getElem?_take] at h1
  rw[if_pos (by first|exact hj|omega)] at h1
  exact h1
theorem glyph_any {nm:ByteArray}{gv pv:Value}{s1 s2 s3 s4 s5 q r:Int}{m base:Nat}(c:Int)(w:World)(h:R4 215 base w gv m)(hm:m<=200) :
 Calls Tryz.prog 116 #[.agg (ftA nm gv pv s1 s2 s3 s4 s5 q r),.int .i64 c] w fun e w'=>∃i:Int,e = .returned (.int .i64 i)/\ -1<=i/\i<(m:Int)/\Below w.heap.size w w':=by
 obtain⟨g,cap,hv,hc⟩:=h.cell
 obtain⟨ga,gc,rfl⟩:=h.shape0
 have HV:=hideP hv
 have HC:=hideP hc
 clear hv hc h
 have hfc:(w.alloc (.cells (ftA nm (.slice ga m gc) pv s1 s2 s3 s4 s5 q r) 211)).cell? ⟨w.heap.size,1,none⟩=some (.slice ga m gc):=cell_of_row _ _ 1 _ 211 _ (heap_alloc_new w _)
 have HB:=hideP (below1 w (.cells (ftA nm (.slice ga m gc) pv s1 s2 s3 s4 s5 q r) 211))
 go_enter Tryz.func116,Tryz.ntmps116
 go_wp2_with fail
 generalize World.alloc _ _=W at *
 go_loopw [5,6,7] (fun s5 s6 _ wr=>wr=W/\∃lo hi:Nat,lo<=hi/\hi<=m/\s5 = .int .i64 (lo:Int)/\s6 = .int .i64 (hi:Int)) (fun s5 s6 _ _=>(intOf s6-intOf s5).toNat)
 case atStart=>exact⟨rfl,0,m,Nat.zero_le _,Nat.le_refl _,rfl,rfl⟩
 case round =>
  obtain⟨rfl,lo,hi,hlh,hhm,rfl,rfl⟩:=hrel
  by_cases hlt:lo<hi
  ·have hli:(lo:Int)<(hi:Int):=by omega
   obtain⟨mid,hmid⟩:∃mid:Nat,((lo:Int)+(hi:Int)) / 2=(mid:Int):=⟨(lo+hi) / 2,by omega⟩
   have hm1:(mid:Int)<(m:Int):=by omega
   have hm0:mid<m:=by omega
   have HM:Hid (lo<=mid/\mid<hi):=hideP (by omega)
   obtain⟨hve,hgl⟩:=HV.out (by omega)
   obtain⟨x,hx⟩:=HC.out (mid*4) (by omega)
   cases hve
   have hx':=(HB.out.cell (p:=⟨g,mid*4,none⟩) hgl).trans hx
   go_wp2
   ·go_roundw
    case rel=>exact⟨trivial,mid+1,hi,by have:=HM.out;omega,by omega,by go_num,rfl⟩
    case measure=>have:=HM.out;simp[intOf];omega
   ·go_roundw
    case rel=>exact⟨trivial,lo,mid,by have:=HM.out;omega,by omega,rfl,by rw[hmid]⟩
    case measure=>have:=HM.out;simp[intOf];omega
  ·have hli:¬(lo:Int)<(hi:Int):=by omega
   obtain rfl:lo=hi:=by omega
   by_cases hlm:lo<m
   ·have hlmi:(lo:Int)<(m:Int):=by omega
    obtain⟨hve,hgl⟩:=HV.out (by omega)
    obtain⟨x,hx⟩:=HC.out (lo*4) (by omega)
    cases hve
    have hx':=(HB.out.cell (p:=⟨g,lo*4,none⟩) hgl).trans hx
    go_wp2
    all_goals go_ret
    all_goals exact⟨_,rfl,by omega,by omega,HB.out⟩
   ·have hlmi:¬(lo:Int)<(m:Int):=by omega
    have hlmd:decide ((lo:Int)<(m:Int))=false:=by simp;omega
    go_wp2
    go_ret
    exact⟨_,rfl,by omega,by omega,HB.out⟩
end Go.Proofs.YtbbehmcekbnkiaaGreat

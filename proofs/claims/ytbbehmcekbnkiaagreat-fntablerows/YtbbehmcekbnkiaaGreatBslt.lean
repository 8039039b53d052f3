import Derived.Test.YtbbehmcekbnkiaaGreatRoft
import Derived.Test.YtbbehmcekbnkiaaGreatHsot
import Derived.Laws.CopyOwn
namespace Go.Proofs.YtbbehmcekbnkiaaGreat
open Go.RowKit
set_option linter.unusedVariables false
set_option linter.unusedSimpArgs false
theorem starts_ge (xs:List Nd):∀(f i p:Nat),p∈starts xs f i->i<=p
 | 0,_,_,h=>by cases h
 | f+1,i,p,h=>by
  unfold starts at h
  split at h
  ·rcases List.mem_cons.1 h with rfl|h
   ·exact Nat.le_refl _
   ·have:=starts_ge xs f _ p h
    omega
  ·cases h
theorem starts_pair (xs:List Nd):∀(f i:Nat),(starts xs f i).Pairwise (· < ·)
 | 0,_=>List.Pairwise.nil
 | f+1,i=>by
  unfold starts
  split
  ·refine List.pairwise_cons.2 ⟨fun p hp=>?_,starts_pair xs f _⟩
   have:=starts_ge xs f _ p hp
   omega
  ·exact List.Pairwise.nil
theorem glues_pair (xs:List Nd):(gluesAt xs (begins xs)).Pairwise (· < ·):=(starts_pair xs _ _).filter _
theorem glues_in {xs:List Nd}{p:Nat}(h:p∈gluesAt xs (begins xs)):p<xs.length/\(xs.getD p Nd.none).k=3:=by
 obtain⟨h1,h2⟩:=List.mem_filter.1 h
 exact⟨starts_lt xs _ _ p h1,by simpa using h2⟩
theorem hpL_len (xs:List Nd)(mode size:Int):(hpL xs mode size).length=(gluesAt xs (begins xs)).length:=by
 unfold hpL
 rw[Shr.shareL_length]
 unfold hpS begins
 rw[rowTo_gs,List.length_map]
theorem hpS_n (xs:List Nd):(hpS xs).gs.length=(gluesAt xs (begins xs)).length:=by
 unfold hpS begins
 rw[rowTo_gs,List.length_map]
theorem list_good {xs:List Nd}(h:listB xs=true):xs.all goodB=true:=by
 unfold listB at h
 simp only[Bool.and_eq_true] at h
 have h2:=h.2
 rw[okFrom_split] at h2
 simp only[Bool.and_eq_true] at h2
 exact h2.2
theorem list_in {xs:List Nd}(h:listB xs=true):∀i,i<xs.length->NdIn (xs.getD i Nd.none):=fun i hi=>good_in (all_getD.1 (list_good h) i hi)
theorem list_sh {xs:List Nd}(h:listB xs=true):∀i,i<xs.length->((xs.getD i Nd.none).k=1\/(xs.getD i Nd.none).k=5)->(xs.getD i Nd.none).sh=0:=fun i hi=>good_sh (all_getD.1 (list_good h) i hi)
theorem hpS_in {xs:List Nd}(h:listB xs=true):RIn (hpS xs) (begins xs).length:=rowTo_in xs (list_in h) _ (fun p hp=>starts_lt xs _ _ p hp)
theorem begins_len {xs:List Nd}(h:listB xs=true):(begins xs).length<=20000:=by
 have h1:=starts_count (xs:=xs) (xs.length+1) 0
 have h2:=(allOk h).len
 unfold begins
 omega
def prgB (xs:List Nd)(mode size:Int):Bool:=decide ((hpS xs).gs.length<=10000)&&fitsB (hpS xs).w&&fitsB (hpTo xs mode size)&&listB (hpN xs mode size)
theorem prg_ok {xs:List Nd}{mode size:Int}(h:askB xs mode size=true):prgB xs mode size=hpOk xs mode size:=by
 unfold askB at h
 simp only[Bool.and_eq_true] at h
 obtain⟨⟨hm,hf⟩,hl⟩:=h
 have hb:=box_list (k:=6) (.inl rfl) (hpTo xs mode size) (hpS xs).h (hpS xs).d (hpL_len xs mode size) (glues_pair xs) (fun p hp=>glues_in hp) (list_good hl)
 have hg:Shr.glsOk (hpS xs).gs=decide ((hpS xs).gs.length<=10000):=by
  unfold Shr.glsOk
  rw[show (hpS xs).gs.all (fun g=>g.ok)=true from List.all_eq_true.2 (fun g hg=>(hpS_in hl).ok g hg),Bool.and_true]
 have e1:Shr.fitsB=fitsB:=rfl
 unfold prgB hpOk packB
 rw[hg,hm,hf,e1]
 unfold hpN
 rw[hb]
 cases decide ((hpS xs).gs.length<=10000)<;>cases fitsB (hpS xs).w<;>cases fitsB (hpTo xs mode size)<;>cases canB xs<;>cases fitsB (hpS xs).h<;>cases fitsB (hpS xs).d<;>cases (hpL xs mode size).all fitsB<;>rfl
def PakP (xs:List Nd)(mode size:Int)(base:Nat)(ok:Bool)(e:Ending)(w':World):Prop :=
 match ok with
 | true=>∃u,e = .returned (packV u (Shr.shareS (hpS xs).gs (hpQ xs mode size)))/\w'.ownsRow base 36 15 u (xs.length+1) (flatN (hpN xs mode size))
 | false=>e = .returned (packV (.slice none 0 0) ⟨0,0,0,0,0,0⟩)
set_option maxRecDepth 20000 in
set_option maxHeartbeats 8000000 in
theorem pack_no {v:Value}{xs:List Nd}{w:World}{R B0:Nat}{g p:Value}(mode size:Int)(B:Bun w R 6 0 (hpS xs).h (hpS xs).d (hpS xs).w g p)(og:w.ownsRow B0 34 5 g (hpS xs).gs.length (f5 (hpS xs).gs))(op:w.ownsRow B0 3 1 p (gluesAt xs (begins xs)).length ((natI (gluesAt xs (begins xs))).map (Value.int .i64)))(hN:NN 0 w v xs)(hl:listB xs=true)(hfs:fitsB size=true)(hno:(decide ((hpS xs).gs.length<=10000)&&fitsB (hpS xs).w&&fitsB (hpTo xs mode size))=false) :
 Calls Tryz.prog 32 #[.pointer (some ⟨R,0,none⟩),v,.int .i64 mode,.int .i64 size] w fun e w'=>Below w.heap.size w w'/\PakP xs mode size w.heap.size (prgB xs mode size) e w':=by
 have hin:=hpS_in hl
 have hbl:=begins_len hl
 obtain⟨gs,hgs⟩:=exq ((hpS xs).gs)
 have HW:Hid (∀W,Below w.heap.size w W->Calls Tryz.prog 58 #[.pointer (some ⟨R,0,none⟩),.int .i64 mode,.int .i64 size] W fun e w'=>e = .returned (.int .i64 (hpTo xs mode size))/\Below W.heap.size W w'):=hideP (fun W hW=>wanted_any mode size (B.below hW) (own_GRow (ownG_below og hW) rfl) (fun x hx=>by
  have h:=hin.ok x hx
  unfold Shr.Gl.ok Shr.okB Shr.fitsB at h
  simp only[Bool.and_eq_true,decide_eq_true_eq] at h
  omega) (by have:=hin.n;omega) ⟨by have:=hin.w1;omega,by have:=hin.w2;omega⟩ (of_decide_eq_true hfs))
 have HB:=hideP B
 have HG:=hideP og
 have HP:=hideP op
 have HN:=hideP hN
 have HLI:=hideP hl
 have HNO:=hideP hno
 have HNW:Hid ((hpS xs).gs.length=(gluesAt xs (begins xs)).length):=hideP (hpS_n xs)
 obtain⟨ga,gc,rfl⟩:=ownG_shape og
 obtain⟨tt,htt⟩:=exq (hpTo xs mode size)
 have HTT:=hideP htt
 rw[<-htt] at HW
 obtain⟨m,hm⟩:=exq ((hpS xs).gs.length)
 have HM:=hideP hm
 rw[<-hm] at HB HG
 have hRw:=B.lt
 have HC:Hid (∀W,Below w.heap.size w W->W.cell? ⟨R,6,none⟩=some (.int .i64 (hpS xs).w)/\W.cell? ⟨R,7,none⟩=some (.slice ga m gc)/\W.cell? ⟨R,8,none⟩=some p):=hideP (fun W hW=>⟨(HB.out.below hW).cells.2.2.2.2.2.2.1,(HB.out.below hW).cells.2.2.2.2.2.2.2.1,(HB.out.below hW).cells.2.2.2.2.2.2.2.2⟩)
 have HPB:Hid (prgB xs mode size=(decide (m<=10000)&&fitsB (hpS xs).w&&fitsB tt&&listB (hpN xs mode size))):=hideP (by unfold prgB;rw[<-hm,<-htt])
 clear og op B hN hl hfs htt hgs hm hin hbl hno
 go_enter Tryz.func32,Tryz.ntmps32
 go_wp2_with fail
 refine(HW.out _ (below1 _ _)).mono ?_
 rintro e w1 ⟨rfl,hb1⟩
 have HP1:Hid (PB w w1):=hideP ((PB.start w).below hb1)
 clear hb1 HW
 obtain⟨c6,c7,c8⟩:=HC.out w1 HP1.out.bel
 by_cases hc1:m<=10000
 ·have hd:decide ((10000:Int)<(m:Int))=false:=by simp;omega
  have hd0:¬(10000:Int)<(m:Int):=by omega
  obtain⟨f1,hf1⟩:=exq (fitsB (hpS xs).w)
  have HF1:=hideP hf1
  have FC1:Hid (∀W,Calls Tryz.prog 44 #[.int .i64 (hpS xs).w] W fun e w'=>e = .returned (.bool f1)/\w'=W):=hideP (fun W=>by rw[hf1];exact implFits_any _ _)
  have FC2:Hid (∀W,Calls Tryz.prog 44 #[.int .i64 tt] W fun e w'=>e = .returned (.bool (fitsB tt))/\w'=W):=hideP (fun W=>implFits_any _ _)
  clear hf1
  cases f1 with
  | false =>
   have HPR:Hid (prgB xs mode size=false):=hideP (by rw[HPB.out,<-HF1.out];cases decide (m<=10000)<;>rfl)
   obtain⟨q0,q1,q2,q3,q4,q5,q6⟩:=pack_cells HP1.out.box
   have fR:∀j,w1.frozen? ⟨w.heap.size,j,none⟩=false:=fun j=>frozen_of_row w1 w.heap.size j _ _ HP1.out.box
   have HF:Hid ((sev w1 w.heap.size (.slice none 0 0) 0 0 0 0 0 0).heap[w.heap.size]?=some (packO (.slice none 0 0) 0 0 0 0 0 0)/\Below w.heap.size w (sev w1 w.heap.size (.slice none 0 0) 0 0 0 0 0 0)):=hideP ⟨sev_heap HP1.out.box _ _ _ _ _ _ _,sev_below HP1.out.bel (Nat.le_refl _) _ _ _ _ _ _ _⟩
   go_wp2_with (go_at_call 44;refine(FC1.out _).mono ?_;rintro _ _ ⟨rfl,rfl⟩)
   exact bodyPost_ret (v:=packV (.slice none 0 0) ⟨0,0,0,0,0,0⟩) (results_one_cell rfl _ _ w.heap.size _ rfl (loadPack HF.out.1)) rfl ⟨HF.out.2,by rw[HPR.out];exact rfl⟩
  | true =>
   obtain⟨f2,hf2⟩:=exq (fitsB tt)
   have HF2:=hideP hf2
   rw[<-hf2] at FC2
   clear hf2
   cases f2 with
   | false =>
    have HPR:Hid (prgB xs mode size=false):=hideP (by rw[HPB.out,<-HF1.out,<-HF2.out];cases decide (m<=10000)<;>rfl)
    obtain⟨q0,q1,q2,q3,q4,q5,q6⟩:=pack_cells HP1.out.box
    have fR:∀j,w1.frozen? ⟨w.heap.size,j,none⟩=false:=fun j=>frozen_of_row w1 w.heap.size j _ _ HP1.out.box
    have HF:Hid ((sev w1 w.heap.size (.slice none 0 0) 0 0 0 0 0 0).heap[w.heap.size]?=some (packO (.slice none 0 0) 0 0 0 0 0 0)/\Below w.heap.size w (sev w1 w.heap.size (.slice none 0 0) 0 0 0 0 0 0)):=hideP ⟨sev_heap HP1.out.box _ _ _ _ _ _ _,sev_below HP1.out.bel (Nat.le_refl _) _ _ _ _ _ _ _⟩
    go_wp2_with (go_at_call 44;first|(refine(FC1.out _).mono ?_;rintro _ _ ⟨rfl,rfl⟩)|(refine(FC2.out _).mono ?_;rintro _ _ ⟨rfl,rfl⟩))
    exact bodyPost_ret (v:=packV (.slice none 0 0) ⟨0,0,0,0,0,0⟩) (results_one_cell rfl _ _ w.heap.size _ rfl (loadPack HF.out.1)) rfl ⟨HF.out.2,by rw[HPR.out];exact rfl⟩
   | true =>
    exfalso
    have h:=HNO.out
    rw[<-HM.out,<-HTT.out,<-HF1.out,<-HF2.out,decide_eq_true hc1] at h
    exact absurd h (by decide)
 ·have hd:decide ((10000:Int)<(m:Int))=true:=by simp;omega
  have hd0:(10000:Int)<(m:Int):=by omega
  have HPR:Hid (prgB xs mode size=false):=hideP (by rw[HPB.out,decide_eq_false hc1];rfl)
  obtain⟨q0,q1,q2,q3,q4,q5,q6⟩:=pack_cells HP1.out.box
  have fR:∀j,w1.frozen? ⟨w.heap.size,j,none⟩=false:=fun j=>frozen_of_row w1 w.heap.size j _ _ HP1.out.box
  have HF:Hid ((sev w1 w.heap.size (.slice none 0 0) 0 0 0 0 0 0).heap[w.heap.size]?=some (packO (.slice none 0 0) 0 0 0 0 0 0)/\Below w.heap.size w (sev w1 w.heap.size (.slice none 0 0) 0 0 0 0 0 0)):=hideP ⟨sev_heap HP1.out.box _ _ _ _ _ _ _,sev_below HP1.out.bel (Nat.le_refl _) _ _ _ _ _ _ _⟩
  go_wp2
  exact bodyPost_ret (v:=packV (.slice none 0 0) ⟨0,0,0,0,0,0⟩) (results_one_cell rfl _ _ w.heap.size _ rfl (loadPack HF.out.1)) rfl ⟨HF.out.2,by rw[HPR.out];exact rfl⟩
def RS.pile (s:RS)(x:Nd):RS:=⟨s.w+(x.ht+x.dp),Shr.mxI s.h (x.wd+x.sh),x.dp,s.gs⟩
def RS.drop (s:RS)(x:Nd):RS:=⟨s.w+x.wd,s.h,0,s.gs⟩
def RS.gap (s:RS)(x:Nd):RS:=⟨s.w,s.h,0,s.gs++[glOf x]⟩
def RS.pass (s:RS):RS:=⟨s.w,s.h,0,s.gs⟩
def pileB (x:Nd):Bool:=x.k == 5||x.k == 6||x.k == 7
def stkStep (s:RS)(x:Nd):RS:=if pileB x then s.pile x else if x.k=2 then s.drop x else if x.k=3 then s.gap x else s.pass
theorem stkStep_2 {s:RS}{x:Nd}(h:x.k=2):stkStep s x=s.drop x:=by simp[stkStep,pileB,h]
theorem stkStep_3 {s:RS}{x:Nd}(h:x.k=3):stkStep s x=s.gap x:=by simp[stkStep,pileB,h]
theorem stkStep_0 {s:RS}{x:Nd}(h2:x.k≠2)(h3:x.k≠3)(h5:x.k≠5)(h6:x.k≠6)(h7:x.k≠7):stkStep s x=s.pass:=by simp[stkStep,pileB,h2,h3,h5,h6,h7]
def stkTo (xs:List Nd)(ps:List Nat):RS:=ps.foldl (fun s p=>stkStep s (xs.getD p Nd.none)) RS.nil
theorem stkTo_snoc (xs:List Nd)(ps:List Nat)(p:Nat):stkTo xs (ps++[p])=stkStep (stkTo xs ps) (xs.getD p Nd.none):=by simp[stkTo]
structure VIn (s:RS)(j:Nat):Prop where
 w1 : -(2147483646*(j:Int))<=s.w
 w2:s.w<=2147483646*(j:Int)
 h1:0<=s.h
 h2:s.h<=2147483646
 d1 : -1073741823<=s.d
 d2:s.d<=1073741823
 n:s.gs.length<=j
 ok:∀g∈s.gs,g.ok=true
theorem VIn.nil:VIn RS.nil 0:=⟨by simp[RS.nil],by simp[RS.nil],by simp[RS.nil],by simp[RS.nil],by simp[RS.nil],by simp[RS.nil],by simp[RS.nil],by simp[RS.nil]⟩
theorem VIn.step {s:RS}{j:Nat}{x:Nd}(h:VIn s j)(hx:NdIn x):VIn (stkStep s x) (j+1):=by
 obtain⟨⟨a1,a2⟩,a3⟩:=mxI_in (a:=s.h) (b:=x.wd+x.sh)
 have:=h.w1
 have:=h.w2
 have:=h.h1
 have:=h.h2
 have:=h.n
 have:=hx.wd
 have:=hx.ht
 have:=hx.dp
 have:=hx.sh
 unfold stkStep
 split
 ·refine⟨by simp only[RS.pile];push_cast;omega,by simp only[RS.pile];push_cast;omega,?_,?_,by simp only[RS.pile];omega,by simp only[RS.pile];omega,by simp only[RS.pile];omega,h.ok⟩
  ·simp only[RS.pile];omega
  ·simp only[RS.pile];rcases a3 with a3|a3<;>omega
 ·split
  ·exact⟨by simp only[RS.drop];push_cast;omega,by simp only[RS.drop];push_cast;omega,h.h1,h.h2,by simp only[RS.drop];omega,by simp only[RS.drop];omega,by simp only[RS.drop];omega,h.ok⟩
  ·split
   ·refine⟨by simp only[RS.gap];push_cast;omega,by simp only[RS.gap];push_cast;omega,h.h1,h.h2,by simp only[RS.gap];omega,by simp only[RS.gap];omega,by simp only[RS.gap,List.length_append,List.length_singleton];omega,fun g hg=>?_⟩
    rcases List.mem_append.1 hg with hg|hg
    ·exact h.ok g hg
    ·rw[List.mem_singleton.1 hg];exact hx.gl
   ·exact⟨by simp only[RS.pass];push_cast;omega,by simp only[RS.pass];push_cast;omega,h.h1,h.h2,by simp only[RS.pass];omega,by simp only[RS.pass];omega,by simp only[RS.pass];omega,h.ok⟩
theorem stkTo_in_aux (xs:List Nd)(hx:∀i,i<xs.length->NdIn (xs.getD i Nd.none)):∀(ps:List Nat) (s:RS) (j:Nat),(∀p∈ps,p<xs.length)->VIn s j->VIn (ps.foldl (fun s p=>stkStep s (xs.getD p Nd.none)) s) (j+ps.length)
 | [],s,j,_,h=>h
 | p :: ps,s,j,hp,h=>by
  have h1:=stkTo_in_aux xs hx ps _ _ (fun q hq=>hp q (List.mem_cons_of_mem _ hq)) (h.step (hx p (hp p (List.mem_cons_self ..))))
  rw[List.foldl_cons,List.length_cons,show j+(ps.length+1)=j+1+ps.length by omega]
  exact h1
theorem stkTo_in (xs:List Nd)(hx:∀i,i<xs.length->NdIn (xs.getD i Nd.none))(ps:List Nat)(h:∀p∈ps,p<xs.length):VIn (stkTo xs ps) ps.length:=by
 have h1:=stkTo_in_aux xs hx ps RS.nil 0 h VIn.nil
 rw[Nat.zero_add] at h1
 exact h1
theorem stkStep_gs (s:RS)(x:Nd):(stkStep s x).gs=if x.k=3 then s.gs++[glOf x] else s.gs:=by
 by_cases h:x.k=3
 ·rw[stkStep_3 h,if_pos h]
  rfl
 ·rw[if_neg h]
  unfold stkStep
  split
  ·rfl
  ·split
   ·rfl
   ·rfl
theorem stkTo_gs_aux (xs:List Nd):∀(Z:List Nat) (s t:RS),s.gs=t.gs->(Z.foldl (fun s p=>stkStep s (xs.getD p Nd.none)) s).gs=(Z.foldl (fun s p=>rowStep s (xs.getD p Nd.none)) t).gs
 | [],s,t,h=>h
 | p :: Z,s,t,h=>by
  rw[List.foldl_cons,List.foldl_cons]
  exact stkTo_gs_aux xs Z _ _ (by rw[stkStep_gs,rowStep_gs,h])
theorem stkTo_gs (xs:List Nd)(Z:List Nat):(stkTo xs Z).gs=(rowTo xs Z).gs:=stkTo_gs_aux xs Z _ _ rfl
def mnI (a b:Int):Int:=if b<a then b else a
def vpS (xs:List Nd)(deep:Int):RS:=⟨(stkTo xs (begins xs)).w-mnI (stkTo xs (begins xs)).d deep,(stkTo xs (begins xs)).h,mnI (stkTo xs (begins xs)).d deep,(stkTo xs (begins xs)).gs⟩
theorem vpS_gs (xs:List Nd)(deep:Int):(vpS xs deep).gs=(hpS xs).gs:=stkTo_gs xs _
structure SIn (s:RS)(j:Nat):Prop where
 w1 : -(2147483646*(j:Int))-2147483646<=s.w
 w2:s.w<=2147483646*(j:Int)+2147483646
 h1:0<=s.h
 h2:s.h<=2147483646
 d1 : -1073741823<=s.d
 d2:s.d<=1073741823
 n:s.gs.length<=j
 ok:∀g∈s.gs,g.ok=true
theorem vpS_in {xs:List Nd}{deep:Int}(h:listB xs=true)(hd:0<=deep):SIn (vpS xs deep) (begins xs).length:=by
 have hv:=stkTo_in xs (list_in h) (begins xs) (fun p hp=>starts_lt xs _ _ p hp)
 have:=hv.w1
 have:=hv.w2
 have:=hv.d1
 have:=hv.d2
 have hm : -1073741823<=mnI (stkTo xs (begins xs)).d deep/\mnI (stkTo xs (begins xs)).d deep<=1073741823:=by
  unfold mnI
  split<;>omega
 exact⟨by simp only[vpS];omega,by simp only[vpS];omega,hv.h1,hv.h2,by simp only[vpS];omega,by simp only[vpS];omega,hv.n,hv.ok⟩
def vpTo (xs:List Nd)(deep mode size:Int):Int:=Shr.alongI (vpS xs deep).w (vpS xs deep).gs mode size
def vpQ (xs:List Nd)(deep mode size:Int):Int:=vpTo xs deep mode size-(vpS xs deep).w-Shr.siz (vpS xs deep).gs
def vpL (xs:List Nd)(deep mode size:Int):List Int:=Shr.shareL (vpS xs deep).gs (vpQ xs deep mode size)
def vpOk (xs:List Nd)(deep mode size:Int):Bool:=packB xs mode size&&Shr.glsOk (vpS xs deep).gs&&(Shr.fitsB (vpTo xs deep mode size)&&Shr.fitsB (vpS xs deep).w)&&fitsB (vpS xs deep).h&&fitsB (vpS xs deep).d&&(vpL xs deep mode size).all Shr.fitsB
def vpN (xs:List Nd)(deep mode size:Int):List Nd:=boxN 7 (vpS xs deep).h (vpTo xs deep mode size) (vpS xs deep).d xs.length :: setL (gluesAt xs (begins xs)) (vpL xs deep mode size) xs
theorem vpS_n (xs:List Nd)(deep:Int):(vpS xs deep).gs.length=(gluesAt xs (begins xs)).length:=by rw[vpS_gs,hpS_n]
theorem run_bs1 (W:World)(k a b c:Int)(n:Nat):(Instr.buildSlice 24 1 #[(0,.agg #[.int .i64 k,.int .i64 a,.int .i64 b,.int .i64 c,.int .i64 0,.int .i64 0,.int .i64 0,.int .i64 0,.int .i64 0,.int .i64 0,.int .i64 0,.int .i64 0,.int .i64 0,.string ⟨#[]⟩,.int .i64 (n:Int)])]).run Tryz.prog W = .ok (.slice (some ⟨W.heap.size,0,none⟩) 1 1) (W.alloc (.cells #[.int .i64 k,.int .i64 a,.int .i64 b,.int .i64 c,.int .i64 0,.int .i64 0,.int .i64 0,.int .i64 0,.int .i64 0,.int .i64 0,.int .i64 0,.int .i64 0,.int .i64 0,.string ⟨#[]⟩,.int .i64 (n:Int)] 36)):=by kernel_rfl
theorem run_bs2 (W:World)(a1 a2:Option Addr)(n1 n2 c1 c2:Nat):(Instr.buildSlice 37 2 #[(0,.slice a1 n1 c1),(1,.slice a2 n2 c2)]).run Tryz.prog W = .ok (.slice (some ⟨W.heap.size,0,none⟩) 2 2) (W.alloc (.cells #[.slice a1 n1 c1,.slice a2 n2 c2] 24)):=by kernel_rfl
theorem wpList_bs1 {P:Program}{w w':World}{ops:Array Oper}{rest:List Oper}{o:Oper}{a:Act}{Q:Exit->Act->World->Prop}(hgd:o.guard=none)(t:TypeId)(len i:Nat)(x:Operand)(ho:o.op = .buildSlice t len #[(i,x)]){v u:Value}(hx:a.eval x=v)
 (hr:(Instr.buildSlice t len #[(i,v)]).run P w = .ok u w') (h:wpList P ops Q rest (a.put o.dst u) w'):wpList P ops Q (o :: rest) a w:=by
 refine wpList_plain hgd fun K hK=>?_
 unfold Oper.wp
 simp[execOp,ho,hx,hr,Result.andThen]
 exact hK _ _ h
theorem wpList_bs2 {P:Program}{w w':World}{ops:Array Oper}{rest:List Oper}{o:Oper}{a:Act}{Q:Exit->Act->World->Prop}(hgd:o.guard=none)(t:TypeId)(len i j:Nat)(x y:Operand)(ho:o.op = .buildSlice t len #[(i,x),(j,y)]){v v2 u:Value}(hx:a.eval x=v)(hy:a.eval y=v2)
 (hr:(Instr.buildSlice t len #[(i,v),(j,v2)]).run P w = .ok u w') (h:wpList P ops Q rest (a.put o.dst u) w'):wpList P ops Q (o :: rest) a w:=by
 refine wpList_plain hgd fun K hK=>?_
 unfold Oper.wp
 simp[execOp,ho,hx,hy,hr,Result.andThen]
 exact hK _ _ h
theorem wpList_store_row {P:Program}{w:World}{ops:Array Oper}{rest:List Oper}{o:Oper}{a:Act}{Q:Exit->Act->World->Prop}(hgd:o.guard=none)(t:TypeId)(p v:Operand)(ho:o.op=Op.store t p v)(g:Nat)(hp:a.eval p = .pointer (some ⟨g,0,none⟩))
 (old cells:Array Value) (hv:a.eval v = .agg cells) (ty:TypeId) (hg:w.heap[g]?=some (.cells old ty (0,0))) (hi:(P.info? t).map (·.size)=some cells.size) (hs:old.size=cells.size) (h1:cells.all (·.oneCell')=true)
 (h:wpList P ops Q rest (a.put o.dst undef) (w.setRow g cells)):wpList P ops Q (o :: rest) a w:=by
 refine wpList_plain hgd fun K hK=>?_
 have hr:=run_storeVar_row (P:=P) w g ty t old cells hg hi hs h1
 unfold Oper.wp execOp
 simp only[ho,hp,hv,Instr.storeAt,Instr.sureAddr,Sem.run_bind,Sem.run_pure,Result.andThen_ok,hr]
 exact hK _ _ h
theorem run_bd28 (W:World)(a:Option Addr)(n c:Nat)(z0 z1 z2 z3 z4 z5:Int):(Instr.build 30 #[(0,.slice a n c),(1,.agg #[.int .i64 z0,.int .i64 z1,.int .i64 z2,.int .i64 z3,.int .i64 z4,.int .i64 z5])]).run Tryz.prog W = .ok (.agg #[.slice a n c,.int .i64 z0,.int .i64 z1,.int .i64 z2,.int .i64 z3,.int .i64 z4,.int .i64 z5]) W:=by kernel_rfl
theorem wpList_bd2 {P:Program}{w w':World}{ops:Array Oper}{rest:List Oper}{o:Oper}{a:Act}{Q:Exit->Act->World->Prop}(hgd:o.guard=none)(t:TypeId)(i j:Nat)(x y:Operand)(ho:o.op = .build t #[(i,x),(j,y)]){v v2 u:Value}(hx:a.eval x=v)(hy:a.eval y=v2)
 (hr:(Instr.build t #[(i,v),(j,v2)]).run P w = .ok u w') (h:wpList P ops Q rest (a.put o.dst u) w'):wpList P ops Q (o :: rest) a w:=by
 refine wpList_plain hgd fun K hK=>?_
 unfold Oper.wp
 simp[execOp,ho,hx,hy,hr,Result.andThen]
 exact hK _ _ h
abbrev ans (w:World)(R:Nat)(u:Value)(a b c d e f:Int):World:=w.setRow R #[u,.int .i64 a,.int .i64 b,.int .i64 c,.int .i64 d,.int .i64 e,.int .i64 f]
theorem ans_heap {w W:World}(h:PB w W)(u:Value)(a b c d e f:Int):(ans W w.heap.size u a b c d e f).heap[w.heap.size]?=some (packO u a b c d e f):=setRow_heap _ _ _ _ _ _ h.box
theorem ans_below {w W:World}(h:PB w W)(u:Value)(a b c d e f:Int):Below w.heap.size w (ans W w.heap.size u a b c d e f):=below_setRow h.bel (Nat.le_refl _) _
theorem ans_own {w W:World}{v:Value}{n:Nat}{ys:List Value}(hP:PB w W)(ho:W.ownsRow w.heap.size 36 15 v n ys)(u:Value)(a b c d e f:Int):(ans W w.heap.size u a b c d e f).ownsRow w.heap.size 36 15 v n ys:=by
 refine ownG_same ho (fun g hg=>setRow_other _ _ _ _ ?_)
 intro e
 subst e
 obtain⟨cs,hc⟩:=own_cells_block ho hg
 rw[hP.box] at hc
 cases hc
end Go.Proofs.YtbbehmcekbnkiaaGreat

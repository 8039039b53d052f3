import Derived.Test.YtbbehmcekbnkiaaGreatSdr
import Derived.Test.YtbbehmcekbnkiaaGreatSdp
import Derived.Test.YtbbehmcekbnkiaaGreatShq
import Derived.Test.YtbbehmcekbnkiaaGreatBsl
import Derived.Test.YtbbehmcekbnkiaaGreatSpu
namespace Go.Proofs.YtbbehmcekbnkiaaGreat
open Go.RowKit
set_option linter.unusedVariables false
set_option linter.unusedSimpArgs false
theorem good_kd {x:Nd} (h:goodB x=true):1≤x.k∧x.k≤11:=by
 unfold goodB specB at h
 simp only[Bool.and_eq_true,decide_eq_true_eq] at h
 exact h.1.1.1.1.1.1
set_option maxRecDepth 20000 in
set_option maxHeartbeats 4000000 in
theorem spots_any {w:World} {v:Value} {xs:List Nd} (x y:Int) (h:NRow 0 w v xs) (hs:xs.length≤1048576) :
 Calls Tryz.prog 18 #[v, .int .i64 x, .int .i64 y] w fun e w'=>(∃u,e = .returned u∧w'.ownsRow w.heap.size 47 6 u (spotsL xs x y).length (flatS (spotsL xs x y)))∧Below w.heap.size w w':=by
 have OB:Hid (∀W,Below w.heap.size w W→Calls Tryz.prog 33 #[v] W fun e w'=>(∃a1 a2 a3 a4 a5 a6:Int,e = .returned (.tuple #[.agg #[.int .i64 a1, .int .i64 a2, .int .i64 a3, .int .i64 a4, .int .i64 a5, .int .i64 a6], .bool (oneB xs)])∧(oneB xs=true→a1=(xs.getD 0 Nd.none).k∧a2=(xs.getD 0 Nd.none).wd∧a3=(xs.getD 0 Nd.none).ht∧a4=(xs.getD 0 Nd.none).dp∧a5=(xs.getD 0 Nd.none).sh∧a6=(xs.getD 0 Nd.none).kids))∧Below W.heap.size W w'):=hideP (fun W hW=>onlyBox6_any (SRow.below ndStable h hW) hs)
 have DC:Hid (oneB xs=true→∀W b0 p0,Below w.heap.size w W→w.heap.size≤b0→PenAt W b0 p0→p0.e=xs.length→Calls Tryz.prog 45 #[v, .pointer (some ⟨b0,0,none⟩)] W fun e w'=>(∃u,e = .returned u∧w'.ownsRow w.heap.size 47 6 u (runS xs (2*xs.length+2) 1 [p0] []).length (flatS (runS xs (2*xs.length+2) 1 [p0] [])))∧Below w.heap.size w w'):=hideP (fun ho W b0 p0 hW hb hp he=>by
  have h1:=ho
  unfold oneB at h1
  simp only[Bool.and_eq_true,decide_eq_true_eq] at h1
  obtain⟨⟨⟨hl,h0⟩,_⟩,_⟩:=h1
  have hlen:=(listB_iff.1 hl).1
  refine drawn_any h ⟨h0,hlen⟩ ?_ ?_ hW hb hp he
  ·exact (allOk hl).kids
  ·exact fun i hi=>good_kd (all_getD.1 (list_good hl) i hi))
 have HSL:Hid (spotsL xs x y=if oneB xs=true∧fitsB x=true∧fitsB y=true then runS xs (2*xs.length+2) 1 [inP (xs.getD 0 Nd.none).k (xs.getD 0 Nd.none).ht x y xs.length] [] else []):=hideP rfl
 obtain⟨S,hS⟩:∃S,S=spotsL xs x y:=⟨_,rfl⟩
 rw[← hS] at HSL ⊢
 obtain⟨ao,n,cap,rfl,hln,hr⟩:=h
 have HL:=hideP hln
 clear hr hS hln
 obtain⟨ob,hob⟩:∃ob,ob=oneB xs:=⟨_,rfl⟩
 rw[← hob] at OB HSL DC
 have FC:Hid (∀(x:Int) W,Calls Tryz.prog 44 #[.int .i64 x] W fun e w'=>e = .returned (.bool (fitsB x))∧w'=W):=hideP implFits_any
 obtain⟨fx,hfx⟩:∃f,f=fitsB x:=⟨_,rfl⟩
 obtain⟨fy,hfy⟩:∃f,f=fitsB y:=⟨_,rfl⟩
 have FX:Hid (∀W,Calls Tryz.prog 44 #[.int .i64 x] W fun e w'=>e = .returned (.bool fx)∧w'=W):=hideP (by rw[hfx];exact FC.out x)
 have FY:Hid (∀W,Calls Tryz.prog 44 #[.int .i64 y] W fun e w'=>e = .returned (.bool fy)∧w'=W):=hideP (by rw[hfy];exact FC.out y)
 rw[← hfx,← hfy] at HSL
 clear hob FC hfx hfy
 go_enter Tryz.func18,Tryz.ntmps18
 go_wp2_with fail
 refine (OB.out _ (by first | exact Below.refl _ _ | exact Below.drew (Below.refl _ _))).mono ?_
 rintro e w3 ⟨⟨a1,a2,a3,a4,a5,a6,rfl,ha⟩,hb3⟩
 have B3:=hideP hb3
 clear hb3 OB
 cases ob with
 | false =>
  have HE:Hid (S=[]):=hideP (by have h:=HSL.out;simpa using h)
  clear HSL DC ha
  go_wp2
  go_ret
  exact⟨⟨_,rfl,by rw[HE.out];exact own_new2 rfl B3.out.size⟩,below_more B3.out (below2 _ _ _) B3.out.size⟩
 | true =>
  obtain⟨rfl,rfl,rfl,rfl,rfl,rfl⟩:=ha rfl
  cases fx with
  | false =>
   have HE:Hid (S=[]):=hideP (by have h:=HSL.out;simpa using h)
   clear HSL DC ha
   go_wp2_with (go_at_call 44;(first | refine (FX.out _).mono ?_ | refine (FY.out _).mono ?_);rintro e w6 ⟨rfl,rfl⟩)
   go_ret
   exact⟨⟨_,rfl,by rw[HE.out];exact own_new2 rfl B3.out.size⟩,below_more B3.out (below2 _ _ _) B3.out.size⟩
  | true =>
   cases fy with
   | false =>
    have HE:Hid (S=[]):=hideP (by have h:=HSL.out;simpa using h)
    clear HSL DC ha
    go_wp2_with (go_at_call 44;(first | refine (FX.out _).mono ?_ | refine (FY.out _).mono ?_);rintro e w6 ⟨rfl,rfl⟩)
    go_ret
    exact⟨⟨_,rfl,by rw[HE.out];exact own_new2 rfl B3.out.size⟩,below_more B3.out (below2 _ _ _) B3.out.size⟩
   | true =>
    have HE:Hid (S=runS xs (2*xs.length+2) 1 [inP (xs.getD 0 Nd.none).k (xs.getD 0 Nd.none).ht x y n] []):=hideP (by have h:=HSL.out;rw[if_pos ⟨rfl,rfl,rfl⟩,HL.out] at h;rw[← HL.out] at h ⊢;exact h)
    clear HSL ha
    obtain⟨k,hk⟩:∃k,k=(xs.getD 0 Nd.none).k:=⟨_,rfl⟩
    obtain⟨wd,hwd⟩:∃k,k=(xs.getD 0 Nd.none).wd:=⟨_,rfl⟩
    obtain⟨ht,hht⟩:∃k,k=(xs.getD 0 Nd.none).ht:=⟨_,rfl⟩
    obtain⟨dp,hdp⟩:∃k,k=(xs.getD 0 Nd.none).dp:=⟨_,rfl⟩
    obtain⟨sh,hsh⟩:∃k,k=(xs.getD 0 Nd.none).sh:=⟨_,rfl⟩
    obtain⟨kids,hkids⟩:∃k,k=(xs.getD 0 Nd.none).kids:=⟨_,rfl⟩
    rw[← hk,← hht] at HE
    rw[← hk,← hwd,← hht,← hdp,← hsh,← hkids]
    clear hk hwd hht hdp hsh hkids
    have PI:Hid (∀W,Calls Tryz.prog 46 #[.agg #[.int .i64 k, .int .i64 wd, .int .i64 ht, .int .i64 dp, .int .i64 sh, .int .i64 kids], .int .i64 x, .int .i64 y, .int .i64 (n:Int)] W fun r w'=>∃b,r = .returned (.pointer (some ⟨b,0,none⟩))∧W.heap.size≤b∧PenAt w' b (inP k ht x y n)∧Below W.heap.size W w'):=hideP (fun W=>penIn_any k wd ht dp sh kids x y n W)
    go_wp2_with (first | (go_at_call 44;(first | refine (FX.out _).mono ?_ | refine (FY.out _).mono ?_);rintro e w6 ⟨rfl,rfl⟩) | (go_at_call 46;refine (PI.out _).mono ?_;rintro e w6 ⟨b2,rfl,hb2,hp6,hb6⟩;have P6:=hideP hp6;have B6:Hid (Below w.heap.size w w6):=hideP (below_more B3.out (below_more (below1 w3 _) hb6 (below1 w3 _).size) B3.out.size);have hb2':w.heap.size≤b2:=Nat.le_trans B3.out.size (Nat.le_trans (below1 w3 _).size hb2);clear hp6 hb6))
    have hc:=DC.out (by first | rfl | trivial) w6 b2 (inP k ht x y n) B6.out hb2' P6.out (by rw[inP_e];exact HL.out.symm)
    rw[← HE.out] at hc
    clear DC HE
    refine hc.mono ?_
    rintro e w7 ⟨⟨u,rfl,ho⟩,hb7⟩
    have O7:=hideP ho
    have B7:=hideP hb7
    clear ho hb7 hc
    go_wp2
    go_ret
    exact⟨⟨_,rfl,O7.out⟩,B7.out⟩
end Go.Proofs.YtbbehmcekbnkiaaGreat

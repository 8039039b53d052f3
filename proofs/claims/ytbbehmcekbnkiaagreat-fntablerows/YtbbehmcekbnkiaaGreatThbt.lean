import Derived.Test.YtbbehmcekbnkiaaGreatFitt
import Derived.RangeFuncNested
import Derived.RangeFuncBound
import Derived.OrdersIn
namespace Go.Proofs.YtbbehmcekbnkiaaGreat
set_option maxHeartbeats 4000000
open Go.RowKit
set_option linter.unusedVariables false
set_option linter.unusedSimpArgs false
def eqNd (x y:Nd):Bool :=
 x.k == y.k&&(x.wd == y.wd&&(x.ht == y.ht&&(x.dp == y.dp&&(x.sh == y.sh&&(x.fo == y.fo&&(x.ch == y.ch&&(x.nn == y.nn&&((x.gs == y.gs&&(x.gp == y.gp&&(x.gpo == y.gpo&&(x.gm == y.gm&&x.gmo == y.gmo))))&&(x.tx.toList == y.tx.toList&&x.kids == y.kids)))))))))
def eqGl (a b c d e a' b' c' d' e':Int):Bool:=a == a'&&(b == b'&&(c == c'&&(d == d'&&e == e')))
theorem run_glue (a b c d e a' b' c' d' e':Int)(n:Nat)(w:World):(Op.equalIn (n+1+1) 34 (glueV a b c d e) (glueV a' b' c' d' e')).run Tryz.prog w = .ok (eqGl a b c d e a' b' c' d' e') w:=by
 have u2:=Tryz.underlying2
 have hS:Tryz.prog.underlying 34=some (.struct (Tryz.prog.fieldsOf 34)):=by kernel_rfl
 have hp:Tryz.prog.stoodInHeld 34=false:=by kernel_rfl
 rw[run_equalIn_agg w (n+1) 34 _ _ hS hp]
 simp only[Program.fieldsOf,Tryz.underlying34]
 go_simp
 simp only[eqGl]
 by_cases h1:a=a'<;>by_cases h2:b=b'<;>by_cases h3:c=c'<;>by_cases h4:d=d'<;>by_cases h5:e=e'<;>simp[h1,h2,h3,h4,h5]
theorem neqNode (x y:Nd)(w:World):(binOp .neq 36 (ndV x) (ndV y)).run Tryz.prog w = .ok (.bool (!eqNd x y)) w:=by
 obtain⟨k,wd,ht,dp,sh,fo,ch,nn,gs,gp,gpo,gm,gmo,tx,kids⟩:=x
 obtain⟨k',wd',ht',dp',sh',fo',ch',nn',gs',gp',gpo',gm',gmo',tx',kids'⟩:=y
 have u2:=Tryz.underlying2
 have u9:=Tryz.underlying9
 have hS:Tryz.prog.underlying 36=some (.struct (Tryz.prog.fieldsOf 36)):=by kernel_rfl
 have hp:Tryz.prog.stoodInHeld 36=false:=by kernel_rfl
 have hg:=fun n w=>run_glue gs gp gpo gm gmo gs' gp' gpo' gm' gmo' n w
 simp only[ndV]
 rw[run_neq_struct,show (10000:Nat)=9999+1 from rfl,run_equalIn_agg w 9999 36 _ _ hS hp]
 simp only[Program.fieldsOf,Tryz.underlying36]
 go_simp
 simp only[eqNd]
 rw[show (gs == gs'&&(gp == gp'&&(gpo == gpo'&&(gm == gm'&&gmo == gmo'))))=eqGl gs gp gpo gm gmo gs' gp' gpo' gm' gmo' from rfl]
 generalize eqGl gs gp gpo gm gmo gs' gp' gpo' gm' gmo'=G
 clear hg hS hp
 by_cases h1:k=k'
 ·by_cases h2:wd=wd'
  ·by_cases h3:ht=ht'
   ·by_cases h4:dp=dp'
    ·by_cases h5:sh=sh'
     ·by_cases h6:fo=fo'
      ·by_cases h7:ch=ch'
       ·by_cases h8:nn=nn'
        ·cases G<;>by_cases h9:tx.toList=tx'.toList<;>by_cases h10:kids=kids'<;>simp[h1,h2,h3,h4,h5,h6,h7,h8,h9,h10]
        ·simp[h8]
       ·simp[h7]
      ·simp[h6]
     ·simp[h5]
    ·simp[h4]
   ·simp[h3]
  ·simp[h2]
 ·simp[h1]
theorem eqNd_iff (x y:Nd):eqNd x y=true↔x=y:=by
 obtain⟨k,wd,ht,dp,sh,fo,ch,nn,gs,gp,gpo,gm,gmo,tx,kids⟩:=x
 obtain⟨k',wd',ht',dp',sh',fo',ch',nn',gs',gp',gpo',gm',gmo',tx',kids'⟩:=y
 have ht:tx.toList=tx'.toList↔tx=tx':=by
  rw[ByteArray.toList_eq,ByteArray.toList_eq]
  obtain⟨⟨a⟩⟩:=tx
  obtain⟨⟨b⟩⟩:=tx'
  simp
 simp[eqNd,ht,and_assoc]
def Nd.used (x:Nd):Nd :=
 if x.k=1\/x.k=8 then ⟨x.k,x.wd,x.ht,x.dp,0,x.fo,x.ch,0,0,0,0,0,0,⟨#[]⟩,0⟩
 else if x.k=2 then ⟨x.k,x.wd,0,0,0,0,0,0,0,0,0,0,0,⟨#[]⟩,0⟩
 else if x.k=3 then ⟨x.k,x.wd,0,0,0,0,0,0,x.gs,x.gp,x.gpo,x.gm,x.gmo,⟨#[]⟩,0⟩
 else if x.k=4 then ⟨x.k,0,0,0,0,0,0,x.nn,0,0,0,0,0,⟨#[]⟩,0⟩
 else if x.k=5 then ⟨x.k,x.wd,x.ht,x.dp,0,0,0,0,0,0,0,0,0,⟨#[]⟩,0⟩
 else if x.k=6\/x.k=7 then ⟨x.k,x.wd,x.ht,x.dp,x.sh,0,0,0,0,0,0,0,0,⟨#[]⟩,x.kids⟩
 else if x.k=9\/x.k=10 then ⟨x.k,0,0,0,0,0,0,0,0,0,0,0,0,x.tx,0⟩
 else if x.k=11 then ⟨x.k,0,x.ht,0,0,0,0,x.nn,0,0,0,0,0,⟨#[]⟩,x.kids⟩
 else x
def penB (x:Nd):Bool:=!((x.k == 4&&(!decide (-10000<=x.nn)||!decide (x.nn<=10000)))||(x.k == 11&&(!decide (0<=x.nn)||!decide (x.nn<=15))))
def specB (x:Nd):Bool :=
 decide (1<=x.k/\x.k<=11)&&eqNd x x.used&&(fitsB x.wd&&fitsB x.ht&&fitsB x.dp&&fitsB x.sh&&glB x.gs x.gp x.gpo x.gm x.gmo)&&penB x&&(uptoB x.fo 15&&uptoB x.ch 255)&&decide ((x.tx.size:Int)<=1000)
def goodB (x:Nd):Bool:=specB x&&decide (0<=x.kids)
def deepB (x:Nd):Bool:=x.k == 6||x.k == 7||x.k == 11
theorem eqNd_comm (x y:Nd):eqNd x y=eqNd y x:=by
 cases h:eqNd x y<;>cases h2:eqNd y x
 ·rfl
 ·rw[eqNd_iff] at h2
  subst h2
  rw[show eqNd y y=true from(eqNd_iff y y).2 rfl] at h
  cases h
 ·rw[eqNd_iff] at h
  subst h
  rw[show eqNd x x=true from(eqNd_iff x x).2 rfl] at h2
  cases h2
 ·rfl
theorem fits0:fitsB 0=true:=by decide
theorem upto0 (m:Int)(h:0<=m):uptoB 0 m=true:=by simp[uptoB,h]
theorem gl0:glB 0 0 0 0 0=true:=by decide
theorem kinds {k:Int}(h1:1<=k)(h2:k<=11):k=1\/k=2\/k=3\/k=4\/k=5\/k=6\/k=7\/k=8\/k=9\/k=10\/k=11:=by omega
theorem good_1 (wd ht dp sh fo ch nn gs gp gpo gm gmo kids:Int)(tx:ByteArray):((uptoB fo 15&&uptoB ch 255&&(fitsB wd&&fitsB ht&&fitsB dp))&&eqNd ⟨1,wd,ht,dp,0,fo,ch,0,0,0,0,0,0,⟨#[]⟩,0⟩ ⟨1,wd,ht,dp,sh,fo,ch,nn,gs,gp,gpo,gm,gmo,tx,kids⟩)=goodB ⟨1,wd,ht,dp,sh,fo,ch,nn,gs,gp,gpo,gm,gmo,tx,kids⟩:=by
 have hu:Nd.used ⟨1,wd,ht,dp,sh,fo,ch,nn,gs,gp,gpo,gm,gmo,tx,kids⟩=⟨1,wd,ht,dp,0,fo,ch,0,0,0,0,0,0,⟨#[]⟩,0⟩:=by simp[Nd.used]
 unfold goodB specB
 rw[hu,eqNd_comm ⟨1,wd,ht,dp,0,fo,ch,0,0,0,0,0,0,⟨#[]⟩,0⟩]
 cases h:eqNd ⟨1,wd,ht,dp,sh,fo,ch,nn,gs,gp,gpo,gm,gmo,tx,kids⟩ ⟨1,wd,ht,dp,0,fo,ch,0,0,0,0,0,0,⟨#[]⟩,0⟩
 ·simp
 ·rw[eqNd_iff,Nd.mk.injEq] at h
  simp at h
  simp only[h,fits0,gl0,upto0 15 (by decide),upto0 255 (by decide),penB]
  simp[ByteArray.size]
  try(cases fitsB wd<;>cases fitsB ht<;>cases fitsB dp<;>cases fitsB sh<;>simp<;>try(rw[Bool.eq_iff_iff];simp;omega))
theorem good_2 (wd ht dp sh fo ch nn gs gp gpo gm gmo kids:Int)(tx:ByteArray):((fitsB wd)&&eqNd ⟨2,wd,0,0,0,0,0,0,0,0,0,0,0,⟨#[]⟩,0⟩ ⟨2,wd,ht,dp,sh,fo,ch,nn,gs,gp,gpo,gm,gmo,tx,kids⟩)=goodB ⟨2,wd,ht,dp,sh,fo,ch,nn,gs,gp,gpo,gm,gmo,tx,kids⟩:=by
 have hu:Nd.used ⟨2,wd,ht,dp,sh,fo,ch,nn,gs,gp,gpo,gm,gmo,tx,kids⟩=⟨2,wd,0,0,0,0,0,0,0,0,0,0,0,⟨#[]⟩,0⟩:=by simp[Nd.used]
 unfold goodB specB
 rw[hu,eqNd_comm ⟨2,wd,0,0,0,0,0,0,0,0,0,0,0,⟨#[]⟩,0⟩]
 cases h:eqNd ⟨2,wd,ht,dp,sh,fo,ch,nn,gs,gp,gpo,gm,gmo,tx,kids⟩ ⟨2,wd,0,0,0,0,0,0,0,0,0,0,0,⟨#[]⟩,0⟩
 ·simp
 ·rw[eqNd_iff,Nd.mk.injEq] at h
  simp at h
  simp only[h,fits0,gl0,upto0 15 (by decide),upto0 255 (by decide),penB]
  simp[ByteArray.size]
  try(cases fitsB wd<;>cases fitsB ht<;>cases fitsB dp<;>cases fitsB sh<;>simp<;>try(rw[Bool.eq_iff_iff];simp;omega))
theorem good_3 (wd ht dp sh fo ch nn gs gp gpo gm gmo kids:Int)(tx:ByteArray):((glB gs gp gpo gm gmo&&fitsB wd)&&eqNd ⟨3,wd,0,0,0,0,0,0,gs,gp,gpo,gm,gmo,⟨#[]⟩,0⟩ ⟨3,wd,ht,dp,sh,fo,ch,nn,gs,gp,gpo,gm,gmo,tx,kids⟩)=goodB ⟨3,wd,ht,dp,sh,fo,ch,nn,gs,gp,gpo,gm,gmo,tx,kids⟩:=by
 have hu:Nd.used ⟨3,wd,ht,dp,sh,fo,ch,nn,gs,gp,gpo,gm,gmo,tx,kids⟩=⟨3,wd,0,0,0,0,0,0,gs,gp,gpo,gm,gmo,⟨#[]⟩,0⟩:=by simp[Nd.used]
 unfold goodB specB
 rw[hu,eqNd_comm ⟨3,wd,0,0,0,0,0,0,gs,gp,gpo,gm,gmo,⟨#[]⟩,0⟩]
 cases h:eqNd ⟨3,wd,ht,dp,sh,fo,ch,nn,gs,gp,gpo,gm,gmo,tx,kids⟩ ⟨3,wd,0,0,0,0,0,0,gs,gp,gpo,gm,gmo,⟨#[]⟩,0⟩
 ·simp
 ·rw[eqNd_iff,Nd.mk.injEq] at h
  simp at h
  simp only[h,fits0,gl0,upto0 15 (by decide),upto0 255 (by decide),penB]
  simp[ByteArray.size]
  try(cases fitsB wd<;>cases fitsB ht<;>cases fitsB dp<;>cases fitsB sh<;>simp<;>try(rw[Bool.eq_iff_iff];simp;omega))
theorem good_4 (wd ht dp sh fo ch nn gs gp gpo gm gmo kids:Int)(tx:ByteArray):((decide (-10000<=nn)&&decide (nn<=10000))&&eqNd ⟨4,0,0,0,0,0,0,nn,0,0,0,0,0,⟨#[]⟩,0⟩ ⟨4,wd,ht,dp,sh,fo,ch,nn,gs,gp,gpo,gm,gmo,tx,kids⟩)=goodB ⟨4,wd,ht,dp,sh,fo,ch,nn,gs,gp,gpo,gm,gmo,tx,kids⟩:=by
 have hu:Nd.used ⟨4,wd,ht,dp,sh,fo,ch,nn,gs,gp,gpo,gm,gmo,tx,kids⟩=⟨4,0,0,0,0,0,0,nn,0,0,0,0,0,⟨#[]⟩,0⟩:=by simp[Nd.used]
 unfold goodB specB
 rw[hu,eqNd_comm ⟨4,0,0,0,0,0,0,nn,0,0,0,0,0,⟨#[]⟩,0⟩]
 cases h:eqNd ⟨4,wd,ht,dp,sh,fo,ch,nn,gs,gp,gpo,gm,gmo,tx,kids⟩ ⟨4,0,0,0,0,0,0,nn,0,0,0,0,0,⟨#[]⟩,0⟩
 ·simp
 ·rw[eqNd_iff,Nd.mk.injEq] at h
  simp at h
  simp only[h,fits0,gl0,upto0 15 (by decide),upto0 255 (by decide),penB]
  simp[ByteArray.size]
  try(cases fitsB wd<;>cases fitsB ht<;>cases fitsB dp<;>cases fitsB sh<;>simp<;>try(rw[Bool.eq_iff_iff];simp;omega))
theorem good_5 (wd ht dp sh fo ch nn gs gp gpo gm gmo kids:Int)(tx:ByteArray):((fitsB wd&&fitsB ht&&fitsB dp)&&eqNd ⟨5,wd,ht,dp,0,0,0,0,0,0,0,0,0,⟨#[]⟩,0⟩ ⟨5,wd,ht,dp,sh,fo,ch,nn,gs,gp,gpo,gm,gmo,tx,kids⟩)=goodB ⟨5,wd,ht,dp,sh,fo,ch,nn,gs,gp,gpo,gm,gmo,tx,kids⟩:=by
 have hu:Nd.used ⟨5,wd,ht,dp,sh,fo,ch,nn,gs,gp,gpo,gm,gmo,tx,kids⟩=⟨5,wd,ht,dp,0,0,0,0,0,0,0,0,0,⟨#[]⟩,0⟩:=by simp[Nd.used]
 unfold goodB specB
 rw[hu,eqNd_comm ⟨5,wd,ht,dp,0,0,0,0,0,0,0,0,0,⟨#[]⟩,0⟩]
 cases h:eqNd ⟨5,wd,ht,dp,sh,fo,ch,nn,gs,gp,gpo,gm,gmo,tx,kids⟩ ⟨5,wd,ht,dp,0,0,0,0,0,0,0,0,0,⟨#[]⟩,0⟩
 ·simp
 ·rw[eqNd_iff,Nd.mk.injEq] at h
  simp at h
  simp only[h,fits0,gl0,upto0 15 (by decide),upto0 255 (by decide),penB]
  simp[ByteArray.size]
  try(cases fitsB wd<;>cases fitsB ht<;>cases fitsB dp<;>cases fitsB sh<;>simp<;>try(rw[Bool.eq_iff_iff];simp;omega))
theorem good_6 (wd ht dp sh fo ch nn gs gp gpo gm gmo kids:Int)(tx:ByteArray):(((fitsB wd&&fitsB ht&&fitsB dp)&&fitsB sh&&decide (0<=kids))&&eqNd ⟨6,wd,ht,dp,sh,0,0,0,0,0,0,0,0,⟨#[]⟩,kids⟩ ⟨6,wd,ht,dp,sh,fo,ch,nn,gs,gp,gpo,gm,gmo,tx,kids⟩)=goodB ⟨6,wd,ht,dp,sh,fo,ch,nn,gs,gp,gpo,gm,gmo,tx,kids⟩:=by
 have hu:Nd.used ⟨6,wd,ht,dp,sh,fo,ch,nn,gs,gp,gpo,gm,gmo,tx,kids⟩=⟨6,wd,ht,dp,sh,0,0,0,0,0,0,0,0,⟨#[]⟩,kids⟩:=by simp[Nd.used]
 unfold goodB specB
 rw[hu,eqNd_comm ⟨6,wd,ht,dp,sh,0,0,0,0,0,0,0,0,⟨#[]⟩,kids⟩]
 cases h:eqNd ⟨6,wd,ht,dp,sh,fo,ch,nn,gs,gp,gpo,gm,gmo,tx,kids⟩ ⟨6,wd,ht,dp,sh,0,0,0,0,0,0,0,0,⟨#[]⟩,kids⟩
 ·simp
 ·rw[eqNd_iff,Nd.mk.injEq] at h
  simp at h
  simp only[h,fits0,gl0,upto0 15 (by decide),upto0 255 (by decide),penB]
  simp[ByteArray.size]
  try(cases fitsB wd<;>cases fitsB ht<;>cases fitsB dp<;>cases fitsB sh<;>simp<;>try(rw[Bool.eq_iff_iff];simp;omega))
theorem good_7 (wd ht dp sh fo ch nn gs gp gpo gm gmo kids:Int)(tx:ByteArray):(((fitsB wd&&fitsB ht&&fitsB dp)&&fitsB sh&&decide (0<=kids))&&eqNd ⟨7,wd,ht,dp,sh,0,0,0,0,0,0,0,0,⟨#[]⟩,kids⟩ ⟨7,wd,ht,dp,sh,fo,ch,nn,gs,gp,gpo,gm,gmo,tx,kids⟩)=goodB ⟨7,wd,ht,dp,sh,fo,ch,nn,gs,gp,gpo,gm,gmo,tx,kids⟩:=by
 have hu:Nd.used ⟨7,wd,ht,dp,sh,fo,ch,nn,gs,gp,gpo,gm,gmo,tx,kids⟩=⟨7,wd,ht,dp,sh,0,0,0,0,0,0,0,0,⟨#[]⟩,kids⟩:=by simp[Nd.used]
 unfold goodB specB
 rw[hu,eqNd_comm ⟨7,wd,ht,dp,sh,0,0,0,0,0,0,0,0,⟨#[]⟩,kids⟩]
 cases h:eqNd ⟨7,wd,ht,dp,sh,fo,ch,nn,gs,gp,gpo,gm,gmo,tx,kids⟩ ⟨7,wd,ht,dp,sh,0,0,0,0,0,0,0,0,⟨#[]⟩,kids⟩
 ·simp
 ·rw[eqNd_iff,Nd.mk.injEq] at h
  simp at h
  simp only[h,fits0,gl0,upto0 15 (by decide),upto0 255 (by decide),penB]
  simp[ByteArray.size]
  try(cases fitsB wd<;>cases fitsB ht<;>cases fitsB dp<;>cases fitsB sh<;>simp<;>try(rw[Bool.eq_iff_iff];simp;omega))
theorem good_8 (wd ht dp sh fo ch nn gs gp gpo gm gmo kids:Int)(tx:ByteArray):((uptoB fo 15&&uptoB ch 255&&(fitsB wd&&fitsB ht&&fitsB dp))&&eqNd ⟨8,wd,ht,dp,0,fo,ch,0,0,0,0,0,0,⟨#[]⟩,0⟩ ⟨8,wd,ht,dp,sh,fo,ch,nn,gs,gp,gpo,gm,gmo,tx,kids⟩)=goodB ⟨8,wd,ht,dp,sh,fo,ch,nn,gs,gp,gpo,gm,gmo,tx,kids⟩:=by
 have hu:Nd.used ⟨8,wd,ht,dp,sh,fo,ch,nn,gs,gp,gpo,gm,gmo,tx,kids⟩=⟨8,wd,ht,dp,0,fo,ch,0,0,0,0,0,0,⟨#[]⟩,0⟩:=by simp[Nd.used]
 unfold goodB specB
 rw[hu,eqNd_comm ⟨8,wd,ht,dp,0,fo,ch,0,0,0,0,0,0,⟨#[]⟩,0⟩]
 cases h:eqNd ⟨8,wd,ht,dp,sh,fo,ch,nn,gs,gp,gpo,gm,gmo,tx,kids⟩ ⟨8,wd,ht,dp,0,fo,ch,0,0,0,0,0,0,⟨#[]⟩,0⟩
 ·simp
 ·rw[eqNd_iff,Nd.mk.injEq] at h
  simp at h
  simp only[h,fits0,gl0,upto0 15 (by decide),upto0 255 (by decide),penB]
  simp[ByteArray.size]
  try(cases fitsB wd<;>cases fitsB ht<;>cases fitsB dp<;>cases fitsB sh<;>simp<;>try(rw[Bool.eq_iff_iff];simp;omega))
theorem good_9 (wd ht dp sh fo ch nn gs gp gpo gm gmo kids:Int)(tx:ByteArray):((decide ((tx.size:Int)<=1000))&&eqNd ⟨9,0,0,0,0,0,0,0,0,0,0,0,0,tx,0⟩ ⟨9,wd,ht,dp,sh,fo,ch,nn,gs,gp,gpo,gm,gmo,tx,kids⟩)=goodB ⟨9,wd,ht,dp,sh,fo,ch,nn,gs,gp,gpo,gm,gmo,tx,kids⟩:=by
 have hu:Nd.used ⟨9,wd,ht,dp,sh,fo,ch,nn,gs,gp,gpo,gm,gmo,tx,kids⟩=⟨9,0,0,0,0,0,0,0,0,0,0,0,0,tx,0⟩:=by simp[Nd.used]
 unfold goodB specB
 rw[hu,eqNd_comm ⟨9,0,0,0,0,0,0,0,0,0,0,0,0,tx,0⟩]
 cases h:eqNd ⟨9,wd,ht,dp,sh,fo,ch,nn,gs,gp,gpo,gm,gmo,tx,kids⟩ ⟨9,0,0,0,0,0,0,0,0,0,0,0,0,tx,0⟩
 ·simp
 ·rw[eqNd_iff,Nd.mk.injEq] at h
  simp at h
  simp only[h,fits0,gl0,upto0 15 (by decide),upto0 255 (by decide),penB]
  simp
  try(cases fitsB wd<;>cases fitsB ht<;>cases fitsB dp<;>cases fitsB sh<;>simp<;>try(rw[Bool.eq_iff_iff];simp;omega))
theorem good_10 (wd ht dp sh fo ch nn gs gp gpo gm gmo kids:Int)(tx:ByteArray):((decide ((tx.size:Int)<=1000))&&eqNd ⟨10,0,0,0,0,0,0,0,0,0,0,0,0,tx,0⟩ ⟨10,wd,ht,dp,sh,fo,ch,nn,gs,gp,gpo,gm,gmo,tx,kids⟩)=goodB ⟨10,wd,ht,dp,sh,fo,ch,nn,gs,gp,gpo,gm,gmo,tx,kids⟩:=by
 have hu:Nd.used ⟨10,wd,ht,dp,sh,fo,ch,nn,gs,gp,gpo,gm,gmo,tx,kids⟩=⟨10,0,0,0,0,0,0,0,0,0,0,0,0,tx,0⟩:=by simp[Nd.used]
 unfold goodB specB
 rw[hu,eqNd_comm ⟨10,0,0,0,0,0,0,0,0,0,0,0,0,tx,0⟩]
 cases h:eqNd ⟨10,wd,ht,dp,sh,fo,ch,nn,gs,gp,gpo,gm,gmo,tx,kids⟩ ⟨10,0,0,0,0,0,0,0,0,0,0,0,0,tx,0⟩
 ·simp
 ·rw[eqNd_iff,Nd.mk.injEq] at h
  simp at h
  simp only[h,fits0,gl0,upto0 15 (by decide),upto0 255 (by decide),penB]
  simp
  try(cases fitsB wd<;>cases fitsB ht<;>cases fitsB dp<;>cases fitsB sh<;>simp<;>try(rw[Bool.eq_iff_iff];simp;omega))
theorem good_11 (wd ht dp sh fo ch nn gs gp gpo gm gmo kids:Int)(tx:ByteArray):((uptoB nn 15&&fitsB ht&&decide (0<=kids))&&eqNd ⟨11,0,ht,0,0,0,0,nn,0,0,0,0,0,⟨#[]⟩,kids⟩ ⟨11,wd,ht,dp,sh,fo,ch,nn,gs,gp,gpo,gm,gmo,tx,kids⟩)=goodB ⟨11,wd,ht,dp,sh,fo,ch,nn,gs,gp,gpo,gm,gmo,tx,kids⟩:=by
 have hu:Nd.used ⟨11,wd,ht,dp,sh,fo,ch,nn,gs,gp,gpo,gm,gmo,tx,kids⟩=⟨11,0,ht,0,0,0,0,nn,0,0,0,0,0,⟨#[]⟩,kids⟩:=by simp[Nd.used]
 unfold goodB specB
 rw[hu,eqNd_comm ⟨11,0,ht,0,0,0,0,nn,0,0,0,0,0,⟨#[]⟩,kids⟩]
 cases h:eqNd ⟨11,wd,ht,dp,sh,fo,ch,nn,gs,gp,gpo,gm,gmo,tx,kids⟩ ⟨11,0,ht,0,0,0,0,nn,0,0,0,0,0,⟨#[]⟩,kids⟩
 ·simp
 ·rw[eqNd_iff,Nd.mk.injEq] at h
  simp at h
  simp only[h,fits0,gl0,upto0 15 (by decide),upto0 255 (by decide),penB]
  simp[ByteArray.size,uptoB]
  try(cases fitsB wd<;>cases fitsB ht<;>cases fitsB dp<;>cases fitsB sh<;>simp<;>try(rw[Bool.eq_iff_iff];simp;omega))
def okFrom (len:Int):Int->List Int->List Nd->Bool
 | _,_,[]=>true
 | i,T,x :: xs =>
  let U:=T.dropWhile (· == i)
  goodB x&&decide (x.kids<=U.headD len-i-1)&&(!deepB x||decide (U.length<=40))&&okFrom len (i+1) (if deepB x then (i+1+x.kids) :: U else U) xs
theorem okFrom_pad (len i:Int)(T:List Int)(xs:List Nd):okFrom len i (i :: T) xs=okFrom len i T xs:=by
 cases xs with
 | nil=>rfl
 | cons x xs=>simp[okFrom]
def Open (i:Int)(T:List Int):Prop:=(∀y∈T,i<=y)/\T.Pairwise (· <= ·)
theorem Open.pop {i:Int}:∀{T:List Int},Open i T->Open (i+1) (T.dropWhile (· == i))
 | [],_=>⟨by simp,by simp⟩
 | a :: T,h=>by
  by_cases ha:a=i
  ·subst ha
   simp only[List.dropWhile,beq_self_eq_true]
   exact Open.pop ⟨fun y hy=>h.1 y (List.mem_cons_of_mem _ hy),(List.pairwise_cons.1 h.2).2⟩
  ·have hf:(a == i)=false:=by simpa using ha
   simp only[List.dropWhile,hf]
   have h0:=h.1 a (List.mem_cons_self ..)
   refine⟨fun y hy=>?_,h.2⟩
   rcases List.mem_cons.1 hy with rfl|hy
   ·omega
   ·have:=(List.pairwise_cons.1 h.2).1 y hy
    omega
theorem Open.push {i e:Int}{U:List Int}(h:Open i U)(he:i<=e)(hl:∀len,e<=U.headD len\/U=[]):Open i (e :: U):=by
 refine⟨fun y hy=>?_,List.pairwise_cons.2 ⟨fun y hy=>?_,h.2⟩⟩
 ·rcases List.mem_cons.1 hy with rfl|hy
  ·exact he
  ·exact h.1 y hy
 ·cases U with
  | nil=>simp at hy
  | cons a U =>
   have h1:e<=a:=by
    rcases hl 0 with h|h
    ·simpa using h
    ·simp at h
   rcases List.mem_cons.1 hy with rfl|hy
   ·exact h1
   ·have:=(List.pairwise_cons.1 h.2).1 y hy
    omega
theorem Open.head {i len:Int}{U:List Int}(h:Open i U)(hl:i<=len):i<=U.headD len:=by
 cases U with
 | nil=>simpa using hl
 | cons a U=>simpa using h.1 a (List.mem_cons_self ..)
theorem flat_kids {x:Nd}(h:goodB x=true)(hd:deepB x=false):x.kids=0:=by
 obtain⟨k,wd,ht,dp,sh,fo,ch,nn,gs,gp,gpo,gm,gmo,tx,kids⟩:=x
 unfold goodB specB at h
 simp only[Bool.and_eq_true,decide_eq_true_eq] at h
 obtain⟨⟨⟨⟨⟨⟨hk,he⟩,_⟩,_⟩,_⟩,_⟩,_⟩:=h
 rw[eqNd_iff] at he
 rcases kinds hk.1 hk.2 with rfl|rfl|rfl|rfl|rfl|rfl|rfl|rfl|rfl|rfl|rfl<;>simp[Nd.used,deepB] at he hd ⊢ <;> omega
def Nd.none:Nd:=⟨0,0,0,0,0,0,0,0,0,0,0,0,0,⟨#[]⟩,0⟩
def NdR (lo:Nat)(w:World)(cs:List Value)(x:Nd):Prop:=cs=x.cells
theorem ndStable:Stable NdR where
 abv:=fun h _=>h
 mono:=fun h _=>h
abbrev NRow (lo:Nat)(w:World)(v:Value)(xs:List Nd):Prop:=SRow 15 NdR Nd.none lo w v xs
def glOf (x:Nd):Shr.Gl:=⟨x.gs,x.gp,x.gpo,x.gm,x.gmo⟩
structure RS where
 w:Int
 h:Int
 d:Int
 gs:List Shr.Gl
def RS.nil:RS:=⟨0,0,0,[]⟩
def RS.tall (s:RS)(x:Nd):RS:=⟨s.w+x.wd,Shr.mxI s.h (x.ht-x.sh),Shr.mxI s.d (x.dp+x.sh),s.gs⟩
def RS.kern (s:RS)(x:Nd):RS:=⟨s.w+x.wd,s.h,s.d,s.gs⟩
def RS.glue (s:RS)(x:Nd):RS:=⟨s.w,s.h,s.d,s.gs++[glOf x]⟩
def tallB (x:Nd):Bool:=x.k == 1||x.k == 5||x.k == 6||x.k == 7
def rowStep (s:RS)(x:Nd):RS:=if tallB x then s.tall x else if x.k=2 then s.kern x else if x.k=3 then s.glue x else s
theorem rowStep_1 {s:RS}{x:Nd}(h:x.k=1):rowStep s x=s.tall x:=by simp[rowStep,tallB,h]
theorem rowStep_5 {s:RS}{x:Nd}(h:x.k=5):rowStep s x=s.tall x:=by simp[rowStep,tallB,h]
theorem rowStep_6 {s:RS}{x:Nd}(h:x.k=6):rowStep s x=s.tall x:=by simp[rowStep,tallB,h]
theorem rowStep_7 {s:RS}{x:Nd}(h:x.k=7):rowStep s x=s.tall x:=by simp[rowStep,tallB,h]
theorem rowStep_2 {s:RS}{x:Nd}(h:x.k=2):rowStep s x=s.kern x:=by simp[rowStep,tallB,h]
theorem rowStep_3 {s:RS}{x:Nd}(h:x.k=3):rowStep s x=s.glue x:=by simp[rowStep,tallB,h]
theorem rowStep_0 {s:RS}{x:Nd}(h1:x.k≠1)(h2:x.k≠2)(h3:x.k≠3)(h5:x.k≠5)(h6:x.k≠6)(h7:x.k≠7):rowStep s x=s:=by simp[rowStep,tallB,h1,h2,h3,h5,h6,h7]
def rowTo (xs:List Nd)(ps:List Nat):RS:=ps.foldl (fun s p=>rowStep s (xs.getD p Nd.none)) RS.nil
theorem rowTo_snoc (xs:List Nd)(ps:List Nat)(p:Nat):rowTo xs (ps++[p])=rowStep (rowTo xs ps) (xs.getD p Nd.none):=by simp[rowTo]
structure RIn (s:RS)(j:Nat):Prop where
 w1 : -(1073741823*(j:Int))<=s.w
 w2:s.w<=1073741823*(j:Int)
 h1:0<=s.h
 h2:s.h<=2147483646
 d1:0<=s.d
 d2:s.d<=2147483646
 n:s.gs.length<=j
 ok:∀g∈s.gs,g.ok=true
theorem RIn.nil:RIn RS.nil 0:=⟨by simp[RS.nil],by simp[RS.nil],by simp[RS.nil],by simp[RS.nil],by simp[RS.nil],by simp[RS.nil],by simp[RS.nil],by simp[RS.nil]⟩
structure NdIn (x:Nd):Prop where
 wd : -1073741823<=x.wd/\x.wd<=1073741823
 ht : -1073741823<=x.ht/\x.ht<=1073741823
 dp : -1073741823<=x.dp/\x.dp<=1073741823
 sh : -1073741823<=x.sh/\x.sh<=1073741823
 gl:(glOf x).ok=true
theorem good_in {x:Nd}(h:goodB x=true):NdIn x:=by
 unfold goodB specB at h
 simp only[Bool.and_eq_true] at h
 obtain⟨⟨⟨⟨⟨⟨h1,h2⟩,⟨⟨⟨⟨h3,h4⟩,h5⟩,h6⟩,h7⟩⟩,h8⟩,h9⟩,h10⟩,h11⟩:=h
 exact⟨of_decide_eq_true h3,of_decide_eq_true h4,of_decide_eq_true h5,of_decide_eq_true h6,h7⟩
theorem mxI_in {a b:Int}:(a<=Shr.mxI a b/\b<=Shr.mxI a b)/\(Shr.mxI a b=a\/Shr.mxI a b=b):=by
 unfold Shr.mxI
 split
 ·exact⟨⟨by omega,by omega⟩,.inl rfl⟩
 ·exact⟨⟨by omega,by omega⟩,.inr rfl⟩
theorem RIn.more {s:RS}{j:Nat}(h:RIn s j):RIn s (j+1):=⟨by have:=h.w1;push_cast;omega,by have:=h.w2;push_cast;omega,h.h1,h.h2,h.d1,h.d2,by have:=h.n;omega,h.ok⟩
theorem RIn.kern {s:RS}{j:Nat}{x:Nd}(h:RIn s j)(hx:NdIn x):RIn (s.kern x) (j+1) :=
 ⟨by have:=h.w1;have:=hx.wd;simp only[RS.kern];push_cast;omega,by have:=h.w2;have:=hx.wd;simp only[RS.kern];push_cast;omega,h.h1,h.h2,h.d1,h.d2,by have:=h.n;simp only[RS.kern];omega,h.ok⟩
theorem RIn.glue {s:RS}{j:Nat}{x:Nd}(h:RIn s j)(hx:NdIn x):RIn (s.glue x) (j+1) :=
 ⟨by have:=h.w1;simp only[RS.glue];push_cast;omega,by have:=h.w2;simp only[RS.glue];push_cast;omega,h.h1,h.h2,h.d1,h.d2,by have:=h.n;simp only[RS.glue,List.length_append,List.length_singleton];omega,fun g hg=>by
  rcases List.mem_append.1 hg with hg|hg
  ·exact h.ok g hg
  ·rw[List.mem_singleton.1 hg];exact hx.gl⟩
theorem RIn.tall {s:RS}{j:Nat}{x:Nd}(h:RIn s j)(hx:NdIn x):RIn (s.tall x) (j+1):=by
 obtain⟨⟨a1,a2⟩,a3⟩:=mxI_in (a:=s.h) (b:=x.ht-x.sh)
 obtain⟨⟨b1,b2⟩,b3⟩:=mxI_in (a:=s.d) (b:=x.dp+x.sh)
 have:=h.w1
 have:=h.w2
 have:=h.h1
 have:=h.h2
 have:=h.d1
 have:=h.d2
 have:=hx.wd
 have:=hx.ht
 have:=hx.dp
 have:=hx.sh
 refine⟨by simp only[RS.tall];push_cast;omega,by simp only[RS.tall];push_cast;omega,?_,?_,?_,?_,by have:=h.n;simp only[RS.tall];omega,h.ok⟩
 ·simp only[RS.tall];omega
 ·simp only[RS.tall];rcases a3 with a3|a3<;>omega
 ·simp only[RS.tall];omega
 ·simp only[RS.tall];rcases b3 with b3|b3<;>omega
theorem RIn.step {s:RS}{j:Nat}{x:Nd}(h:RIn s j)(hx:NdIn x):RIn (rowStep s x) (j+1):=by
 unfold rowStep
 split
 ·exact h.tall hx
 ·split
  ·exact h.kern hx
  ·split
   ·exact h.glue hx
   ·exact h.more
theorem rowTo_in_aux (xs:List Nd)(hx:∀i,i<xs.length->NdIn (xs.getD i Nd.none)):∀(ps:List Nat) (s:RS) (j:Nat),(∀p∈ps,p<xs.length)->RIn s j->RIn (ps.foldl (fun s p=>rowStep s (xs.getD p Nd.none)) s) (j+ps.length)
 | [],s,j,_,h=>h
 | p :: ps,s,j,hp,h=>by
  have h1:=rowTo_in_aux xs hx ps _ _ (fun q hq=>hp q (List.mem_cons_of_mem _ hq)) (h.step (hx p (hp p (List.mem_cons_self ..))))
  rw[List.foldl_cons,List.length_cons,show j+(ps.length+1)=j+1+ps.length by omega]
  exact h1
theorem rowTo_in (xs:List Nd)(hx:∀i,i<xs.length->NdIn (xs.getD i Nd.none))(ps:List Nat)(h:∀p∈ps,p<xs.length):RIn (rowTo xs ps) ps.length:=by
 have h1:=rowTo_in_aux xs hx ps RS.nil 0 h RIn.nil
 rw[Nat.zero_add] at h1
 exact h1
theorem operIn_round {P:Program}{o:Oper}{a:Act}{w:World}{K:Act->World->Prop}{Q:Exit->Act->World->Prop}{l n:Nat}(hnd:∀c,o.op≠ .defer c)(h:Oper.wp P o a w K Q):Oper.wpIn (Fence.wide.inRound l) n P o a w K Q:=by
 unfold Oper.wp at h
 unfold Oper.wpIn
 refine⟨fun f _=>trivial,?_⟩
 rw[Fence.inRound_round,Oper.semAt_some l _ _ hnd]
 generalize (execOp a.eval o).run P w=r at *
 cases r with
 | ok x w' =>
  cases x
  case value v=>exact h
  case skip=>exact h
  case defer d=>exact h
  case enter f args=>exact⟨(fun e=>by cases e),CallsIn.inRound l (callsIn_wide.2 h)⟩
  case row row args =>
   refine⟨(fun e=>by cases e),fun c cs hr=>?_⟩
   obtain⟨v,w2,r,s⟩:=h c cs
   exact⟨v,w2,r,stepsIn_wide.2 s⟩
  all_goals exact h.elim
 | halt x w' =>
  cases x<;>first|exact h|exact h.elim
theorem anyIn_round {P:Program}{md:Region.Mode}{ops:Array Oper}{Q:Exit->Act->World->Prop}{l n:Nat}(hnd:∀(i:Nat) (o:Oper),ops[i]?=some o->∀c,o.op≠ .defer c)(hQ:¬LetsOut Q) :
 ∀(fuel:Nat) (listed:Array Bool) (a:Act) (w:World),wpAny P md ops Q fuel listed a w->wpAnyIn (Fence.wide.inRound l) n P md ops Q fuel listed a w
 | 0,_,_,_,h=>h
 | fuel+1,listed,a,w,h=>by
  refine⟨h.1,fun i hi=>?_⟩
  have h2:=h.2 i hi
  unfold wpOp at h2
  unfold wpOpIn
  cases ho:ops[i]? with
  | none =>
   rw[ho] at h2
   exact anyIn_round hnd hQ fuel _ _ _ h2
  | some o =>
   rw[ho] at h2
   simp only at h2 ⊢
   split
   ·rename_i hw
    rw[if_pos hw] at h2
    rcases h2 with h2|h2
    ·exact Oper.wpIn_mono (fun a w h=>anyIn_round hnd hQ fuel _ a w h) (operIn_round (hnd i o ho) h2)
    ·exact absurd h2.2 hQ
   ·rename_i hw
    rw[if_neg hw] at h2
    exact⟨fun f _=>trivial,anyIn_round hnd hQ fuel _ _ _ h2⟩
theorem region_heldR {P:Program}{ops:Array Oper}{Q:Exit->Act->World->Prop}{S:World->Prop}{l n id:Nat}{a:Act}{w:World}(hm:P.follows .mixedOrders=true)(hnd:∀(i:Nat) (o:Oper),ops[i]?=some o->∀c,o.op≠ .defer c)(hQ:¬LetsOut Q)
 (h:wpAnyH P .any ops Q S ops.size (Array.replicate ops.size false) a w.drew):(Code.region id ops true).wpIn (Fence.wide.inRound l) n P Q a w :=
 wpIn_region_any hm (anyIn_round hnd hQ _ _ _ _ (wpAny_of_held _ _ _ _ h))
theorem after_drew {w w1:World}{c:Array Value}{ty:Nat}(hb:Below (w.alloc (.cells c ty)).drew.heap.size (w.alloc (.cells c ty)).drew w1):(∀i,w1.cell? ⟨w.heap.size,i,none⟩=c[i]?)/\w.heap.size<w1.heap.size:=by
 have hs:w.heap.size<(w.alloc (.cells c ty)).drew.heap.size:=by simp
 refine⟨fun i=>?_,Nat.lt_of_lt_of_le hs hb.size⟩
 rw[hb.cell (p:=⟨w.heap.size,i,none⟩) hs]
 simp[go_sem]
theorem thing_2 (wd ht dp sh fo ch nn gs gp gpo gm gmo kids:Int)(tx:ByteArray)(w:World):Calls Tryz.prog 62 #[ndV ⟨2,wd,ht,dp,sh,fo,ch,nn,gs,gp,gpo,gm,gmo,tx,kids⟩] w fun r w'=>r = .returned (.iface 137 (.agg #[.int .i64 wd]))/\Below w.heap.size w w':=by
 simp only[ndV]
 go_enter Tryz.func62,Tryz.ntmps62
 go_wp2
 go_ret
 exact⟨rfl,below1 _ _⟩
theorem thing_3 (wd ht dp sh fo ch nn gs gp gpo gm gmo kids:Int)(tx:ByteArray)(w:World):Calls Tryz.prog 62 #[ndV ⟨3,wd,ht,dp,sh,fo,ch,nn,gs,gp,gpo,gm,gmo,tx,kids⟩] w fun r w'=>r = .returned (.iface 87 (.agg #[.int .i64 gs,.int .i64 gp,.int .i64 gpo,.int .i64 gm,.int .i64 gmo,.int .i64 wd]))/\Below w.heap.size w w':=by
 simp only[ndV]
 go_enter Tryz.func62,Tryz.ntmps62
 go_wp2
 go_ret
 exact⟨rfl,below1 _ _⟩
theorem thing_4 (wd ht dp sh fo ch nn gs gp gpo gm gmo kids:Int)(tx:ByteArray)(w:World):Calls Tryz.prog 62 #[ndV ⟨4,wd,ht,dp,sh,fo,ch,nn,gs,gp,gpo,gm,gmo,tx,kids⟩] w fun r w'=>r = .returned (.iface 177 (.agg #[.int .i64 nn]))/\Below w.heap.size w w':=by
 simp only[ndV]
 go_enter Tryz.func62,Tryz.ntmps62
 go_wp2
 go_ret
 exact⟨rfl,below1 _ _⟩
theorem thing_0 (k:Int)(wd ht dp sh fo ch nn gs gp gpo gm gmo kids:Int)(tx:ByteArray)(w:World)(hk:¬(1<=k/\k<=11)):Calls Tryz.prog 62 #[ndV ⟨k,wd,ht,dp,sh,fo,ch,nn,gs,gp,gpo,gm,gmo,tx,kids⟩] w fun r w'=>r = .returned .nilIface/\Below w.heap.size w w':=by
 simp only[ndV]
 have e1:(k == 1)=false:=by simp;omega
 have e2:(k == 2)=false:=by simp;omega
 have e3:(k == 3)=false:=by simp;omega
 have e4:(k == 4)=false:=by simp;omega
 have e5:(k == 5)=false:=by simp;omega
 have e6:(k == 6)=false:=by simp;omega
 have e7:(k == 7)=false:=by simp;omega
 have e8:(k == 8)=false:=by simp;omega
 have e9:(k == 9)=false:=by simp;omega
 have e10:(k == 10)=false:=by simp;omega
 have e11:(k == 11)=false:=by simp;omega
 clear hk
 go_enter Tryz.func62,Tryz.ntmps62
 go_wp2
 go_ret
 exact⟨rfl,below1 _ _⟩
theorem thing_5 (wd ht dp sh fo ch nn gs gp gpo gm gmo kids:Int)(tx:ByteArray)(w:World):Calls Tryz.prog 62 #[ndV ⟨5,wd,ht,dp,sh,fo,ch,nn,gs,gp,gpo,gm,gmo,tx,kids⟩] w fun r w'=>r = .returned (.iface 135 (.agg #[.int .i64 wd,.int .i64 ht,.int .i64 dp]))/\Below w.heap.size w w':=by
 simp only[ndV]
 have HC:Hid (∀W,Calls Tryz.prog 51 #[ndV ⟨5,wd,ht,dp,sh,fo,ch,nn,gs,gp,gpo,gm,gmo,tx,kids⟩] W fun e w'=>e = .returned (sizeV wd ht dp)/\Below W.heap.size W w'):=hideP (fun W=>sizeOf_any ⟨5,wd,ht,dp,sh,fo,ch,nn,gs,gp,gpo,gm,gmo,tx,kids⟩ W)
 go_enter Tryz.func62,Tryz.ntmps62
 go_wp2_with fail
 refine(HC.out _).mono ?_
 rintro e w1 ⟨rfl,hb1⟩
 have B1:Hid (Below w.heap.size w w1):=below_more (below1 _ _) hb1 (by simp)
 clear hb1
 go_wp2
 go_ret
 exact⟨rfl,B1⟩
theorem thing_9 (wd ht dp sh fo ch nn gs gp gpo gm gmo kids:Int)(tx:ByteArray)(w:World):Calls Tryz.prog 62 #[ndV ⟨9,wd,ht,dp,sh,fo,ch,nn,gs,gp,gpo,gm,gmo,tx,kids⟩] w fun r w'=>r = .returned (.iface 181 (.agg #[.int .i64 9,.string tx]))/\Below w.heap.size w w':=by
 simp only[ndV]
 go_enter Tryz.func62,Tryz.ntmps62
 go_wp2
 go_ret
 exact⟨rfl,below1 _ _⟩
theorem thing_10 (wd ht dp sh fo ch nn gs gp gpo gm gmo kids:Int)(tx:ByteArray)(w:World):Calls Tryz.prog 62 #[ndV ⟨10,wd,ht,dp,sh,fo,ch,nn,gs,gp,gpo,gm,gmo,tx,kids⟩] w fun r w'=>r = .returned (.iface 181 (.agg #[.int .i64 10,.string tx]))/\Below w.heap.size w w':=by
 simp only[ndV]
 go_enter Tryz.func62,Tryz.ntmps62
 go_wp2
 go_ret
 exact⟨rfl,below1 _ _⟩
theorem thing_11 (wd ht dp sh fo ch nn gs gp gpo gm gmo kids:Int)(tx:ByteArray)(w:World):Calls Tryz.prog 62 #[ndV ⟨11,wd,ht,dp,sh,fo,ch,nn,gs,gp,gpo,gm,gmo,tx,kids⟩] w fun r w'=>r = .returned (.iface 158 (.agg #[.int .i64 nn,.int .i64 ht,.int .i64 kids]))/\Below w.heap.size w w':=by
 simp only[ndV]
 go_enter Tryz.func62,Tryz.ntmps62
 go_wp2
 go_ret
 exact⟨rfl,below1 _ _⟩
end Go.Proofs.YtbbehmcekbnkiaaGreat

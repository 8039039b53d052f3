import Derived.Test.YtbbehmcekbnkiaaGreatHalt
namespace Go.Proofs.YtbbehmcekbnkiaaGreat
open Go.RowKit
set_option linter.unusedVariables false
set_option linter.unusedSimpArgs false
def fitsB (x:Int):Bool:=decide (-1073741823<=x/\x<=1073741823)
def uptoB (x m:Int):Bool:=decide (0<=x/\x<=m)
def glB (s p po m mo:Int):Bool:=fitsB s&&fitsB p&&fitsB m&&uptoB po 3&&uptoB mo 3
theorem fits_yes {x:Int}(h1 : -1073741823<=x)(h2:x<=1073741823):fitsB x=true:=by simp[fitsB,h1,h2]
theorem fits_no {x:Int}(h:¬(-1073741823<=x/\x<=1073741823)):fitsB x=false:=by simp[fitsB];omega
theorem upto_yes {x m:Int}(h1:0<=x)(h2:x<=m):uptoB x m=true:=by simp[uptoB,h1,h2]
theorem upto_no {x m:Int}(h:¬(0<=x/\x<=m)):uptoB x m=false:=by simp[uptoB];omega
theorem specFits_any (x:Int)(w:World):Calls Tryz.prog 89 #[.int .i64 x] w fun e w'=>e = .returned (.bool (fitsB x))/\w'=w:=by
 by_cases h1 : -1073741823<=x
 ·by_cases h2:x<=1073741823
  ·rw[fits_yes h1 h2]
   go_enter Tryz.func89,Tryz.ntmps89
   go_wp2
   go_ret
   exact⟨rfl,rfl⟩
  ·rw[fits_no (by omega)]
   go_enter Tryz.func89,Tryz.ntmps89
   go_wp2
   go_ret
   exact⟨rfl,rfl⟩
 ·rw[fits_no (by omega)]
  go_enter Tryz.func89,Tryz.ntmps89
  go_wp2
  go_ret
  exact⟨rfl,rfl⟩
theorem implFits_any (x:Int)(w:World):Calls Tryz.prog 44 #[.int .i64 x] w fun e w'=>e = .returned (.bool (fitsB x))/\w'=w:=by
 by_cases h1 : -1073741823<=x
 ·by_cases h2:x<=1073741823
  ·rw[fits_yes h1 h2]
   go_enter Tryz.func44,Tryz.ntmps44
   go_wp2
   go_ret
   exact⟨rfl,rfl⟩
  ·rw[fits_no (by omega)]
   go_enter Tryz.func44,Tryz.ntmps44
   go_wp2
   go_ret
   exact⟨rfl,rfl⟩
 ·rw[fits_no (by omega)]
  go_enter Tryz.func44,Tryz.ntmps44
  go_wp2
  go_ret
  exact⟨rfl,rfl⟩
theorem specOrder_any (x:Int)(w:World):Calls Tryz.prog 139 #[.int .i64 x] w fun e w'=>e = .returned (.bool (uptoB x 3))/\w'=w:=by
 by_cases h1:0<=x
 ·by_cases h2:x<=3
  ·rw[upto_yes h1 h2]
   go_enter Tryz.func139,Tryz.ntmps139
   go_wp2
   go_ret
   exact⟨rfl,rfl⟩
  ·rw[upto_no (by omega)]
   go_enter Tryz.func139,Tryz.ntmps139
   go_wp2
   go_ret
   exact⟨rfl,rfl⟩
 ·rw[upto_no (by omega)]
  go_enter Tryz.func139,Tryz.ntmps139
  go_wp2
  go_ret
  exact⟨rfl,rfl⟩
theorem implOrder_any (x:Int)(w:World):Calls Tryz.prog 94 #[.int .i64 x] w fun e w'=>e = .returned (.bool (uptoB x 3))/\w'=w:=by
 by_cases h1:0<=x
 ·by_cases h2:x<=3
  ·rw[upto_yes h1 h2]
   go_enter Tryz.func94,Tryz.ntmps94
   go_wp2
   go_ret
   exact⟨rfl,rfl⟩
  ·rw[upto_no (by omega)]
   go_enter Tryz.func94,Tryz.ntmps94
   go_wp2
   go_ret
   exact⟨rfl,rfl⟩
 ·rw[upto_no (by omega)]
  go_enter Tryz.func94,Tryz.ntmps94
  go_wp2
  go_ret
  exact⟨rfl,rfl⟩
theorem upTo_any (x m:Int)(w:World):Calls Tryz.prog 40 #[.int .i64 x,.int .i64 m] w fun e w'=>e = .returned (.bool (uptoB x m))/\w'=w:=by
 by_cases h1:0<=x
 ·by_cases h2:x<=m
  ·rw[upto_yes h1 h2]
   go_enter Tryz.func40,Tryz.ntmps40
   go_wp2
   go_ret
   exact⟨rfl,rfl⟩
  ·rw[upto_no (by omega)]
   go_enter Tryz.func40,Tryz.ntmps40
   go_wp2
   go_ret
   exact⟨rfl,rfl⟩
 ·rw[upto_no (by omega)]
  go_enter Tryz.func40,Tryz.ntmps40
  go_wp2
  go_ret
  exact⟨rfl,rfl⟩
theorem specGlueOk_any (s p po m mo:Int)(w:World):Calls Tryz.prog 122 #[glueV s p po m mo] w fun e w'=>e = .returned (.bool (glB s p po m mo))/\Below w.heap.size w w':=by
 unfold glB
 cases h1:fitsB s<;>cases h2:fitsB p<;>cases h3:fitsB m<;>cases h4:uptoB po 3<;>cases h5:uptoB mo 3
 all_goals
  go_enter Tryz.func122,Tryz.ntmps122
  go_wp2_with (first
   | (go_at_call 89;refine(specFits_any _ _).mono ?_;rintro e w' ⟨rfl,rfl⟩)
   | (go_at_call 139;refine(specOrder_any _ _).mono ?_;rintro e w' ⟨rfl,rfl⟩))
  go_ret
  exact⟨rfl,below1 _ _⟩
theorem implGlueOk_any (s p po m mo:Int)(w:World):Calls Tryz.prog 72 #[glueV s p po m mo] w fun e w'=>e = .returned (.bool (glB s p po m mo))/\Below w.heap.size w w':=by
 unfold glB
 cases h1:fitsB s<;>cases h2:fitsB p<;>cases h3:fitsB m<;>cases h4:uptoB po 3<;>cases h5:uptoB mo 3
 all_goals
  go_enter Tryz.func72,Tryz.ntmps72
  go_wp2_with (first
   | (go_at_call 44;refine(implFits_any _ _).mono ?_;rintro e w' ⟨rfl,rfl⟩)
   | (go_at_call 94;refine(implOrder_any _ _).mono ?_;rintro e w' ⟨rfl,rfl⟩))
  go_ret
  exact⟨rfl,below1 _ _⟩
abbrev sizeV (a b c:Int):Value:= .agg #[.int .i64 a,.int .i64 b,.int .i64 c]
theorem sizeFits_any (a b c:Int)(w:World):Calls Tryz.prog 168 #[sizeV a b c] w fun e w'=>e = .returned (.bool (fitsB a&&fitsB b&&fitsB c))/\Below w.heap.size w w':=by
 cases h1:fitsB a<;>cases h2:fitsB b<;>cases h3:fitsB c
 all_goals
  go_enter Tryz.func168,Tryz.ntmps168
  go_wp2_with (go_at_call 44;refine(implFits_any _ _).mono ?_;rintro e w' ⟨rfl,rfl⟩)
  go_ret
  exact⟨rfl,below1 _ _⟩
theorem sizeOf_any (x:Nd)(w:World):Calls Tryz.prog 51 #[ndV x] w fun e w'=>e = .returned (sizeV x.wd x.ht x.dp)/\Below w.heap.size w w':=by
 obtain⟨k,wd,ht,dp,sh,fo,ch,nn,gs,gp,gpo,gm,gmo,tx,kids⟩:=x
 simp only[ndV]
 go_enter Tryz.func51,Tryz.ntmps51
 go_wp2
 refine bodyPost_ret (v:=sizeV wd ht dp) (by simp[results,Tryz.results51,go_sem]) rfl ⟨rfl,?_⟩
 trace_state
 repeat(first|with_reducible exact below2 _ _ _|with_reducible exact below3 _ _ _ _|(with_reducible refine Below.setCell ?_ ?_ _;rotate_left;focus(first|(simp;done)|(simp;omega))))
end Go.Proofs.YtbbehmcekbnkiaaGreat

import Derived.Test.YtbbehmcekbnkiaaGreatFitt
namespace Go.Proofs.YtbbehmcekbnkiaaGreat
set_option maxHeartbeats 4000000
open Go.RowKit
set_option linter.unusedVariables false
set_option linter.unusedSimpArgs false
theorem used_1 (wd ht dp sh fo ch nn gs gp gpo gm gmo kids:Int)(tx:ByteArray)(w:World):Calls Tryz.prog 137 #[ndV ⟨1,wd,ht,dp,sh,fo,ch,nn,gs,gp,gpo,gm,gmo,tx,kids⟩] w fun r w'=>r = .returned (ndV ⟨1,wd,ht,dp,0,fo,ch,0,0,0,0,0,0,⟨#[]⟩,0⟩)/\Below w.heap.size w w':=by
 simp only[ndV]
 go_enter Tryz.func137,Tryz.ntmps137
 go_wp2
 refine bodyPost_ret (v:=ndV ⟨1,wd,ht,dp,0,fo,ch,0,0,0,0,0,0,⟨#[]⟩,0⟩) (by simp[results,Tryz.results137,go_sem]) rfl ⟨rfl,?_⟩
 repeat(first|with_reducible exact below1 _ _|with_reducible exact below2 _ _ _|with_reducible exact below3 _ _ _ _|(with_reducible refine Below.setCell ?_ ?_ _;rotate_left;focus(first|(simp;done)|(simp;omega))))
theorem used_2 (wd ht dp sh fo ch nn gs gp gpo gm gmo kids:Int)(tx:ByteArray)(w:World):Calls Tryz.prog 137 #[ndV ⟨2,wd,ht,dp,sh,fo,ch,nn,gs,gp,gpo,gm,gmo,tx,kids⟩] w fun r w'=>r = .returned (ndV ⟨2,wd,0,0,0,0,0,0,0,0,0,0,0,⟨#[]⟩,0⟩)/\Below w.heap.size w w':=by
 simp only[ndV]
 go_enter Tryz.func137,Tryz.ntmps137
 go_wp2
 refine bodyPost_ret (v:=ndV ⟨2,wd,0,0,0,0,0,0,0,0,0,0,0,⟨#[]⟩,0⟩) (by simp[results,Tryz.results137,go_sem]) rfl ⟨rfl,?_⟩
 repeat(first|with_reducible exact below1 _ _|with_reducible exact below2 _ _ _|with_reducible exact below3 _ _ _ _|(with_reducible refine Below.setCell ?_ ?_ _;rotate_left;focus(first|(simp;done)|(simp;omega))))
theorem used_3 (wd ht dp sh fo ch nn gs gp gpo gm gmo kids:Int)(tx:ByteArray)(w:World):Calls Tryz.prog 137 #[ndV ⟨3,wd,ht,dp,sh,fo,ch,nn,gs,gp,gpo,gm,gmo,tx,kids⟩] w fun r w'=>r = .returned (ndV ⟨3,wd,0,0,0,0,0,0,gs,gp,gpo,gm,gmo,⟨#[]⟩,0⟩)/\Below w.heap.size w w':=by
 simp only[ndV]
 go_enter Tryz.func137,Tryz.ntmps137
 go_wp2
 refine bodyPost_ret (v:=ndV ⟨3,wd,0,0,0,0,0,0,gs,gp,gpo,gm,gmo,⟨#[]⟩,0⟩) (by simp[results,Tryz.results137,go_sem]) rfl ⟨rfl,?_⟩
 repeat(first|with_reducible exact below1 _ _|with_reducible exact below2 _ _ _|with_reducible exact below3 _ _ _ _|(with_reducible refine Below.setCell ?_ ?_ _;rotate_left;focus(first|(simp;done)|(simp;omega))))
end Go.Proofs.YtbbehmcekbnkiaaGreat

import Derived.Test.YtbbehmcekbnkiaaGreatFitt
namespace Go.Proofs.YtbbehmcekbnkiaaGreat
set_option maxHeartbeats 2000000
open Go.RowKit
set_option linter.unusedVariables false
set_option linter.unusedSimpArgs false
theorem node_letter (fo ch wd ht dp:Int)(w:World):Calls Tryz.prog 171 #[.agg #[.int .i64 fo,.int .i64 ch,.int .i64 wd,.int .i64 ht,.int .i64 dp]] w fun r w'=>r = .returned (ndV ⟨1,wd,ht,dp,0,fo,ch,0,0,0,0,0,0,⟨#[]⟩,0⟩)/\Below w.heap.size w w':=by
 simp only[ndV]
 go_enter Tryz.func171,Tryz.ntmps171
 go_wp2
 refine bodyPost_ret (v:=ndV ⟨1,wd,ht,dp,0,fo,ch,0,0,0,0,0,0,⟨#[]⟩,0⟩) (by simp[results,Tryz.results171,go_sem]) rfl ⟨rfl,?_⟩
 repeat(first|with_reducible exact below1 _ _|with_reducible exact below2 _ _ _|with_reducible exact below3 _ _ _ _|(with_reducible refine Below.setCell ?_ ?_ _;rotate_left;focus(first|(simp;done)|(simp;omega))))
theorem node_kern (wd:Int)(w:World):Calls Tryz.prog 79 #[.agg #[.int .i64 wd]] w fun r w'=>r = .returned (ndV ⟨2,wd,0,0,0,0,0,0,0,0,0,0,0,⟨#[]⟩,0⟩)/\Below w.heap.size w w':=by
 simp only[ndV]
 go_enter Tryz.func79,Tryz.ntmps79
 go_wp2
 refine bodyPost_ret (v:=ndV ⟨2,wd,0,0,0,0,0,0,0,0,0,0,0,⟨#[]⟩,0⟩) (by simp[results,Tryz.results79,go_sem]) rfl ⟨rfl,?_⟩
 repeat(first|with_reducible exact below1 _ _|with_reducible exact below2 _ _ _|with_reducible exact below3 _ _ _ _|(with_reducible refine Below.setCell ?_ ?_ _;rotate_left;focus(first|(simp;done)|(simp;omega))))
theorem node_space (gs gp gpo gm gmo wd:Int)(w:World):Calls Tryz.prog 77 #[.agg #[.int .i64 gs,.int .i64 gp,.int .i64 gpo,.int .i64 gm,.int .i64 gmo,.int .i64 wd]] w fun r w'=>r = .returned (ndV ⟨3,wd,0,0,0,0,0,0,gs,gp,gpo,gm,gmo,⟨#[]⟩,0⟩)/\Below w.heap.size w w':=by
 simp only[ndV]
 go_enter Tryz.func77,Tryz.ntmps77
 go_wp2
 refine bodyPost_ret (v:=ndV ⟨3,wd,0,0,0,0,0,0,gs,gp,gpo,gm,gmo,⟨#[]⟩,0⟩) (by simp[results,Tryz.results77,go_sem]) rfl ⟨rfl,?_⟩
 repeat(first|with_reducible exact below1 _ _|with_reducible exact below2 _ _ _|with_reducible exact below3 _ _ _ _|(with_reducible refine Below.setCell ?_ ?_ _;rotate_left;focus(first|(simp;done)|(simp;omega))))
theorem node_penalty (nn:Int)(w:World):Calls Tryz.prog 180 #[.agg #[.int .i64 nn]] w fun r w'=>r = .returned (ndV ⟨4,0,0,0,0,0,0,nn,0,0,0,0,0,⟨#[]⟩,0⟩)/\Below w.heap.size w w':=by
 simp only[ndV]
 go_enter Tryz.func180,Tryz.ntmps180
 go_wp2
 refine bodyPost_ret (v:=ndV ⟨4,0,0,0,0,0,0,nn,0,0,0,0,0,⟨#[]⟩,0⟩) (by simp[results,Tryz.results180,go_sem]) rfl ⟨rfl,?_⟩
 repeat(first|with_reducible exact below1 _ _|with_reducible exact below2 _ _ _|with_reducible exact below3 _ _ _ _|(with_reducible refine Below.setCell ?_ ?_ _;rotate_left;focus(first|(simp;done)|(simp;omega))))
end Go.Proofs.YtbbehmcekbnkiaaGreat

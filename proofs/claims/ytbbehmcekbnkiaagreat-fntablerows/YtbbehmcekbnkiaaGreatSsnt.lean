import Derived.Test.YtbbehmcekbnkiaaGreatSspt
namespace Go.Proofs.YtbbehmcekbnkiaaGreat
open Go.RowKit Go.Shelf
set_option linter.unusedVariables false
set_option linter.unusedSimpArgs false
theorem itemsN {w:World}{v:Value}{ys:List Nd}(h:NRow 0 w v ys)(hs:ys.length<=1048576)(hcp:∀a n c,v = .slice a n c->n<=c/\c<=9223372036854775807) :
 Calls Tryz.prog 12 #[v] w fun e W'=>(∃a c,e = .returned (.slice a (itemsOf ys).length c)/\ItQ W' a (itemsOf ys).length (fun i=>(itemsOf ys).getD i []))/\Below w.heap.size w W':=by
 refine(callsIn_wide.1 (implItems_in h hs hcp)).mono ?_
 rintro e w' ⟨⟨u,vs,rfl,h1,h2⟩,hb⟩
 obtain⟨a,c,rfl,_⟩:=own25_shape h1
 exact⟨⟨a,c,rfl,ItQ.of h1 h2⟩,hb⟩
end Go.Proofs.YtbbehmcekbnkiaaGreat

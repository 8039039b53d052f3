import Derived.Test.YtbbehmcekbnkiaaGreatVpkt
namespace Go.Proofs.YtbbehmcekbnkiaaGreat
open Go.RowKit
set_option linter.unusedVariables false
set_option linter.unusedSimpArgs false
structure VJ (w:World)(xs:List Nd)(ao:Option Addr)(n cap Bs:Nat)(Z:List Nat)(g p:Value)(W:World):Prop where
 ptr:Boxed W (w.heap.size+1) 75 (.pointer (some ⟨w.heap.size,0,none⟩))
 dep:Boxed W (w.heap.size+1+1) 2 (.int .i64 (stkTo xs Z).d)
 src:Boxed W Bs 24 (.slice ao n cap)
 bun:Bun W w.heap.size 7 (stkTo xs Z).h 0 0 (stkTo xs Z).w g p
 gs:W.ownsRow w.heap.size 34 5 g (stkTo xs Z).gs.length (f5 (stkTo xs Z).gs)
 ps:W.ownsRow w.heap.size 3 1 p (gluesAt xs Z).length ((natI (gluesAt xs Z)).map (Value.int .i64))
end Go.Proofs.YtbbehmcekbnkiaaGreat

/-
  A glue as five numbers.
-/
import Derived.Test.YtminpoenfjnmiaaDoorGlue
namespace Go.Proofs.YtminpoenfjnmiaaDoor
structure Gl where
  s : Int
  p : Int
  po : Int
  m : Int
  mo : Int
abbrev Gl.v (g : Gl) : Value := glueV g.s g.p g.po g.m g.mo
end Go.Proofs.YtminpoenfjnmiaaDoor

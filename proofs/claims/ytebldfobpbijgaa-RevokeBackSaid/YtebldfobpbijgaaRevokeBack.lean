/-
  REVOKEBACK. Written by wip/gen-rvu.py.
-/
import Derived.Test.YtebldfobpbijgaaRvSU
import Derived.Test.YtebldfobpbijgaaRows
namespace Go.Proofs.Ytebldfobpbijgaa
open Go.ChangeShapes Go.WideShapes Go.ChangeAt Go.RowKit Go.Joins Sha Oc Sg
set_option linter.unusedVariables false
end Go.Proofs.Ytebldfobpbijgaa

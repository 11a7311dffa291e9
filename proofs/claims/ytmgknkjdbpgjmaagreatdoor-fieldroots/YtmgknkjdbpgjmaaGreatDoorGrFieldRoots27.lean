/-
  The long region of FieldLaws (own work).
-/
import Derived.Test.YtmgknkjdbpgjmaaGreatDoorGrFieldRoots26
set_option linter.unusedSimpArgs false
set_option linter.unusedVariables false
set_option maxRecDepth 100000
namespace Go.Am.Seat
open Go.Proofs Go.Am Go.Am.Num
set_option maxHeartbeats 8000000
section
variable {self : Self} {nf : Nat} {F : Nat → Value} {B N N2 : Mem} {rX rY rZ rR : Blk} {pa pb pc px py pz po pr pn : Nat} {va vb vc vX vY vZ vS vQ vR vO vT : Value}
end
end Go.Am.Seat

import Derived.Test.YtcnhakfmnkegcaaDoorGrFieldParses37
import Derived.Test.YtcnhakfmnkegcaaDoorGrFieldParses26
import Derived.Test.YtcnhakfmnkegcaaDoorGrFieldParses36
set_option linter.unusedSimpArgs false
set_option linter.unusedVariables false
set_option maxRecDepth 100000
namespace Go.Am.Seat
open Go.Proofs Go.Am
section
variable {self:Self} {nf:Nat} {m:Mem} {F:Nat→Value} {a b:Value} {x y B q r i j:Nat}
end
end Go.Am.Seat
namespace Go.Am.Seat
open Go.Proofs Go.Am Go.Am.Num Go.Am.Kn
theorem W8_256:W8=256^64:=by unfold W8; decide +kernel
section
variable {self:Self} {nf:Nat} {m:Mem} {F:Nat→Value} {b k0:Nat} {l:List Nat} {ro:Bool}
end
section
variable {self:Self} {nf:Nat} {m:Mem} {F:Nat→Value} {b n k x:Nat} {ro:Bool} {L:List Nat}
end
end Go.Am.Seat

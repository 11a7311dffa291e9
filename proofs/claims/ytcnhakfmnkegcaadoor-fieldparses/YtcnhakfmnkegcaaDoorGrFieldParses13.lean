import Derived.Test.YtcnhakfmnkegcaaDoorGrFieldParses9
import Derived.Test.YtcnhakfmnkegcaaDoorGrFieldParses8
set_option linter.unusedSimpArgs false
set_option linter.unusedVariables false
set_option maxRecDepth 100000
namespace Go.Am.Seat
open Go.Proofs Go.Am
set_option maxRecDepth 1000000
end Go.Am.Seat

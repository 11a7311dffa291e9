/-
  The first chapter's example: run in the kernel (own work).
-/
import Derived.Test.YtfgincdpgdlfnaaDoorGrLimbTexts9
import Derived.Test.YtfgincdpgdlfnaaDoorGrLimbTexts8
set_option linter.unusedSimpArgs false
set_option linter.unusedVariables false
set_option maxRecDepth 100000
namespace Go.Am.Seat
open Go.Proofs Go.Am
set_option maxRecDepth 1000000
def awakeF1 : Fact := ⟨4, [], .bool true⟩
theorem awake01_run : ansIs awakeF1.v (runK E mem1 [] 1999 awakeF1.g awakeF1.args mem1) = true := by kernel_rfl
theorem awake01 : awakeF1.holds E.P mem1 := fact_of_run envOK (fun F h => absurd h List.not_mem_nil) 1999 awakeF1 rfl (by kernel_rfl) rfl (by kernel_rfl) awake01_run
end Go.Am.Seat

/-
  SpreadKnown: the last piece of its body, as it was evaluated.
-/
import Derived.Test.YtbghajfpjjfjcaaK0
set_option linter.unusedSimpArgs false
set_option linter.unusedVariables false
namespace Go.Proofs.Ytbghajfpjjfjcaa.En
open Go Go.Ev Go.Proofs Go.RowKit
set_option maxRecDepth 1000000 in
theorem k10 : ev Try.prog env2 3000 (.code (dropC 16 body) none p9.1 p9.2 (retK env2 Try.f12 fun v _ => some v)) = some (.bool true) := by kernel_rfl
end Go.Proofs.Ytbghajfpjjfjcaa.En

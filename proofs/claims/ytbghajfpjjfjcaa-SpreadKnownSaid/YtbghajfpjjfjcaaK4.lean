/-
  SpreadKnown: a piece of its body, as it was evaluated.
-/
import Derived.Test.YtbghajfpjjfjcaaK0
set_option linter.unusedSimpArgs false
set_option linter.unusedVariables false
namespace Go.Proofs.Ytbghajfpjjfjcaa.En
open Go Go.Ev Go.Proofs Go.RowKit
set_option maxRecDepth 1000000 in
theorem k4 : segT Try.prog env2 3000 t4 (takeC 2 (dropC 7 body)) p3.1 p3.2 = some p4 := by kernel_rfl
end Go.Proofs.Ytbghajfpjjfjcaa.En

/-
  SpreadKnown: a piece of its body, as it was evaluated.
-/
import Derived.Test.YtbghajfpjjfjcaaK0
set_option linter.unusedSimpArgs false
set_option linter.unusedVariables false
namespace Go.Proofs.Ytbghajfpjjfjcaa.En
open Go Go.Ev Go.Proofs Go.RowKit
set_option maxRecDepth 1000000 in
theorem k7 : segT Try.prog env2 3000 t7 (takeC 2 (dropC 11 body)) p6.1 p6.2 = some p7 := by kernel_rfl
end Go.Proofs.Ytbghajfpjjfjcaa.En

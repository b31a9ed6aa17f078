/-
  SpreadKnown: a piece of its body, as it was evaluated.
-/
import Derived.Test.YtbghajfpjjfjcaaK0
set_option linter.unusedSimpArgs false
set_option linter.unusedVariables false
namespace Go.Proofs.Ytbghajfpjjfjcaa.En
open Go Go.Ev Go.Proofs Go.RowKit
set_option maxRecDepth 1000000 in
theorem k9 : segT Try.prog env2 3000 t9 (takeC 1 (dropC 15 body)) p8.1 p8.2 = some p9 := by kernel_rfl
end Go.Proofs.Ytbghajfpjjfjcaa.En

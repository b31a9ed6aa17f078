/-
  SpreadKnown: a piece of its body, as it was evaluated.
-/
import Derived.Test.YtbghajfpjjfjcaaK0
set_option linter.unusedSimpArgs false
set_option linter.unusedVariables false
namespace Go.Proofs.Ytbghajfpjjfjcaa.En
open Go Go.Ev Go.Proofs Go.RowKit
set_option maxRecDepth 1000000 in
theorem k6 : segT Try.prog env2 3000 t6 (takeC 1 (dropC 10 body)) p5.1 p5.2 = some p6 := by kernel_rfl
end Go.Proofs.Ytbghajfpjjfjcaa.En

/-
  SpreadKnown: a piece of its body, as it was evaluated.
-/
import Derived.Test.YtbghajfpjjfjcaaK0
set_option linter.unusedSimpArgs false
set_option linter.unusedVariables false
namespace Go.Proofs.Ytbghajfpjjfjcaa.En
open Go Go.Ev Go.Proofs Go.RowKit
set_option maxRecDepth 1000000 in
theorem k1 : segT Try.prog env2 3000 t1 (takeC 4 (dropC 0 body)) p0.1 p0.2 = some p1 := by kernel_rfl
end Go.Proofs.Ytbghajfpjjfjcaa.En

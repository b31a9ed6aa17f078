/-
  QuakeKnown: a piece of its body, as it was evaluated.
-/
import Derived.Test.YtoiifmijmalgpaaK0
set_option linter.unusedSimpArgs false
set_option linter.unusedVariables false
namespace Go.Proofs.Ytoiifmijmalgpaa.En
open Go Go.Ev Go.Proofs Go.RowKit
set_option maxRecDepth 1000000 in
theorem k2 : segT Try.prog env2 3000 t2 (takeC 7 (dropC 11 body)) p1.1 p1.2 = some p2 := by kernel_rfl
end Go.Proofs.Ytoiifmijmalgpaa.En

/-
  QuakeKnown: the last piece of its body, as it was evaluated.
-/
import Derived.Test.YtoiifmijmalgpaaK0
set_option linter.unusedSimpArgs false
set_option linter.unusedVariables false
namespace Go.Proofs.Ytoiifmijmalgpaa.En
open Go Go.Ev Go.Proofs Go.RowKit
set_option maxRecDepth 1000000 in
theorem k8 : ev Try.prog env2 3000 (.code (dropC 32 body) none p7.1 p7.2 (retK env2 Try.f14 fun v _ => some v)) = some (.bool true) := by kernel_rfl
end Go.Proofs.Ytoiifmijmalgpaa.En

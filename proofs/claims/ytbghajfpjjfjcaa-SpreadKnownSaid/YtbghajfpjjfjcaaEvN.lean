/- An evaluator of closed Go code, part 13b: what is known of a type. -/
import Derived.Test.YtbghajfpjjfjcaaEvM
set_option linter.unusedSimpArgs false
set_option linter.unusedVariables false
namespace Go.Ev
open Go
def tiOf {P : Program} {t : TypeId} {d : TypeDesc} (_ : P.underlying t = some d) (i : TypeInfo) : TI := ⟨d, i.size, i.bytes, i.zero⟩
end Go.Ev

/-
  The error of CheckSources, and lists, element by element.
-/
import Derived.Test.YtoaehigmpbhppaaS3
namespace Go.Proofs.Ytoaehigmpbhppaa.En
open Go Go.Ev Go.Proofs Go.RowKit
set_option linter.unusedSimpArgs false
set_option linter.unusedVariables false

theorem take_getD {α : Type} (d : α) {l : List α} {i : Nat} (h : i < l.length) : l.take (i + 1) = l.take i ++ [l.getD i d] := by
  rw [List.take_add_one]
  simp [List.getD, h]
noncomputable def csErr (x0 x1 x2 x3 x4 x5 x6 x7 : Int) (l : List Src) : Int := if ¬ qcheck0 x0 x1 x2 x3 x4 x5 x6 x7 = 0 then qcheck0 x0 x1 x2 x3 x4 x5 x6 x7 else srcsErr x0 x1 l
end Go.Proofs.Ytoaehigmpbhppaa.En

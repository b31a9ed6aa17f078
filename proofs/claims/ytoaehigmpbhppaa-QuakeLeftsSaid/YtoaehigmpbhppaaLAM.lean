import Derived.Test.YtoaehigmpbhppaaEn
/-
  Texts of the bench, merged.
-/
set_option linter.unusedSimpArgs false
set_option linter.unusedVariables false
namespace Go.Proofs.Ytoaehigmpbhppaa.En
open Go Go.Ev Go.Proofs Go.RowKit
set_option maxRecDepth 1000000 in
theorem works_ev : ev Try.prog env 3000 (.call 20 [] Ev.start fun v _ => some v) = some (.bool true) := by kernel_rfl
theorem works_any (w : World) : Calls Try.prog 20 #[] w (fun en w' => en = .returned (.bool true) ∧ Below w.heap.size w w') := calls_true env_ok works_ev w
noncomputable def env2 : Env := env.with 20 (.bool true)
theorem env2_ok [Rho] : Env.Ok Try.prog env2 := env_ok.with (by kernel_rfl) ⟨Try.f20, (Try.f20.body).getD .skip, by kernel_rfl, by kernel_rfl⟩ works_any
end Go.Proofs.Ytoaehigmpbhppaa.En

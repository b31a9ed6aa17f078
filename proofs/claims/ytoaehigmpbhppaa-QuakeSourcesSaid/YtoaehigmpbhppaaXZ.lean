/-
  Valid models.
-/
import Derived.Test.YtoaehigmpbhppaaX8
set_option linter.unusedSimpArgs false
set_option linter.unusedVariables false
namespace Go.Proofs.Ytoaehigmpbhppaa.En
open Go Go.Ev Go.Proofs Go.RowKit

theorem qcheck_ok {x0 x1 x2 x3 x4 x5 x6 x7 : Int} (h : qcheck0 x0 x1 x2 x3 x4 x5 x6 x7 = 0) : (1 ≤ x0 ∧ x0 ≤ 24) ∧ (1 ≤ x1 ∧ x1 ≤ 24) ∧ (1 ≤ x2 ∧ x2 ≤ 10000) ∧ (100 ≤ x3 ∧ x3 ≤ x4 ∧ x4 ≤ 20000) ∧ (0 ≤ x5 ∧ x5 ≤ x6 ∧ x6 ≤ 700000) ∧ (0 ≤ x7 ∧ x7 ≤ 1000) := by
  unfold qcheck0 at h
  repeat' split at h
  all_goals first | (exfalso; omega) | omega
theorem qcheck_bd {x0 x1 x2 x3 x4 x5 x6 x7 : Int} : 0 ≤ qcheck0 x0 x1 x2 x3 x4 x5 x6 x7 ∧ qcheck0 x0 x1 x2 x3 x4 x5 x6 x7 ≤ 3 := by
  have key : ∀ c, qcheck0 x0 x1 x2 x3 x4 x5 x6 x7 = c → 0 ≤ c ∧ c ≤ 3 := by
    intro c h
    unfold qcheck0 at h
    repeat' split at h
    all_goals omega
  exact key _ rfl
theorem rcheckq_any (x0 x1 x2 x3 x4 x5 x6 x7 : Int) (w : World) : Calls Try.prog 19 #[(.agg #[.int .i64 x0, .int .i64 x1, .int .i64 x2, .int .i64 x3, .int .i64 x4, .int .i64 x5, .int .i64 x6, .int .i64 x7])] w (fun en w' => en = .returned (.int .i64 (qcheck0 x0 x1 x2 x3 x4 x5 x6 x7)) ∧ Below w.heap.size w w') :=
  rcheck_any x0 x1 x2 x3 x4 x5 x6 x7 w
end Go.Proofs.Ytoaehigmpbhppaa.En

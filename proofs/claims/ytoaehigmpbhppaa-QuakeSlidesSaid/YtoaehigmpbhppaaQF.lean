/-
  Bounds of distances.
-/
import Derived.Test.YtoaehigmpbhppaaQE
set_option linter.unusedSimpArgs false
set_option linter.unusedVariables false
namespace Go.Proofs.Ytoaehigmpbhppaa.En
open Go Go.Ev Go.Proofs Go.RowKit

theorem qcheck_ok {x0 x1 x2 x3 x4 x5 x6 x7 : Int} (h : qcheck0 x0 x1 x2 x3 x4 x5 x6 x7 = 0) : (1 ≤ x0 ∧ x0 ≤ 24) ∧ (1 ≤ x1 ∧ x1 ≤ 24) ∧ (1 ≤ x2 ∧ x2 ≤ 10000) ∧ (100 ≤ x3 ∧ x3 ≤ x4 ∧ x4 ≤ 20000) ∧ (0 ≤ x5 ∧ x5 ≤ x6 ∧ x6 ≤ 700000) ∧ (0 ≤ x7 ∧ x7 ≤ 1000) := by
  unfold qcheck0 at h
  repeat' split at h
  all_goals first | (exfalso; omega) | omega
theorem qcheck_bd {x0 x1 x2 x3 x4 x5 x6 x7 : Int} : 0 ≤ qcheck0 x0 x1 x2 x3 x4 x5 x6 x7 ∧ qcheck0 x0 x1 x2 x3 x4 x5 x6 x7 ≤ 3 := by
  have key : ∀ c, qcheck0 x0 x1 x2 x3 x4 x5 x6 x7 = c → 0 ≤ c ∧ c ≤ 3 := by
    intro c h
    unfold qcheck0 at h
    repeat' split at h
    all_goals omega
  exact key _ rfl
theorem rcheckq_any (x0 x1 x2 x3 x4 x5 x6 x7 : Int) (w : World) : Calls Try.prog 19 #[(.agg #[.int .i64 x0, .int .i64 x1, .int .i64 x2, .int .i64 x3, .int .i64 x4, .int .i64 x5, .int .i64 x6, .int .i64 x7])] w (fun en w' => en = .returned (.int .i64 (qcheck0 x0 x1 x2 x3 x4 x5 x6 x7)) ∧ Below w.heap.size w w') :=
  rcheck_any x0 x1 x2 x3 x4 x5 x6 x7 w
theorem rootU_bd {n : Int} (h0 : 0 ≤ n) (h1 : n ≤ 1000000000000) : 0 ≤ rootU n ∧ rootU n ≤ 1048576 := by
  have := rootD_bd h0 h1
  by_cases h : rootD n * rootD n < n
  · rw [root_up h0 h1 h]; omega
  · rw [root_same h0 h1 h]; omega
theorem dist_bd {x0 x1 x2 x3 x4 x5 x6 x7 x8 x9 : Int} (v0 : 1 ≤ x0 ∧ x0 ≤ 24) (v1 : 1 ≤ x1 ∧ x1 ≤ 24) (v2 : 1 ≤ x2 ∧ x2 ≤ 10000) (v3 : 100 ≤ x3 ∧ x3 ≤ x4 ∧ x4 ≤ 20000) (v5 : 0 ≤ x5 ∧ x5 ≤ x6 ∧ x6 ≤ 700000) (v7 : 0 ≤ x7 ∧ x7 ≤ 1000) (h8 : 0 ≤ x8 ∧ x8 < x0 * x1) (h9 : 0 ≤ x9 ∧ x9 < x0 * x1) : (0 ≤ dist0 x0 x1 x2 x3 x4 x5 x6 x7 x8 x9 ∧ dist0 x0 x1 x2 x3 x4 x5 x6 x7 x8 x9 ≤ 1048575) ∧ (0 ≤ dist1 x0 x1 x2 x3 x4 x5 x6 x7 x8 x9 ∧ dist1 x0 x1 x2 x3 x4 x5 x6 x7 x8 x9 ≤ 1048576) := by
  have m8 := Int.emod_nonneg x8 (by omega : x0 ≠ 0)
  have m8' := Int.emod_lt_of_pos x8 (by omega : 0 < x0)
  have m9 := Int.emod_nonneg x9 (by omega : x0 ≠ 0)
  have m9' := Int.emod_lt_of_pos x9 (by omega : 0 < x0)
  have r8 := row_bd (a := x8) (x := x0) (y := x1) h8.1 h8.2 (by omega) (by omega)
  have r9 := row_bd (a := x9) (x := x0) (y := x1) h9.1 h9.2 (by omega) (by omega)
  have ac := apart_bd (x0 := x0) (x1 := x1) (x2 := x2) (x3 := x3) (x4 := x4) (x5 := x5) (x6 := x6) (x7 := x7) (x8 := x8 % x0) (x9 := x9 % x0) v2 (by omega) (by omega)
  have ar := apart_bd (x0 := x0) (x1 := x1) (x2 := x2) (x3 := x3) (x4 := x4) (x5 := x5) (x6 := x6) (x7 := x7) (x8 := x8 / x0) (x9 := x9 / x0) v2 (by omega) (by omega)
  have s5 := mul_bd (a := x5) (b := x5) (A := 700000) (B := 700000) (C := 490000000000) (by omega) (by omega) (by omega) (by omega)
  have s6 := mul_bd (a := x6) (b := x6) (A := 700000) (B := 700000) (C := 490000000000) (by omega) (by omega) (by omega) (by omega)
  have c0 := mul_bd (A := 240000) (B := 240000) (C := 57600000000) ac.1.1 ac.1.2 ac.1.1 ac.1.2
  have c1 := mul_bd (A := 240000) (B := 240000) (C := 57600000000) ac.2.1 ac.2.2 ac.2.1 ac.2.2
  have e0 := mul_bd (A := 240000) (B := 240000) (C := 57600000000) ar.1.1 ar.1.2 ar.1.1 ar.1.2
  have e1 := mul_bd (A := 240000) (B := 240000) (C := 57600000000) ar.2.1 ar.2.2 ar.2.1 ar.2.2
  
  unfold dist0 dist1
  refine ⟨?_, ?_⟩
  · have := rootD_bd (n := apart0 x0 x1 x2 x3 x4 x5 x6 x7 (x8 % x0) (x9 % x0) * apart0 x0 x1 x2 x3 x4 x5 x6 x7 (x8 % x0) (x9 % x0) + apart0 x0 x1 x2 x3 x4 x5 x6 x7 (x8 / x0) (x9 / x0) * apart0 x0 x1 x2 x3 x4 x5 x6 x7 (x8 / x0) (x9 / x0) + x5 * x5) (by omega) (by omega)
    exact ⟨this.1, by omega⟩
  · exact rootU_bd (by omega) (by omega)
end Go.Proofs.Ytoaehigmpbhppaa.En

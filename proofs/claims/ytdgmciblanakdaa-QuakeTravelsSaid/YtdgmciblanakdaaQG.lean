/-
  Travel times and strengths, of the program and of the specification.
-/
import Derived.Test.YtdgmciblanakdaaQF
set_option linter.unusedSimpArgs false
set_option linter.unusedVariables false
namespace Go.Proofs.Ytdgmciblanakdaa.En
open Go Go.Ev Go.Proofs Go.RowKit

theorem qcheck_ok {x0 x1 x2 x3 x4 x5 x6 x7 : Int} (h : qcheck0 x0 x1 x2 x3 x4 x5 x6 x7 = 0) : (1 ≤ x0 ∧ x0 ≤ 24) ∧ (1 ≤ x1 ∧ x1 ≤ 24) ∧ (1 ≤ x2 ∧ x2 ≤ 10000) ∧ (100 ≤ x3 ∧ x3 ≤ x4 ∧ x4 ≤ 20000) ∧ (0 ≤ x5 ∧ x5 ≤ x6 ∧ x6 ≤ 700000) ∧ (0 ≤ x7 ∧ x7 ≤ 1000) := by
  unfold qcheck0 at h
  repeat' split at h
  all_goals first | (exfalso; omega) | omega
theorem qcheck_bd {x0 x1 x2 x3 x4 x5 x6 x7 : Int} : 0 ≤ qcheck0 x0 x1 x2 x3 x4 x5 x6 x7 ∧ qcheck0 x0 x1 x2 x3 x4 x5 x6 x7 ≤ 3 := by
  have key : ∀ c, qcheck0 x0 x1 x2 x3 x4 x5 x6 x7 = c → 0 ≤ c ∧ c ≤ 3 := by
    intro c h
    unfold qcheck0 at h
    repeat' split at h
    all_goals omega
  exact key _ rfl
theorem rcheckq_any (x0 x1 x2 x3 x4 x5 x6 x7 : Int) (w : World) : Calls Try.prog 19 #[(.agg #[.int .i64 x0, .int .i64 x1, .int .i64 x2, .int .i64 x3, .int .i64 x4, .int .i64 x5, .int .i64 x6, .int .i64 x7])] w (fun en w' => en = .returned (.int .i64 (qcheck0 x0 x1 x2 x3 x4 x5 x6 x7)) ∧ Below w.heap.size w w') :=
  rcheck_any x0 x1 x2 x3 x4 x5 x6 x7 w
theorem rootU_bd {n : Int} (h0 : 0 ≤ n) (h1 : n ≤ 1000000000000) : 0 ≤ rootU n ∧ rootU n ≤ 1048576 := by
  have := rootD_bd h0 h1
  by_cases h : rootD n * rootD n < n
  · rw [root_up h0 h1 h]; omega
  · rw [root_same h0 h1 h]; omega
theorem fall_bd {d : Int} (h0 : 0 ≤ d) (h1 : d ≤ 2000000) : 0 ≤ fallZ d ∧ fallZ d ≤ 450 := by
  have := lg_bd (x := d / 1000 + 1) (by omega) (by omega)
  unfold fallZ; omega
theorem dist_bd {x0 x1 x2 x3 x4 x5 x6 x7 x8 x9 : Int} (v0 : 1 ≤ x0 ∧ x0 ≤ 24) (v1 : 1 ≤ x1 ∧ x1 ≤ 24) (v2 : 1 ≤ x2 ∧ x2 ≤ 10000) (v3 : 100 ≤ x3 ∧ x3 ≤ x4 ∧ x4 ≤ 20000) (v5 : 0 ≤ x5 ∧ x5 ≤ x6 ∧ x6 ≤ 700000) (v7 : 0 ≤ x7 ∧ x7 ≤ 1000) (h8 : 0 ≤ x8 ∧ x8 < x0 * x1) (h9 : 0 ≤ x9 ∧ x9 < x0 * x1) : (0 ≤ dist0 x0 x1 x2 x3 x4 x5 x6 x7 x8 x9 ∧ dist0 x0 x1 x2 x3 x4 x5 x6 x7 x8 x9 ≤ 1048575) ∧ (0 ≤ dist1 x0 x1 x2 x3 x4 x5 x6 x7 x8 x9 ∧ dist1 x0 x1 x2 x3 x4 x5 x6 x7 x8 x9 ≤ 1048576) := by
  have m8 := Int.emod_nonneg x8 (by omega : x0 ≠ 0)
  have m8' := Int.emod_lt_of_pos x8 (by omega : 0 < x0)
  have m9 := Int.emod_nonneg x9 (by omega : x0 ≠ 0)
  have m9' := Int.emod_lt_of_pos x9 (by omega : 0 < x0)
  have r8 := row_bd (a := x8) (x := x0) (y := x1) h8.1 h8.2 (by omega) (by omega)
  have r9 := row_bd (a := x9) (x := x0) (y := x1) h9.1 h9.2 (by omega) (by omega)
  have ac := apart_bd (x0 := x0) (x1 := x1) (x2 := x2) (x3 := x3) (x4 := x4) (x5 := x5) (x6 := x6) (x7 := x7) (x8 := x8 % x0) (x9 := x9 % x0) v2 (by omega) (by omega)
  have ar := apart_bd (x0 := x0) (x1 := x1) (x2 := x2) (x3 := x3) (x4 := x4) (x5 := x5) (x6 := x6) (x7 := x7) (x8 := x8 / x0) (x9 := x9 / x0) v2 (by omega) (by omega)
  have s5 := mul_bd (a := x5) (b := x5) (A := 700000) (B := 700000) (C := 490000000000) (by omega) (by omega) (by omega) (by omega)
  have s6 := mul_bd (a := x6) (b := x6) (A := 700000) (B := 700000) (C := 490000000000) (by omega) (by omega) (by omega) (by omega)
  have c0 := mul_bd (A := 240000) (B := 240000) (C := 57600000000) ac.1.1 ac.1.2 ac.1.1 ac.1.2
  have c1 := mul_bd (A := 240000) (B := 240000) (C := 57600000000) ac.2.1 ac.2.2 ac.2.1 ac.2.2
  have e0 := mul_bd (A := 240000) (B := 240000) (C := 57600000000) ar.1.1 ar.1.2 ar.1.1 ar.1.2
  have e1 := mul_bd (A := 240000) (B := 240000) (C := 57600000000) ar.2.1 ar.2.2 ar.2.1 ar.2.2
  
  unfold dist0 dist1
  refine ⟨?_, ?_⟩
  · have := rootD_bd (n := apart0 x0 x1 x2 x3 x4 x5 x6 x7 (x8 % x0) (x9 % x0) * apart0 x0 x1 x2 x3 x4 x5 x6 x7 (x8 % x0) (x9 % x0) + apart0 x0 x1 x2 x3 x4 x5 x6 x7 (x8 / x0) (x9 / x0) * apart0 x0 x1 x2 x3 x4 x5 x6 x7 (x8 / x0) (x9 / x0) + x5 * x5) (by omega) (by omega)
    exact ⟨this.1, by omega⟩
  · exact rootU_bd (by omega) (by omega)
noncomputable def tT0 (x0 : Int) (x1 : Int) (x2 : Int) (x3 : Int) (x4 : Int) (x5 : Int) (x6 : Int) (x7 : Int) (x8 : Int) (x9 : Int) : Int := (if (qcheck0 (x0) (x1) (x2) (x3) (x4) (x5) (x6) (x7)) ≠ 0 then 0 else (if x8 ≥ 0 then (if x8 ≤ ((x0 * x1) - 1) then (if x9 ≥ 0 then (if x9 ≤ ((x0 * x1) - 1) then ((1000 * (dist0 (x0) (x1) (x2) (x3) (x4) (x5) (x6) (x7) (x8) (x9))) / x4) else 0) else 0) else 0) else 0))
noncomputable def tT1 (x0 : Int) (x1 : Int) (x2 : Int) (x3 : Int) (x4 : Int) (x5 : Int) (x6 : Int) (x7 : Int) (x8 : Int) (x9 : Int) : Int := (if (qcheck0 (x0) (x1) (x2) (x3) (x4) (x5) (x6) (x7)) ≠ 0 then 0 else (if x8 ≥ 0 then (if x8 ≤ ((x0 * x1) - 1) then (if x9 ≥ 0 then (if x9 ≤ ((x0 * x1) - 1) then ((((1000 * (dist1 (x0) (x1) (x2) (x3) (x4) (x5) (x6) (x7) (x8) (x9))) + x3) - 1) / x3) else 0) else 0) else 0) else 0))
noncomputable def tT2 (x0 : Int) (x1 : Int) (x2 : Int) (x3 : Int) (x4 : Int) (x5 : Int) (x6 : Int) (x7 : Int) (x8 : Int) (x9 : Int) : Int := (if (qcheck0 (x0) (x1) (x2) (x3) (x4) (x5) (x6) (x7)) ≠ 0 then (qcheck0 (x0) (x1) (x2) (x3) (x4) (x5) (x6) (x7)) else (if x8 ≥ 0 then (if x8 ≤ ((x0 * x1) - 1) then (if x9 ≥ 0 then (if x9 ≤ ((x0 * x1) - 1) then 0 else 4) else 4) else 4) else 4))
noncomputable def tT_e0 : List Ent := [⟨(.bin .neq 27), [(.chan (some 10)), (.int .i64 0)], (.bool true)⟩]
noncomputable def tT_c0 : List CEnt := [⟨18, [(.agg #[(.chan (some 0)), (.chan (some 1)), (.chan (some 2)), (.chan (some 3)), (.chan (some 4)), (.chan (some 5)), (.chan (some 6)), (.chan (some 7))])], [], (.chan (some 10))⟩]
set_option maxRecDepth 1000000 in
theorem tT_r0 : ev Try.prog (env.sym tT_e0 tT_c0) 3000 (.call 14 [(.agg #[(.chan (some 0)), (.chan (some 1)), (.chan (some 2)), (.chan (some 3)), (.chan (some 4)), (.chan (some 5)), (.chan (some 6)), (.chan (some 7))]), (.chan (some 8)), (.chan (some 9))] Ev.start fun v _ => some v) = some (.tuple #[(.agg #[(.int .i64 0), (.int .i64 0)]), (.chan (some 10))]) := by kernel_rfl
noncomputable def tT_e1 : List Ent := [⟨(.bin .neq 27), [(.chan (some 10)), (.int .i64 0)], (.bool false)⟩, ⟨(.bin .mul 3), [(.chan (some 0)), (.chan (some 1))], (.chan (some 11))⟩, ⟨(.bin .sub 3), [(.chan (some 11)), (.int .i64 1)], (.chan (some 12))⟩, ⟨(.bin .geq 3), [(.chan (some 8)), (.int .i64 0)], (.bool true)⟩, ⟨(.bin .leq 3), [(.chan (some 8)), (.chan (some 12))], (.bool true)⟩, ⟨(.bin .geq 3), [(.chan (some 9)), (.int .i64 0)], (.bool true)⟩, ⟨(.bin .leq 3), [(.chan (some 9)), (.chan (some 12))], (.bool true)⟩, ⟨(.bin .mul 3), [(.int .i64 1000), (.chan (some 13))], (.chan (some 15))⟩, ⟨(.bin .quo 3), [(.chan (some 15)), (.chan (some 4))], (.chan (some 16))⟩, ⟨(.bin .mul 3), [(.int .i64 1000), (.chan (some 14))], (.chan (some 17))⟩, ⟨(.bin .add 3), [(.chan (some 17)), (.chan (some 3))], (.chan (some 18))⟩, ⟨(.bin .sub 3), [(.chan (some 18)), (.int .i64 1)], (.chan (some 19))⟩, ⟨(.bin .quo 3), [(.chan (some 19)), (.chan (some 3))], (.chan (some 20))⟩]
noncomputable def tT_c1 : List CEnt := [⟨18, [(.agg #[(.chan (some 0)), (.chan (some 1)), (.chan (some 2)), (.chan (some 3)), (.chan (some 4)), (.chan (some 5)), (.chan (some 6)), (.chan (some 7))])], [], (.chan (some 10))⟩, ⟨45, [(.agg #[(.chan (some 0)), (.chan (some 1)), (.chan (some 2)), (.chan (some 3)), (.chan (some 4)), (.chan (some 5)), (.chan (some 6)), (.chan (some 7))]), (.chan (some 8)), (.chan (some 9))], [], (.agg #[(.chan (some 13)), (.chan (some 14))])⟩]
set_option maxRecDepth 1000000 in
theorem tT_r1 : ev Try.prog (env.sym tT_e1 tT_c1) 3000 (.call 14 [(.agg #[(.chan (some 0)), (.chan (some 1)), (.chan (some 2)), (.chan (some 3)), (.chan (some 4)), (.chan (some 5)), (.chan (some 6)), (.chan (some 7))]), (.chan (some 8)), (.chan (some 9))] Ev.start fun v _ => some v) = some (.tuple #[(.agg #[(.chan (some 16)), (.chan (some 20))]), (.int .i64 0)]) := by kernel_rfl
noncomputable def tT_e2 : List Ent := [⟨(.bin .neq 27), [(.chan (some 10)), (.int .i64 0)], (.bool false)⟩, ⟨(.bin .mul 3), [(.chan (some 0)), (.chan (some 1))], (.chan (some 11))⟩, ⟨(.bin .sub 3), [(.chan (some 11)), (.int .i64 1)], (.chan (some 12))⟩, ⟨(.bin .geq 3), [(.chan (some 8)), (.int .i64 0)], (.bool true)⟩, ⟨(.bin .leq 3), [(.chan (some 8)), (.chan (some 12))], (.bool true)⟩, ⟨(.bin .geq 3), [(.chan (some 9)), (.int .i64 0)], (.bool true)⟩, ⟨(.bin .leq 3), [(.chan (some 9)), (.chan (some 12))], (.bool false)⟩]
noncomputable def tT_c2 : List CEnt := [⟨18, [(.agg #[(.chan (some 0)), (.chan (some 1)), (.chan (some 2)), (.chan (some 3)), (.chan (some 4)), (.chan (some 5)), (.chan (some 6)), (.chan (some 7))])], [], (.chan (some 10))⟩]
set_option maxRecDepth 1000000 in
theorem tT_r2 : ev Try.prog (env.sym tT_e2 tT_c2) 3000 (.call 14 [(.agg #[(.chan (some 0)), (.chan (some 1)), (.chan (some 2)), (.chan (some 3)), (.chan (some 4)), (.chan (some 5)), (.chan (some 6)), (.chan (some 7))]), (.chan (some 8)), (.chan (some 9))] Ev.start fun v _ => some v) = some (.tuple #[(.agg #[(.int .i64 0), (.int .i64 0)]), (.int .i64 4)]) := by kernel_rfl
noncomputable def tT_e3 : List Ent := [⟨(.bin .neq 27), [(.chan (some 10)), (.int .i64 0)], (.bool false)⟩, ⟨(.bin .mul 3), [(.chan (some 0)), (.chan (some 1))], (.chan (some 11))⟩, ⟨(.bin .sub 3), [(.chan (some 11)), (.int .i64 1)], (.chan (some 12))⟩, ⟨(.bin .geq 3), [(.chan (some 8)), (.int .i64 0)], (.bool true)⟩, ⟨(.bin .leq 3), [(.chan (some 8)), (.chan (some 12))], (.bool true)⟩, ⟨(.bin .geq 3), [(.chan (some 9)), (.int .i64 0)], (.bool false)⟩]
noncomputable def tT_c3 : List CEnt := [⟨18, [(.agg #[(.chan (some 0)), (.chan (some 1)), (.chan (some 2)), (.chan (some 3)), (.chan (some 4)), (.chan (some 5)), (.chan (some 6)), (.chan (some 7))])], [], (.chan (some 10))⟩]
set_option maxRecDepth 1000000 in
theorem tT_r3 : ev Try.prog (env.sym tT_e3 tT_c3) 3000 (.call 14 [(.agg #[(.chan (some 0)), (.chan (some 1)), (.chan (some 2)), (.chan (some 3)), (.chan (some 4)), (.chan (some 5)), (.chan (some 6)), (.chan (some 7))]), (.chan (some 8)), (.chan (some 9))] Ev.start fun v _ => some v) = some (.tuple #[(.agg #[(.int .i64 0), (.int .i64 0)]), (.int .i64 4)]) := by kernel_rfl
noncomputable def tT_e4 : List Ent := [⟨(.bin .neq 27), [(.chan (some 10)), (.int .i64 0)], (.bool false)⟩, ⟨(.bin .mul 3), [(.chan (some 0)), (.chan (some 1))], (.chan (some 11))⟩, ⟨(.bin .sub 3), [(.chan (some 11)), (.int .i64 1)], (.chan (some 12))⟩, ⟨(.bin .geq 3), [(.chan (some 8)), (.int .i64 0)], (.bool true)⟩, ⟨(.bin .leq 3), [(.chan (some 8)), (.chan (some 12))], (.bool false)⟩]
noncomputable def tT_c4 : List CEnt := [⟨18, [(.agg #[(.chan (some 0)), (.chan (some 1)), (.chan (some 2)), (.chan (some 3)), (.chan (some 4)), (.chan (some 5)), (.chan (some 6)), (.chan (some 7))])], [], (.chan (some 10))⟩]
set_option maxRecDepth 1000000 in
theorem tT_r4 : ev Try.prog (env.sym tT_e4 tT_c4) 3000 (.call 14 [(.agg #[(.chan (some 0)), (.chan (some 1)), (.chan (some 2)), (.chan (some 3)), (.chan (some 4)), (.chan (some 5)), (.chan (some 6)), (.chan (some 7))]), (.chan (some 8)), (.chan (some 9))] Ev.start fun v _ => some v) = some (.tuple #[(.agg #[(.int .i64 0), (.int .i64 0)]), (.int .i64 4)]) := by kernel_rfl
noncomputable def tT_e5 : List Ent := [⟨(.bin .neq 27), [(.chan (some 10)), (.int .i64 0)], (.bool false)⟩, ⟨(.bin .mul 3), [(.chan (some 0)), (.chan (some 1))], (.chan (some 11))⟩, ⟨(.bin .sub 3), [(.chan (some 11)), (.int .i64 1)], (.chan (some 12))⟩, ⟨(.bin .geq 3), [(.chan (some 8)), (.int .i64 0)], (.bool false)⟩]
noncomputable def tT_c5 : List CEnt := [⟨18, [(.agg #[(.chan (some 0)), (.chan (some 1)), (.chan (some 2)), (.chan (some 3)), (.chan (some 4)), (.chan (some 5)), (.chan (some 6)), (.chan (some 7))])], [], (.chan (some 10))⟩]
set_option maxRecDepth 1000000 in
theorem tT_r5 : ev Try.prog (env.sym tT_e5 tT_c5) 3000 (.call 14 [(.agg #[(.chan (some 0)), (.chan (some 1)), (.chan (some 2)), (.chan (some 3)), (.chan (some 4)), (.chan (some 5)), (.chan (some 6)), (.chan (some 7))]), (.chan (some 8)), (.chan (some 9))] Ev.start fun v _ => some v) = some (.tuple #[(.agg #[(.int .i64 0), (.int .i64 0)]), (.int .i64 4)]) := by kernel_rfl
set_option maxHeartbeats 8000000 in
set_option maxRecDepth 100000 in
theorem tT_any (x0 : Int) (x1 : Int) (x2 : Int) (x3 : Int) (x4 : Int) (x5 : Int) (x6 : Int) (x7 : Int) (x8 : Int) (x9 : Int)  (w : World)  : Calls Try.prog 14 #[(.agg #[(.int .i64 (x0)), (.int .i64 (x1)), (.int .i64 (x2)), (.int .i64 (x3)), (.int .i64 (x4)), (.int .i64 (x5)), (.int .i64 (x6)), (.int .i64 (x7))]), (.int .i64 (x8)), (.int .i64 (x9))] w (fun en w' => en = .returned (.tuple #[(.agg #[(.int .i64 (tT0 x0 x1 x2 x3 x4 x5 x6 x7 x8 x9)), (.int .i64 (tT1 x0 x1 x2 x3 x4 x5 x6 x7 x8 x9))]), (.int .i64 (tT2 x0 x1 x2 x3 x4 x5 x6 x7 x8 x9))]) ∧ Below w.heap.size w w') := by
  have b10 : -9223372036854775808 ≤ (qcheck0 (x0) (x1) (x2) (x3) (x4) (x5) (x6) (x7)) ∧ (qcheck0 (x0) (x1) (x2) (x3) (x4) (x5) (x6) (x7)) ≤ 9223372036854775807 := by have := qcheck_bd (x0 := x0) (x1 := x1) (x2 := x2) (x3 := x3) (x4 := x4) (x5 := x5) (x6 := x6) (x7 := x7); omega
  by_cases c0 : (qcheck0 (x0) (x1) (x2) (x3) (x4) (x5) (x6) (x7)) ≠ 0
  · have q := @calls_sym (Rho.of [(.int .i64 (x0)), (.int .i64 (x1)), (.int .i64 (x2)), (.int .i64 (x3)), (.int .i64 (x4)), (.int .i64 (x5)), (.int .i64 (x6)), (.int .i64 (x7)), (.int .i64 (x8)), (.int .i64 (x9)), (.int .i64 ((qcheck0 (x0) (x1) (x2) (x3) (x4) (x5) (x6) (x7))))] (fun _ => none)) Try.prog _ (@Env.Ok.sym (Rho.of [(.int .i64 (x0)), (.int .i64 (x1)), (.int .i64 (x2)), (.int .i64 (x3)), (.int .i64 (x4)), (.int .i64 (x5)), (.int .i64 (x6)), (.int .i64 (x7)), (.int .i64 (x8)), (.int .i64 (x9)), (.int .i64 ((qcheck0 (x0) (x1) (x2) (x3) (x4) (x5) (x6) (x7))))] (fun _ => none)) _ _ (@env_ok (Rho.of [(.int .i64 (x0)), (.int .i64 (x1)), (.int .i64 (x2)), (.int .i64 (x3)), (.int .i64 (x4)), (.int .i64 (x5)), (.int .i64 (x6)), (.int .i64 (x7)), (.int .i64 (x8)), (.int .i64 (x9)), (.int .i64 ((qcheck0 (x0) (x1) (x2) (x3) (x4) (x5) (x6) (x7))))] (fun _ => none))) tT_e0 tT_c0 ⟨⟨rfl, rfl, fun w hm => (show KeyOk Try.prog w (.bin .neq 27) [(.int .i64 ((qcheck0 (x0) (x1) (x2) (x3) (x4) (x5) (x6) (x7)))), (.int .i64 0)] (.bool true) from k_neq_t c0)⟩, trivial⟩ ⟨(@CEntOk.of (Rho.of [(.int .i64 (x0)), (.int .i64 (x1)), (.int .i64 (x2)), (.int .i64 (x3)), (.int .i64 (x4)), (.int .i64 (x5)), (.int .i64 (x6)), (.int .i64 (x7)), (.int .i64 (x8)), (.int .i64 (x9)), (.int .i64 ((qcheck0 (x0) (x1) (x2) (x3) (x4) (x5) (x6) (x7))))] (fun _ => none)) Try.prog _ 18 _ _ #[(.agg #[(.int .i64 (x0)), (.int .i64 (x1)), (.int .i64 (x2)), (.int .i64 (x3)), (.int .i64 (x4)), (.int .i64 (x5)), (.int .i64 (x6)), (.int .i64 (x7))])] (.int .i64 ((qcheck0 (x0) (x1) (x2) (x3) (x4) (x5) (x6) (x7)))) rfl ⟨Try.f18, (Try.f18.body).getD .skip, by kernel_rfl, by kernel_rfl⟩ rfl rfl rfl (fun w hm => qcheck_any (x0) (x1) (x2) (x3) (x4) (x5) (x6) (x7)  w)), trivial⟩) 3000 14 [(.agg #[(.chan (some 0)), (.chan (some 1)), (.chan (some 2)), (.chan (some 3)), (.chan (some 4)), (.chan (some 5)), (.chan (some 6)), (.chan (some 7))]), (.chan (some 8)), (.chan (some 9))] (.tuple #[(.agg #[(.int .i64 0), (.int .i64 0)]), (.chan (some 10))]) rfl rfl tT_r0 w (fun _ _ h => nomatch h)
    have v0 : (0 : Int) = tT0 x0 x1 x2 x3 x4 x5 x6 x7 x8 x9 := by
      unfold tT0
      try rw [if_pos c0]
      try rfl
    have v1 : (0 : Int) = tT1 x0 x1 x2 x3 x4 x5 x6 x7 x8 x9 := by
      unfold tT1
      try rw [if_pos c0]
      try rfl
    have v2 : ((qcheck0 (x0) (x1) (x2) (x3) (x4) (x5) (x6) (x7)) : Int) = tT2 x0 x1 x2 x3 x4 x5 x6 x7 x8 x9 := by
      unfold tT2
      try rw [if_pos c0]
      try rfl
    have hv : ((.tuple #[(.agg #[(.int .i64 (0)), (.int .i64 (0))]), (.int .i64 ((qcheck0 (x0) (x1) (x2) (x3) (x4) (x5) (x6) (x7))))]) : Value) = (.tuple #[(.agg #[(.int .i64 (tT0 x0 x1 x2 x3 x4 x5 x6 x7 x8 x9)), (.int .i64 (tT1 x0 x1 x2 x3 x4 x5 x6 x7 x8 x9))]), (.int .i64 (tT2 x0 x1 x2 x3 x4 x5 x6 x7 x8 x9))]) := by rw [← v0, ← v1, ← v2]
    rw [← hv]
    exact q
  · have hv := qcheck_ok (x0 := x0) (x1 := x1) (x2 := x2) (x3 := x3) (x4 := x4) (x5 := x5) (x6 := x6) (x7 := x7) (by omega)
    have hx := mul_bd (a := x0) (b := x1) (A := 24) (B := 24) (C := 576) (by omega) (by omega) (by omega) (by omega)
    obtain ⟨y11, hy11⟩ : ∃ y : Int, y = (x0 * x1) := ⟨_, rfl⟩
    have b11 : 0 ≤ y11 ∧ y11 ≤ 576 := by rw [hy11]; exact mul_bd (A := 24) (B := 24) (C := 576) (by omega) (by omega) (by omega) (by omega)
    replace hy11 : Hid (y11 = (x0 * x1)) := hy11
    obtain ⟨y12, hy12⟩ : ∃ y : Int, y = (y11 - 1) := ⟨_, rfl⟩
    have b12 : (-1) ≤ y12 ∧ y12 ≤ 575 := by rw [hy12]; omega
    replace hy12 : Hid (y12 = (y11 - 1)) := hy12
    by_cases c1 : x8 ≥ 0
    · by_cases c2 : x8 ≤ y12
      · by_cases c3 : x9 ≥ 0
        · by_cases c4 : x9 ≤ y12
          · have b13 : 0 ≤ (dist0 (x0) (x1) (x2) (x3) (x4) (x5) (x6) (x7) (x8) (x9)) ∧ (dist0 (x0) (x1) (x2) (x3) (x4) (x5) (x6) (x7) (x8) (x9)) ≤ 1048575 := (dist_bd (hv.1) (hv.2.1) (hv.2.2.1) (hv.2.2.2.1) (hv.2.2.2.2.1) (hv.2.2.2.2.2) ⟨(by have e1 : y11 = (x0 * x1) := hy11; have e2 : y12 = (y11 - 1) := hy12; omega), (by have e1 : y11 = (x0 * x1) := hy11; have e2 : y12 = (y11 - 1) := hy12; omega)⟩ ⟨(by have e1 : y11 = (x0 * x1) := hy11; have e2 : y12 = (y11 - 1) := hy12; omega), (by have e1 : y11 = (x0 * x1) := hy11; have e2 : y12 = (y11 - 1) := hy12; omega)⟩).1
            have b14 : 0 ≤ (dist1 (x0) (x1) (x2) (x3) (x4) (x5) (x6) (x7) (x8) (x9)) ∧ (dist1 (x0) (x1) (x2) (x3) (x4) (x5) (x6) (x7) (x8) (x9)) ≤ 1048576 := (dist_bd (hv.1) (hv.2.1) (hv.2.2.1) (hv.2.2.2.1) (hv.2.2.2.2.1) (hv.2.2.2.2.2) ⟨(by have e1 : y11 = (x0 * x1) := hy11; have e2 : y12 = (y11 - 1) := hy12; omega), (by have e1 : y11 = (x0 * x1) := hy11; have e2 : y12 = (y11 - 1) := hy12; omega)⟩ ⟨(by have e1 : y11 = (x0 * x1) := hy11; have e2 : y12 = (y11 - 1) := hy12; omega), (by have e1 : y11 = (x0 * x1) := hy11; have e2 : y12 = (y11 - 1) := hy12; omega)⟩).2
            obtain ⟨y15, hy15⟩ : ∃ y : Int, y = (1000 * (dist0 (x0) (x1) (x2) (x3) (x4) (x5) (x6) (x7) (x8) (x9))) := ⟨_, rfl⟩
            have b15 : 0 ≤ y15 ∧ y15 ≤ 1048575000 := by rw [hy15]; omega
            replace hy15 : Hid (y15 = (1000 * (dist0 (x0) (x1) (x2) (x3) (x4) (x5) (x6) (x7) (x8) (x9)))) := hy15
            obtain ⟨y16, hy16⟩ : ∃ y : Int, y = (y15 / x4) := ⟨_, rfl⟩
            have b16 : 0 ≤ y16 ∧ y16 ≤ 10485750 := by rw [hy16]; exact div_iv (A := 1048575000) (B := 100) (C := 10485750) (by omega) (by omega) (by omega) (by decide)
            replace hy16 : Hid (y16 = (y15 / x4)) := hy16
            obtain ⟨y17, hy17⟩ : ∃ y : Int, y = (1000 * (dist1 (x0) (x1) (x2) (x3) (x4) (x5) (x6) (x7) (x8) (x9))) := ⟨_, rfl⟩
            have b17 : 0 ≤ y17 ∧ y17 ≤ 1048576000 := by rw [hy17]; omega
            replace hy17 : Hid (y17 = (1000 * (dist1 (x0) (x1) (x2) (x3) (x4) (x5) (x6) (x7) (x8) (x9)))) := hy17
            obtain ⟨y18, hy18⟩ : ∃ y : Int, y = (y17 + x3) := ⟨_, rfl⟩
            have b18 : 100 ≤ y18 ∧ y18 ≤ 1048596000 := by rw [hy18]; omega
            replace hy18 : Hid (y18 = (y17 + x3)) := hy18
            obtain ⟨y19, hy19⟩ : ∃ y : Int, y = (y18 - 1) := ⟨_, rfl⟩
            have b19 : 99 ≤ y19 ∧ y19 ≤ 1048595999 := by rw [hy19]; omega
            replace hy19 : Hid (y19 = (y18 - 1)) := hy19
            obtain ⟨y20, hy20⟩ : ∃ y : Int, y = (y19 / x3) := ⟨_, rfl⟩
            have b20 : 0 ≤ y20 ∧ y20 ≤ 10485959 := by rw [hy20]; exact div_iv (A := 1048595999) (B := 100) (C := 10485959) (by omega) (by omega) (by omega) (by decide)
            replace hy20 : Hid (y20 = (y19 / x3)) := hy20
            have q := @calls_sym (Rho.of [(.int .i64 (x0)), (.int .i64 (x1)), (.int .i64 (x2)), (.int .i64 (x3)), (.int .i64 (x4)), (.int .i64 (x5)), (.int .i64 (x6)), (.int .i64 (x7)), (.int .i64 (x8)), (.int .i64 (x9)), (.int .i64 ((qcheck0 (x0) (x1) (x2) (x3) (x4) (x5) (x6) (x7)))), (.int .i64 (y11)), (.int .i64 (y12)), (.int .i64 ((dist0 (x0) (x1) (x2) (x3) (x4) (x5) (x6) (x7) (x8) (x9)))), (.int .i64 ((dist1 (x0) (x1) (x2) (x3) (x4) (x5) (x6) (x7) (x8) (x9)))), (.int .i64 (y15)), (.int .i64 (y16)), (.int .i64 (y17)), (.int .i64 (y18)), (.int .i64 (y19)), (.int .i64 (y20))] (fun _ => none)) Try.prog _ (@Env.Ok.sym (Rho.of [(.int .i64 (x0)), (.int .i64 (x1)), (.int .i64 (x2)), (.int .i64 (x3)), (.int .i64 (x4)), (.int .i64 (x5)), (.int .i64 (x6)), (.int .i64 (x7)), (.int .i64 (x8)), (.int .i64 (x9)), (.int .i64 ((qcheck0 (x0) (x1) (x2) (x3) (x4) (x5) (x6) (x7)))), (.int .i64 (y11)), (.int .i64 (y12)), (.int .i64 ((dist0 (x0) (x1) (x2) (x3) (x4) (x5) (x6) (x7) (x8) (x9)))), (.int .i64 ((dist1 (x0) (x1) (x2) (x3) (x4) (x5) (x6) (x7) (x8) (x9)))), (.int .i64 (y15)), (.int .i64 (y16)), (.int .i64 (y17)), (.int .i64 (y18)), (.int .i64 (y19)), (.int .i64 (y20))] (fun _ => none)) _ _ (@env_ok (Rho.of [(.int .i64 (x0)), (.int .i64 (x1)), (.int .i64 (x2)), (.int .i64 (x3)), (.int .i64 (x4)), (.int .i64 (x5)), (.int .i64 (x6)), (.int .i64 (x7)), (.int .i64 (x8)), (.int .i64 (x9)), (.int .i64 ((qcheck0 (x0) (x1) (x2) (x3) (x4) (x5) (x6) (x7)))), (.int .i64 (y11)), (.int .i64 (y12)), (.int .i64 ((dist0 (x0) (x1) (x2) (x3) (x4) (x5) (x6) (x7) (x8) (x9)))), (.int .i64 ((dist1 (x0) (x1) (x2) (x3) (x4) (x5) (x6) (x7) (x8) (x9)))), (.int .i64 (y15)), (.int .i64 (y16)), (.int .i64 (y17)), (.int .i64 (y18)), (.int .i64 (y19)), (.int .i64 (y20))] (fun _ => none))) tT_e1 tT_c1 ⟨⟨rfl, rfl, fun w hm => (show KeyOk Try.prog w (.bin .neq 27) [(.int .i64 ((qcheck0 (x0) (x1) (x2) (x3) (x4) (x5) (x6) (x7)))), (.int .i64 0)] (.bool false) from k_neq_f c0)⟩, ⟨rfl, rfl, fun w hm => (show KeyOk Try.prog w (.bin .mul 3) [(.int .i64 (x0)), (.int .i64 (x1))] (.int .i64 (y11)) from key_eq (e := (x0 * x1)) hy11 (have ey : y11 = (x0 * x1) := hy11; k_mul (wrap64 (by omega))))⟩, ⟨rfl, rfl, fun w hm => (show KeyOk Try.prog w (.bin .sub 3) [(.int .i64 (y11)), (.int .i64 1)] (.int .i64 (y12)) from key_eq (e := (y11 - 1)) hy12 (have ey : y12 = (y11 - 1) := hy12; k_sub (wrap64 (by omega))))⟩, ⟨rfl, rfl, fun w hm => (show KeyOk Try.prog w (.bin .geq 3) [(.int .i64 (x8)), (.int .i64 0)] (.bool true) from k_geq_t c1)⟩, ⟨rfl, rfl, fun w hm => (show KeyOk Try.prog w (.bin .leq 3) [(.int .i64 (x8)), (.int .i64 (y12))] (.bool true) from k_leq_t c2)⟩, ⟨rfl, rfl, fun w hm => (show KeyOk Try.prog w (.bin .geq 3) [(.int .i64 (x9)), (.int .i64 0)] (.bool true) from k_geq_t c3)⟩, ⟨rfl, rfl, fun w hm => (show KeyOk Try.prog w (.bin .leq 3) [(.int .i64 (x9)), (.int .i64 (y12))] (.bool true) from k_leq_t c4)⟩, ⟨rfl, rfl, fun w hm => (show KeyOk Try.prog w (.bin .mul 3) [(.int .i64 1000), (.int .i64 ((dist0 (x0) (x1) (x2) (x3) (x4) (x5) (x6) (x7) (x8) (x9))))] (.int .i64 (y15)) from key_eq (e := (1000 * (dist0 (x0) (x1) (x2) (x3) (x4) (x5) (x6) (x7) (x8) (x9)))) hy15 (have ey : y15 = (1000 * (dist0 (x0) (x1) (x2) (x3) (x4) (x5) (x6) (x7) (x8) (x9))) := hy15; k_mul (wrap64 (by omega))))⟩, ⟨rfl, rfl, fun w hm => (show KeyOk Try.prog w (.bin .quo 3) [(.int .i64 (y15)), (.int .i64 (x4))] (.int .i64 (y16)) from key_eq (e := (y15 / x4)) hy16 (have ey : y16 = (y15 / x4) := hy16; k_quo_nn (by omega) (by omega) (wrap64 (by omega))))⟩, ⟨rfl, rfl, fun w hm => (show KeyOk Try.prog w (.bin .mul 3) [(.int .i64 1000), (.int .i64 ((dist1 (x0) (x1) (x2) (x3) (x4) (x5) (x6) (x7) (x8) (x9))))] (.int .i64 (y17)) from key_eq (e := (1000 * (dist1 (x0) (x1) (x2) (x3) (x4) (x5) (x6) (x7) (x8) (x9)))) hy17 (have ey : y17 = (1000 * (dist1 (x0) (x1) (x2) (x3) (x4) (x5) (x6) (x7) (x8) (x9))) := hy17; k_mul (wrap64 (by omega))))⟩, ⟨rfl, rfl, fun w hm => (show KeyOk Try.prog w (.bin .add 3) [(.int .i64 (y17)), (.int .i64 (x3))] (.int .i64 (y18)) from key_eq (e := (y17 + x3)) hy18 (have ey : y18 = (y17 + x3) := hy18; k_add (wrap64 (by omega))))⟩, ⟨rfl, rfl, fun w hm => (show KeyOk Try.prog w (.bin .sub 3) [(.int .i64 (y18)), (.int .i64 1)] (.int .i64 (y19)) from key_eq (e := (y18 - 1)) hy19 (have ey : y19 = (y18 - 1) := hy19; k_sub (wrap64 (by omega))))⟩, ⟨rfl, rfl, fun w hm => (show KeyOk Try.prog w (.bin .quo 3) [(.int .i64 (y19)), (.int .i64 (x3))] (.int .i64 (y20)) from key_eq (e := (y19 / x3)) hy20 (have ey : y20 = (y19 / x3) := hy20; k_quo_nn (by omega) (by omega) (wrap64 (by omega))))⟩, trivial⟩ ⟨(@CEntOk.of (Rho.of [(.int .i64 (x0)), (.int .i64 (x1)), (.int .i64 (x2)), (.int .i64 (x3)), (.int .i64 (x4)), (.int .i64 (x5)), (.int .i64 (x6)), (.int .i64 (x7)), (.int .i64 (x8)), (.int .i64 (x9)), (.int .i64 ((qcheck0 (x0) (x1) (x2) (x3) (x4) (x5) (x6) (x7)))), (.int .i64 (y11)), (.int .i64 (y12)), (.int .i64 ((dist0 (x0) (x1) (x2) (x3) (x4) (x5) (x6) (x7) (x8) (x9)))), (.int .i64 ((dist1 (x0) (x1) (x2) (x3) (x4) (x5) (x6) (x7) (x8) (x9)))), (.int .i64 (y15)), (.int .i64 (y16)), (.int .i64 (y17)), (.int .i64 (y18)), (.int .i64 (y19)), (.int .i64 (y20))] (fun _ => none)) Try.prog _ 18 _ _ #[(.agg #[(.int .i64 (x0)), (.int .i64 (x1)), (.int .i64 (x2)), (.int .i64 (x3)), (.int .i64 (x4)), (.int .i64 (x5)), (.int .i64 (x6)), (.int .i64 (x7))])] (.int .i64 ((qcheck0 (x0) (x1) (x2) (x3) (x4) (x5) (x6) (x7)))) rfl ⟨Try.f18, (Try.f18.body).getD .skip, by kernel_rfl, by kernel_rfl⟩ rfl rfl rfl (fun w hm => qcheck_any (x0) (x1) (x2) (x3) (x4) (x5) (x6) (x7)  w)), (@CEntOk.of (Rho.of [(.int .i64 (x0)), (.int .i64 (x1)), (.int .i64 (x2)), (.int .i64 (x3)), (.int .i64 (x4)), (.int .i64 (x5)), (.int .i64 (x6)), (.int .i64 (x7)), (.int .i64 (x8)), (.int .i64 (x9)), (.int .i64 ((qcheck0 (x0) (x1) (x2) (x3) (x4) (x5) (x6) (x7)))), (.int .i64 (y11)), (.int .i64 (y12)), (.int .i64 ((dist0 (x0) (x1) (x2) (x3) (x4) (x5) (x6) (x7) (x8) (x9)))), (.int .i64 ((dist1 (x0) (x1) (x2) (x3) (x4) (x5) (x6) (x7) (x8) (x9)))), (.int .i64 (y15)), (.int .i64 (y16)), (.int .i64 (y17)), (.int .i64 (y18)), (.int .i64 (y19)), (.int .i64 (y20))] (fun _ => none)) Try.prog _ 45 _ _ #[(.agg #[(.int .i64 (x0)), (.int .i64 (x1)), (.int .i64 (x2)), (.int .i64 (x3)), (.int .i64 (x4)), (.int .i64 (x5)), (.int .i64 (x6)), (.int .i64 (x7))]), (.int .i64 (x8)), (.int .i64 (x9))] (.agg #[(.int .i64 ((dist0 (x0) (x1) (x2) (x3) (x4) (x5) (x6) (x7) (x8) (x9)))), (.int .i64 ((dist1 (x0) (x1) (x2) (x3) (x4) (x5) (x6) (x7) (x8) (x9))))]) rfl ⟨Try.f45, (Try.f45.body).getD .skip, by kernel_rfl, by kernel_rfl⟩ rfl rfl rfl (fun w hm => dist_any (x0) (x1) (x2) (x3) (x4) (x5) (x6) (x7) (x8) (x9) (hv.1) (hv.2.1) (hv.2.2.1) (hv.2.2.2.1) (hv.2.2.2.2.1) (hv.2.2.2.2.2) ⟨(by have e1 : y11 = (x0 * x1) := hy11; have e2 : y12 = (y11 - 1) := hy12; omega), (by have e1 : y11 = (x0 * x1) := hy11; have e2 : y12 = (y11 - 1) := hy12; omega)⟩ ⟨(by have e1 : y11 = (x0 * x1) := hy11; have e2 : y12 = (y11 - 1) := hy12; omega), (by have e1 : y11 = (x0 * x1) := hy11; have e2 : y12 = (y11 - 1) := hy12; omega)⟩ w)), trivial⟩) 3000 14 [(.agg #[(.chan (some 0)), (.chan (some 1)), (.chan (some 2)), (.chan (some 3)), (.chan (some 4)), (.chan (some 5)), (.chan (some 6)), (.chan (some 7))]), (.chan (some 8)), (.chan (some 9))] (.tuple #[(.agg #[(.chan (some 16)), (.chan (some 20))]), (.int .i64 0)]) rfl rfl tT_r1 w (fun _ _ h => nomatch h)
            have v0 : (y16 : Int) = tT0 x0 x1 x2 x3 x4 x5 x6 x7 x8 x9 := by
              have e11 : y11 = (x0 * x1) := hy11
              have e12 : y12 = (y11 - 1) := hy12
              have e15 : y15 = (1000 * (dist0 (x0) (x1) (x2) (x3) (x4) (x5) (x6) (x7) (x8) (x9))) := hy15
              have e16 : y16 = (y15 / x4) := hy16
              have e17 : y17 = (1000 * (dist1 (x0) (x1) (x2) (x3) (x4) (x5) (x6) (x7) (x8) (x9))) := hy17
              have e18 : y18 = (y17 + x3) := hy18
              have e19 : y19 = (y18 - 1) := hy19
              have e20 : y20 = (y19 / x3) := hy20
              try simp only [e11, e12, e15, e16, e17, e18, e19, e20] at c0
              try simp only [e11, e12, e15, e16, e17, e18, e19, e20] at c1
              try simp only [e11, e12, e15, e16, e17, e18, e19, e20] at c2
              try simp only [e11, e12, e15, e16, e17, e18, e19, e20] at c3
              try simp only [e11, e12, e15, e16, e17, e18, e19, e20] at c4
              unfold tT0
              try rw [if_neg c0]
              try rw [if_pos c1]
              try rw [if_pos c2]
              try rw [if_pos c3]
              try rw [if_pos c4]
              try simp only [e11, e12, e15, e16, e17, e18, e19, e20]
            have v1 : (y20 : Int) = tT1 x0 x1 x2 x3 x4 x5 x6 x7 x8 x9 := by
              have e11 : y11 = (x0 * x1) := hy11
              have e12 : y12 = (y11 - 1) := hy12
              have e15 : y15 = (1000 * (dist0 (x0) (x1) (x2) (x3) (x4) (x5) (x6) (x7) (x8) (x9))) := hy15
              have e16 : y16 = (y15 / x4) := hy16
              have e17 : y17 = (1000 * (dist1 (x0) (x1) (x2) (x3) (x4) (x5) (x6) (x7) (x8) (x9))) := hy17
              have e18 : y18 = (y17 + x3) := hy18
              have e19 : y19 = (y18 - 1) := hy19
              have e20 : y20 = (y19 / x3) := hy20
              try simp only [e11, e12, e15, e16, e17, e18, e19, e20] at c0
              try simp only [e11, e12, e15, e16, e17, e18, e19, e20] at c1
              try simp only [e11, e12, e15, e16, e17, e18, e19, e20] at c2
              try simp only [e11, e12, e15, e16, e17, e18, e19, e20] at c3
              try simp only [e11, e12, e15, e16, e17, e18, e19, e20] at c4
              unfold tT1
              try rw [if_neg c0]
              try rw [if_pos c1]
              try rw [if_pos c2]
              try rw [if_pos c3]
              try rw [if_pos c4]
              try simp only [e11, e12, e15, e16, e17, e18, e19, e20]
            have v2 : (0 : Int) = tT2 x0 x1 x2 x3 x4 x5 x6 x7 x8 x9 := by
              have e11 : y11 = (x0 * x1) := hy11
              have e12 : y12 = (y11 - 1) := hy12
              have e15 : y15 = (1000 * (dist0 (x0) (x1) (x2) (x3) (x4) (x5) (x6) (x7) (x8) (x9))) := hy15
              have e16 : y16 = (y15 / x4) := hy16
              have e17 : y17 = (1000 * (dist1 (x0) (x1) (x2) (x3) (x4) (x5) (x6) (x7) (x8) (x9))) := hy17
              have e18 : y18 = (y17 + x3) := hy18
              have e19 : y19 = (y18 - 1) := hy19
              have e20 : y20 = (y19 / x3) := hy20
              try simp only [e11, e12, e15, e16, e17, e18, e19, e20] at c0
              try simp only [e11, e12, e15, e16, e17, e18, e19, e20] at c1
              try simp only [e11, e12, e15, e16, e17, e18, e19, e20] at c2
              try simp only [e11, e12, e15, e16, e17, e18, e19, e20] at c3
              try simp only [e11, e12, e15, e16, e17, e18, e19, e20] at c4
              unfold tT2
              try rw [if_neg c0]
              try rw [if_pos c1]
              try rw [if_pos c2]
              try rw [if_pos c3]
              try rw [if_pos c4]
              try simp only [e11, e12, e15, e16, e17, e18, e19, e20]
            have hv : ((.tuple #[(.agg #[(.int .i64 (y16)), (.int .i64 (y20))]), (.int .i64 (0))]) : Value) = (.tuple #[(.agg #[(.int .i64 (tT0 x0 x1 x2 x3 x4 x5 x6 x7 x8 x9)), (.int .i64 (tT1 x0 x1 x2 x3 x4 x5 x6 x7 x8 x9))]), (.int .i64 (tT2 x0 x1 x2 x3 x4 x5 x6 x7 x8 x9))]) := by rw [← v0, ← v1, ← v2]
            rw [← hv]
            exact q
          · have q := @calls_sym (Rho.of [(.int .i64 (x0)), (.int .i64 (x1)), (.int .i64 (x2)), (.int .i64 (x3)), (.int .i64 (x4)), (.int .i64 (x5)), (.int .i64 (x6)), (.int .i64 (x7)), (.int .i64 (x8)), (.int .i64 (x9)), (.int .i64 ((qcheck0 (x0) (x1) (x2) (x3) (x4) (x5) (x6) (x7)))), (.int .i64 (y11)), (.int .i64 (y12))] (fun _ => none)) Try.prog _ (@Env.Ok.sym (Rho.of [(.int .i64 (x0)), (.int .i64 (x1)), (.int .i64 (x2)), (.int .i64 (x3)), (.int .i64 (x4)), (.int .i64 (x5)), (.int .i64 (x6)), (.int .i64 (x7)), (.int .i64 (x8)), (.int .i64 (x9)), (.int .i64 ((qcheck0 (x0) (x1) (x2) (x3) (x4) (x5) (x6) (x7)))), (.int .i64 (y11)), (.int .i64 (y12))] (fun _ => none)) _ _ (@env_ok (Rho.of [(.int .i64 (x0)), (.int .i64 (x1)), (.int .i64 (x2)), (.int .i64 (x3)), (.int .i64 (x4)), (.int .i64 (x5)), (.int .i64 (x6)), (.int .i64 (x7)), (.int .i64 (x8)), (.int .i64 (x9)), (.int .i64 ((qcheck0 (x0) (x1) (x2) (x3) (x4) (x5) (x6) (x7)))), (.int .i64 (y11)), (.int .i64 (y12))] (fun _ => none))) tT_e2 tT_c2 ⟨⟨rfl, rfl, fun w hm => (show KeyOk Try.prog w (.bin .neq 27) [(.int .i64 ((qcheck0 (x0) (x1) (x2) (x3) (x4) (x5) (x6) (x7)))), (.int .i64 0)] (.bool false) from k_neq_f c0)⟩, ⟨rfl, rfl, fun w hm => (show KeyOk Try.prog w (.bin .mul 3) [(.int .i64 (x0)), (.int .i64 (x1))] (.int .i64 (y11)) from key_eq (e := (x0 * x1)) hy11 (have ey : y11 = (x0 * x1) := hy11; k_mul (wrap64 (by omega))))⟩, ⟨rfl, rfl, fun w hm => (show KeyOk Try.prog w (.bin .sub 3) [(.int .i64 (y11)), (.int .i64 1)] (.int .i64 (y12)) from key_eq (e := (y11 - 1)) hy12 (have ey : y12 = (y11 - 1) := hy12; k_sub (wrap64 (by omega))))⟩, ⟨rfl, rfl, fun w hm => (show KeyOk Try.prog w (.bin .geq 3) [(.int .i64 (x8)), (.int .i64 0)] (.bool true) from k_geq_t c1)⟩, ⟨rfl, rfl, fun w hm => (show KeyOk Try.prog w (.bin .leq 3) [(.int .i64 (x8)), (.int .i64 (y12))] (.bool true) from k_leq_t c2)⟩, ⟨rfl, rfl, fun w hm => (show KeyOk Try.prog w (.bin .geq 3) [(.int .i64 (x9)), (.int .i64 0)] (.bool true) from k_geq_t c3)⟩, ⟨rfl, rfl, fun w hm => (show KeyOk Try.prog w (.bin .leq 3) [(.int .i64 (x9)), (.int .i64 (y12))] (.bool false) from k_leq_f c4)⟩, trivial⟩ ⟨(@CEntOk.of (Rho.of [(.int .i64 (x0)), (.int .i64 (x1)), (.int .i64 (x2)), (.int .i64 (x3)), (.int .i64 (x4)), (.int .i64 (x5)), (.int .i64 (x6)), (.int .i64 (x7)), (.int .i64 (x8)), (.int .i64 (x9)), (.int .i64 ((qcheck0 (x0) (x1) (x2) (x3) (x4) (x5) (x6) (x7)))), (.int .i64 (y11)), (.int .i64 (y12))] (fun _ => none)) Try.prog _ 18 _ _ #[(.agg #[(.int .i64 (x0)), (.int .i64 (x1)), (.int .i64 (x2)), (.int .i64 (x3)), (.int .i64 (x4)), (.int .i64 (x5)), (.int .i64 (x6)), (.int .i64 (x7))])] (.int .i64 ((qcheck0 (x0) (x1) (x2) (x3) (x4) (x5) (x6) (x7)))) rfl ⟨Try.f18, (Try.f18.body).getD .skip, by kernel_rfl, by kernel_rfl⟩ rfl rfl rfl (fun w hm => qcheck_any (x0) (x1) (x2) (x3) (x4) (x5) (x6) (x7)  w)), trivial⟩) 3000 14 [(.agg #[(.chan (some 0)), (.chan (some 1)), (.chan (some 2)), (.chan (some 3)), (.chan (some 4)), (.chan (some 5)), (.chan (some 6)), (.chan (some 7))]), (.chan (some 8)), (.chan (some 9))] (.tuple #[(.agg #[(.int .i64 0), (.int .i64 0)]), (.int .i64 4)]) rfl rfl tT_r2 w (fun _ _ h => nomatch h)
            have v0 : (0 : Int) = tT0 x0 x1 x2 x3 x4 x5 x6 x7 x8 x9 := by
              have e11 : y11 = (x0 * x1) := hy11
              have e12 : y12 = (y11 - 1) := hy12
              try simp only [e11, e12] at c0
              try simp only [e11, e12] at c1
              try simp only [e11, e12] at c2
              try simp only [e11, e12] at c3
              try simp only [e11, e12] at c4
              unfold tT0
              try rw [if_neg c0]
              try rw [if_pos c1]
              try rw [if_pos c2]
              try rw [if_pos c3]
              try rw [if_neg c4]
              try simp only [e11, e12]
            have v1 : (0 : Int) = tT1 x0 x1 x2 x3 x4 x5 x6 x7 x8 x9 := by
              have e11 : y11 = (x0 * x1) := hy11
              have e12 : y12 = (y11 - 1) := hy12
              try simp only [e11, e12] at c0
              try simp only [e11, e12] at c1
              try simp only [e11, e12] at c2
              try simp only [e11, e12] at c3
              try simp only [e11, e12] at c4
              unfold tT1
              try rw [if_neg c0]
              try rw [if_pos c1]
              try rw [if_pos c2]
              try rw [if_pos c3]
              try rw [if_neg c4]
              try simp only [e11, e12]
            have v2 : (4 : Int) = tT2 x0 x1 x2 x3 x4 x5 x6 x7 x8 x9 := by
              have e11 : y11 = (x0 * x1) := hy11
              have e12 : y12 = (y11 - 1) := hy12
              try simp only [e11, e12] at c0
              try simp only [e11, e12] at c1
              try simp only [e11, e12] at c2
              try simp only [e11, e12] at c3
              try simp only [e11, e12] at c4
              unfold tT2
              try rw [if_neg c0]
              try rw [if_pos c1]
              try rw [if_pos c2]
              try rw [if_pos c3]
              try rw [if_neg c4]
              try simp only [e11, e12]
            have hv : ((.tuple #[(.agg #[(.int .i64 (0)), (.int .i64 (0))]), (.int .i64 (4))]) : Value) = (.tuple #[(.agg #[(.int .i64 (tT0 x0 x1 x2 x3 x4 x5 x6 x7 x8 x9)), (.int .i64 (tT1 x0 x1 x2 x3 x4 x5 x6 x7 x8 x9))]), (.int .i64 (tT2 x0 x1 x2 x3 x4 x5 x6 x7 x8 x9))]) := by rw [← v0, ← v1, ← v2]
            rw [← hv]
            exact q
        · have q := @calls_sym (Rho.of [(.int .i64 (x0)), (.int .i64 (x1)), (.int .i64 (x2)), (.int .i64 (x3)), (.int .i64 (x4)), (.int .i64 (x5)), (.int .i64 (x6)), (.int .i64 (x7)), (.int .i64 (x8)), (.int .i64 (x9)), (.int .i64 ((qcheck0 (x0) (x1) (x2) (x3) (x4) (x5) (x6) (x7)))), (.int .i64 (y11)), (.int .i64 (y12))] (fun _ => none)) Try.prog _ (@Env.Ok.sym (Rho.of [(.int .i64 (x0)), (.int .i64 (x1)), (.int .i64 (x2)), (.int .i64 (x3)), (.int .i64 (x4)), (.int .i64 (x5)), (.int .i64 (x6)), (.int .i64 (x7)), (.int .i64 (x8)), (.int .i64 (x9)), (.int .i64 ((qcheck0 (x0) (x1) (x2) (x3) (x4) (x5) (x6) (x7)))), (.int .i64 (y11)), (.int .i64 (y12))] (fun _ => none)) _ _ (@env_ok (Rho.of [(.int .i64 (x0)), (.int .i64 (x1)), (.int .i64 (x2)), (.int .i64 (x3)), (.int .i64 (x4)), (.int .i64 (x5)), (.int .i64 (x6)), (.int .i64 (x7)), (.int .i64 (x8)), (.int .i64 (x9)), (.int .i64 ((qcheck0 (x0) (x1) (x2) (x3) (x4) (x5) (x6) (x7)))), (.int .i64 (y11)), (.int .i64 (y12))] (fun _ => none))) tT_e3 tT_c3 ⟨⟨rfl, rfl, fun w hm => (show KeyOk Try.prog w (.bin .neq 27) [(.int .i64 ((qcheck0 (x0) (x1) (x2) (x3) (x4) (x5) (x6) (x7)))), (.int .i64 0)] (.bool false) from k_neq_f c0)⟩, ⟨rfl, rfl, fun w hm => (show KeyOk Try.prog w (.bin .mul 3) [(.int .i64 (x0)), (.int .i64 (x1))] (.int .i64 (y11)) from key_eq (e := (x0 * x1)) hy11 (have ey : y11 = (x0 * x1) := hy11; k_mul (wrap64 (by omega))))⟩, ⟨rfl, rfl, fun w hm => (show KeyOk Try.prog w (.bin .sub 3) [(.int .i64 (y11)), (.int .i64 1)] (.int .i64 (y12)) from key_eq (e := (y11 - 1)) hy12 (have ey : y12 = (y11 - 1) := hy12; k_sub (wrap64 (by omega))))⟩, ⟨rfl, rfl, fun w hm => (show KeyOk Try.prog w (.bin .geq 3) [(.int .i64 (x8)), (.int .i64 0)] (.bool true) from k_geq_t c1)⟩, ⟨rfl, rfl, fun w hm => (show KeyOk Try.prog w (.bin .leq 3) [(.int .i64 (x8)), (.int .i64 (y12))] (.bool true) from k_leq_t c2)⟩, ⟨rfl, rfl, fun w hm => (show KeyOk Try.prog w (.bin .geq 3) [(.int .i64 (x9)), (.int .i64 0)] (.bool false) from k_geq_f c3)⟩, trivial⟩ ⟨(@CEntOk.of (Rho.of [(.int .i64 (x0)), (.int .i64 (x1)), (.int .i64 (x2)), (.int .i64 (x3)), (.int .i64 (x4)), (.int .i64 (x5)), (.int .i64 (x6)), (.int .i64 (x7)), (.int .i64 (x8)), (.int .i64 (x9)), (.int .i64 ((qcheck0 (x0) (x1) (x2) (x3) (x4) (x5) (x6) (x7)))), (.int .i64 (y11)), (.int .i64 (y12))] (fun _ => none)) Try.prog _ 18 _ _ #[(.agg #[(.int .i64 (x0)), (.int .i64 (x1)), (.int .i64 (x2)), (.int .i64 (x3)), (.int .i64 (x4)), (.int .i64 (x5)), (.int .i64 (x6)), (.int .i64 (x7))])] (.int .i64 ((qcheck0 (x0) (x1) (x2) (x3) (x4) (x5) (x6) (x7)))) rfl ⟨Try.f18, (Try.f18.body).getD .skip, by kernel_rfl, by kernel_rfl⟩ rfl rfl rfl (fun w hm => qcheck_any (x0) (x1) (x2) (x3) (x4) (x5) (x6) (x7)  w)), trivial⟩) 3000 14 [(.agg #[(.chan (some 0)), (.chan (some 1)), (.chan (some 2)), (.chan (some 3)), (.chan (some 4)), (.chan (some 5)), (.chan (some 6)), (.chan (some 7))]), (.chan (some 8)), (.chan (some 9))] (.tuple #[(.agg #[(.int .i64 0), (.int .i64 0)]), (.int .i64 4)]) rfl rfl tT_r3 w (fun _ _ h => nomatch h)
          have v0 : (0 : Int) = tT0 x0 x1 x2 x3 x4 x5 x6 x7 x8 x9 := by
            have e11 : y11 = (x0 * x1) := hy11
            have e12 : y12 = (y11 - 1) := hy12
            try simp only [e11, e12] at c0
            try simp only [e11, e12] at c1
            try simp only [e11, e12] at c2
            try simp only [e11, e12] at c3
            unfold tT0
            try rw [if_neg c0]
            try rw [if_pos c1]
            try rw [if_pos c2]
            try rw [if_neg c3]
            try simp only [e11, e12]
          have v1 : (0 : Int) = tT1 x0 x1 x2 x3 x4 x5 x6 x7 x8 x9 := by
            have e11 : y11 = (x0 * x1) := hy11
            have e12 : y12 = (y11 - 1) := hy12
            try simp only [e11, e12] at c0
            try simp only [e11, e12] at c1
            try simp only [e11, e12] at c2
            try simp only [e11, e12] at c3
            unfold tT1
            try rw [if_neg c0]
            try rw [if_pos c1]
            try rw [if_pos c2]
            try rw [if_neg c3]
            try simp only [e11, e12]
          have v2 : (4 : Int) = tT2 x0 x1 x2 x3 x4 x5 x6 x7 x8 x9 := by
            have e11 : y11 = (x0 * x1) := hy11
            have e12 : y12 = (y11 - 1) := hy12
            try simp only [e11, e12] at c0
            try simp only [e11, e12] at c1
            try simp only [e11, e12] at c2
            try simp only [e11, e12] at c3
            unfold tT2
            try rw [if_neg c0]
            try rw [if_pos c1]
            try rw [if_pos c2]
            try rw [if_neg c3]
            try simp only [e11, e12]
          have hv : ((.tuple #[(.agg #[(.int .i64 (0)), (.int .i64 (0))]), (.int .i64 (4))]) : Value) = (.tuple #[(.agg #[(.int .i64 (tT0 x0 x1 x2 x3 x4 x5 x6 x7 x8 x9)), (.int .i64 (tT1 x0 x1 x2 x3 x4 x5 x6 x7 x8 x9))]), (.int .i64 (tT2 x0 x1 x2 x3 x4 x5 x6 x7 x8 x9))]) := by rw [← v0, ← v1, ← v2]
          rw [← hv]
          exact q
      · have q := @calls_sym (Rho.of [(.int .i64 (x0)), (.int .i64 (x1)), (.int .i64 (x2)), (.int .i64 (x3)), (.int .i64 (x4)), (.int .i64 (x5)), (.int .i64 (x6)), (.int .i64 (x7)), (.int .i64 (x8)), (.int .i64 (x9)), (.int .i64 ((qcheck0 (x0) (x1) (x2) (x3) (x4) (x5) (x6) (x7)))), (.int .i64 (y11)), (.int .i64 (y12))] (fun _ => none)) Try.prog _ (@Env.Ok.sym (Rho.of [(.int .i64 (x0)), (.int .i64 (x1)), (.int .i64 (x2)), (.int .i64 (x3)), (.int .i64 (x4)), (.int .i64 (x5)), (.int .i64 (x6)), (.int .i64 (x7)), (.int .i64 (x8)), (.int .i64 (x9)), (.int .i64 ((qcheck0 (x0) (x1) (x2) (x3) (x4) (x5) (x6) (x7)))), (.int .i64 (y11)), (.int .i64 (y12))] (fun _ => none)) _ _ (@env_ok (Rho.of [(.int .i64 (x0)), (.int .i64 (x1)), (.int .i64 (x2)), (.int .i64 (x3)), (.int .i64 (x4)), (.int .i64 (x5)), (.int .i64 (x6)), (.int .i64 (x7)), (.int .i64 (x8)), (.int .i64 (x9)), (.int .i64 ((qcheck0 (x0) (x1) (x2) (x3) (x4) (x5) (x6) (x7)))), (.int .i64 (y11)), (.int .i64 (y12))] (fun _ => none))) tT_e4 tT_c4 ⟨⟨rfl, rfl, fun w hm => (show KeyOk Try.prog w (.bin .neq 27) [(.int .i64 ((qcheck0 (x0) (x1) (x2) (x3) (x4) (x5) (x6) (x7)))), (.int .i64 0)] (.bool false) from k_neq_f c0)⟩, ⟨rfl, rfl, fun w hm => (show KeyOk Try.prog w (.bin .mul 3) [(.int .i64 (x0)), (.int .i64 (x1))] (.int .i64 (y11)) from key_eq (e := (x0 * x1)) hy11 (have ey : y11 = (x0 * x1) := hy11; k_mul (wrap64 (by omega))))⟩, ⟨rfl, rfl, fun w hm => (show KeyOk Try.prog w (.bin .sub 3) [(.int .i64 (y11)), (.int .i64 1)] (.int .i64 (y12)) from key_eq (e := (y11 - 1)) hy12 (have ey : y12 = (y11 - 1) := hy12; k_sub (wrap64 (by omega))))⟩, ⟨rfl, rfl, fun w hm => (show KeyOk Try.prog w (.bin .geq 3) [(.int .i64 (x8)), (.int .i64 0)] (.bool true) from k_geq_t c1)⟩, ⟨rfl, rfl, fun w hm => (show KeyOk Try.prog w (.bin .leq 3) [(.int .i64 (x8)), (.int .i64 (y12))] (.bool false) from k_leq_f c2)⟩, trivial⟩ ⟨(@CEntOk.of (Rho.of [(.int .i64 (x0)), (.int .i64 (x1)), (.int .i64 (x2)), (.int .i64 (x3)), (.int .i64 (x4)), (.int .i64 (x5)), (.int .i64 (x6)), (.int .i64 (x7)), (.int .i64 (x8)), (.int .i64 (x9)), (.int .i64 ((qcheck0 (x0) (x1) (x2) (x3) (x4) (x5) (x6) (x7)))), (.int .i64 (y11)), (.int .i64 (y12))] (fun _ => none)) Try.prog _ 18 _ _ #[(.agg #[(.int .i64 (x0)), (.int .i64 (x1)), (.int .i64 (x2)), (.int .i64 (x3)), (.int .i64 (x4)), (.int .i64 (x5)), (.int .i64 (x6)), (.int .i64 (x7))])] (.int .i64 ((qcheck0 (x0) (x1) (x2) (x3) (x4) (x5) (x6) (x7)))) rfl ⟨Try.f18, (Try.f18.body).getD .skip, by kernel_rfl, by kernel_rfl⟩ rfl rfl rfl (fun w hm => qcheck_any (x0) (x1) (x2) (x3) (x4) (x5) (x6) (x7)  w)), trivial⟩) 3000 14 [(.agg #[(.chan (some 0)), (.chan (some 1)), (.chan (some 2)), (.chan (some 3)), (.chan (some 4)), (.chan (some 5)), (.chan (some 6)), (.chan (some 7))]), (.chan (some 8)), (.chan (some 9))] (.tuple #[(.agg #[(.int .i64 0), (.int .i64 0)]), (.int .i64 4)]) rfl rfl tT_r4 w (fun _ _ h => nomatch h)
        have v0 : (0 : Int) = tT0 x0 x1 x2 x3 x4 x5 x6 x7 x8 x9 := by
          have e11 : y11 = (x0 * x1) := hy11
          have e12 : y12 = (y11 - 1) := hy12
          try simp only [e11, e12] at c0
          try simp only [e11, e12] at c1
          try simp only [e11, e12] at c2
          unfold tT0
          try rw [if_neg c0]
          try rw [if_pos c1]
          try rw [if_neg c2]
          try simp only [e11, e12]
        have v1 : (0 : Int) = tT1 x0 x1 x2 x3 x4 x5 x6 x7 x8 x9 := by
          have e11 : y11 = (x0 * x1) := hy11
          have e12 : y12 = (y11 - 1) := hy12
          try simp only [e11, e12] at c0
          try simp only [e11, e12] at c1
          try simp only [e11, e12] at c2
          unfold tT1
          try rw [if_neg c0]
          try rw [if_pos c1]
          try rw [if_neg c2]
          try simp only [e11, e12]
        have v2 : (4 : Int) = tT2 x0 x1 x2 x3 x4 x5 x6 x7 x8 x9 := by
          have e11 : y11 = (x0 * x1) := hy11
          have e12 : y12 = (y11 - 1) := hy12
          try simp only [e11, e12] at c0
          try simp only [e11, e12] at c1
          try simp only [e11, e12] at c2
          unfold tT2
          try rw [if_neg c0]
          try rw [if_pos c1]
          try rw [if_neg c2]
          try simp only [e11, e12]
        have hv : ((.tuple #[(.agg #[(.int .i64 (0)), (.int .i64 (0))]), (.int .i64 (4))]) : Value) = (.tuple #[(.agg #[(.int .i64 (tT0 x0 x1 x2 x3 x4 x5 x6 x7 x8 x9)), (.int .i64 (tT1 x0 x1 x2 x3 x4 x5 x6 x7 x8 x9))]), (.int .i64 (tT2 x0 x1 x2 x3 x4 x5 x6 x7 x8 x9))]) := by rw [← v0, ← v1, ← v2]
        rw [← hv]
        exact q
    · have q := @calls_sym (Rho.of [(.int .i64 (x0)), (.int .i64 (x1)), (.int .i64 (x2)), (.int .i64 (x3)), (.int .i64 (x4)), (.int .i64 (x5)), (.int .i64 (x6)), (.int .i64 (x7)), (.int .i64 (x8)), (.int .i64 (x9)), (.int .i64 ((qcheck0 (x0) (x1) (x2) (x3) (x4) (x5) (x6) (x7)))), (.int .i64 (y11)), (.int .i64 (y12))] (fun _ => none)) Try.prog _ (@Env.Ok.sym (Rho.of [(.int .i64 (x0)), (.int .i64 (x1)), (.int .i64 (x2)), (.int .i64 (x3)), (.int .i64 (x4)), (.int .i64 (x5)), (.int .i64 (x6)), (.int .i64 (x7)), (.int .i64 (x8)), (.int .i64 (x9)), (.int .i64 ((qcheck0 (x0) (x1) (x2) (x3) (x4) (x5) (x6) (x7)))), (.int .i64 (y11)), (.int .i64 (y12))] (fun _ => none)) _ _ (@env_ok (Rho.of [(.int .i64 (x0)), (.int .i64 (x1)), (.int .i64 (x2)), (.int .i64 (x3)), (.int .i64 (x4)), (.int .i64 (x5)), (.int .i64 (x6)), (.int .i64 (x7)), (.int .i64 (x8)), (.int .i64 (x9)), (.int .i64 ((qcheck0 (x0) (x1) (x2) (x3) (x4) (x5) (x6) (x7)))), (.int .i64 (y11)), (.int .i64 (y12))] (fun _ => none))) tT_e5 tT_c5 ⟨⟨rfl, rfl, fun w hm => (show KeyOk Try.prog w (.bin .neq 27) [(.int .i64 ((qcheck0 (x0) (x1) (x2) (x3) (x4) (x5) (x6) (x7)))), (.int .i64 0)] (.bool false) from k_neq_f c0)⟩, ⟨rfl, rfl, fun w hm => (show KeyOk Try.prog w (.bin .mul 3) [(.int .i64 (x0)), (.int .i64 (x1))] (.int .i64 (y11)) from key_eq (e := (x0 * x1)) hy11 (have ey : y11 = (x0 * x1) := hy11; k_mul (wrap64 (by omega))))⟩, ⟨rfl, rfl, fun w hm => (show KeyOk Try.prog w (.bin .sub 3) [(.int .i64 (y11)), (.int .i64 1)] (.int .i64 (y12)) from key_eq (e := (y11 - 1)) hy12 (have ey : y12 = (y11 - 1) := hy12; k_sub (wrap64 (by omega))))⟩, ⟨rfl, rfl, fun w hm => (show KeyOk Try.prog w (.bin .geq 3) [(.int .i64 (x8)), (.int .i64 0)] (.bool false) from k_geq_f c1)⟩, trivial⟩ ⟨(@CEntOk.of (Rho.of [(.int .i64 (x0)), (.int .i64 (x1)), (.int .i64 (x2)), (.int .i64 (x3)), (.int .i64 (x4)), (.int .i64 (x5)), (.int .i64 (x6)), (.int .i64 (x7)), (.int .i64 (x8)), (.int .i64 (x9)), (.int .i64 ((qcheck0 (x0) (x1) (x2) (x3) (x4) (x5) (x6) (x7)))), (.int .i64 (y11)), (.int .i64 (y12))] (fun _ => none)) Try.prog _ 18 _ _ #[(.agg #[(.int .i64 (x0)), (.int .i64 (x1)), (.int .i64 (x2)), (.int .i64 (x3)), (.int .i64 (x4)), (.int .i64 (x5)), (.int .i64 (x6)), (.int .i64 (x7))])] (.int .i64 ((qcheck0 (x0) (x1) (x2) (x3) (x4) (x5) (x6) (x7)))) rfl ⟨Try.f18, (Try.f18.body).getD .skip, by kernel_rfl, by kernel_rfl⟩ rfl rfl rfl (fun w hm => qcheck_any (x0) (x1) (x2) (x3) (x4) (x5) (x6) (x7)  w)), trivial⟩) 3000 14 [(.agg #[(.chan (some 0)), (.chan (some 1)), (.chan (some 2)), (.chan (some 3)), (.chan (some 4)), (.chan (some 5)), (.chan (some 6)), (.chan (some 7))]), (.chan (some 8)), (.chan (some 9))] (.tuple #[(.agg #[(.int .i64 0), (.int .i64 0)]), (.int .i64 4)]) rfl rfl tT_r5 w (fun _ _ h => nomatch h)
      have v0 : (0 : Int) = tT0 x0 x1 x2 x3 x4 x5 x6 x7 x8 x9 := by
        have e11 : y11 = (x0 * x1) := hy11
        have e12 : y12 = (y11 - 1) := hy12
        try simp only [e11, e12] at c0
        try simp only [e11, e12] at c1
        unfold tT0
        try rw [if_neg c0]
        try rw [if_neg c1]
        try simp only [e11, e12]
      have v1 : (0 : Int) = tT1 x0 x1 x2 x3 x4 x5 x6 x7 x8 x9 := by
        have e11 : y11 = (x0 * x1) := hy11
        have e12 : y12 = (y11 - 1) := hy12
        try simp only [e11, e12] at c0
        try simp only [e11, e12] at c1
        unfold tT1
        try rw [if_neg c0]
        try rw [if_neg c1]
        try simp only [e11, e12]
      have v2 : (4 : Int) = tT2 x0 x1 x2 x3 x4 x5 x6 x7 x8 x9 := by
        have e11 : y11 = (x0 * x1) := hy11
        have e12 : y12 = (y11 - 1) := hy12
        try simp only [e11, e12] at c0
        try simp only [e11, e12] at c1
        unfold tT2
        try rw [if_neg c0]
        try rw [if_neg c1]
        try simp only [e11, e12]
      have hv : ((.tuple #[(.agg #[(.int .i64 (0)), (.int .i64 (0))]), (.int .i64 (4))]) : Value) = (.tuple #[(.agg #[(.int .i64 (tT0 x0 x1 x2 x3 x4 x5 x6 x7 x8 x9)), (.int .i64 (tT1 x0 x1 x2 x3 x4 x5 x6 x7 x8 x9))]), (.int .i64 (tT2 x0 x1 x2 x3 x4 x5 x6 x7 x8 x9))]) := by rw [← v0, ← v1, ← v2]
      rw [← hv]
      exact q

noncomputable def rT0 (x0 : Int) (x1 : Int) (x2 : Int) (x3 : Int) (x4 : Int) (x5 : Int) (x6 : Int) (x7 : Int) (x8 : Int) (x9 : Int) : Int := (if (qcheck0 (x0) (x1) (x2) (x3) (x4) (x5) (x6) (x7)) ≠ 0 then 0 else (if x8 ≥ 0 then (if x8 ≤ ((x0 * x1) - 1) then (if x9 ≥ 0 then (if x9 ≤ ((x0 * x1) - 1) then ((1000 * (dist0 (x0) (x1) (x2) (x3) (x4) (x5) (x6) (x7) (x8) (x9))) / x4) else 0) else 0) else 0) else 0))
noncomputable def rT1 (x0 : Int) (x1 : Int) (x2 : Int) (x3 : Int) (x4 : Int) (x5 : Int) (x6 : Int) (x7 : Int) (x8 : Int) (x9 : Int) : Int := (if (qcheck0 (x0) (x1) (x2) (x3) (x4) (x5) (x6) (x7)) ≠ 0 then 0 else (if x8 ≥ 0 then (if x8 ≤ ((x0 * x1) - 1) then (if x9 ≥ 0 then (if x9 ≤ ((x0 * x1) - 1) then ((((1000 * (dist1 (x0) (x1) (x2) (x3) (x4) (x5) (x6) (x7) (x8) (x9))) + x3) - 1) / x3) else 0) else 0) else 0) else 0))
noncomputable def rT2 (x0 : Int) (x1 : Int) (x2 : Int) (x3 : Int) (x4 : Int) (x5 : Int) (x6 : Int) (x7 : Int) (x8 : Int) (x9 : Int) : Int := (if (qcheck0 (x0) (x1) (x2) (x3) (x4) (x5) (x6) (x7)) ≠ 0 then (qcheck0 (x0) (x1) (x2) (x3) (x4) (x5) (x6) (x7)) else (if x8 ≥ 0 then (if x8 ≤ ((x0 * x1) - 1) then (if x9 ≥ 0 then (if x9 ≤ ((x0 * x1) - 1) then 0 else 4) else 4) else 4) else 4))
noncomputable def rT_e0 : List Ent := [⟨(.bin .neq 27), [(.chan (some 10)), (.int .i64 0)], (.bool true)⟩]
noncomputable def rT_c0 : List CEnt := [⟨19, [(.agg #[(.chan (some 0)), (.chan (some 1)), (.chan (some 2)), (.chan (some 3)), (.chan (some 4)), (.chan (some 5)), (.chan (some 6)), (.chan (some 7))])], [], (.chan (some 10))⟩]
set_option maxRecDepth 1000000 in
theorem rT_r0 : ev Try.prog (env.sym rT_e0 rT_c0) 3000 (.call 15 [(.agg #[(.chan (some 0)), (.chan (some 1)), (.chan (some 2)), (.chan (some 3)), (.chan (some 4)), (.chan (some 5)), (.chan (some 6)), (.chan (some 7))]), (.chan (some 8)), (.chan (some 9))] Ev.start fun v _ => some v) = some (.tuple #[(.agg #[(.int .i64 0), (.int .i64 0)]), (.chan (some 10))]) := by kernel_rfl
noncomputable def rT_e1 : List Ent := [⟨(.bin .neq 27), [(.chan (some 10)), (.int .i64 0)], (.bool false)⟩, ⟨(.bin .mul 3), [(.chan (some 0)), (.chan (some 1))], (.chan (some 11))⟩, ⟨(.bin .sub 3), [(.chan (some 11)), (.int .i64 1)], (.chan (some 12))⟩, ⟨(.bin .geq 3), [(.chan (some 8)), (.int .i64 0)], (.bool true)⟩, ⟨(.bin .leq 3), [(.chan (some 8)), (.chan (some 12))], (.bool true)⟩, ⟨(.bin .geq 3), [(.chan (some 9)), (.int .i64 0)], (.bool true)⟩, ⟨(.bin .leq 3), [(.chan (some 9)), (.chan (some 12))], (.bool true)⟩, ⟨(.bin .mul 3), [(.int .i64 1000), (.chan (some 13))], (.chan (some 15))⟩, ⟨(.bin .quo 3), [(.chan (some 15)), (.chan (some 4))], (.chan (some 16))⟩, ⟨(.bin .mul 3), [(.int .i64 1000), (.chan (some 14))], (.chan (some 17))⟩, ⟨(.bin .add 3), [(.chan (some 17)), (.chan (some 3))], (.chan (some 18))⟩, ⟨(.bin .sub 3), [(.chan (some 18)), (.int .i64 1)], (.chan (some 19))⟩, ⟨(.bin .quo 3), [(.chan (some 19)), (.chan (some 3))], (.chan (some 20))⟩]
noncomputable def rT_c1 : List CEnt := [⟨19, [(.agg #[(.chan (some 0)), (.chan (some 1)), (.chan (some 2)), (.chan (some 3)), (.chan (some 4)), (.chan (some 5)), (.chan (some 6)), (.chan (some 7))])], [], (.chan (some 10))⟩, ⟨83, [(.agg #[(.chan (some 0)), (.chan (some 1)), (.chan (some 2)), (.chan (some 3)), (.chan (some 4)), (.chan (some 5)), (.chan (some 6)), (.chan (some 7))]), (.chan (some 8)), (.chan (some 9))], [], (.agg #[(.chan (some 13)), (.chan (some 14))])⟩]
set_option maxRecDepth 1000000 in
theorem rT_r1 : ev Try.prog (env.sym rT_e1 rT_c1) 3000 (.call 15 [(.agg #[(.chan (some 0)), (.chan (some 1)), (.chan (some 2)), (.chan (some 3)), (.chan (some 4)), (.chan (some 5)), (.chan (some 6)), (.chan (some 7))]), (.chan (some 8)), (.chan (some 9))] Ev.start fun v _ => some v) = some (.tuple #[(.agg #[(.chan (some 16)), (.chan (some 20))]), (.int .i64 0)]) := by kernel_rfl
noncomputable def rT_e2 : List Ent := [⟨(.bin .neq 27), [(.chan (some 10)), (.int .i64 0)], (.bool false)⟩, ⟨(.bin .mul 3), [(.chan (some 0)), (.chan (some 1))], (.chan (some 11))⟩, ⟨(.bin .sub 3), [(.chan (some 11)), (.int .i64 1)], (.chan (some 12))⟩, ⟨(.bin .geq 3), [(.chan (some 8)), (.int .i64 0)], (.bool true)⟩, ⟨(.bin .leq 3), [(.chan (some 8)), (.chan (some 12))], (.bool true)⟩, ⟨(.bin .geq 3), [(.chan (some 9)), (.int .i64 0)], (.bool true)⟩, ⟨(.bin .leq 3), [(.chan (some 9)), (.chan (some 12))], (.bool false)⟩]
noncomputable def rT_c2 : List CEnt := [⟨19, [(.agg #[(.chan (some 0)), (.chan (some 1)), (.chan (some 2)), (.chan (some 3)), (.chan (some 4)), (.chan (some 5)), (.chan (some 6)), (.chan (some 7))])], [], (.chan (some 10))⟩]
set_option maxRecDepth 1000000 in
theorem rT_r2 : ev Try.prog (env.sym rT_e2 rT_c2) 3000 (.call 15 [(.agg #[(.chan (some 0)), (.chan (some 1)), (.chan (some 2)), (.chan (some 3)), (.chan (some 4)), (.chan (some 5)), (.chan (some 6)), (.chan (some 7))]), (.chan (some 8)), (.chan (some 9))] Ev.start fun v _ => some v) = some (.tuple #[(.agg #[(.int .i64 0), (.int .i64 0)]), (.int .i64 4)]) := by kernel_rfl
noncomputable def rT_e3 : List Ent := [⟨(.bin .neq 27), [(.chan (some 10)), (.int .i64 0)], (.bool false)⟩, ⟨(.bin .mul 3), [(.chan (some 0)), (.chan (some 1))], (.chan (some 11))⟩, ⟨(.bin .sub 3), [(.chan (some 11)), (.int .i64 1)], (.chan (some 12))⟩, ⟨(.bin .geq 3), [(.chan (some 8)), (.int .i64 0)], (.bool true)⟩, ⟨(.bin .leq 3), [(.chan (some 8)), (.chan (some 12))], (.bool true)⟩, ⟨(.bin .geq 3), [(.chan (some 9)), (.int .i64 0)], (.bool false)⟩]
noncomputable def rT_c3 : List CEnt := [⟨19, [(.agg #[(.chan (some 0)), (.chan (some 1)), (.chan (some 2)), (.chan (some 3)), (.chan (some 4)), (.chan (some 5)), (.chan (some 6)), (.chan (some 7))])], [], (.chan (some 10))⟩]
set_option maxRecDepth 1000000 in
theorem rT_r3 : ev Try.prog (env.sym rT_e3 rT_c3) 3000 (.call 15 [(.agg #[(.chan (some 0)), (.chan (some 1)), (.chan (some 2)), (.chan (some 3)), (.chan (some 4)), (.chan (some 5)), (.chan (some 6)), (.chan (some 7))]), (.chan (some 8)), (.chan (some 9))] Ev.start fun v _ => some v) = some (.tuple #[(.agg #[(.int .i64 0), (.int .i64 0)]), (.int .i64 4)]) := by kernel_rfl
noncomputable def rT_e4 : List Ent := [⟨(.bin .neq 27), [(.chan (some 10)), (.int .i64 0)], (.bool false)⟩, ⟨(.bin .mul 3), [(.chan (some 0)), (.chan (some 1))], (.chan (some 11))⟩, ⟨(.bin .sub 3), [(.chan (some 11)), (.int .i64 1)], (.chan (some 12))⟩, ⟨(.bin .geq 3), [(.chan (some 8)), (.int .i64 0)], (.bool true)⟩, ⟨(.bin .leq 3), [(.chan (some 8)), (.chan (some 12))], (.bool false)⟩]
noncomputable def rT_c4 : List CEnt := [⟨19, [(.agg #[(.chan (some 0)), (.chan (some 1)), (.chan (some 2)), (.chan (some 3)), (.chan (some 4)), (.chan (some 5)), (.chan (some 6)), (.chan (some 7))])], [], (.chan (some 10))⟩]
set_option maxRecDepth 1000000 in
theorem rT_r4 : ev Try.prog (env.sym rT_e4 rT_c4) 3000 (.call 15 [(.agg #[(.chan (some 0)), (.chan (some 1)), (.chan (some 2)), (.chan (some 3)), (.chan (some 4)), (.chan (some 5)), (.chan (some 6)), (.chan (some 7))]), (.chan (some 8)), (.chan (some 9))] Ev.start fun v _ => some v) = some (.tuple #[(.agg #[(.int .i64 0), (.int .i64 0)]), (.int .i64 4)]) := by kernel_rfl
noncomputable def rT_e5 : List Ent := [⟨(.bin .neq 27), [(.chan (some 10)), (.int .i64 0)], (.bool false)⟩, ⟨(.bin .mul 3), [(.chan (some 0)), (.chan (some 1))], (.chan (some 11))⟩, ⟨(.bin .sub 3), [(.chan (some 11)), (.int .i64 1)], (.chan (some 12))⟩, ⟨(.bin .geq 3), [(.chan (some 8)), (.int .i64 0)], (.bool false)⟩]
noncomputable def rT_c5 : List CEnt := [⟨19, [(.agg #[(.chan (some 0)), (.chan (some 1)), (.chan (some 2)), (.chan (some 3)), (.chan (some 4)), (.chan (some 5)), (.chan (some 6)), (.chan (some 7))])], [], (.chan (some 10))⟩]
set_option maxRecDepth 1000000 in
theorem rT_r5 : ev Try.prog (env.sym rT_e5 rT_c5) 3000 (.call 15 [(.agg #[(.chan (some 0)), (.chan (some 1)), (.chan (some 2)), (.chan (some 3)), (.chan (some 4)), (.chan (some 5)), (.chan (some 6)), (.chan (some 7))]), (.chan (some 8)), (.chan (some 9))] Ev.start fun v _ => some v) = some (.tuple #[(.agg #[(.int .i64 0), (.int .i64 0)]), (.int .i64 4)]) := by kernel_rfl
set_option maxHeartbeats 8000000 in
set_option maxRecDepth 100000 in
theorem rT_any (x0 : Int) (x1 : Int) (x2 : Int) (x3 : Int) (x4 : Int) (x5 : Int) (x6 : Int) (x7 : Int) (x8 : Int) (x9 : Int)  (w : World)  : Calls Try.prog 15 #[(.agg #[(.int .i64 (x0)), (.int .i64 (x1)), (.int .i64 (x2)), (.int .i64 (x3)), (.int .i64 (x4)), (.int .i64 (x5)), (.int .i64 (x6)), (.int .i64 (x7))]), (.int .i64 (x8)), (.int .i64 (x9))] w (fun en w' => en = .returned (.tuple #[(.agg #[(.int .i64 (rT0 x0 x1 x2 x3 x4 x5 x6 x7 x8 x9)), (.int .i64 (rT1 x0 x1 x2 x3 x4 x5 x6 x7 x8 x9))]), (.int .i64 (rT2 x0 x1 x2 x3 x4 x5 x6 x7 x8 x9))]) ∧ Below w.heap.size w w') := by
  have b10 : -9223372036854775808 ≤ (qcheck0 (x0) (x1) (x2) (x3) (x4) (x5) (x6) (x7)) ∧ (qcheck0 (x0) (x1) (x2) (x3) (x4) (x5) (x6) (x7)) ≤ 9223372036854775807 := by have := qcheck_bd (x0 := x0) (x1 := x1) (x2 := x2) (x3 := x3) (x4 := x4) (x5 := x5) (x6 := x6) (x7 := x7); omega
  by_cases c0 : (qcheck0 (x0) (x1) (x2) (x3) (x4) (x5) (x6) (x7)) ≠ 0
  · have q := @calls_sym (Rho.of [(.int .i64 (x0)), (.int .i64 (x1)), (.int .i64 (x2)), (.int .i64 (x3)), (.int .i64 (x4)), (.int .i64 (x5)), (.int .i64 (x6)), (.int .i64 (x7)), (.int .i64 (x8)), (.int .i64 (x9)), (.int .i64 ((qcheck0 (x0) (x1) (x2) (x3) (x4) (x5) (x6) (x7))))] (fun _ => none)) Try.prog _ (@Env.Ok.sym (Rho.of [(.int .i64 (x0)), (.int .i64 (x1)), (.int .i64 (x2)), (.int .i64 (x3)), (.int .i64 (x4)), (.int .i64 (x5)), (.int .i64 (x6)), (.int .i64 (x7)), (.int .i64 (x8)), (.int .i64 (x9)), (.int .i64 ((qcheck0 (x0) (x1) (x2) (x3) (x4) (x5) (x6) (x7))))] (fun _ => none)) _ _ (@env_ok (Rho.of [(.int .i64 (x0)), (.int .i64 (x1)), (.int .i64 (x2)), (.int .i64 (x3)), (.int .i64 (x4)), (.int .i64 (x5)), (.int .i64 (x6)), (.int .i64 (x7)), (.int .i64 (x8)), (.int .i64 (x9)), (.int .i64 ((qcheck0 (x0) (x1) (x2) (x3) (x4) (x5) (x6) (x7))))] (fun _ => none))) rT_e0 rT_c0 ⟨⟨rfl, rfl, fun w hm => (show KeyOk Try.prog w (.bin .neq 27) [(.int .i64 ((qcheck0 (x0) (x1) (x2) (x3) (x4) (x5) (x6) (x7)))), (.int .i64 0)] (.bool true) from k_neq_t c0)⟩, trivial⟩ ⟨(@CEntOk.of (Rho.of [(.int .i64 (x0)), (.int .i64 (x1)), (.int .i64 (x2)), (.int .i64 (x3)), (.int .i64 (x4)), (.int .i64 (x5)), (.int .i64 (x6)), (.int .i64 (x7)), (.int .i64 (x8)), (.int .i64 (x9)), (.int .i64 ((qcheck0 (x0) (x1) (x2) (x3) (x4) (x5) (x6) (x7))))] (fun _ => none)) Try.prog _ 19 _ _ #[(.agg #[(.int .i64 (x0)), (.int .i64 (x1)), (.int .i64 (x2)), (.int .i64 (x3)), (.int .i64 (x4)), (.int .i64 (x5)), (.int .i64 (x6)), (.int .i64 (x7))])] (.int .i64 ((qcheck0 (x0) (x1) (x2) (x3) (x4) (x5) (x6) (x7)))) rfl ⟨Try.f19, (Try.f19.body).getD .skip, by kernel_rfl, by kernel_rfl⟩ rfl rfl rfl (fun w hm => rcheckq_any (x0) (x1) (x2) (x3) (x4) (x5) (x6) (x7)  w)), trivial⟩) 3000 15 [(.agg #[(.chan (some 0)), (.chan (some 1)), (.chan (some 2)), (.chan (some 3)), (.chan (some 4)), (.chan (some 5)), (.chan (some 6)), (.chan (some 7))]), (.chan (some 8)), (.chan (some 9))] (.tuple #[(.agg #[(.int .i64 0), (.int .i64 0)]), (.chan (some 10))]) rfl rfl rT_r0 w (fun _ _ h => nomatch h)
    have v0 : (0 : Int) = rT0 x0 x1 x2 x3 x4 x5 x6 x7 x8 x9 := by
      unfold rT0
      try rw [if_pos c0]
      try rfl
    have v1 : (0 : Int) = rT1 x0 x1 x2 x3 x4 x5 x6 x7 x8 x9 := by
      unfold rT1
      try rw [if_pos c0]
      try rfl
    have v2 : ((qcheck0 (x0) (x1) (x2) (x3) (x4) (x5) (x6) (x7)) : Int) = rT2 x0 x1 x2 x3 x4 x5 x6 x7 x8 x9 := by
      unfold rT2
      try rw [if_pos c0]
      try rfl
    have hv : ((.tuple #[(.agg #[(.int .i64 (0)), (.int .i64 (0))]), (.int .i64 ((qcheck0 (x0) (x1) (x2) (x3) (x4) (x5) (x6) (x7))))]) : Value) = (.tuple #[(.agg #[(.int .i64 (rT0 x0 x1 x2 x3 x4 x5 x6 x7 x8 x9)), (.int .i64 (rT1 x0 x1 x2 x3 x4 x5 x6 x7 x8 x9))]), (.int .i64 (rT2 x0 x1 x2 x3 x4 x5 x6 x7 x8 x9))]) := by rw [← v0, ← v1, ← v2]
    rw [← hv]
    exact q
  · have hv := qcheck_ok (x0 := x0) (x1 := x1) (x2 := x2) (x3 := x3) (x4 := x4) (x5 := x5) (x6 := x6) (x7 := x7) (by omega)
    have hx := mul_bd (a := x0) (b := x1) (A := 24) (B := 24) (C := 576) (by omega) (by omega) (by omega) (by omega)
    obtain ⟨y11, hy11⟩ : ∃ y : Int, y = (x0 * x1) := ⟨_, rfl⟩
    have b11 : 0 ≤ y11 ∧ y11 ≤ 576 := by rw [hy11]; exact mul_bd (A := 24) (B := 24) (C := 576) (by omega) (by omega) (by omega) (by omega)
    replace hy11 : Hid (y11 = (x0 * x1)) := hy11
    obtain ⟨y12, hy12⟩ : ∃ y : Int, y = (y11 - 1) := ⟨_, rfl⟩
    have b12 : (-1) ≤ y12 ∧ y12 ≤ 575 := by rw [hy12]; omega
    replace hy12 : Hid (y12 = (y11 - 1)) := hy12
    by_cases c1 : x8 ≥ 0
    · by_cases c2 : x8 ≤ y12
      · by_cases c3 : x9 ≥ 0
        · by_cases c4 : x9 ≤ y12
          · have b13 : 0 ≤ (dist0 (x0) (x1) (x2) (x3) (x4) (x5) (x6) (x7) (x8) (x9)) ∧ (dist0 (x0) (x1) (x2) (x3) (x4) (x5) (x6) (x7) (x8) (x9)) ≤ 1048575 := (dist_bd (hv.1) (hv.2.1) (hv.2.2.1) (hv.2.2.2.1) (hv.2.2.2.2.1) (hv.2.2.2.2.2) ⟨(by have e1 : y11 = (x0 * x1) := hy11; have e2 : y12 = (y11 - 1) := hy12; omega), (by have e1 : y11 = (x0 * x1) := hy11; have e2 : y12 = (y11 - 1) := hy12; omega)⟩ ⟨(by have e1 : y11 = (x0 * x1) := hy11; have e2 : y12 = (y11 - 1) := hy12; omega), (by have e1 : y11 = (x0 * x1) := hy11; have e2 : y12 = (y11 - 1) := hy12; omega)⟩).1
            have b14 : 0 ≤ (dist1 (x0) (x1) (x2) (x3) (x4) (x5) (x6) (x7) (x8) (x9)) ∧ (dist1 (x0) (x1) (x2) (x3) (x4) (x5) (x6) (x7) (x8) (x9)) ≤ 1048576 := (dist_bd (hv.1) (hv.2.1) (hv.2.2.1) (hv.2.2.2.1) (hv.2.2.2.2.1) (hv.2.2.2.2.2) ⟨(by have e1 : y11 = (x0 * x1) := hy11; have e2 : y12 = (y11 - 1) := hy12; omega), (by have e1 : y11 = (x0 * x1) := hy11; have e2 : y12 = (y11 - 1) := hy12; omega)⟩ ⟨(by have e1 : y11 = (x0 * x1) := hy11; have e2 : y12 = (y11 - 1) := hy12; omega), (by have e1 : y11 = (x0 * x1) := hy11; have e2 : y12 = (y11 - 1) := hy12; omega)⟩).2
            obtain ⟨y15, hy15⟩ : ∃ y : Int, y = (1000 * (dist0 (x0) (x1) (x2) (x3) (x4) (x5) (x6) (x7) (x8) (x9))) := ⟨_, rfl⟩
            have b15 : 0 ≤ y15 ∧ y15 ≤ 1048575000 := by rw [hy15]; omega
            replace hy15 : Hid (y15 = (1000 * (dist0 (x0) (x1) (x2) (x3) (x4) (x5) (x6) (x7) (x8) (x9)))) := hy15
            obtain ⟨y16, hy16⟩ : ∃ y : Int, y = (y15 / x4) := ⟨_, rfl⟩
            have b16 : 0 ≤ y16 ∧ y16 ≤ 10485750 := by rw [hy16]; exact div_iv (A := 1048575000) (B := 100) (C := 10485750) (by omega) (by omega) (by omega) (by decide)
            replace hy16 : Hid (y16 = (y15 / x4)) := hy16
            obtain ⟨y17, hy17⟩ : ∃ y : Int, y = (1000 * (dist1 (x0) (x1) (x2) (x3) (x4) (x5) (x6) (x7) (x8) (x9))) := ⟨_, rfl⟩
            have b17 : 0 ≤ y17 ∧ y17 ≤ 1048576000 := by rw [hy17]; omega
            replace hy17 : Hid (y17 = (1000 * (dist1 (x0) (x1) (x2) (x3) (x4) (x5) (x6) (x7) (x8) (x9)))) := hy17
            obtain ⟨y18, hy18⟩ : ∃ y : Int, y = (y17 + x3) := ⟨_, rfl⟩
            have b18 : 100 ≤ y18 ∧ y18 ≤ 1048596000 := by rw [hy18]; omega
            replace hy18 : Hid (y18 = (y17 + x3)) := hy18
            obtain ⟨y19, hy19⟩ : ∃ y : Int, y = (y18 - 1) := ⟨_, rfl⟩
            have b19 : 99 ≤ y19 ∧ y19 ≤ 1048595999 := by rw [hy19]; omega
            replace hy19 : Hid (y19 = (y18 - 1)) := hy19
            obtain ⟨y20, hy20⟩ : ∃ y : Int, y = (y19 / x3) := ⟨_, rfl⟩
            have b20 : 0 ≤ y20 ∧ y20 ≤ 10485959 := by rw [hy20]; exact div_iv (A := 1048595999) (B := 100) (C := 10485959) (by omega) (by omega) (by omega) (by decide)
            replace hy20 : Hid (y20 = (y19 / x3)) := hy20
            have q := @calls_sym (Rho.of [(.int .i64 (x0)), (.int .i64 (x1)), (.int .i64 (x2)), (.int .i64 (x3)), (.int .i64 (x4)), (.int .i64 (x5)), (.int .i64 (x6)), (.int .i64 (x7)), (.int .i64 (x8)), (.int .i64 (x9)), (.int .i64 ((qcheck0 (x0) (x1) (x2) (x3) (x4) (x5) (x6) (x7)))), (.int .i64 (y11)), (.int .i64 (y12)), (.int .i64 ((dist0 (x0) (x1) (x2) (x3) (x4) (x5) (x6) (x7) (x8) (x9)))), (.int .i64 ((dist1 (x0) (x1) (x2) (x3) (x4) (x5) (x6) (x7) (x8) (x9)))), (.int .i64 (y15)), (.int .i64 (y16)), (.int .i64 (y17)), (.int .i64 (y18)), (.int .i64 (y19)), (.int .i64 (y20))] (fun _ => none)) Try.prog _ (@Env.Ok.sym (Rho.of [(.int .i64 (x0)), (.int .i64 (x1)), (.int .i64 (x2)), (.int .i64 (x3)), (.int .i64 (x4)), (.int .i64 (x5)), (.int .i64 (x6)), (.int .i64 (x7)), (.int .i64 (x8)), (.int .i64 (x9)), (.int .i64 ((qcheck0 (x0) (x1) (x2) (x3) (x4) (x5) (x6) (x7)))), (.int .i64 (y11)), (.int .i64 (y12)), (.int .i64 ((dist0 (x0) (x1) (x2) (x3) (x4) (x5) (x6) (x7) (x8) (x9)))), (.int .i64 ((dist1 (x0) (x1) (x2) (x3) (x4) (x5) (x6) (x7) (x8) (x9)))), (.int .i64 (y15)), (.int .i64 (y16)), (.int .i64 (y17)), (.int .i64 (y18)), (.int .i64 (y19)), (.int .i64 (y20))] (fun _ => none)) _ _ (@env_ok (Rho.of [(.int .i64 (x0)), (.int .i64 (x1)), (.int .i64 (x2)), (.int .i64 (x3)), (.int .i64 (x4)), (.int .i64 (x5)), (.int .i64 (x6)), (.int .i64 (x7)), (.int .i64 (x8)), (.int .i64 (x9)), (.int .i64 ((qcheck0 (x0) (x1) (x2) (x3) (x4) (x5) (x6) (x7)))), (.int .i64 (y11)), (.int .i64 (y12)), (.int .i64 ((dist0 (x0) (x1) (x2) (x3) (x4) (x5) (x6) (x7) (x8) (x9)))), (.int .i64 ((dist1 (x0) (x1) (x2) (x3) (x4) (x5) (x6) (x7) (x8) (x9)))), (.int .i64 (y15)), (.int .i64 (y16)), (.int .i64 (y17)), (.int .i64 (y18)), (.int .i64 (y19)), (.int .i64 (y20))] (fun _ => none))) rT_e1 rT_c1 ⟨⟨rfl, rfl, fun w hm => (show KeyOk Try.prog w (.bin .neq 27) [(.int .i64 ((qcheck0 (x0) (x1) (x2) (x3) (x4) (x5) (x6) (x7)))), (.int .i64 0)] (.bool false) from k_neq_f c0)⟩, ⟨rfl, rfl, fun w hm => (show KeyOk Try.prog w (.bin .mul 3) [(.int .i64 (x0)), (.int .i64 (x1))] (.int .i64 (y11)) from key_eq (e := (x0 * x1)) hy11 (have ey : y11 = (x0 * x1) := hy11; k_mul (wrap64 (by omega))))⟩, ⟨rfl, rfl, fun w hm => (show KeyOk Try.prog w (.bin .sub 3) [(.int .i64 (y11)), (.int .i64 1)] (.int .i64 (y12)) from key_eq (e := (y11 - 1)) hy12 (have ey : y12 = (y11 - 1) := hy12; k_sub (wrap64 (by omega))))⟩, ⟨rfl, rfl, fun w hm => (show KeyOk Try.prog w (.bin .geq 3) [(.int .i64 (x8)), (.int .i64 0)] (.bool true) from k_geq_t c1)⟩, ⟨rfl, rfl, fun w hm => (show KeyOk Try.prog w (.bin .leq 3) [(.int .i64 (x8)), (.int .i64 (y12))] (.bool true) from k_leq_t c2)⟩, ⟨rfl, rfl, fun w hm => (show KeyOk Try.prog w (.bin .geq 3) [(.int .i64 (x9)), (.int .i64 0)] (.bool true) from k_geq_t c3)⟩, ⟨rfl, rfl, fun w hm => (show KeyOk Try.prog w (.bin .leq 3) [(.int .i64 (x9)), (.int .i64 (y12))] (.bool true) from k_leq_t c4)⟩, ⟨rfl, rfl, fun w hm => (show KeyOk Try.prog w (.bin .mul 3) [(.int .i64 1000), (.int .i64 ((dist0 (x0) (x1) (x2) (x3) (x4) (x5) (x6) (x7) (x8) (x9))))] (.int .i64 (y15)) from key_eq (e := (1000 * (dist0 (x0) (x1) (x2) (x3) (x4) (x5) (x6) (x7) (x8) (x9)))) hy15 (have ey : y15 = (1000 * (dist0 (x0) (x1) (x2) (x3) (x4) (x5) (x6) (x7) (x8) (x9))) := hy15; k_mul (wrap64 (by omega))))⟩, ⟨rfl, rfl, fun w hm => (show KeyOk Try.prog w (.bin .quo 3) [(.int .i64 (y15)), (.int .i64 (x4))] (.int .i64 (y16)) from key_eq (e := (y15 / x4)) hy16 (have ey : y16 = (y15 / x4) := hy16; k_quo_nn (by omega) (by omega) (wrap64 (by omega))))⟩, ⟨rfl, rfl, fun w hm => (show KeyOk Try.prog w (.bin .mul 3) [(.int .i64 1000), (.int .i64 ((dist1 (x0) (x1) (x2) (x3) (x4) (x5) (x6) (x7) (x8) (x9))))] (.int .i64 (y17)) from key_eq (e := (1000 * (dist1 (x0) (x1) (x2) (x3) (x4) (x5) (x6) (x7) (x8) (x9)))) hy17 (have ey : y17 = (1000 * (dist1 (x0) (x1) (x2) (x3) (x4) (x5) (x6) (x7) (x8) (x9))) := hy17; k_mul (wrap64 (by omega))))⟩, ⟨rfl, rfl, fun w hm => (show KeyOk Try.prog w (.bin .add 3) [(.int .i64 (y17)), (.int .i64 (x3))] (.int .i64 (y18)) from key_eq (e := (y17 + x3)) hy18 (have ey : y18 = (y17 + x3) := hy18; k_add (wrap64 (by omega))))⟩, ⟨rfl, rfl, fun w hm => (show KeyOk Try.prog w (.bin .sub 3) [(.int .i64 (y18)), (.int .i64 1)] (.int .i64 (y19)) from key_eq (e := (y18 - 1)) hy19 (have ey : y19 = (y18 - 1) := hy19; k_sub (wrap64 (by omega))))⟩, ⟨rfl, rfl, fun w hm => (show KeyOk Try.prog w (.bin .quo 3) [(.int .i64 (y19)), (.int .i64 (x3))] (.int .i64 (y20)) from key_eq (e := (y19 / x3)) hy20 (have ey : y20 = (y19 / x3) := hy20; k_quo_nn (by omega) (by omega) (wrap64 (by omega))))⟩, trivial⟩ ⟨(@CEntOk.of (Rho.of [(.int .i64 (x0)), (.int .i64 (x1)), (.int .i64 (x2)), (.int .i64 (x3)), (.int .i64 (x4)), (.int .i64 (x5)), (.int .i64 (x6)), (.int .i64 (x7)), (.int .i64 (x8)), (.int .i64 (x9)), (.int .i64 ((qcheck0 (x0) (x1) (x2) (x3) (x4) (x5) (x6) (x7)))), (.int .i64 (y11)), (.int .i64 (y12)), (.int .i64 ((dist0 (x0) (x1) (x2) (x3) (x4) (x5) (x6) (x7) (x8) (x9)))), (.int .i64 ((dist1 (x0) (x1) (x2) (x3) (x4) (x5) (x6) (x7) (x8) (x9)))), (.int .i64 (y15)), (.int .i64 (y16)), (.int .i64 (y17)), (.int .i64 (y18)), (.int .i64 (y19)), (.int .i64 (y20))] (fun _ => none)) Try.prog _ 19 _ _ #[(.agg #[(.int .i64 (x0)), (.int .i64 (x1)), (.int .i64 (x2)), (.int .i64 (x3)), (.int .i64 (x4)), (.int .i64 (x5)), (.int .i64 (x6)), (.int .i64 (x7))])] (.int .i64 ((qcheck0 (x0) (x1) (x2) (x3) (x4) (x5) (x6) (x7)))) rfl ⟨Try.f19, (Try.f19.body).getD .skip, by kernel_rfl, by kernel_rfl⟩ rfl rfl rfl (fun w hm => rcheckq_any (x0) (x1) (x2) (x3) (x4) (x5) (x6) (x7)  w)), (@CEntOk.of (Rho.of [(.int .i64 (x0)), (.int .i64 (x1)), (.int .i64 (x2)), (.int .i64 (x3)), (.int .i64 (x4)), (.int .i64 (x5)), (.int .i64 (x6)), (.int .i64 (x7)), (.int .i64 (x8)), (.int .i64 (x9)), (.int .i64 ((qcheck0 (x0) (x1) (x2) (x3) (x4) (x5) (x6) (x7)))), (.int .i64 (y11)), (.int .i64 (y12)), (.int .i64 ((dist0 (x0) (x1) (x2) (x3) (x4) (x5) (x6) (x7) (x8) (x9)))), (.int .i64 ((dist1 (x0) (x1) (x2) (x3) (x4) (x5) (x6) (x7) (x8) (x9)))), (.int .i64 (y15)), (.int .i64 (y16)), (.int .i64 (y17)), (.int .i64 (y18)), (.int .i64 (y19)), (.int .i64 (y20))] (fun _ => none)) Try.prog _ 83 _ _ #[(.agg #[(.int .i64 (x0)), (.int .i64 (x1)), (.int .i64 (x2)), (.int .i64 (x3)), (.int .i64 (x4)), (.int .i64 (x5)), (.int .i64 (x6)), (.int .i64 (x7))]), (.int .i64 (x8)), (.int .i64 (x9))] (.agg #[(.int .i64 ((dist0 (x0) (x1) (x2) (x3) (x4) (x5) (x6) (x7) (x8) (x9)))), (.int .i64 ((dist1 (x0) (x1) (x2) (x3) (x4) (x5) (x6) (x7) (x8) (x9))))]) rfl ⟨Try.f83, (Try.f83.body).getD .skip, by kernel_rfl, by kernel_rfl⟩ rfl rfl rfl (fun w hm => rdist_any (x0) (x1) (x2) (x3) (x4) (x5) (x6) (x7) (x8) (x9) (hv.1) (hv.2.1) (hv.2.2.1) (hv.2.2.2.1) (hv.2.2.2.2.1) (hv.2.2.2.2.2) ⟨(by have e1 : y11 = (x0 * x1) := hy11; have e2 : y12 = (y11 - 1) := hy12; omega), (by have e1 : y11 = (x0 * x1) := hy11; have e2 : y12 = (y11 - 1) := hy12; omega)⟩ ⟨(by have e1 : y11 = (x0 * x1) := hy11; have e2 : y12 = (y11 - 1) := hy12; omega), (by have e1 : y11 = (x0 * x1) := hy11; have e2 : y12 = (y11 - 1) := hy12; omega)⟩ w)), trivial⟩) 3000 15 [(.agg #[(.chan (some 0)), (.chan (some 1)), (.chan (some 2)), (.chan (some 3)), (.chan (some 4)), (.chan (some 5)), (.chan (some 6)), (.chan (some 7))]), (.chan (some 8)), (.chan (some 9))] (.tuple #[(.agg #[(.chan (some 16)), (.chan (some 20))]), (.int .i64 0)]) rfl rfl rT_r1 w (fun _ _ h => nomatch h)
            have v0 : (y16 : Int) = rT0 x0 x1 x2 x3 x4 x5 x6 x7 x8 x9 := by
              have e11 : y11 = (x0 * x1) := hy11
              have e12 : y12 = (y11 - 1) := hy12
              have e15 : y15 = (1000 * (dist0 (x0) (x1) (x2) (x3) (x4) (x5) (x6) (x7) (x8) (x9))) := hy15
              have e16 : y16 = (y15 / x4) := hy16
              have e17 : y17 = (1000 * (dist1 (x0) (x1) (x2) (x3) (x4) (x5) (x6) (x7) (x8) (x9))) := hy17
              have e18 : y18 = (y17 + x3) := hy18
              have e19 : y19 = (y18 - 1) := hy19
              have e20 : y20 = (y19 / x3) := hy20
              try simp only [e11, e12, e15, e16, e17, e18, e19, e20] at c0
              try simp only [e11, e12, e15, e16, e17, e18, e19, e20] at c1
              try simp only [e11, e12, e15, e16, e17, e18, e19, e20] at c2
              try simp only [e11, e12, e15, e16, e17, e18, e19, e20] at c3
              try simp only [e11, e12, e15, e16, e17, e18, e19, e20] at c4
              unfold rT0
              try rw [if_neg c0]
              try rw [if_pos c1]
              try rw [if_pos c2]
              try rw [if_pos c3]
              try rw [if_pos c4]
              try simp only [e11, e12, e15, e16, e17, e18, e19, e20]
            have v1 : (y20 : Int) = rT1 x0 x1 x2 x3 x4 x5 x6 x7 x8 x9 := by
              have e11 : y11 = (x0 * x1) := hy11
              have e12 : y12 = (y11 - 1) := hy12
              have e15 : y15 = (1000 * (dist0 (x0) (x1) (x2) (x3) (x4) (x5) (x6) (x7) (x8) (x9))) := hy15
              have e16 : y16 = (y15 / x4) := hy16
              have e17 : y17 = (1000 * (dist1 (x0) (x1) (x2) (x3) (x4) (x5) (x6) (x7) (x8) (x9))) := hy17
              have e18 : y18 = (y17 + x3) := hy18
              have e19 : y19 = (y18 - 1) := hy19
              have e20 : y20 = (y19 / x3) := hy20
              try simp only [e11, e12, e15, e16, e17, e18, e19, e20] at c0
              try simp only [e11, e12, e15, e16, e17, e18, e19, e20] at c1
              try simp only [e11, e12, e15, e16, e17, e18, e19, e20] at c2
              try simp only [e11, e12, e15, e16, e17, e18, e19, e20] at c3
              try simp only [e11, e12, e15, e16, e17, e18, e19, e20] at c4
              unfold rT1
              try rw [if_neg c0]
              try rw [if_pos c1]
              try rw [if_pos c2]
              try rw [if_pos c3]
              try rw [if_pos c4]
              try simp only [e11, e12, e15, e16, e17, e18, e19, e20]
            have v2 : (0 : Int) = rT2 x0 x1 x2 x3 x4 x5 x6 x7 x8 x9 := by
              have e11 : y11 = (x0 * x1) := hy11
              have e12 : y12 = (y11 - 1) := hy12
              have e15 : y15 = (1000 * (dist0 (x0) (x1) (x2) (x3) (x4) (x5) (x6) (x7) (x8) (x9))) := hy15
              have e16 : y16 = (y15 / x4) := hy16
              have e17 : y17 = (1000 * (dist1 (x0) (x1) (x2) (x3) (x4) (x5) (x6) (x7) (x8) (x9))) := hy17
              have e18 : y18 = (y17 + x3) := hy18
              have e19 : y19 = (y18 - 1) := hy19
              have e20 : y20 = (y19 / x3) := hy20
              try simp only [e11, e12, e15, e16, e17, e18, e19, e20] at c0
              try simp only [e11, e12, e15, e16, e17, e18, e19, e20] at c1
              try simp only [e11, e12, e15, e16, e17, e18, e19, e20] at c2
              try simp only [e11, e12, e15, e16, e17, e18, e19, e20] at c3
              try simp only [e11, e12, e15, e16, e17, e18, e19, e20] at c4
              unfold rT2
              try rw [if_neg c0]
              try rw [if_pos c1]
              try rw [if_pos c2]
              try rw [if_pos c3]
              try rw [if_pos c4]
              try simp only [e11, e12, e15, e16, e17, e18, e19, e20]
            have hv : ((.tuple #[(.agg #[(.int .i64 (y16)), (.int .i64 (y20))]), (.int .i64 (0))]) : Value) = (.tuple #[(.agg #[(.int .i64 (rT0 x0 x1 x2 x3 x4 x5 x6 x7 x8 x9)), (.int .i64 (rT1 x0 x1 x2 x3 x4 x5 x6 x7 x8 x9))]), (.int .i64 (rT2 x0 x1 x2 x3 x4 x5 x6 x7 x8 x9))]) := by rw [← v0, ← v1, ← v2]
            rw [← hv]
            exact q
          · have q := @calls_sym (Rho.of [(.int .i64 (x0)), (.int .i64 (x1)), (.int .i64 (x2)), (.int .i64 (x3)), (.int .i64 (x4)), (.int .i64 (x5)), (.int .i64 (x6)), (.int .i64 (x7)), (.int .i64 (x8)), (.int .i64 (x9)), (.int .i64 ((qcheck0 (x0) (x1) (x2) (x3) (x4) (x5) (x6) (x7)))), (.int .i64 (y11)), (.int .i64 (y12))] (fun _ => none)) Try.prog _ (@Env.Ok.sym (Rho.of [(.int .i64 (x0)), (.int .i64 (x1)), (.int .i64 (x2)), (.int .i64 (x3)), (.int .i64 (x4)), (.int .i64 (x5)), (.int .i64 (x6)), (.int .i64 (x7)), (.int .i64 (x8)), (.int .i64 (x9)), (.int .i64 ((qcheck0 (x0) (x1) (x2) (x3) (x4) (x5) (x6) (x7)))), (.int .i64 (y11)), (.int .i64 (y12))] (fun _ => none)) _ _ (@env_ok (Rho.of [(.int .i64 (x0)), (.int .i64 (x1)), (.int .i64 (x2)), (.int .i64 (x3)), (.int .i64 (x4)), (.int .i64 (x5)), (.int .i64 (x6)), (.int .i64 (x7)), (.int .i64 (x8)), (.int .i64 (x9)), (.int .i64 ((qcheck0 (x0) (x1) (x2) (x3) (x4) (x5) (x6) (x7)))), (.int .i64 (y11)), (.int .i64 (y12))] (fun _ => none))) rT_e2 rT_c2 ⟨⟨rfl, rfl, fun w hm => (show KeyOk Try.prog w (.bin .neq 27) [(.int .i64 ((qcheck0 (x0) (x1) (x2) (x3) (x4) (x5) (x6) (x7)))), (.int .i64 0)] (.bool false) from k_neq_f c0)⟩, ⟨rfl, rfl, fun w hm => (show KeyOk Try.prog w (.bin .mul 3) [(.int .i64 (x0)), (.int .i64 (x1))] (.int .i64 (y11)) from key_eq (e := (x0 * x1)) hy11 (have ey : y11 = (x0 * x1) := hy11; k_mul (wrap64 (by omega))))⟩, ⟨rfl, rfl, fun w hm => (show KeyOk Try.prog w (.bin .sub 3) [(.int .i64 (y11)), (.int .i64 1)] (.int .i64 (y12)) from key_eq (e := (y11 - 1)) hy12 (have ey : y12 = (y11 - 1) := hy12; k_sub (wrap64 (by omega))))⟩, ⟨rfl, rfl, fun w hm => (show KeyOk Try.prog w (.bin .geq 3) [(.int .i64 (x8)), (.int .i64 0)] (.bool true) from k_geq_t c1)⟩, ⟨rfl, rfl, fun w hm => (show KeyOk Try.prog w (.bin .leq 3) [(.int .i64 (x8)), (.int .i64 (y12))] (.bool true) from k_leq_t c2)⟩, ⟨rfl, rfl, fun w hm => (show KeyOk Try.prog w (.bin .geq 3) [(.int .i64 (x9)), (.int .i64 0)] (.bool true) from k_geq_t c3)⟩, ⟨rfl, rfl, fun w hm => (show KeyOk Try.prog w (.bin .leq 3) [(.int .i64 (x9)), (.int .i64 (y12))] (.bool false) from k_leq_f c4)⟩, trivial⟩ ⟨(@CEntOk.of (Rho.of [(.int .i64 (x0)), (.int .i64 (x1)), (.int .i64 (x2)), (.int .i64 (x3)), (.int .i64 (x4)), (.int .i64 (x5)), (.int .i64 (x6)), (.int .i64 (x7)), (.int .i64 (x8)), (.int .i64 (x9)), (.int .i64 ((qcheck0 (x0) (x1) (x2) (x3) (x4) (x5) (x6) (x7)))), (.int .i64 (y11)), (.int .i64 (y12))] (fun _ => none)) Try.prog _ 19 _ _ #[(.agg #[(.int .i64 (x0)), (.int .i64 (x1)), (.int .i64 (x2)), (.int .i64 (x3)), (.int .i64 (x4)), (.int .i64 (x5)), (.int .i64 (x6)), (.int .i64 (x7))])] (.int .i64 ((qcheck0 (x0) (x1) (x2) (x3) (x4) (x5) (x6) (x7)))) rfl ⟨Try.f19, (Try.f19.body).getD .skip, by kernel_rfl, by kernel_rfl⟩ rfl rfl rfl (fun w hm => rcheckq_any (x0) (x1) (x2) (x3) (x4) (x5) (x6) (x7)  w)), trivial⟩) 3000 15 [(.agg #[(.chan (some 0)), (.chan (some 1)), (.chan (some 2)), (.chan (some 3)), (.chan (some 4)), (.chan (some 5)), (.chan (some 6)), (.chan (some 7))]), (.chan (some 8)), (.chan (some 9))] (.tuple #[(.agg #[(.int .i64 0), (.int .i64 0)]), (.int .i64 4)]) rfl rfl rT_r2 w (fun _ _ h => nomatch h)
            have v0 : (0 : Int) = rT0 x0 x1 x2 x3 x4 x5 x6 x7 x8 x9 := by
              have e11 : y11 = (x0 * x1) := hy11
              have e12 : y12 = (y11 - 1) := hy12
              try simp only [e11, e12] at c0
              try simp only [e11, e12] at c1
              try simp only [e11, e12] at c2
              try simp only [e11, e12] at c3
              try simp only [e11, e12] at c4
              unfold rT0
              try rw [if_neg c0]
              try rw [if_pos c1]
              try rw [if_pos c2]
              try rw [if_pos c3]
              try rw [if_neg c4]
              try simp only [e11, e12]
            have v1 : (0 : Int) = rT1 x0 x1 x2 x3 x4 x5 x6 x7 x8 x9 := by
              have e11 : y11 = (x0 * x1) := hy11
              have e12 : y12 = (y11 - 1) := hy12
              try simp only [e11, e12] at c0
              try simp only [e11, e12] at c1
              try simp only [e11, e12] at c2
              try simp only [e11, e12] at c3
              try simp only [e11, e12] at c4
              unfold rT1
              try rw [if_neg c0]
              try rw [if_pos c1]
              try rw [if_pos c2]
              try rw [if_pos c3]
              try rw [if_neg c4]
              try simp only [e11, e12]
            have v2 : (4 : Int) = rT2 x0 x1 x2 x3 x4 x5 x6 x7 x8 x9 := by
              have e11 : y11 = (x0 * x1) := hy11
              have e12 : y12 = (y11 - 1) := hy12
              try simp only [e11, e12] at c0
              try simp only [e11, e12] at c1
              try simp only [e11, e12] at c2
              try simp only [e11, e12] at c3
              try simp only [e11, e12] at c4
              unfold rT2
              try rw [if_neg c0]
              try rw [if_pos c1]
              try rw [if_pos c2]
              try rw [if_pos c3]
              try rw [if_neg c4]
              try simp only [e11, e12]
            have hv : ((.tuple #[(.agg #[(.int .i64 (0)), (.int .i64 (0))]), (.int .i64 (4))]) : Value) = (.tuple #[(.agg #[(.int .i64 (rT0 x0 x1 x2 x3 x4 x5 x6 x7 x8 x9)), (.int .i64 (rT1 x0 x1 x2 x3 x4 x5 x6 x7 x8 x9))]), (.int .i64 (rT2 x0 x1 x2 x3 x4 x5 x6 x7 x8 x9))]) := by rw [← v0, ← v1, ← v2]
            rw [← hv]
            exact q
        · have q := @calls_sym (Rho.of [(.int .i64 (x0)), (.int .i64 (x1)), (.int .i64 (x2)), (.int .i64 (x3)), (.int .i64 (x4)), (.int .i64 (x5)), (.int .i64 (x6)), (.int .i64 (x7)), (.int .i64 (x8)), (.int .i64 (x9)), (.int .i64 ((qcheck0 (x0) (x1) (x2) (x3) (x4) (x5) (x6) (x7)))), (.int .i64 (y11)), (.int .i64 (y12))] (fun _ => none)) Try.prog _ (@Env.Ok.sym (Rho.of [(.int .i64 (x0)), (.int .i64 (x1)), (.int .i64 (x2)), (.int .i64 (x3)), (.int .i64 (x4)), (.int .i64 (x5)), (.int .i64 (x6)), (.int .i64 (x7)), (.int .i64 (x8)), (.int .i64 (x9)), (.int .i64 ((qcheck0 (x0) (x1) (x2) (x3) (x4) (x5) (x6) (x7)))), (.int .i64 (y11)), (.int .i64 (y12))] (fun _ => none)) _ _ (@env_ok (Rho.of [(.int .i64 (x0)), (.int .i64 (x1)), (.int .i64 (x2)), (.int .i64 (x3)), (.int .i64 (x4)), (.int .i64 (x5)), (.int .i64 (x6)), (.int .i64 (x7)), (.int .i64 (x8)), (.int .i64 (x9)), (.int .i64 ((qcheck0 (x0) (x1) (x2) (x3) (x4) (x5) (x6) (x7)))), (.int .i64 (y11)), (.int .i64 (y12))] (fun _ => none))) rT_e3 rT_c3 ⟨⟨rfl, rfl, fun w hm => (show KeyOk Try.prog w (.bin .neq 27) [(.int .i64 ((qcheck0 (x0) (x1) (x2) (x3) (x4) (x5) (x6) (x7)))), (.int .i64 0)] (.bool false) from k_neq_f c0)⟩, ⟨rfl, rfl, fun w hm => (show KeyOk Try.prog w (.bin .mul 3) [(.int .i64 (x0)), (.int .i64 (x1))] (.int .i64 (y11)) from key_eq (e := (x0 * x1)) hy11 (have ey : y11 = (x0 * x1) := hy11; k_mul (wrap64 (by omega))))⟩, ⟨rfl, rfl, fun w hm => (show KeyOk Try.prog w (.bin .sub 3) [(.int .i64 (y11)), (.int .i64 1)] (.int .i64 (y12)) from key_eq (e := (y11 - 1)) hy12 (have ey : y12 = (y11 - 1) := hy12; k_sub (wrap64 (by omega))))⟩, ⟨rfl, rfl, fun w hm => (show KeyOk Try.prog w (.bin .geq 3) [(.int .i64 (x8)), (.int .i64 0)] (.bool true) from k_geq_t c1)⟩, ⟨rfl, rfl, fun w hm => (show KeyOk Try.prog w (.bin .leq 3) [(.int .i64 (x8)), (.int .i64 (y12))] (.bool true) from k_leq_t c2)⟩, ⟨rfl, rfl, fun w hm => (show KeyOk Try.prog w (.bin .geq 3) [(.int .i64 (x9)), (.int .i64 0)] (.bool false) from k_geq_f c3)⟩, trivial⟩ ⟨(@CEntOk.of (Rho.of [(.int .i64 (x0)), (.int .i64 (x1)), (.int .i64 (x2)), (.int .i64 (x3)), (.int .i64 (x4)), (.int .i64 (x5)), (.int .i64 (x6)), (.int .i64 (x7)), (.int .i64 (x8)), (.int .i64 (x9)), (.int .i64 ((qcheck0 (x0) (x1) (x2) (x3) (x4) (x5) (x6) (x7)))), (.int .i64 (y11)), (.int .i64 (y12))] (fun _ => none)) Try.prog _ 19 _ _ #[(.agg #[(.int .i64 (x0)), (.int .i64 (x1)), (.int .i64 (x2)), (.int .i64 (x3)), (.int .i64 (x4)), (.int .i64 (x5)), (.int .i64 (x6)), (.int .i64 (x7))])] (.int .i64 ((qcheck0 (x0) (x1) (x2) (x3) (x4) (x5) (x6) (x7)))) rfl ⟨Try.f19, (Try.f19.body).getD .skip, by kernel_rfl, by kernel_rfl⟩ rfl rfl rfl (fun w hm => rcheckq_any (x0) (x1) (x2) (x3) (x4) (x5) (x6) (x7)  w)), trivial⟩) 3000 15 [(.agg #[(.chan (some 0)), (.chan (some 1)), (.chan (some 2)), (.chan (some 3)), (.chan (some 4)), (.chan (some 5)), (.chan (some 6)), (.chan (some 7))]), (.chan (some 8)), (.chan (some 9))] (.tuple #[(.agg #[(.int .i64 0), (.int .i64 0)]), (.int .i64 4)]) rfl rfl rT_r3 w (fun _ _ h => nomatch h)
          have v0 : (0 : Int) = rT0 x0 x1 x2 x3 x4 x5 x6 x7 x8 x9 := by
            have e11 : y11 = (x0 * x1) := hy11
            have e12 : y12 = (y11 - 1) := hy12
            try simp only [e11, e12] at c0
            try simp only [e11, e12] at c1
            try simp only [e11, e12] at c2
            try simp only [e11, e12] at c3
            unfold rT0
            try rw [if_neg c0]
            try rw [if_pos c1]
            try rw [if_pos c2]
            try rw [if_neg c3]
            try simp only [e11, e12]
          have v1 : (0 : Int) = rT1 x0 x1 x2 x3 x4 x5 x6 x7 x8 x9 := by
            have e11 : y11 = (x0 * x1) := hy11
            have e12 : y12 = (y11 - 1) := hy12
            try simp only [e11, e12] at c0
            try simp only [e11, e12] at c1
            try simp only [e11, e12] at c2
            try simp only [e11, e12] at c3
            unfold rT1
            try rw [if_neg c0]
            try rw [if_pos c1]
            try rw [if_pos c2]
            try rw [if_neg c3]
            try simp only [e11, e12]
          have v2 : (4 : Int) = rT2 x0 x1 x2 x3 x4 x5 x6 x7 x8 x9 := by
            have e11 : y11 = (x0 * x1) := hy11
            have e12 : y12 = (y11 - 1) := hy12
            try simp only [e11, e12] at c0
            try simp only [e11, e12] at c1
            try simp only [e11, e12] at c2
            try simp only [e11, e12] at c3
            unfold rT2
            try rw [if_neg c0]
            try rw [if_pos c1]
            try rw [if_pos c2]
            try rw [if_neg c3]
            try simp only [e11, e12]
          have hv : ((.tuple #[(.agg #[(.int .i64 (0)), (.int .i64 (0))]), (.int .i64 (4))]) : Value) = (.tuple #[(.agg #[(.int .i64 (rT0 x0 x1 x2 x3 x4 x5 x6 x7 x8 x9)), (.int .i64 (rT1 x0 x1 x2 x3 x4 x5 x6 x7 x8 x9))]), (.int .i64 (rT2 x0 x1 x2 x3 x4 x5 x6 x7 x8 x9))]) := by rw [← v0, ← v1, ← v2]
          rw [← hv]
          exact q
      · have q := @calls_sym (Rho.of [(.int .i64 (x0)), (.int .i64 (x1)), (.int .i64 (x2)), (.int .i64 (x3)), (.int .i64 (x4)), (.int .i64 (x5)), (.int .i64 (x6)), (.int .i64 (x7)), (.int .i64 (x8)), (.int .i64 (x9)), (.int .i64 ((qcheck0 (x0) (x1) (x2) (x3) (x4) (x5) (x6) (x7)))), (.int .i64 (y11)), (.int .i64 (y12))] (fun _ => none)) Try.prog _ (@Env.Ok.sym (Rho.of [(.int .i64 (x0)), (.int .i64 (x1)), (.int .i64 (x2)), (.int .i64 (x3)), (.int .i64 (x4)), (.int .i64 (x5)), (.int .i64 (x6)), (.int .i64 (x7)), (.int .i64 (x8)), (.int .i64 (x9)), (.int .i64 ((qcheck0 (x0) (x1) (x2) (x3) (x4) (x5) (x6) (x7)))), (.int .i64 (y11)), (.int .i64 (y12))] (fun _ => none)) _ _ (@env_ok (Rho.of [(.int .i64 (x0)), (.int .i64 (x1)), (.int .i64 (x2)), (.int .i64 (x3)), (.int .i64 (x4)), (.int .i64 (x5)), (.int .i64 (x6)), (.int .i64 (x7)), (.int .i64 (x8)), (.int .i64 (x9)), (.int .i64 ((qcheck0 (x0) (x1) (x2) (x3) (x4) (x5) (x6) (x7)))), (.int .i64 (y11)), (.int .i64 (y12))] (fun _ => none))) rT_e4 rT_c4 ⟨⟨rfl, rfl, fun w hm => (show KeyOk Try.prog w (.bin .neq 27) [(.int .i64 ((qcheck0 (x0) (x1) (x2) (x3) (x4) (x5) (x6) (x7)))), (.int .i64 0)] (.bool false) from k_neq_f c0)⟩, ⟨rfl, rfl, fun w hm => (show KeyOk Try.prog w (.bin .mul 3) [(.int .i64 (x0)), (.int .i64 (x1))] (.int .i64 (y11)) from key_eq (e := (x0 * x1)) hy11 (have ey : y11 = (x0 * x1) := hy11; k_mul (wrap64 (by omega))))⟩, ⟨rfl, rfl, fun w hm => (show KeyOk Try.prog w (.bin .sub 3) [(.int .i64 (y11)), (.int .i64 1)] (.int .i64 (y12)) from key_eq (e := (y11 - 1)) hy12 (have ey : y12 = (y11 - 1) := hy12; k_sub (wrap64 (by omega))))⟩, ⟨rfl, rfl, fun w hm => (show KeyOk Try.prog w (.bin .geq 3) [(.int .i64 (x8)), (.int .i64 0)] (.bool true) from k_geq_t c1)⟩, ⟨rfl, rfl, fun w hm => (show KeyOk Try.prog w (.bin .leq 3) [(.int .i64 (x8)), (.int .i64 (y12))] (.bool false) from k_leq_f c2)⟩, trivial⟩ ⟨(@CEntOk.of (Rho.of [(.int .i64 (x0)), (.int .i64 (x1)), (.int .i64 (x2)), (.int .i64 (x3)), (.int .i64 (x4)), (.int .i64 (x5)), (.int .i64 (x6)), (.int .i64 (x7)), (.int .i64 (x8)), (.int .i64 (x9)), (.int .i64 ((qcheck0 (x0) (x1) (x2) (x3) (x4) (x5) (x6) (x7)))), (.int .i64 (y11)), (.int .i64 (y12))] (fun _ => none)) Try.prog _ 19 _ _ #[(.agg #[(.int .i64 (x0)), (.int .i64 (x1)), (.int .i64 (x2)), (.int .i64 (x3)), (.int .i64 (x4)), (.int .i64 (x5)), (.int .i64 (x6)), (.int .i64 (x7))])] (.int .i64 ((qcheck0 (x0) (x1) (x2) (x3) (x4) (x5) (x6) (x7)))) rfl ⟨Try.f19, (Try.f19.body).getD .skip, by kernel_rfl, by kernel_rfl⟩ rfl rfl rfl (fun w hm => rcheckq_any (x0) (x1) (x2) (x3) (x4) (x5) (x6) (x7)  w)), trivial⟩) 3000 15 [(.agg #[(.chan (some 0)), (.chan (some 1)), (.chan (some 2)), (.chan (some 3)), (.chan (some 4)), (.chan (some 5)), (.chan (some 6)), (.chan (some 7))]), (.chan (some 8)), (.chan (some 9))] (.tuple #[(.agg #[(.int .i64 0), (.int .i64 0)]), (.int .i64 4)]) rfl rfl rT_r4 w (fun _ _ h => nomatch h)
        have v0 : (0 : Int) = rT0 x0 x1 x2 x3 x4 x5 x6 x7 x8 x9 := by
          have e11 : y11 = (x0 * x1) := hy11
          have e12 : y12 = (y11 - 1) := hy12
          try simp only [e11, e12] at c0
          try simp only [e11, e12] at c1
          try simp only [e11, e12] at c2
          unfold rT0
          try rw [if_neg c0]
          try rw [if_pos c1]
          try rw [if_neg c2]
          try simp only [e11, e12]
        have v1 : (0 : Int) = rT1 x0 x1 x2 x3 x4 x5 x6 x7 x8 x9 := by
          have e11 : y11 = (x0 * x1) := hy11
          have e12 : y12 = (y11 - 1) := hy12
          try simp only [e11, e12] at c0
          try simp only [e11, e12] at c1
          try simp only [e11, e12] at c2
          unfold rT1
          try rw [if_neg c0]
          try rw [if_pos c1]
          try rw [if_neg c2]
          try simp only [e11, e12]
        have v2 : (4 : Int) = rT2 x0 x1 x2 x3 x4 x5 x6 x7 x8 x9 := by
          have e11 : y11 = (x0 * x1) := hy11
          have e12 : y12 = (y11 - 1) := hy12
          try simp only [e11, e12] at c0
          try simp only [e11, e12] at c1
          try simp only [e11, e12] at c2
          unfold rT2
          try rw [if_neg c0]
          try rw [if_pos c1]
          try rw [if_neg c2]
          try simp only [e11, e12]
        have hv : ((.tuple #[(.agg #[(.int .i64 (0)), (.int .i64 (0))]), (.int .i64 (4))]) : Value) = (.tuple #[(.agg #[(.int .i64 (rT0 x0 x1 x2 x3 x4 x5 x6 x7 x8 x9)), (.int .i64 (rT1 x0 x1 x2 x3 x4 x5 x6 x7 x8 x9))]), (.int .i64 (rT2 x0 x1 x2 x3 x4 x5 x6 x7 x8 x9))]) := by rw [← v0, ← v1, ← v2]
        rw [← hv]
        exact q
    · have q := @calls_sym (Rho.of [(.int .i64 (x0)), (.int .i64 (x1)), (.int .i64 (x2)), (.int .i64 (x3)), (.int .i64 (x4)), (.int .i64 (x5)), (.int .i64 (x6)), (.int .i64 (x7)), (.int .i64 (x8)), (.int .i64 (x9)), (.int .i64 ((qcheck0 (x0) (x1) (x2) (x3) (x4) (x5) (x6) (x7)))), (.int .i64 (y11)), (.int .i64 (y12))] (fun _ => none)) Try.prog _ (@Env.Ok.sym (Rho.of [(.int .i64 (x0)), (.int .i64 (x1)), (.int .i64 (x2)), (.int .i64 (x3)), (.int .i64 (x4)), (.int .i64 (x5)), (.int .i64 (x6)), (.int .i64 (x7)), (.int .i64 (x8)), (.int .i64 (x9)), (.int .i64 ((qcheck0 (x0) (x1) (x2) (x3) (x4) (x5) (x6) (x7)))), (.int .i64 (y11)), (.int .i64 (y12))] (fun _ => none)) _ _ (@env_ok (Rho.of [(.int .i64 (x0)), (.int .i64 (x1)), (.int .i64 (x2)), (.int .i64 (x3)), (.int .i64 (x4)), (.int .i64 (x5)), (.int .i64 (x6)), (.int .i64 (x7)), (.int .i64 (x8)), (.int .i64 (x9)), (.int .i64 ((qcheck0 (x0) (x1) (x2) (x3) (x4) (x5) (x6) (x7)))), (.int .i64 (y11)), (.int .i64 (y12))] (fun _ => none))) rT_e5 rT_c5 ⟨⟨rfl, rfl, fun w hm => (show KeyOk Try.prog w (.bin .neq 27) [(.int .i64 ((qcheck0 (x0) (x1) (x2) (x3) (x4) (x5) (x6) (x7)))), (.int .i64 0)] (.bool false) from k_neq_f c0)⟩, ⟨rfl, rfl, fun w hm => (show KeyOk Try.prog w (.bin .mul 3) [(.int .i64 (x0)), (.int .i64 (x1))] (.int .i64 (y11)) from key_eq (e := (x0 * x1)) hy11 (have ey : y11 = (x0 * x1) := hy11; k_mul (wrap64 (by omega))))⟩, ⟨rfl, rfl, fun w hm => (show KeyOk Try.prog w (.bin .sub 3) [(.int .i64 (y11)), (.int .i64 1)] (.int .i64 (y12)) from key_eq (e := (y11 - 1)) hy12 (have ey : y12 = (y11 - 1) := hy12; k_sub (wrap64 (by omega))))⟩, ⟨rfl, rfl, fun w hm => (show KeyOk Try.prog w (.bin .geq 3) [(.int .i64 (x8)), (.int .i64 0)] (.bool false) from k_geq_f c1)⟩, trivial⟩ ⟨(@CEntOk.of (Rho.of [(.int .i64 (x0)), (.int .i64 (x1)), (.int .i64 (x2)), (.int .i64 (x3)), (.int .i64 (x4)), (.int .i64 (x5)), (.int .i64 (x6)), (.int .i64 (x7)), (.int .i64 (x8)), (.int .i64 (x9)), (.int .i64 ((qcheck0 (x0) (x1) (x2) (x3) (x4) (x5) (x6) (x7)))), (.int .i64 (y11)), (.int .i64 (y12))] (fun _ => none)) Try.prog _ 19 _ _ #[(.agg #[(.int .i64 (x0)), (.int .i64 (x1)), (.int .i64 (x2)), (.int .i64 (x3)), (.int .i64 (x4)), (.int .i64 (x5)), (.int .i64 (x6)), (.int .i64 (x7))])] (.int .i64 ((qcheck0 (x0) (x1) (x2) (x3) (x4) (x5) (x6) (x7)))) rfl ⟨Try.f19, (Try.f19.body).getD .skip, by kernel_rfl, by kernel_rfl⟩ rfl rfl rfl (fun w hm => rcheckq_any (x0) (x1) (x2) (x3) (x4) (x5) (x6) (x7)  w)), trivial⟩) 3000 15 [(.agg #[(.chan (some 0)), (.chan (some 1)), (.chan (some 2)), (.chan (some 3)), (.chan (some 4)), (.chan (some 5)), (.chan (some 6)), (.chan (some 7))]), (.chan (some 8)), (.chan (some 9))] (.tuple #[(.agg #[(.int .i64 0), (.int .i64 0)]), (.int .i64 4)]) rfl rfl rT_r5 w (fun _ _ h => nomatch h)
      have v0 : (0 : Int) = rT0 x0 x1 x2 x3 x4 x5 x6 x7 x8 x9 := by
        have e11 : y11 = (x0 * x1) := hy11
        have e12 : y12 = (y11 - 1) := hy12
        try simp only [e11, e12] at c0
        try simp only [e11, e12] at c1
        unfold rT0
        try rw [if_neg c0]
        try rw [if_neg c1]
        try simp only [e11, e12]
      have v1 : (0 : Int) = rT1 x0 x1 x2 x3 x4 x5 x6 x7 x8 x9 := by
        have e11 : y11 = (x0 * x1) := hy11
        have e12 : y12 = (y11 - 1) := hy12
        try simp only [e11, e12] at c0
        try simp only [e11, e12] at c1
        unfold rT1
        try rw [if_neg c0]
        try rw [if_neg c1]
        try simp only [e11, e12]
      have v2 : (4 : Int) = rT2 x0 x1 x2 x3 x4 x5 x6 x7 x8 x9 := by
        have e11 : y11 = (x0 * x1) := hy11
        have e12 : y12 = (y11 - 1) := hy12
        try simp only [e11, e12] at c0
        try simp only [e11, e12] at c1
        unfold rT2
        try rw [if_neg c0]
        try rw [if_neg c1]
        try simp only [e11, e12]
      have hv : ((.tuple #[(.agg #[(.int .i64 (0)), (.int .i64 (0))]), (.int .i64 (4))]) : Value) = (.tuple #[(.agg #[(.int .i64 (rT0 x0 x1 x2 x3 x4 x5 x6 x7 x8 x9)), (.int .i64 (rT1 x0 x1 x2 x3 x4 x5 x6 x7 x8 x9))]), (.int .i64 (rT2 x0 x1 x2 x3 x4 x5 x6 x7 x8 x9))]) := by rw [← v0, ← v1, ← v2]
      rw [← hv]
      exact q

noncomputable def tS0 (x0 : Int) (x1 : Int) (x2 : Int) (x3 : Int) (x4 : Int) (x5 : Int) (x6 : Int) (x7 : Int) (x8 : Int) (x9 : Int) (x10 : Int) : Int := (if (qcheck0 (x0) (x1) (x2) (x3) (x4) (x5) (x6) (x7)) ≠ 0 then 0 else (if x9 ≥ 0 then (if x9 ≤ ((x0 * x1) - 1) then (if x10 ≥ 0 then (if x10 ≤ ((x0 * x1) - 1) then (if x8 ≥ 1 then (if x8 ≤ 10 then (((100 * x8) - (fallZ ((dist1 (x0) (x1) (x2) (x3) (x4) (x5) (x6) (x7) (x9) (x10))))) - x7) else 0) else 0) else 0) else 0) else 0) else 0))
noncomputable def tS1 (x0 : Int) (x1 : Int) (x2 : Int) (x3 : Int) (x4 : Int) (x5 : Int) (x6 : Int) (x7 : Int) (x8 : Int) (x9 : Int) (x10 : Int) : Int := (if (qcheck0 (x0) (x1) (x2) (x3) (x4) (x5) (x6) (x7)) ≠ 0 then 0 else (if x9 ≥ 0 then (if x9 ≤ ((x0 * x1) - 1) then (if x10 ≥ 0 then (if x10 ≤ ((x0 * x1) - 1) then (if x8 ≥ 1 then (if x8 ≤ 10 then (((100 * x8) - (fallZ ((dist0 (x0) (x1) (x2) (x3) (x4) (x5) (x6) (x7) (x9) (x10))))) + x7) else 0) else 0) else 0) else 0) else 0) else 0))
noncomputable def tS2 (x0 : Int) (x1 : Int) (x2 : Int) (x3 : Int) (x4 : Int) (x5 : Int) (x6 : Int) (x7 : Int) (x8 : Int) (x9 : Int) (x10 : Int) : Int := (if (qcheck0 (x0) (x1) (x2) (x3) (x4) (x5) (x6) (x7)) ≠ 0 then (qcheck0 (x0) (x1) (x2) (x3) (x4) (x5) (x6) (x7)) else (if x9 ≥ 0 then (if x9 ≤ ((x0 * x1) - 1) then (if x10 ≥ 0 then (if x10 ≤ ((x0 * x1) - 1) then (if x8 ≥ 1 then (if x8 ≤ 10 then 0 else 3) else 3) else 4) else 4) else 4) else 4))
noncomputable def tS_e0 : List Ent := [⟨(.bin .neq 27), [(.chan (some 11)), (.int .i64 0)], (.bool true)⟩]
noncomputable def tS_c0 : List CEnt := [⟨18, [(.agg #[(.chan (some 0)), (.chan (some 1)), (.chan (some 2)), (.chan (some 3)), (.chan (some 4)), (.chan (some 5)), (.chan (some 6)), (.chan (some 7))])], [], (.chan (some 11))⟩]
set_option maxRecDepth 1000000 in
theorem tS_r0 : ev Try.prog (env.sym tS_e0 tS_c0) 3000 (.call 16 [(.agg #[(.chan (some 0)), (.chan (some 1)), (.chan (some 2)), (.chan (some 3)), (.chan (some 4)), (.chan (some 5)), (.chan (some 6)), (.chan (some 7))]), (.chan (some 8)), (.chan (some 9)), (.chan (some 10))] Ev.start fun v _ => some v) = some (.tuple #[(.agg #[(.int .i64 0), (.int .i64 0)]), (.chan (some 11))]) := by kernel_rfl
noncomputable def tS_e1 : List Ent := [⟨(.bin .neq 27), [(.chan (some 11)), (.int .i64 0)], (.bool false)⟩, ⟨(.bin .mul 3), [(.chan (some 0)), (.chan (some 1))], (.chan (some 12))⟩, ⟨(.bin .sub 3), [(.chan (some 12)), (.int .i64 1)], (.chan (some 13))⟩, ⟨(.bin .geq 3), [(.chan (some 9)), (.int .i64 0)], (.bool true)⟩, ⟨(.bin .leq 3), [(.chan (some 9)), (.chan (some 13))], (.bool true)⟩, ⟨(.bin .geq 3), [(.chan (some 10)), (.int .i64 0)], (.bool true)⟩, ⟨(.bin .leq 3), [(.chan (some 10)), (.chan (some 13))], (.bool true)⟩, ⟨(.bin .geq 3), [(.chan (some 8)), (.int .i64 1)], (.bool true)⟩, ⟨(.bin .leq 3), [(.chan (some 8)), (.int .i64 10)], (.bool true)⟩, ⟨(.bin .mul 3), [(.int .i64 100), (.chan (some 8))], (.chan (some 16))⟩, ⟨(.bin .sub 3), [(.chan (some 16)), (.chan (some 17))], (.chan (some 18))⟩, ⟨(.bin .sub 3), [(.chan (some 18)), (.chan (some 7))], (.chan (some 19))⟩, ⟨(.bin .sub 3), [(.chan (some 16)), (.chan (some 20))], (.chan (some 21))⟩, ⟨(.bin .add 3), [(.chan (some 21)), (.chan (some 7))], (.chan (some 22))⟩]
noncomputable def tS_c1 : List CEnt := [⟨18, [(.agg #[(.chan (some 0)), (.chan (some 1)), (.chan (some 2)), (.chan (some 3)), (.chan (some 4)), (.chan (some 5)), (.chan (some 6)), (.chan (some 7))])], [], (.chan (some 11))⟩, ⟨45, [(.agg #[(.chan (some 0)), (.chan (some 1)), (.chan (some 2)), (.chan (some 3)), (.chan (some 4)), (.chan (some 5)), (.chan (some 6)), (.chan (some 7))]), (.chan (some 9)), (.chan (some 10))], [], (.agg #[(.chan (some 14)), (.chan (some 15))])⟩, ⟨84, [(.chan (some 15))], [], (.chan (some 17))⟩, ⟨84, [(.chan (some 14))], [], (.chan (some 20))⟩]
set_option maxRecDepth 1000000 in
theorem tS_r1 : ev Try.prog (env.sym tS_e1 tS_c1) 3000 (.call 16 [(.agg #[(.chan (some 0)), (.chan (some 1)), (.chan (some 2)), (.chan (some 3)), (.chan (some 4)), (.chan (some 5)), (.chan (some 6)), (.chan (some 7))]), (.chan (some 8)), (.chan (some 9)), (.chan (some 10))] Ev.start fun v _ => some v) = some (.tuple #[(.agg #[(.chan (some 19)), (.chan (some 22))]), (.int .i64 0)]) := by kernel_rfl
noncomputable def tS_e2 : List Ent := [⟨(.bin .neq 27), [(.chan (some 11)), (.int .i64 0)], (.bool false)⟩, ⟨(.bin .mul 3), [(.chan (some 0)), (.chan (some 1))], (.chan (some 12))⟩, ⟨(.bin .sub 3), [(.chan (some 12)), (.int .i64 1)], (.chan (some 13))⟩, ⟨(.bin .geq 3), [(.chan (some 9)), (.int .i64 0)], (.bool true)⟩, ⟨(.bin .leq 3), [(.chan (some 9)), (.chan (some 13))], (.bool true)⟩, ⟨(.bin .geq 3), [(.chan (some 10)), (.int .i64 0)], (.bool true)⟩, ⟨(.bin .leq 3), [(.chan (some 10)), (.chan (some 13))], (.bool true)⟩, ⟨(.bin .geq 3), [(.chan (some 8)), (.int .i64 1)], (.bool true)⟩, ⟨(.bin .leq 3), [(.chan (some 8)), (.int .i64 10)], (.bool false)⟩]
noncomputable def tS_c2 : List CEnt := [⟨18, [(.agg #[(.chan (some 0)), (.chan (some 1)), (.chan (some 2)), (.chan (some 3)), (.chan (some 4)), (.chan (some 5)), (.chan (some 6)), (.chan (some 7))])], [], (.chan (some 11))⟩]
set_option maxRecDepth 1000000 in
theorem tS_r2 : ev Try.prog (env.sym tS_e2 tS_c2) 3000 (.call 16 [(.agg #[(.chan (some 0)), (.chan (some 1)), (.chan (some 2)), (.chan (some 3)), (.chan (some 4)), (.chan (some 5)), (.chan (some 6)), (.chan (some 7))]), (.chan (some 8)), (.chan (some 9)), (.chan (some 10))] Ev.start fun v _ => some v) = some (.tuple #[(.agg #[(.int .i64 0), (.int .i64 0)]), (.int .i64 3)]) := by kernel_rfl
noncomputable def tS_e3 : List Ent := [⟨(.bin .neq 27), [(.chan (some 11)), (.int .i64 0)], (.bool false)⟩, ⟨(.bin .mul 3), [(.chan (some 0)), (.chan (some 1))], (.chan (some 12))⟩, ⟨(.bin .sub 3), [(.chan (some 12)), (.int .i64 1)], (.chan (some 13))⟩, ⟨(.bin .geq 3), [(.chan (some 9)), (.int .i64 0)], (.bool true)⟩, ⟨(.bin .leq 3), [(.chan (some 9)), (.chan (some 13))], (.bool true)⟩, ⟨(.bin .geq 3), [(.chan (some 10)), (.int .i64 0)], (.bool true)⟩, ⟨(.bin .leq 3), [(.chan (some 10)), (.chan (some 13))], (.bool true)⟩, ⟨(.bin .geq 3), [(.chan (some 8)), (.int .i64 1)], (.bool false)⟩]
noncomputable def tS_c3 : List CEnt := [⟨18, [(.agg #[(.chan (some 0)), (.chan (some 1)), (.chan (some 2)), (.chan (some 3)), (.chan (some 4)), (.chan (some 5)), (.chan (some 6)), (.chan (some 7))])], [], (.chan (some 11))⟩]
set_option maxRecDepth 1000000 in
theorem tS_r3 : ev Try.prog (env.sym tS_e3 tS_c3) 3000 (.call 16 [(.agg #[(.chan (some 0)), (.chan (some 1)), (.chan (some 2)), (.chan (some 3)), (.chan (some 4)), (.chan (some 5)), (.chan (some 6)), (.chan (some 7))]), (.chan (some 8)), (.chan (some 9)), (.chan (some 10))] Ev.start fun v _ => some v) = some (.tuple #[(.agg #[(.int .i64 0), (.int .i64 0)]), (.int .i64 3)]) := by kernel_rfl
noncomputable def tS_e4 : List Ent := [⟨(.bin .neq 27), [(.chan (some 11)), (.int .i64 0)], (.bool false)⟩, ⟨(.bin .mul 3), [(.chan (some 0)), (.chan (some 1))], (.chan (some 12))⟩, ⟨(.bin .sub 3), [(.chan (some 12)), (.int .i64 1)], (.chan (some 13))⟩, ⟨(.bin .geq 3), [(.chan (some 9)), (.int .i64 0)], (.bool true)⟩, ⟨(.bin .leq 3), [(.chan (some 9)), (.chan (some 13))], (.bool true)⟩, ⟨(.bin .geq 3), [(.chan (some 10)), (.int .i64 0)], (.bool true)⟩, ⟨(.bin .leq 3), [(.chan (some 10)), (.chan (some 13))], (.bool false)⟩]
noncomputable def tS_c4 : List CEnt := [⟨18, [(.agg #[(.chan (some 0)), (.chan (some 1)), (.chan (some 2)), (.chan (some 3)), (.chan (some 4)), (.chan (some 5)), (.chan (some 6)), (.chan (some 7))])], [], (.chan (some 11))⟩]
set_option maxRecDepth 1000000 in
theorem tS_r4 : ev Try.prog (env.sym tS_e4 tS_c4) 3000 (.call 16 [(.agg #[(.chan (some 0)), (.chan (some 1)), (.chan (some 2)), (.chan (some 3)), (.chan (some 4)), (.chan (some 5)), (.chan (some 6)), (.chan (some 7))]), (.chan (some 8)), (.chan (some 9)), (.chan (some 10))] Ev.start fun v _ => some v) = some (.tuple #[(.agg #[(.int .i64 0), (.int .i64 0)]), (.int .i64 4)]) := by kernel_rfl
noncomputable def tS_e5 : List Ent := [⟨(.bin .neq 27), [(.chan (some 11)), (.int .i64 0)], (.bool false)⟩, ⟨(.bin .mul 3), [(.chan (some 0)), (.chan (some 1))], (.chan (some 12))⟩, ⟨(.bin .sub 3), [(.chan (some 12)), (.int .i64 1)], (.chan (some 13))⟩, ⟨(.bin .geq 3), [(.chan (some 9)), (.int .i64 0)], (.bool true)⟩, ⟨(.bin .leq 3), [(.chan (some 9)), (.chan (some 13))], (.bool true)⟩, ⟨(.bin .geq 3), [(.chan (some 10)), (.int .i64 0)], (.bool false)⟩]
noncomputable def tS_c5 : List CEnt := [⟨18, [(.agg #[(.chan (some 0)), (.chan (some 1)), (.chan (some 2)), (.chan (some 3)), (.chan (some 4)), (.chan (some 5)), (.chan (some 6)), (.chan (some 7))])], [], (.chan (some 11))⟩]
set_option maxRecDepth 1000000 in
theorem tS_r5 : ev Try.prog (env.sym tS_e5 tS_c5) 3000 (.call 16 [(.agg #[(.chan (some 0)), (.chan (some 1)), (.chan (some 2)), (.chan (some 3)), (.chan (some 4)), (.chan (some 5)), (.chan (some 6)), (.chan (some 7))]), (.chan (some 8)), (.chan (some 9)), (.chan (some 10))] Ev.start fun v _ => some v) = some (.tuple #[(.agg #[(.int .i64 0), (.int .i64 0)]), (.int .i64 4)]) := by kernel_rfl
noncomputable def tS_e6 : List Ent := [⟨(.bin .neq 27), [(.chan (some 11)), (.int .i64 0)], (.bool false)⟩, ⟨(.bin .mul 3), [(.chan (some 0)), (.chan (some 1))], (.chan (some 12))⟩, ⟨(.bin .sub 3), [(.chan (some 12)), (.int .i64 1)], (.chan (some 13))⟩, ⟨(.bin .geq 3), [(.chan (some 9)), (.int .i64 0)], (.bool true)⟩, ⟨(.bin .leq 3), [(.chan (some 9)), (.chan (some 13))], (.bool false)⟩]
noncomputable def tS_c6 : List CEnt := [⟨18, [(.agg #[(.chan (some 0)), (.chan (some 1)), (.chan (some 2)), (.chan (some 3)), (.chan (some 4)), (.chan (some 5)), (.chan (some 6)), (.chan (some 7))])], [], (.chan (some 11))⟩]
set_option maxRecDepth 1000000 in
theorem tS_r6 : ev Try.prog (env.sym tS_e6 tS_c6) 3000 (.call 16 [(.agg #[(.chan (some 0)), (.chan (some 1)), (.chan (some 2)), (.chan (some 3)), (.chan (some 4)), (.chan (some 5)), (.chan (some 6)), (.chan (some 7))]), (.chan (some 8)), (.chan (some 9)), (.chan (some 10))] Ev.start fun v _ => some v) = some (.tuple #[(.agg #[(.int .i64 0), (.int .i64 0)]), (.int .i64 4)]) := by kernel_rfl
noncomputable def tS_e7 : List Ent := [⟨(.bin .neq 27), [(.chan (some 11)), (.int .i64 0)], (.bool false)⟩, ⟨(.bin .mul 3), [(.chan (some 0)), (.chan (some 1))], (.chan (some 12))⟩, ⟨(.bin .sub 3), [(.chan (some 12)), (.int .i64 1)], (.chan (some 13))⟩, ⟨(.bin .geq 3), [(.chan (some 9)), (.int .i64 0)], (.bool false)⟩]
noncomputable def tS_c7 : List CEnt := [⟨18, [(.agg #[(.chan (some 0)), (.chan (some 1)), (.chan (some 2)), (.chan (some 3)), (.chan (some 4)), (.chan (some 5)), (.chan (some 6)), (.chan (some 7))])], [], (.chan (some 11))⟩]
set_option maxRecDepth 1000000 in
theorem tS_r7 : ev Try.prog (env.sym tS_e7 tS_c7) 3000 (.call 16 [(.agg #[(.chan (some 0)), (.chan (some 1)), (.chan (some 2)), (.chan (some 3)), (.chan (some 4)), (.chan (some 5)), (.chan (some 6)), (.chan (some 7))]), (.chan (some 8)), (.chan (some 9)), (.chan (some 10))] Ev.start fun v _ => some v) = some (.tuple #[(.agg #[(.int .i64 0), (.int .i64 0)]), (.int .i64 4)]) := by kernel_rfl
set_option maxHeartbeats 8000000 in
set_option maxRecDepth 100000 in
theorem tS_any (x0 : Int) (x1 : Int) (x2 : Int) (x3 : Int) (x4 : Int) (x5 : Int) (x6 : Int) (x7 : Int) (x8 : Int) (x9 : Int) (x10 : Int)  (w : World)  : Calls Try.prog 16 #[(.agg #[(.int .i64 (x0)), (.int .i64 (x1)), (.int .i64 (x2)), (.int .i64 (x3)), (.int .i64 (x4)), (.int .i64 (x5)), (.int .i64 (x6)), (.int .i64 (x7))]), (.int .i64 (x8)), (.int .i64 (x9)), (.int .i64 (x10))] w (fun en w' => en = .returned (.tuple #[(.agg #[(.int .i64 (tS0 x0 x1 x2 x3 x4 x5 x6 x7 x8 x9 x10)), (.int .i64 (tS1 x0 x1 x2 x3 x4 x5 x6 x7 x8 x9 x10))]), (.int .i64 (tS2 x0 x1 x2 x3 x4 x5 x6 x7 x8 x9 x10))]) ∧ Below w.heap.size w w') := by
  have b11 : -9223372036854775808 ≤ (qcheck0 (x0) (x1) (x2) (x3) (x4) (x5) (x6) (x7)) ∧ (qcheck0 (x0) (x1) (x2) (x3) (x4) (x5) (x6) (x7)) ≤ 9223372036854775807 := by have := qcheck_bd (x0 := x0) (x1 := x1) (x2 := x2) (x3 := x3) (x4 := x4) (x5 := x5) (x6 := x6) (x7 := x7); omega
  by_cases c0 : (qcheck0 (x0) (x1) (x2) (x3) (x4) (x5) (x6) (x7)) ≠ 0
  · have q := @calls_sym (Rho.of [(.int .i64 (x0)), (.int .i64 (x1)), (.int .i64 (x2)), (.int .i64 (x3)), (.int .i64 (x4)), (.int .i64 (x5)), (.int .i64 (x6)), (.int .i64 (x7)), (.int .i64 (x8)), (.int .i64 (x9)), (.int .i64 (x10)), (.int .i64 ((qcheck0 (x0) (x1) (x2) (x3) (x4) (x5) (x6) (x7))))] (fun _ => none)) Try.prog _ (@Env.Ok.sym (Rho.of [(.int .i64 (x0)), (.int .i64 (x1)), (.int .i64 (x2)), (.int .i64 (x3)), (.int .i64 (x4)), (.int .i64 (x5)), (.int .i64 (x6)), (.int .i64 (x7)), (.int .i64 (x8)), (.int .i64 (x9)), (.int .i64 (x10)), (.int .i64 ((qcheck0 (x0) (x1) (x2) (x3) (x4) (x5) (x6) (x7))))] (fun _ => none)) _ _ (@env_ok (Rho.of [(.int .i64 (x0)), (.int .i64 (x1)), (.int .i64 (x2)), (.int .i64 (x3)), (.int .i64 (x4)), (.int .i64 (x5)), (.int .i64 (x6)), (.int .i64 (x7)), (.int .i64 (x8)), (.int .i64 (x9)), (.int .i64 (x10)), (.int .i64 ((qcheck0 (x0) (x1) (x2) (x3) (x4) (x5) (x6) (x7))))] (fun _ => none))) tS_e0 tS_c0 ⟨⟨rfl, rfl, fun w hm => (show KeyOk Try.prog w (.bin .neq 27) [(.int .i64 ((qcheck0 (x0) (x1) (x2) (x3) (x4) (x5) (x6) (x7)))), (.int .i64 0)] (.bool true) from k_neq_t c0)⟩, trivial⟩ ⟨(@CEntOk.of (Rho.of [(.int .i64 (x0)), (.int .i64 (x1)), (.int .i64 (x2)), (.int .i64 (x3)), (.int .i64 (x4)), (.int .i64 (x5)), (.int .i64 (x6)), (.int .i64 (x7)), (.int .i64 (x8)), (.int .i64 (x9)), (.int .i64 (x10)), (.int .i64 ((qcheck0 (x0) (x1) (x2) (x3) (x4) (x5) (x6) (x7))))] (fun _ => none)) Try.prog _ 18 _ _ #[(.agg #[(.int .i64 (x0)), (.int .i64 (x1)), (.int .i64 (x2)), (.int .i64 (x3)), (.int .i64 (x4)), (.int .i64 (x5)), (.int .i64 (x6)), (.int .i64 (x7))])] (.int .i64 ((qcheck0 (x0) (x1) (x2) (x3) (x4) (x5) (x6) (x7)))) rfl ⟨Try.f18, (Try.f18.body).getD .skip, by kernel_rfl, by kernel_rfl⟩ rfl rfl rfl (fun w hm => qcheck_any (x0) (x1) (x2) (x3) (x4) (x5) (x6) (x7)  w)), trivial⟩) 3000 16 [(.agg #[(.chan (some 0)), (.chan (some 1)), (.chan (some 2)), (.chan (some 3)), (.chan (some 4)), (.chan (some 5)), (.chan (some 6)), (.chan (some 7))]), (.chan (some 8)), (.chan (some 9)), (.chan (some 10))] (.tuple #[(.agg #[(.int .i64 0), (.int .i64 0)]), (.chan (some 11))]) rfl rfl tS_r0 w (fun _ _ h => nomatch h)
    have v0 : (0 : Int) = tS0 x0 x1 x2 x3 x4 x5 x6 x7 x8 x9 x10 := by
      unfold tS0
      try rw [if_pos c0]
      try rfl
    have v1 : (0 : Int) = tS1 x0 x1 x2 x3 x4 x5 x6 x7 x8 x9 x10 := by
      unfold tS1
      try rw [if_pos c0]
      try rfl
    have v2 : ((qcheck0 (x0) (x1) (x2) (x3) (x4) (x5) (x6) (x7)) : Int) = tS2 x0 x1 x2 x3 x4 x5 x6 x7 x8 x9 x10 := by
      unfold tS2
      try rw [if_pos c0]
      try rfl
    have hv : ((.tuple #[(.agg #[(.int .i64 (0)), (.int .i64 (0))]), (.int .i64 ((qcheck0 (x0) (x1) (x2) (x3) (x4) (x5) (x6) (x7))))]) : Value) = (.tuple #[(.agg #[(.int .i64 (tS0 x0 x1 x2 x3 x4 x5 x6 x7 x8 x9 x10)), (.int .i64 (tS1 x0 x1 x2 x3 x4 x5 x6 x7 x8 x9 x10))]), (.int .i64 (tS2 x0 x1 x2 x3 x4 x5 x6 x7 x8 x9 x10))]) := by rw [← v0, ← v1, ← v2]
    rw [← hv]
    exact q
  · have hv := qcheck_ok (x0 := x0) (x1 := x1) (x2 := x2) (x3 := x3) (x4 := x4) (x5 := x5) (x6 := x6) (x7 := x7) (by omega)
    have hx := mul_bd (a := x0) (b := x1) (A := 24) (B := 24) (C := 576) (by omega) (by omega) (by omega) (by omega)
    obtain ⟨y12, hy12⟩ : ∃ y : Int, y = (x0 * x1) := ⟨_, rfl⟩
    have b12 : 0 ≤ y12 ∧ y12 ≤ 576 := by rw [hy12]; exact mul_bd (A := 24) (B := 24) (C := 576) (by omega) (by omega) (by omega) (by omega)
    replace hy12 : Hid (y12 = (x0 * x1)) := hy12
    obtain ⟨y13, hy13⟩ : ∃ y : Int, y = (y12 - 1) := ⟨_, rfl⟩
    have b13 : (-1) ≤ y13 ∧ y13 ≤ 575 := by rw [hy13]; omega
    replace hy13 : Hid (y13 = (y12 - 1)) := hy13
    by_cases c1 : x9 ≥ 0
    · by_cases c2 : x9 ≤ y13
      · by_cases c3 : x10 ≥ 0
        · by_cases c4 : x10 ≤ y13
          · by_cases c5 : x8 ≥ 1
            · by_cases c6 : x8 ≤ 10
              · have b14 : 0 ≤ (dist0 (x0) (x1) (x2) (x3) (x4) (x5) (x6) (x7) (x9) (x10)) ∧ (dist0 (x0) (x1) (x2) (x3) (x4) (x5) (x6) (x7) (x9) (x10)) ≤ 1048575 := (dist_bd (hv.1) (hv.2.1) (hv.2.2.1) (hv.2.2.2.1) (hv.2.2.2.2.1) (hv.2.2.2.2.2) ⟨(by have e1 : y12 = (x0 * x1) := hy12; have e2 : y13 = (y12 - 1) := hy13; omega), (by have e1 : y12 = (x0 * x1) := hy12; have e2 : y13 = (y12 - 1) := hy13; omega)⟩ ⟨(by have e1 : y12 = (x0 * x1) := hy12; have e2 : y13 = (y12 - 1) := hy13; omega), (by have e1 : y12 = (x0 * x1) := hy12; have e2 : y13 = (y12 - 1) := hy13; omega)⟩).1
                have b15 : 0 ≤ (dist1 (x0) (x1) (x2) (x3) (x4) (x5) (x6) (x7) (x9) (x10)) ∧ (dist1 (x0) (x1) (x2) (x3) (x4) (x5) (x6) (x7) (x9) (x10)) ≤ 1048576 := (dist_bd (hv.1) (hv.2.1) (hv.2.2.1) (hv.2.2.2.1) (hv.2.2.2.2.1) (hv.2.2.2.2.2) ⟨(by have e1 : y12 = (x0 * x1) := hy12; have e2 : y13 = (y12 - 1) := hy13; omega), (by have e1 : y12 = (x0 * x1) := hy12; have e2 : y13 = (y12 - 1) := hy13; omega)⟩ ⟨(by have e1 : y12 = (x0 * x1) := hy12; have e2 : y13 = (y12 - 1) := hy13; omega), (by have e1 : y12 = (x0 * x1) := hy12; have e2 : y13 = (y12 - 1) := hy13; omega)⟩).2
                obtain ⟨y16, hy16⟩ : ∃ y : Int, y = (100 * x8) := ⟨_, rfl⟩
                have b16 : 100 ≤ y16 ∧ y16 ≤ 1000 := by rw [hy16]; omega
                replace hy16 : Hid (y16 = (100 * x8)) := hy16
                have b17 : 0 ≤ (fallZ ((dist1 (x0) (x1) (x2) (x3) (x4) (x5) (x6) (x7) (x9) (x10)))) ∧ (fallZ ((dist1 (x0) (x1) (x2) (x3) (x4) (x5) (x6) (x7) (x9) (x10)))) ≤ 450 := fall_bd (d := (dist1 (x0) (x1) (x2) (x3) (x4) (x5) (x6) (x7) (x9) (x10))) (by omega) (by omega)
                obtain ⟨y18, hy18⟩ : ∃ y : Int, y = (y16 - (fallZ ((dist1 (x0) (x1) (x2) (x3) (x4) (x5) (x6) (x7) (x9) (x10))))) := ⟨_, rfl⟩
                have b18 : (-350) ≤ y18 ∧ y18 ≤ 1000 := by rw [hy18]; omega
                replace hy18 : Hid (y18 = (y16 - (fallZ ((dist1 (x0) (x1) (x2) (x3) (x4) (x5) (x6) (x7) (x9) (x10)))))) := hy18
                obtain ⟨y19, hy19⟩ : ∃ y : Int, y = (y18 - x7) := ⟨_, rfl⟩
                have b19 : (-1350) ≤ y19 ∧ y19 ≤ 1000 := by rw [hy19]; omega
                replace hy19 : Hid (y19 = (y18 - x7)) := hy19
                have b20 : 0 ≤ (fallZ ((dist0 (x0) (x1) (x2) (x3) (x4) (x5) (x6) (x7) (x9) (x10)))) ∧ (fallZ ((dist0 (x0) (x1) (x2) (x3) (x4) (x5) (x6) (x7) (x9) (x10)))) ≤ 450 := fall_bd (d := (dist0 (x0) (x1) (x2) (x3) (x4) (x5) (x6) (x7) (x9) (x10))) (by omega) (by omega)
                obtain ⟨y21, hy21⟩ : ∃ y : Int, y = (y16 - (fallZ ((dist0 (x0) (x1) (x2) (x3) (x4) (x5) (x6) (x7) (x9) (x10))))) := ⟨_, rfl⟩
                have b21 : (-350) ≤ y21 ∧ y21 ≤ 1000 := by rw [hy21]; omega
                replace hy21 : Hid (y21 = (y16 - (fallZ ((dist0 (x0) (x1) (x2) (x3) (x4) (x5) (x6) (x7) (x9) (x10)))))) := hy21
                obtain ⟨y22, hy22⟩ : ∃ y : Int, y = (y21 + x7) := ⟨_, rfl⟩
                have b22 : (-350) ≤ y22 ∧ y22 ≤ 2000 := by rw [hy22]; omega
                replace hy22 : Hid (y22 = (y21 + x7)) := hy22
                have q := @calls_sym (Rho.of [(.int .i64 (x0)), (.int .i64 (x1)), (.int .i64 (x2)), (.int .i64 (x3)), (.int .i64 (x4)), (.int .i64 (x5)), (.int .i64 (x6)), (.int .i64 (x7)), (.int .i64 (x8)), (.int .i64 (x9)), (.int .i64 (x10)), (.int .i64 ((qcheck0 (x0) (x1) (x2) (x3) (x4) (x5) (x6) (x7)))), (.int .i64 (y12)), (.int .i64 (y13)), (.int .i64 ((dist0 (x0) (x1) (x2) (x3) (x4) (x5) (x6) (x7) (x9) (x10)))), (.int .i64 ((dist1 (x0) (x1) (x2) (x3) (x4) (x5) (x6) (x7) (x9) (x10)))), (.int .i64 (y16)), (.int .i64 ((fallZ ((dist1 (x0) (x1) (x2) (x3) (x4) (x5) (x6) (x7) (x9) (x10)))))), (.int .i64 (y18)), (.int .i64 (y19)), (.int .i64 ((fallZ ((dist0 (x0) (x1) (x2) (x3) (x4) (x5) (x6) (x7) (x9) (x10)))))), (.int .i64 (y21)), (.int .i64 (y22))] (fun _ => none)) Try.prog _ (@Env.Ok.sym (Rho.of [(.int .i64 (x0)), (.int .i64 (x1)), (.int .i64 (x2)), (.int .i64 (x3)), (.int .i64 (x4)), (.int .i64 (x5)), (.int .i64 (x6)), (.int .i64 (x7)), (.int .i64 (x8)), (.int .i64 (x9)), (.int .i64 (x10)), (.int .i64 ((qcheck0 (x0) (x1) (x2) (x3) (x4) (x5) (x6) (x7)))), (.int .i64 (y12)), (.int .i64 (y13)), (.int .i64 ((dist0 (x0) (x1) (x2) (x3) (x4) (x5) (x6) (x7) (x9) (x10)))), (.int .i64 ((dist1 (x0) (x1) (x2) (x3) (x4) (x5) (x6) (x7) (x9) (x10)))), (.int .i64 (y16)), (.int .i64 ((fallZ ((dist1 (x0) (x1) (x2) (x3) (x4) (x5) (x6) (x7) (x9) (x10)))))), (.int .i64 (y18)), (.int .i64 (y19)), (.int .i64 ((fallZ ((dist0 (x0) (x1) (x2) (x3) (x4) (x5) (x6) (x7) (x9) (x10)))))), (.int .i64 (y21)), (.int .i64 (y22))] (fun _ => none)) _ _ (@env_ok (Rho.of [(.int .i64 (x0)), (.int .i64 (x1)), (.int .i64 (x2)), (.int .i64 (x3)), (.int .i64 (x4)), (.int .i64 (x5)), (.int .i64 (x6)), (.int .i64 (x7)), (.int .i64 (x8)), (.int .i64 (x9)), (.int .i64 (x10)), (.int .i64 ((qcheck0 (x0) (x1) (x2) (x3) (x4) (x5) (x6) (x7)))), (.int .i64 (y12)), (.int .i64 (y13)), (.int .i64 ((dist0 (x0) (x1) (x2) (x3) (x4) (x5) (x6) (x7) (x9) (x10)))), (.int .i64 ((dist1 (x0) (x1) (x2) (x3) (x4) (x5) (x6) (x7) (x9) (x10)))), (.int .i64 (y16)), (.int .i64 ((fallZ ((dist1 (x0) (x1) (x2) (x3) (x4) (x5) (x6) (x7) (x9) (x10)))))), (.int .i64 (y18)), (.int .i64 (y19)), (.int .i64 ((fallZ ((dist0 (x0) (x1) (x2) (x3) (x4) (x5) (x6) (x7) (x9) (x10)))))), (.int .i64 (y21)), (.int .i64 (y22))] (fun _ => none))) tS_e1 tS_c1 ⟨⟨rfl, rfl, fun w hm => (show KeyOk Try.prog w (.bin .neq 27) [(.int .i64 ((qcheck0 (x0) (x1) (x2) (x3) (x4) (x5) (x6) (x7)))), (.int .i64 0)] (.bool false) from k_neq_f c0)⟩, ⟨rfl, rfl, fun w hm => (show KeyOk Try.prog w (.bin .mul 3) [(.int .i64 (x0)), (.int .i64 (x1))] (.int .i64 (y12)) from key_eq (e := (x0 * x1)) hy12 (have ey : y12 = (x0 * x1) := hy12; k_mul (wrap64 (by omega))))⟩, ⟨rfl, rfl, fun w hm => (show KeyOk Try.prog w (.bin .sub 3) [(.int .i64 (y12)), (.int .i64 1)] (.int .i64 (y13)) from key_eq (e := (y12 - 1)) hy13 (have ey : y13 = (y12 - 1) := hy13; k_sub (wrap64 (by omega))))⟩, ⟨rfl, rfl, fun w hm => (show KeyOk Try.prog w (.bin .geq 3) [(.int .i64 (x9)), (.int .i64 0)] (.bool true) from k_geq_t c1)⟩, ⟨rfl, rfl, fun w hm => (show KeyOk Try.prog w (.bin .leq 3) [(.int .i64 (x9)), (.int .i64 (y13))] (.bool true) from k_leq_t c2)⟩, ⟨rfl, rfl, fun w hm => (show KeyOk Try.prog w (.bin .geq 3) [(.int .i64 (x10)), (.int .i64 0)] (.bool true) from k_geq_t c3)⟩, ⟨rfl, rfl, fun w hm => (show KeyOk Try.prog w (.bin .leq 3) [(.int .i64 (x10)), (.int .i64 (y13))] (.bool true) from k_leq_t c4)⟩, ⟨rfl, rfl, fun w hm => (show KeyOk Try.prog w (.bin .geq 3) [(.int .i64 (x8)), (.int .i64 1)] (.bool true) from k_geq_t c5)⟩, ⟨rfl, rfl, fun w hm => (show KeyOk Try.prog w (.bin .leq 3) [(.int .i64 (x8)), (.int .i64 10)] (.bool true) from k_leq_t c6)⟩, ⟨rfl, rfl, fun w hm => (show KeyOk Try.prog w (.bin .mul 3) [(.int .i64 100), (.int .i64 (x8))] (.int .i64 (y16)) from key_eq (e := (100 * x8)) hy16 (have ey : y16 = (100 * x8) := hy16; k_mul (wrap64 (by omega))))⟩, ⟨rfl, rfl, fun w hm => (show KeyOk Try.prog w (.bin .sub 3) [(.int .i64 (y16)), (.int .i64 ((fallZ ((dist1 (x0) (x1) (x2) (x3) (x4) (x5) (x6) (x7) (x9) (x10))))))] (.int .i64 (y18)) from key_eq (e := (y16 - (fallZ ((dist1 (x0) (x1) (x2) (x3) (x4) (x5) (x6) (x7) (x9) (x10)))))) hy18 (have ey : y18 = (y16 - (fallZ ((dist1 (x0) (x1) (x2) (x3) (x4) (x5) (x6) (x7) (x9) (x10))))) := hy18; k_sub (wrap64 (by omega))))⟩, ⟨rfl, rfl, fun w hm => (show KeyOk Try.prog w (.bin .sub 3) [(.int .i64 (y18)), (.int .i64 (x7))] (.int .i64 (y19)) from key_eq (e := (y18 - x7)) hy19 (have ey : y19 = (y18 - x7) := hy19; k_sub (wrap64 (by omega))))⟩, ⟨rfl, rfl, fun w hm => (show KeyOk Try.prog w (.bin .sub 3) [(.int .i64 (y16)), (.int .i64 ((fallZ ((dist0 (x0) (x1) (x2) (x3) (x4) (x5) (x6) (x7) (x9) (x10))))))] (.int .i64 (y21)) from key_eq (e := (y16 - (fallZ ((dist0 (x0) (x1) (x2) (x3) (x4) (x5) (x6) (x7) (x9) (x10)))))) hy21 (have ey : y21 = (y16 - (fallZ ((dist0 (x0) (x1) (x2) (x3) (x4) (x5) (x6) (x7) (x9) (x10))))) := hy21; k_sub (wrap64 (by omega))))⟩, ⟨rfl, rfl, fun w hm => (show KeyOk Try.prog w (.bin .add 3) [(.int .i64 (y21)), (.int .i64 (x7))] (.int .i64 (y22)) from key_eq (e := (y21 + x7)) hy22 (have ey : y22 = (y21 + x7) := hy22; k_add (wrap64 (by omega))))⟩, trivial⟩ ⟨(@CEntOk.of (Rho.of [(.int .i64 (x0)), (.int .i64 (x1)), (.int .i64 (x2)), (.int .i64 (x3)), (.int .i64 (x4)), (.int .i64 (x5)), (.int .i64 (x6)), (.int .i64 (x7)), (.int .i64 (x8)), (.int .i64 (x9)), (.int .i64 (x10)), (.int .i64 ((qcheck0 (x0) (x1) (x2) (x3) (x4) (x5) (x6) (x7)))), (.int .i64 (y12)), (.int .i64 (y13)), (.int .i64 ((dist0 (x0) (x1) (x2) (x3) (x4) (x5) (x6) (x7) (x9) (x10)))), (.int .i64 ((dist1 (x0) (x1) (x2) (x3) (x4) (x5) (x6) (x7) (x9) (x10)))), (.int .i64 (y16)), (.int .i64 ((fallZ ((dist1 (x0) (x1) (x2) (x3) (x4) (x5) (x6) (x7) (x9) (x10)))))), (.int .i64 (y18)), (.int .i64 (y19)), (.int .i64 ((fallZ ((dist0 (x0) (x1) (x2) (x3) (x4) (x5) (x6) (x7) (x9) (x10)))))), (.int .i64 (y21)), (.int .i64 (y22))] (fun _ => none)) Try.prog _ 18 _ _ #[(.agg #[(.int .i64 (x0)), (.int .i64 (x1)), (.int .i64 (x2)), (.int .i64 (x3)), (.int .i64 (x4)), (.int .i64 (x5)), (.int .i64 (x6)), (.int .i64 (x7))])] (.int .i64 ((qcheck0 (x0) (x1) (x2) (x3) (x4) (x5) (x6) (x7)))) rfl ⟨Try.f18, (Try.f18.body).getD .skip, by kernel_rfl, by kernel_rfl⟩ rfl rfl rfl (fun w hm => qcheck_any (x0) (x1) (x2) (x3) (x4) (x5) (x6) (x7)  w)), (@CEntOk.of (Rho.of [(.int .i64 (x0)), (.int .i64 (x1)), (.int .i64 (x2)), (.int .i64 (x3)), (.int .i64 (x4)), (.int .i64 (x5)), (.int .i64 (x6)), (.int .i64 (x7)), (.int .i64 (x8)), (.int .i64 (x9)), (.int .i64 (x10)), (.int .i64 ((qcheck0 (x0) (x1) (x2) (x3) (x4) (x5) (x6) (x7)))), (.int .i64 (y12)), (.int .i64 (y13)), (.int .i64 ((dist0 (x0) (x1) (x2) (x3) (x4) (x5) (x6) (x7) (x9) (x10)))), (.int .i64 ((dist1 (x0) (x1) (x2) (x3) (x4) (x5) (x6) (x7) (x9) (x10)))), (.int .i64 (y16)), (.int .i64 ((fallZ ((dist1 (x0) (x1) (x2) (x3) (x4) (x5) (x6) (x7) (x9) (x10)))))), (.int .i64 (y18)), (.int .i64 (y19)), (.int .i64 ((fallZ ((dist0 (x0) (x1) (x2) (x3) (x4) (x5) (x6) (x7) (x9) (x10)))))), (.int .i64 (y21)), (.int .i64 (y22))] (fun _ => none)) Try.prog _ 45 _ _ #[(.agg #[(.int .i64 (x0)), (.int .i64 (x1)), (.int .i64 (x2)), (.int .i64 (x3)), (.int .i64 (x4)), (.int .i64 (x5)), (.int .i64 (x6)), (.int .i64 (x7))]), (.int .i64 (x9)), (.int .i64 (x10))] (.agg #[(.int .i64 ((dist0 (x0) (x1) (x2) (x3) (x4) (x5) (x6) (x7) (x9) (x10)))), (.int .i64 ((dist1 (x0) (x1) (x2) (x3) (x4) (x5) (x6) (x7) (x9) (x10))))]) rfl ⟨Try.f45, (Try.f45.body).getD .skip, by kernel_rfl, by kernel_rfl⟩ rfl rfl rfl (fun w hm => dist_any (x0) (x1) (x2) (x3) (x4) (x5) (x6) (x7) (x9) (x10) (hv.1) (hv.2.1) (hv.2.2.1) (hv.2.2.2.1) (hv.2.2.2.2.1) (hv.2.2.2.2.2) ⟨(by have e1 : y12 = (x0 * x1) := hy12; have e2 : y13 = (y12 - 1) := hy13; omega), (by have e1 : y12 = (x0 * x1) := hy12; have e2 : y13 = (y12 - 1) := hy13; omega)⟩ ⟨(by have e1 : y12 = (x0 * x1) := hy12; have e2 : y13 = (y12 - 1) := hy13; omega), (by have e1 : y12 = (x0 * x1) := hy12; have e2 : y13 = (y12 - 1) := hy13; omega)⟩ w)), (@CEntOk.of (Rho.of [(.int .i64 (x0)), (.int .i64 (x1)), (.int .i64 (x2)), (.int .i64 (x3)), (.int .i64 (x4)), (.int .i64 (x5)), (.int .i64 (x6)), (.int .i64 (x7)), (.int .i64 (x8)), (.int .i64 (x9)), (.int .i64 (x10)), (.int .i64 ((qcheck0 (x0) (x1) (x2) (x3) (x4) (x5) (x6) (x7)))), (.int .i64 (y12)), (.int .i64 (y13)), (.int .i64 ((dist0 (x0) (x1) (x2) (x3) (x4) (x5) (x6) (x7) (x9) (x10)))), (.int .i64 ((dist1 (x0) (x1) (x2) (x3) (x4) (x5) (x6) (x7) (x9) (x10)))), (.int .i64 (y16)), (.int .i64 ((fallZ ((dist1 (x0) (x1) (x2) (x3) (x4) (x5) (x6) (x7) (x9) (x10)))))), (.int .i64 (y18)), (.int .i64 (y19)), (.int .i64 ((fallZ ((dist0 (x0) (x1) (x2) (x3) (x4) (x5) (x6) (x7) (x9) (x10)))))), (.int .i64 (y21)), (.int .i64 (y22))] (fun _ => none)) Try.prog _ 84 _ _ #[(.int .i64 ((dist1 (x0) (x1) (x2) (x3) (x4) (x5) (x6) (x7) (x9) (x10))))] (.int .i64 ((fallZ ((dist1 (x0) (x1) (x2) (x3) (x4) (x5) (x6) (x7) (x9) (x10)))))) rfl ⟨Try.f84, (Try.f84.body).getD .skip, by kernel_rfl, by kernel_rfl⟩ rfl rfl rfl (fun w hm => fall_any ((dist1 (x0) (x1) (x2) (x3) (x4) (x5) (x6) (x7) (x9) (x10))) (by omega) (by omega) w)), (@CEntOk.of (Rho.of [(.int .i64 (x0)), (.int .i64 (x1)), (.int .i64 (x2)), (.int .i64 (x3)), (.int .i64 (x4)), (.int .i64 (x5)), (.int .i64 (x6)), (.int .i64 (x7)), (.int .i64 (x8)), (.int .i64 (x9)), (.int .i64 (x10)), (.int .i64 ((qcheck0 (x0) (x1) (x2) (x3) (x4) (x5) (x6) (x7)))), (.int .i64 (y12)), (.int .i64 (y13)), (.int .i64 ((dist0 (x0) (x1) (x2) (x3) (x4) (x5) (x6) (x7) (x9) (x10)))), (.int .i64 ((dist1 (x0) (x1) (x2) (x3) (x4) (x5) (x6) (x7) (x9) (x10)))), (.int .i64 (y16)), (.int .i64 ((fallZ ((dist1 (x0) (x1) (x2) (x3) (x4) (x5) (x6) (x7) (x9) (x10)))))), (.int .i64 (y18)), (.int .i64 (y19)), (.int .i64 ((fallZ ((dist0 (x0) (x1) (x2) (x3) (x4) (x5) (x6) (x7) (x9) (x10)))))), (.int .i64 (y21)), (.int .i64 (y22))] (fun _ => none)) Try.prog _ 84 _ _ #[(.int .i64 ((dist0 (x0) (x1) (x2) (x3) (x4) (x5) (x6) (x7) (x9) (x10))))] (.int .i64 ((fallZ ((dist0 (x0) (x1) (x2) (x3) (x4) (x5) (x6) (x7) (x9) (x10)))))) rfl ⟨Try.f84, (Try.f84.body).getD .skip, by kernel_rfl, by kernel_rfl⟩ rfl rfl rfl (fun w hm => fall_any ((dist0 (x0) (x1) (x2) (x3) (x4) (x5) (x6) (x7) (x9) (x10))) (by omega) (by omega) w)), trivial⟩) 3000 16 [(.agg #[(.chan (some 0)), (.chan (some 1)), (.chan (some 2)), (.chan (some 3)), (.chan (some 4)), (.chan (some 5)), (.chan (some 6)), (.chan (some 7))]), (.chan (some 8)), (.chan (some 9)), (.chan (some 10))] (.tuple #[(.agg #[(.chan (some 19)), (.chan (some 22))]), (.int .i64 0)]) rfl rfl tS_r1 w (fun _ _ h => nomatch h)
                have v0 : (y19 : Int) = tS0 x0 x1 x2 x3 x4 x5 x6 x7 x8 x9 x10 := by
                  have e12 : y12 = (x0 * x1) := hy12
                  have e13 : y13 = (y12 - 1) := hy13
                  have e16 : y16 = (100 * x8) := hy16
                  have e18 : y18 = (y16 - (fallZ ((dist1 (x0) (x1) (x2) (x3) (x4) (x5) (x6) (x7) (x9) (x10))))) := hy18
                  have e19 : y19 = (y18 - x7) := hy19
                  have e21 : y21 = (y16 - (fallZ ((dist0 (x0) (x1) (x2) (x3) (x4) (x5) (x6) (x7) (x9) (x10))))) := hy21
                  have e22 : y22 = (y21 + x7) := hy22
                  try simp only [e12, e13, e16, e18, e19, e21, e22] at c0
                  try simp only [e12, e13, e16, e18, e19, e21, e22] at c1
                  try simp only [e12, e13, e16, e18, e19, e21, e22] at c2
                  try simp only [e12, e13, e16, e18, e19, e21, e22] at c3
                  try simp only [e12, e13, e16, e18, e19, e21, e22] at c4
                  try simp only [e12, e13, e16, e18, e19, e21, e22] at c5
                  try simp only [e12, e13, e16, e18, e19, e21, e22] at c6
                  unfold tS0
                  try rw [if_neg c0]
                  try rw [if_pos c1]
                  try rw [if_pos c2]
                  try rw [if_pos c3]
                  try rw [if_pos c4]
                  try rw [if_pos c5]
                  try rw [if_pos c6]
                  try simp only [e12, e13, e16, e18, e19, e21, e22]
                have v1 : (y22 : Int) = tS1 x0 x1 x2 x3 x4 x5 x6 x7 x8 x9 x10 := by
                  have e12 : y12 = (x0 * x1) := hy12
                  have e13 : y13 = (y12 - 1) := hy13
                  have e16 : y16 = (100 * x8) := hy16
                  have e18 : y18 = (y16 - (fallZ ((dist1 (x0) (x1) (x2) (x3) (x4) (x5) (x6) (x7) (x9) (x10))))) := hy18
                  have e19 : y19 = (y18 - x7) := hy19
                  have e21 : y21 = (y16 - (fallZ ((dist0 (x0) (x1) (x2) (x3) (x4) (x5) (x6) (x7) (x9) (x10))))) := hy21
                  have e22 : y22 = (y21 + x7) := hy22
                  try simp only [e12, e13, e16, e18, e19, e21, e22] at c0
                  try simp only [e12, e13, e16, e18, e19, e21, e22] at c1
                  try simp only [e12, e13, e16, e18, e19, e21, e22] at c2
                  try simp only [e12, e13, e16, e18, e19, e21, e22] at c3
                  try simp only [e12, e13, e16, e18, e19, e21, e22] at c4
                  try simp only [e12, e13, e16, e18, e19, e21, e22] at c5
                  try simp only [e12, e13, e16, e18, e19, e21, e22] at c6
                  unfold tS1
                  try rw [if_neg c0]
                  try rw [if_pos c1]
                  try rw [if_pos c2]
                  try rw [if_pos c3]
                  try rw [if_pos c4]
                  try rw [if_pos c5]
                  try rw [if_pos c6]
                  try simp only [e12, e13, e16, e18, e19, e21, e22]
                have v2 : (0 : Int) = tS2 x0 x1 x2 x3 x4 x5 x6 x7 x8 x9 x10 := by
                  have e12 : y12 = (x0 * x1) := hy12
                  have e13 : y13 = (y12 - 1) := hy13
                  have e16 : y16 = (100 * x8) := hy16
                  have e18 : y18 = (y16 - (fallZ ((dist1 (x0) (x1) (x2) (x3) (x4) (x5) (x6) (x7) (x9) (x10))))) := hy18
                  have e19 : y19 = (y18 - x7) := hy19
                  have e21 : y21 = (y16 - (fallZ ((dist0 (x0) (x1) (x2) (x3) (x4) (x5) (x6) (x7) (x9) (x10))))) := hy21
                  have e22 : y22 = (y21 + x7) := hy22
                  try simp only [e12, e13, e16, e18, e19, e21, e22] at c0
                  try simp only [e12, e13, e16, e18, e19, e21, e22] at c1
                  try simp only [e12, e13, e16, e18, e19, e21, e22] at c2
                  try simp only [e12, e13, e16, e18, e19, e21, e22] at c3
                  try simp only [e12, e13, e16, e18, e19, e21, e22] at c4
                  try simp only [e12, e13, e16, e18, e19, e21, e22] at c5
                  try simp only [e12, e13, e16, e18, e19, e21, e22] at c6
                  unfold tS2
                  try rw [if_neg c0]
                  try rw [if_pos c1]
                  try rw [if_pos c2]
                  try rw [if_pos c3]
                  try rw [if_pos c4]
                  try rw [if_pos c5]
                  try rw [if_pos c6]
                  try simp only [e12, e13, e16, e18, e19, e21, e22]
                have hv : ((.tuple #[(.agg #[(.int .i64 (y19)), (.int .i64 (y22))]), (.int .i64 (0))]) : Value) = (.tuple #[(.agg #[(.int .i64 (tS0 x0 x1 x2 x3 x4 x5 x6 x7 x8 x9 x10)), (.int .i64 (tS1 x0 x1 x2 x3 x4 x5 x6 x7 x8 x9 x10))]), (.int .i64 (tS2 x0 x1 x2 x3 x4 x5 x6 x7 x8 x9 x10))]) := by rw [← v0, ← v1, ← v2]
                rw [← hv]
                exact q
              · have q := @calls_sym (Rho.of [(.int .i64 (x0)), (.int .i64 (x1)), (.int .i64 (x2)), (.int .i64 (x3)), (.int .i64 (x4)), (.int .i64 (x5)), (.int .i64 (x6)), (.int .i64 (x7)), (.int .i64 (x8)), (.int .i64 (x9)), (.int .i64 (x10)), (.int .i64 ((qcheck0 (x0) (x1) (x2) (x3) (x4) (x5) (x6) (x7)))), (.int .i64 (y12)), (.int .i64 (y13))] (fun _ => none)) Try.prog _ (@Env.Ok.sym (Rho.of [(.int .i64 (x0)), (.int .i64 (x1)), (.int .i64 (x2)), (.int .i64 (x3)), (.int .i64 (x4)), (.int .i64 (x5)), (.int .i64 (x6)), (.int .i64 (x7)), (.int .i64 (x8)), (.int .i64 (x9)), (.int .i64 (x10)), (.int .i64 ((qcheck0 (x0) (x1) (x2) (x3) (x4) (x5) (x6) (x7)))), (.int .i64 (y12)), (.int .i64 (y13))] (fun _ => none)) _ _ (@env_ok (Rho.of [(.int .i64 (x0)), (.int .i64 (x1)), (.int .i64 (x2)), (.int .i64 (x3)), (.int .i64 (x4)), (.int .i64 (x5)), (.int .i64 (x6)), (.int .i64 (x7)), (.int .i64 (x8)), (.int .i64 (x9)), (.int .i64 (x10)), (.int .i64 ((qcheck0 (x0) (x1) (x2) (x3) (x4) (x5) (x6) (x7)))), (.int .i64 (y12)), (.int .i64 (y13))] (fun _ => none))) tS_e2 tS_c2 ⟨⟨rfl, rfl, fun w hm => (show KeyOk Try.prog w (.bin .neq 27) [(.int .i64 ((qcheck0 (x0) (x1) (x2) (x3) (x4) (x5) (x6) (x7)))), (.int .i64 0)] (.bool false) from k_neq_f c0)⟩, ⟨rfl, rfl, fun w hm => (show KeyOk Try.prog w (.bin .mul 3) [(.int .i64 (x0)), (.int .i64 (x1))] (.int .i64 (y12)) from key_eq (e := (x0 * x1)) hy12 (have ey : y12 = (x0 * x1) := hy12; k_mul (wrap64 (by omega))))⟩, ⟨rfl, rfl, fun w hm => (show KeyOk Try.prog w (.bin .sub 3) [(.int .i64 (y12)), (.int .i64 1)] (.int .i64 (y13)) from key_eq (e := (y12 - 1)) hy13 (have ey : y13 = (y12 - 1) := hy13; k_sub (wrap64 (by omega))))⟩, ⟨rfl, rfl, fun w hm => (show KeyOk Try.prog w (.bin .geq 3) [(.int .i64 (x9)), (.int .i64 0)] (.bool true) from k_geq_t c1)⟩, ⟨rfl, rfl, fun w hm => (show KeyOk Try.prog w (.bin .leq 3) [(.int .i64 (x9)), (.int .i64 (y13))] (.bool true) from k_leq_t c2)⟩, ⟨rfl, rfl, fun w hm => (show KeyOk Try.prog w (.bin .geq 3) [(.int .i64 (x10)), (.int .i64 0)] (.bool true) from k_geq_t c3)⟩, ⟨rfl, rfl, fun w hm => (show KeyOk Try.prog w (.bin .leq 3) [(.int .i64 (x10)), (.int .i64 (y13))] (.bool true) from k_leq_t c4)⟩, ⟨rfl, rfl, fun w hm => (show KeyOk Try.prog w (.bin .geq 3) [(.int .i64 (x8)), (.int .i64 1)] (.bool true) from k_geq_t c5)⟩, ⟨rfl, rfl, fun w hm => (show KeyOk Try.prog w (.bin .leq 3) [(.int .i64 (x8)), (.int .i64 10)] (.bool false) from k_leq_f c6)⟩, trivial⟩ ⟨(@CEntOk.of (Rho.of [(.int .i64 (x0)), (.int .i64 (x1)), (.int .i64 (x2)), (.int .i64 (x3)), (.int .i64 (x4)), (.int .i64 (x5)), (.int .i64 (x6)), (.int .i64 (x7)), (.int .i64 (x8)), (.int .i64 (x9)), (.int .i64 (x10)), (.int .i64 ((qcheck0 (x0) (x1) (x2) (x3) (x4) (x5) (x6) (x7)))), (.int .i64 (y12)), (.int .i64 (y13))] (fun _ => none)) Try.prog _ 18 _ _ #[(.agg #[(.int .i64 (x0)), (.int .i64 (x1)), (.int .i64 (x2)), (.int .i64 (x3)), (.int .i64 (x4)), (.int .i64 (x5)), (.int .i64 (x6)), (.int .i64 (x7))])] (.int .i64 ((qcheck0 (x0) (x1) (x2) (x3) (x4) (x5) (x6) (x7)))) rfl ⟨Try.f18, (Try.f18.body).getD .skip, by kernel_rfl, by kernel_rfl⟩ rfl rfl rfl (fun w hm => qcheck_any (x0) (x1) (x2) (x3) (x4) (x5) (x6) (x7)  w)), trivial⟩) 3000 16 [(.agg #[(.chan (some 0)), (.chan (some 1)), (.chan (some 2)), (.chan (some 3)), (.chan (some 4)), (.chan (some 5)), (.chan (some 6)), (.chan (some 7))]), (.chan (some 8)), (.chan (some 9)), (.chan (some 10))] (.tuple #[(.agg #[(.int .i64 0), (.int .i64 0)]), (.int .i64 3)]) rfl rfl tS_r2 w (fun _ _ h => nomatch h)
                have v0 : (0 : Int) = tS0 x0 x1 x2 x3 x4 x5 x6 x7 x8 x9 x10 := by
                  have e12 : y12 = (x0 * x1) := hy12
                  have e13 : y13 = (y12 - 1) := hy13
                  try simp only [e12, e13] at c0
                  try simp only [e12, e13] at c1
                  try simp only [e12, e13] at c2
                  try simp only [e12, e13] at c3
                  try simp only [e12, e13] at c4
                  try simp only [e12, e13] at c5
                  try simp only [e12, e13] at c6
                  unfold tS0
                  try rw [if_neg c0]
                  try rw [if_pos c1]
                  try rw [if_pos c2]
                  try rw [if_pos c3]
                  try rw [if_pos c4]
                  try rw [if_pos c5]
                  try rw [if_neg c6]
                  try simp only [e12, e13]
                have v1 : (0 : Int) = tS1 x0 x1 x2 x3 x4 x5 x6 x7 x8 x9 x10 := by
                  have e12 : y12 = (x0 * x1) := hy12
                  have e13 : y13 = (y12 - 1) := hy13
                  try simp only [e12, e13] at c0
                  try simp only [e12, e13] at c1
                  try simp only [e12, e13] at c2
                  try simp only [e12, e13] at c3
                  try simp only [e12, e13] at c4
                  try simp only [e12, e13] at c5
                  try simp only [e12, e13] at c6
                  unfold tS1
                  try rw [if_neg c0]
                  try rw [if_pos c1]
                  try rw [if_pos c2]
                  try rw [if_pos c3]
                  try rw [if_pos c4]
                  try rw [if_pos c5]
                  try rw [if_neg c6]
                  try simp only [e12, e13]
                have v2 : (3 : Int) = tS2 x0 x1 x2 x3 x4 x5 x6 x7 x8 x9 x10 := by
                  have e12 : y12 = (x0 * x1) := hy12
                  have e13 : y13 = (y12 - 1) := hy13
                  try simp only [e12, e13] at c0
                  try simp only [e12, e13] at c1
                  try simp only [e12, e13] at c2
                  try simp only [e12, e13] at c3
                  try simp only [e12, e13] at c4
                  try simp only [e12, e13] at c5
                  try simp only [e12, e13] at c6
                  unfold tS2
                  try rw [if_neg c0]
                  try rw [if_pos c1]
                  try rw [if_pos c2]
                  try rw [if_pos c3]
                  try rw [if_pos c4]
                  try rw [if_pos c5]
                  try rw [if_neg c6]
                  try simp only [e12, e13]
                have hv : ((.tuple #[(.agg #[(.int .i64 (0)), (.int .i64 (0))]), (.int .i64 (3))]) : Value) = (.tuple #[(.agg #[(.int .i64 (tS0 x0 x1 x2 x3 x4 x5 x6 x7 x8 x9 x10)), (.int .i64 (tS1 x0 x1 x2 x3 x4 x5 x6 x7 x8 x9 x10))]), (.int .i64 (tS2 x0 x1 x2 x3 x4 x5 x6 x7 x8 x9 x10))]) := by rw [← v0, ← v1, ← v2]
                rw [← hv]
                exact q
            · have q := @calls_sym (Rho.of [(.int .i64 (x0)), (.int .i64 (x1)), (.int .i64 (x2)), (.int .i64 (x3)), (.int .i64 (x4)), (.int .i64 (x5)), (.int .i64 (x6)), (.int .i64 (x7)), (.int .i64 (x8)), (.int .i64 (x9)), (.int .i64 (x10)), (.int .i64 ((qcheck0 (x0) (x1) (x2) (x3) (x4) (x5) (x6) (x7)))), (.int .i64 (y12)), (.int .i64 (y13))] (fun _ => none)) Try.prog _ (@Env.Ok.sym (Rho.of [(.int .i64 (x0)), (.int .i64 (x1)), (.int .i64 (x2)), (.int .i64 (x3)), (.int .i64 (x4)), (.int .i64 (x5)), (.int .i64 (x6)), (.int .i64 (x7)), (.int .i64 (x8)), (.int .i64 (x9)), (.int .i64 (x10)), (.int .i64 ((qcheck0 (x0) (x1) (x2) (x3) (x4) (x5) (x6) (x7)))), (.int .i64 (y12)), (.int .i64 (y13))] (fun _ => none)) _ _ (@env_ok (Rho.of [(.int .i64 (x0)), (.int .i64 (x1)), (.int .i64 (x2)), (.int .i64 (x3)), (.int .i64 (x4)), (.int .i64 (x5)), (.int .i64 (x6)), (.int .i64 (x7)), (.int .i64 (x8)), (.int .i64 (x9)), (.int .i64 (x10)), (.int .i64 ((qcheck0 (x0) (x1) (x2) (x3) (x4) (x5) (x6) (x7)))), (.int .i64 (y12)), (.int .i64 (y13))] (fun _ => none))) tS_e3 tS_c3 ⟨⟨rfl, rfl, fun w hm => (show KeyOk Try.prog w (.bin .neq 27) [(.int .i64 ((qcheck0 (x0) (x1) (x2) (x3) (x4) (x5) (x6) (x7)))), (.int .i64 0)] (.bool false) from k_neq_f c0)⟩, ⟨rfl, rfl, fun w hm => (show KeyOk Try.prog w (.bin .mul 3) [(.int .i64 (x0)), (.int .i64 (x1))] (.int .i64 (y12)) from key_eq (e := (x0 * x1)) hy12 (have ey : y12 = (x0 * x1) := hy12; k_mul (wrap64 (by omega))))⟩, ⟨rfl, rfl, fun w hm => (show KeyOk Try.prog w (.bin .sub 3) [(.int .i64 (y12)), (.int .i64 1)] (.int .i64 (y13)) from key_eq (e := (y12 - 1)) hy13 (have ey : y13 = (y12 - 1) := hy13; k_sub (wrap64 (by omega))))⟩, ⟨rfl, rfl, fun w hm => (show KeyOk Try.prog w (.bin .geq 3) [(.int .i64 (x9)), (.int .i64 0)] (.bool true) from k_geq_t c1)⟩, ⟨rfl, rfl, fun w hm => (show KeyOk Try.prog w (.bin .leq 3) [(.int .i64 (x9)), (.int .i64 (y13))] (.bool true) from k_leq_t c2)⟩, ⟨rfl, rfl, fun w hm => (show KeyOk Try.prog w (.bin .geq 3) [(.int .i64 (x10)), (.int .i64 0)] (.bool true) from k_geq_t c3)⟩, ⟨rfl, rfl, fun w hm => (show KeyOk Try.prog w (.bin .leq 3) [(.int .i64 (x10)), (.int .i64 (y13))] (.bool true) from k_leq_t c4)⟩, ⟨rfl, rfl, fun w hm => (show KeyOk Try.prog w (.bin .geq 3) [(.int .i64 (x8)), (.int .i64 1)] (.bool false) from k_geq_f c5)⟩, trivial⟩ ⟨(@CEntOk.of (Rho.of [(.int .i64 (x0)), (.int .i64 (x1)), (.int .i64 (x2)), (.int .i64 (x3)), (.int .i64 (x4)), (.int .i64 (x5)), (.int .i64 (x6)), (.int .i64 (x7)), (.int .i64 (x8)), (.int .i64 (x9)), (.int .i64 (x10)), (.int .i64 ((qcheck0 (x0) (x1) (x2) (x3) (x4) (x5) (x6) (x7)))), (.int .i64 (y12)), (.int .i64 (y13))] (fun _ => none)) Try.prog _ 18 _ _ #[(.agg #[(.int .i64 (x0)), (.int .i64 (x1)), (.int .i64 (x2)), (.int .i64 (x3)), (.int .i64 (x4)), (.int .i64 (x5)), (.int .i64 (x6)), (.int .i64 (x7))])] (.int .i64 ((qcheck0 (x0) (x1) (x2) (x3) (x4) (x5) (x6) (x7)))) rfl ⟨Try.f18, (Try.f18.body).getD .skip, by kernel_rfl, by kernel_rfl⟩ rfl rfl rfl (fun w hm => qcheck_any (x0) (x1) (x2) (x3) (x4) (x5) (x6) (x7)  w)), trivial⟩) 3000 16 [(.agg #[(.chan (some 0)), (.chan (some 1)), (.chan (some 2)), (.chan (some 3)), (.chan (some 4)), (.chan (some 5)), (.chan (some 6)), (.chan (some 7))]), (.chan (some 8)), (.chan (some 9)), (.chan (some 10))] (.tuple #[(.agg #[(.int .i64 0), (.int .i64 0)]), (.int .i64 3)]) rfl rfl tS_r3 w (fun _ _ h => nomatch h)
              have v0 : (0 : Int) = tS0 x0 x1 x2 x3 x4 x5 x6 x7 x8 x9 x10 := by
                have e12 : y12 = (x0 * x1) := hy12
                have e13 : y13 = (y12 - 1) := hy13
                try simp only [e12, e13] at c0
                try simp only [e12, e13] at c1
                try simp only [e12, e13] at c2
                try simp only [e12, e13] at c3
                try simp only [e12, e13] at c4
                try simp only [e12, e13] at c5
                unfold tS0
                try rw [if_neg c0]
                try rw [if_pos c1]
                try rw [if_pos c2]
                try rw [if_pos c3]
                try rw [if_pos c4]
                try rw [if_neg c5]
                try simp only [e12, e13]
              have v1 : (0 : Int) = tS1 x0 x1 x2 x3 x4 x5 x6 x7 x8 x9 x10 := by
                have e12 : y12 = (x0 * x1) := hy12
                have e13 : y13 = (y12 - 1) := hy13
                try simp only [e12, e13] at c0
                try simp only [e12, e13] at c1
                try simp only [e12, e13] at c2
                try simp only [e12, e13] at c3
                try simp only [e12, e13] at c4
                try simp only [e12, e13] at c5
                unfold tS1
                try rw [if_neg c0]
                try rw [if_pos c1]
                try rw [if_pos c2]
                try rw [if_pos c3]
                try rw [if_pos c4]
                try rw [if_neg c5]
                try simp only [e12, e13]
              have v2 : (3 : Int) = tS2 x0 x1 x2 x3 x4 x5 x6 x7 x8 x9 x10 := by
                have e12 : y12 = (x0 * x1) := hy12
                have e13 : y13 = (y12 - 1) := hy13
                try simp only [e12, e13] at c0
                try simp only [e12, e13] at c1
                try simp only [e12, e13] at c2
                try simp only [e12, e13] at c3
                try simp only [e12, e13] at c4
                try simp only [e12, e13] at c5
                unfold tS2
                try rw [if_neg c0]
                try rw [if_pos c1]
                try rw [if_pos c2]
                try rw [if_pos c3]
                try rw [if_pos c4]
                try rw [if_neg c5]
                try simp only [e12, e13]
              have hv : ((.tuple #[(.agg #[(.int .i64 (0)), (.int .i64 (0))]), (.int .i64 (3))]) : Value) = (.tuple #[(.agg #[(.int .i64 (tS0 x0 x1 x2 x3 x4 x5 x6 x7 x8 x9 x10)), (.int .i64 (tS1 x0 x1 x2 x3 x4 x5 x6 x7 x8 x9 x10))]), (.int .i64 (tS2 x0 x1 x2 x3 x4 x5 x6 x7 x8 x9 x10))]) := by rw [← v0, ← v1, ← v2]
              rw [← hv]
              exact q
          · have q := @calls_sym (Rho.of [(.int .i64 (x0)), (.int .i64 (x1)), (.int .i64 (x2)), (.int .i64 (x3)), (.int .i64 (x4)), (.int .i64 (x5)), (.int .i64 (x6)), (.int .i64 (x7)), (.int .i64 (x8)), (.int .i64 (x9)), (.int .i64 (x10)), (.int .i64 ((qcheck0 (x0) (x1) (x2) (x3) (x4) (x5) (x6) (x7)))), (.int .i64 (y12)), (.int .i64 (y13))] (fun _ => none)) Try.prog _ (@Env.Ok.sym (Rho.of [(.int .i64 (x0)), (.int .i64 (x1)), (.int .i64 (x2)), (.int .i64 (x3)), (.int .i64 (x4)), (.int .i64 (x5)), (.int .i64 (x6)), (.int .i64 (x7)), (.int .i64 (x8)), (.int .i64 (x9)), (.int .i64 (x10)), (.int .i64 ((qcheck0 (x0) (x1) (x2) (x3) (x4) (x5) (x6) (x7)))), (.int .i64 (y12)), (.int .i64 (y13))] (fun _ => none)) _ _ (@env_ok (Rho.of [(.int .i64 (x0)), (.int .i64 (x1)), (.int .i64 (x2)), (.int .i64 (x3)), (.int .i64 (x4)), (.int .i64 (x5)), (.int .i64 (x6)), (.int .i64 (x7)), (.int .i64 (x8)), (.int .i64 (x9)), (.int .i64 (x10)), (.int .i64 ((qcheck0 (x0) (x1) (x2) (x3) (x4) (x5) (x6) (x7)))), (.int .i64 (y12)), (.int .i64 (y13))] (fun _ => none))) tS_e4 tS_c4 ⟨⟨rfl, rfl, fun w hm => (show KeyOk Try.prog w (.bin .neq 27) [(.int .i64 ((qcheck0 (x0) (x1) (x2) (x3) (x4) (x5) (x6) (x7)))), (.int .i64 0)] (.bool false) from k_neq_f c0)⟩, ⟨rfl, rfl, fun w hm => (show KeyOk Try.prog w (.bin .mul 3) [(.int .i64 (x0)), (.int .i64 (x1))] (.int .i64 (y12)) from key_eq (e := (x0 * x1)) hy12 (have ey : y12 = (x0 * x1) := hy12; k_mul (wrap64 (by omega))))⟩, ⟨rfl, rfl, fun w hm => (show KeyOk Try.prog w (.bin .sub 3) [(.int .i64 (y12)), (.int .i64 1)] (.int .i64 (y13)) from key_eq (e := (y12 - 1)) hy13 (have ey : y13 = (y12 - 1) := hy13; k_sub (wrap64 (by omega))))⟩, ⟨rfl, rfl, fun w hm => (show KeyOk Try.prog w (.bin .geq 3) [(.int .i64 (x9)), (.int .i64 0)] (.bool true) from k_geq_t c1)⟩, ⟨rfl, rfl, fun w hm => (show KeyOk Try.prog w (.bin .leq 3) [(.int .i64 (x9)), (.int .i64 (y13))] (.bool true) from k_leq_t c2)⟩, ⟨rfl, rfl, fun w hm => (show KeyOk Try.prog w (.bin .geq 3) [(.int .i64 (x10)), (.int .i64 0)] (.bool true) from k_geq_t c3)⟩, ⟨rfl, rfl, fun w hm => (show KeyOk Try.prog w (.bin .leq 3) [(.int .i64 (x10)), (.int .i64 (y13))] (.bool false) from k_leq_f c4)⟩, trivial⟩ ⟨(@CEntOk.of (Rho.of [(.int .i64 (x0)), (.int .i64 (x1)), (.int .i64 (x2)), (.int .i64 (x3)), (.int .i64 (x4)), (.int .i64 (x5)), (.int .i64 (x6)), (.int .i64 (x7)), (.int .i64 (x8)), (.int .i64 (x9)), (.int .i64 (x10)), (.int .i64 ((qcheck0 (x0) (x1) (x2) (x3) (x4) (x5) (x6) (x7)))), (.int .i64 (y12)), (.int .i64 (y13))] (fun _ => none)) Try.prog _ 18 _ _ #[(.agg #[(.int .i64 (x0)), (.int .i64 (x1)), (.int .i64 (x2)), (.int .i64 (x3)), (.int .i64 (x4)), (.int .i64 (x5)), (.int .i64 (x6)), (.int .i64 (x7))])] (.int .i64 ((qcheck0 (x0) (x1) (x2) (x3) (x4) (x5) (x6) (x7)))) rfl ⟨Try.f18, (Try.f18.body).getD .skip, by kernel_rfl, by kernel_rfl⟩ rfl rfl rfl (fun w hm => qcheck_any (x0) (x1) (x2) (x3) (x4) (x5) (x6) (x7)  w)), trivial⟩) 3000 16 [(.agg #[(.chan (some 0)), (.chan (some 1)), (.chan (some 2)), (.chan (some 3)), (.chan (some 4)), (.chan (some 5)), (.chan (some 6)), (.chan (some 7))]), (.chan (some 8)), (.chan (some 9)), (.chan (some 10))] (.tuple #[(.agg #[(.int .i64 0), (.int .i64 0)]), (.int .i64 4)]) rfl rfl tS_r4 w (fun _ _ h => nomatch h)
            have v0 : (0 : Int) = tS0 x0 x1 x2 x3 x4 x5 x6 x7 x8 x9 x10 := by
              have e12 : y12 = (x0 * x1) := hy12
              have e13 : y13 = (y12 - 1) := hy13
              try simp only [e12, e13] at c0
              try simp only [e12, e13] at c1
              try simp only [e12, e13] at c2
              try simp only [e12, e13] at c3
              try simp only [e12, e13] at c4
              unfold tS0
              try rw [if_neg c0]
              try rw [if_pos c1]
              try rw [if_pos c2]
              try rw [if_pos c3]
              try rw [if_neg c4]
              try simp only [e12, e13]
            have v1 : (0 : Int) = tS1 x0 x1 x2 x3 x4 x5 x6 x7 x8 x9 x10 := by
              have e12 : y12 = (x0 * x1) := hy12
              have e13 : y13 = (y12 - 1) := hy13
              try simp only [e12, e13] at c0
              try simp only [e12, e13] at c1
              try simp only [e12, e13] at c2
              try simp only [e12, e13] at c3
              try simp only [e12, e13] at c4
              unfold tS1
              try rw [if_neg c0]
              try rw [if_pos c1]
              try rw [if_pos c2]
              try rw [if_pos c3]
              try rw [if_neg c4]
              try simp only [e12, e13]
            have v2 : (4 : Int) = tS2 x0 x1 x2 x3 x4 x5 x6 x7 x8 x9 x10 := by
              have e12 : y12 = (x0 * x1) := hy12
              have e13 : y13 = (y12 - 1) := hy13
              try simp only [e12, e13] at c0
              try simp only [e12, e13] at c1
              try simp only [e12, e13] at c2
              try simp only [e12, e13] at c3
              try simp only [e12, e13] at c4
              unfold tS2
              try rw [if_neg c0]
              try rw [if_pos c1]
              try rw [if_pos c2]
              try rw [if_pos c3]
              try rw [if_neg c4]
              try simp only [e12, e13]
            have hv : ((.tuple #[(.agg #[(.int .i64 (0)), (.int .i64 (0))]), (.int .i64 (4))]) : Value) = (.tuple #[(.agg #[(.int .i64 (tS0 x0 x1 x2 x3 x4 x5 x6 x7 x8 x9 x10)), (.int .i64 (tS1 x0 x1 x2 x3 x4 x5 x6 x7 x8 x9 x10))]), (.int .i64 (tS2 x0 x1 x2 x3 x4 x5 x6 x7 x8 x9 x10))]) := by rw [← v0, ← v1, ← v2]
            rw [← hv]
            exact q
        · have q := @calls_sym (Rho.of [(.int .i64 (x0)), (.int .i64 (x1)), (.int .i64 (x2)), (.int .i64 (x3)), (.int .i64 (x4)), (.int .i64 (x5)), (.int .i64 (x6)), (.int .i64 (x7)), (.int .i64 (x8)), (.int .i64 (x9)), (.int .i64 (x10)), (.int .i64 ((qcheck0 (x0) (x1) (x2) (x3) (x4) (x5) (x6) (x7)))), (.int .i64 (y12)), (.int .i64 (y13))] (fun _ => none)) Try.prog _ (@Env.Ok.sym (Rho.of [(.int .i64 (x0)), (.int .i64 (x1)), (.int .i64 (x2)), (.int .i64 (x3)), (.int .i64 (x4)), (.int .i64 (x5)), (.int .i64 (x6)), (.int .i64 (x7)), (.int .i64 (x8)), (.int .i64 (x9)), (.int .i64 (x10)), (.int .i64 ((qcheck0 (x0) (x1) (x2) (x3) (x4) (x5) (x6) (x7)))), (.int .i64 (y12)), (.int .i64 (y13))] (fun _ => none)) _ _ (@env_ok (Rho.of [(.int .i64 (x0)), (.int .i64 (x1)), (.int .i64 (x2)), (.int .i64 (x3)), (.int .i64 (x4)), (.int .i64 (x5)), (.int .i64 (x6)), (.int .i64 (x7)), (.int .i64 (x8)), (.int .i64 (x9)), (.int .i64 (x10)), (.int .i64 ((qcheck0 (x0) (x1) (x2) (x3) (x4) (x5) (x6) (x7)))), (.int .i64 (y12)), (.int .i64 (y13))] (fun _ => none))) tS_e5 tS_c5 ⟨⟨rfl, rfl, fun w hm => (show KeyOk Try.prog w (.bin .neq 27) [(.int .i64 ((qcheck0 (x0) (x1) (x2) (x3) (x4) (x5) (x6) (x7)))), (.int .i64 0)] (.bool false) from k_neq_f c0)⟩, ⟨rfl, rfl, fun w hm => (show KeyOk Try.prog w (.bin .mul 3) [(.int .i64 (x0)), (.int .i64 (x1))] (.int .i64 (y12)) from key_eq (e := (x0 * x1)) hy12 (have ey : y12 = (x0 * x1) := hy12; k_mul (wrap64 (by omega))))⟩, ⟨rfl, rfl, fun w hm => (show KeyOk Try.prog w (.bin .sub 3) [(.int .i64 (y12)), (.int .i64 1)] (.int .i64 (y13)) from key_eq (e := (y12 - 1)) hy13 (have ey : y13 = (y12 - 1) := hy13; k_sub (wrap64 (by omega))))⟩, ⟨rfl, rfl, fun w hm => (show KeyOk Try.prog w (.bin .geq 3) [(.int .i64 (x9)), (.int .i64 0)] (.bool true) from k_geq_t c1)⟩, ⟨rfl, rfl, fun w hm => (show KeyOk Try.prog w (.bin .leq 3) [(.int .i64 (x9)), (.int .i64 (y13))] (.bool true) from k_leq_t c2)⟩, ⟨rfl, rfl, fun w hm => (show KeyOk Try.prog w (.bin .geq 3) [(.int .i64 (x10)), (.int .i64 0)] (.bool false) from k_geq_f c3)⟩, trivial⟩ ⟨(@CEntOk.of (Rho.of [(.int .i64 (x0)), (.int .i64 (x1)), (.int .i64 (x2)), (.int .i64 (x3)), (.int .i64 (x4)), (.int .i64 (x5)), (.int .i64 (x6)), (.int .i64 (x7)), (.int .i64 (x8)), (.int .i64 (x9)), (.int .i64 (x10)), (.int .i64 ((qcheck0 (x0) (x1) (x2) (x3) (x4) (x5) (x6) (x7)))), (.int .i64 (y12)), (.int .i64 (y13))] (fun _ => none)) Try.prog _ 18 _ _ #[(.agg #[(.int .i64 (x0)), (.int .i64 (x1)), (.int .i64 (x2)), (.int .i64 (x3)), (.int .i64 (x4)), (.int .i64 (x5)), (.int .i64 (x6)), (.int .i64 (x7))])] (.int .i64 ((qcheck0 (x0) (x1) (x2) (x3) (x4) (x5) (x6) (x7)))) rfl ⟨Try.f18, (Try.f18.body).getD .skip, by kernel_rfl, by kernel_rfl⟩ rfl rfl rfl (fun w hm => qcheck_any (x0) (x1) (x2) (x3) (x4) (x5) (x6) (x7)  w)), trivial⟩) 3000 16 [(.agg #[(.chan (some 0)), (.chan (some 1)), (.chan (some 2)), (.chan (some 3)), (.chan (some 4)), (.chan (some 5)), (.chan (some 6)), (.chan (some 7))]), (.chan (some 8)), (.chan (some 9)), (.chan (some 10))] (.tuple #[(.agg #[(.int .i64 0), (.int .i64 0)]), (.int .i64 4)]) rfl rfl tS_r5 w (fun _ _ h => nomatch h)
          have v0 : (0 : Int) = tS0 x0 x1 x2 x3 x4 x5 x6 x7 x8 x9 x10 := by
            have e12 : y12 = (x0 * x1) := hy12
            have e13 : y13 = (y12 - 1) := hy13
            try simp only [e12, e13] at c0
            try simp only [e12, e13] at c1
            try simp only [e12, e13] at c2
            try simp only [e12, e13] at c3
            unfold tS0
            try rw [if_neg c0]
            try rw [if_pos c1]
            try rw [if_pos c2]
            try rw [if_neg c3]
            try simp only [e12, e13]
          have v1 : (0 : Int) = tS1 x0 x1 x2 x3 x4 x5 x6 x7 x8 x9 x10 := by
            have e12 : y12 = (x0 * x1) := hy12
            have e13 : y13 = (y12 - 1) := hy13
            try simp only [e12, e13] at c0
            try simp only [e12, e13] at c1
            try simp only [e12, e13] at c2
            try simp only [e12, e13] at c3
            unfold tS1
            try rw [if_neg c0]
            try rw [if_pos c1]
            try rw [if_pos c2]
            try rw [if_neg c3]
            try simp only [e12, e13]
          have v2 : (4 : Int) = tS2 x0 x1 x2 x3 x4 x5 x6 x7 x8 x9 x10 := by
            have e12 : y12 = (x0 * x1) := hy12
            have e13 : y13 = (y12 - 1) := hy13
            try simp only [e12, e13] at c0
            try simp only [e12, e13] at c1
            try simp only [e12, e13] at c2
            try simp only [e12, e13] at c3
            unfold tS2
            try rw [if_neg c0]
            try rw [if_pos c1]
            try rw [if_pos c2]
            try rw [if_neg c3]
            try simp only [e12, e13]
          have hv : ((.tuple #[(.agg #[(.int .i64 (0)), (.int .i64 (0))]), (.int .i64 (4))]) : Value) = (.tuple #[(.agg #[(.int .i64 (tS0 x0 x1 x2 x3 x4 x5 x6 x7 x8 x9 x10)), (.int .i64 (tS1 x0 x1 x2 x3 x4 x5 x6 x7 x8 x9 x10))]), (.int .i64 (tS2 x0 x1 x2 x3 x4 x5 x6 x7 x8 x9 x10))]) := by rw [← v0, ← v1, ← v2]
          rw [← hv]
          exact q
      · have q := @calls_sym (Rho.of [(.int .i64 (x0)), (.int .i64 (x1)), (.int .i64 (x2)), (.int .i64 (x3)), (.int .i64 (x4)), (.int .i64 (x5)), (.int .i64 (x6)), (.int .i64 (x7)), (.int .i64 (x8)), (.int .i64 (x9)), (.int .i64 (x10)), (.int .i64 ((qcheck0 (x0) (x1) (x2) (x3) (x4) (x5) (x6) (x7)))), (.int .i64 (y12)), (.int .i64 (y13))] (fun _ => none)) Try.prog _ (@Env.Ok.sym (Rho.of [(.int .i64 (x0)), (.int .i64 (x1)), (.int .i64 (x2)), (.int .i64 (x3)), (.int .i64 (x4)), (.int .i64 (x5)), (.int .i64 (x6)), (.int .i64 (x7)), (.int .i64 (x8)), (.int .i64 (x9)), (.int .i64 (x10)), (.int .i64 ((qcheck0 (x0) (x1) (x2) (x3) (x4) (x5) (x6) (x7)))), (.int .i64 (y12)), (.int .i64 (y13))] (fun _ => none)) _ _ (@env_ok (Rho.of [(.int .i64 (x0)), (.int .i64 (x1)), (.int .i64 (x2)), (.int .i64 (x3)), (.int .i64 (x4)), (.int .i64 (x5)), (.int .i64 (x6)), (.int .i64 (x7)), (.int .i64 (x8)), (.int .i64 (x9)), (.int .i64 (x10)), (.int .i64 ((qcheck0 (x0) (x1) (x2) (x3) (x4) (x5) (x6) (x7)))), (.int .i64 (y12)), (.int .i64 (y13))] (fun _ => none))) tS_e6 tS_c6 ⟨⟨rfl, rfl, fun w hm => (show KeyOk Try.prog w (.bin .neq 27) [(.int .i64 ((qcheck0 (x0) (x1) (x2) (x3) (x4) (x5) (x6) (x7)))), (.int .i64 0)] (.bool false) from k_neq_f c0)⟩, ⟨rfl, rfl, fun w hm => (show KeyOk Try.prog w (.bin .mul 3) [(.int .i64 (x0)), (.int .i64 (x1))] (.int .i64 (y12)) from key_eq (e := (x0 * x1)) hy12 (have ey : y12 = (x0 * x1) := hy12; k_mul (wrap64 (by omega))))⟩, ⟨rfl, rfl, fun w hm => (show KeyOk Try.prog w (.bin .sub 3) [(.int .i64 (y12)), (.int .i64 1)] (.int .i64 (y13)) from key_eq (e := (y12 - 1)) hy13 (have ey : y13 = (y12 - 1) := hy13; k_sub (wrap64 (by omega))))⟩, ⟨rfl, rfl, fun w hm => (show KeyOk Try.prog w (.bin .geq 3) [(.int .i64 (x9)), (.int .i64 0)] (.bool true) from k_geq_t c1)⟩, ⟨rfl, rfl, fun w hm => (show KeyOk Try.prog w (.bin .leq 3) [(.int .i64 (x9)), (.int .i64 (y13))] (.bool false) from k_leq_f c2)⟩, trivial⟩ ⟨(@CEntOk.of (Rho.of [(.int .i64 (x0)), (.int .i64 (x1)), (.int .i64 (x2)), (.int .i64 (x3)), (.int .i64 (x4)), (.int .i64 (x5)), (.int .i64 (x6)), (.int .i64 (x7)), (.int .i64 (x8)), (.int .i64 (x9)), (.int .i64 (x10)), (.int .i64 ((qcheck0 (x0) (x1) (x2) (x3) (x4) (x5) (x6) (x7)))), (.int .i64 (y12)), (.int .i64 (y13))] (fun _ => none)) Try.prog _ 18 _ _ #[(.agg #[(.int .i64 (x0)), (.int .i64 (x1)), (.int .i64 (x2)), (.int .i64 (x3)), (.int .i64 (x4)), (.int .i64 (x5)), (.int .i64 (x6)), (.int .i64 (x7))])] (.int .i64 ((qcheck0 (x0) (x1) (x2) (x3) (x4) (x5) (x6) (x7)))) rfl ⟨Try.f18, (Try.f18.body).getD .skip, by kernel_rfl, by kernel_rfl⟩ rfl rfl rfl (fun w hm => qcheck_any (x0) (x1) (x2) (x3) (x4) (x5) (x6) (x7)  w)), trivial⟩) 3000 16 [(.agg #[(.chan (some 0)), (.chan (some 1)), (.chan (some 2)), (.chan (some 3)), (.chan (some 4)), (.chan (some 5)), (.chan (some 6)), (.chan (some 7))]), (.chan (some 8)), (.chan (some 9)), (.chan (some 10))] (.tuple #[(.agg #[(.int .i64 0), (.int .i64 0)]), (.int .i64 4)]) rfl rfl tS_r6 w (fun _ _ h => nomatch h)
        have v0 : (0 : Int) = tS0 x0 x1 x2 x3 x4 x5 x6 x7 x8 x9 x10 := by
          have e12 : y12 = (x0 * x1) := hy12
          have e13 : y13 = (y12 - 1) := hy13
          try simp only [e12, e13] at c0
          try simp only [e12, e13] at c1
          try simp only [e12, e13] at c2
          unfold tS0
          try rw [if_neg c0]
          try rw [if_pos c1]
          try rw [if_neg c2]
          try simp only [e12, e13]
        have v1 : (0 : Int) = tS1 x0 x1 x2 x3 x4 x5 x6 x7 x8 x9 x10 := by
          have e12 : y12 = (x0 * x1) := hy12
          have e13 : y13 = (y12 - 1) := hy13
          try simp only [e12, e13] at c0
          try simp only [e12, e13] at c1
          try simp only [e12, e13] at c2
          unfold tS1
          try rw [if_neg c0]
          try rw [if_pos c1]
          try rw [if_neg c2]
          try simp only [e12, e13]
        have v2 : (4 : Int) = tS2 x0 x1 x2 x3 x4 x5 x6 x7 x8 x9 x10 := by
          have e12 : y12 = (x0 * x1) := hy12
          have e13 : y13 = (y12 - 1) := hy13
          try simp only [e12, e13] at c0
          try simp only [e12, e13] at c1
          try simp only [e12, e13] at c2
          unfold tS2
          try rw [if_neg c0]
          try rw [if_pos c1]
          try rw [if_neg c2]
          try simp only [e12, e13]
        have hv : ((.tuple #[(.agg #[(.int .i64 (0)), (.int .i64 (0))]), (.int .i64 (4))]) : Value) = (.tuple #[(.agg #[(.int .i64 (tS0 x0 x1 x2 x3 x4 x5 x6 x7 x8 x9 x10)), (.int .i64 (tS1 x0 x1 x2 x3 x4 x5 x6 x7 x8 x9 x10))]), (.int .i64 (tS2 x0 x1 x2 x3 x4 x5 x6 x7 x8 x9 x10))]) := by rw [← v0, ← v1, ← v2]
        rw [← hv]
        exact q
    · have q := @calls_sym (Rho.of [(.int .i64 (x0)), (.int .i64 (x1)), (.int .i64 (x2)), (.int .i64 (x3)), (.int .i64 (x4)), (.int .i64 (x5)), (.int .i64 (x6)), (.int .i64 (x7)), (.int .i64 (x8)), (.int .i64 (x9)), (.int .i64 (x10)), (.int .i64 ((qcheck0 (x0) (x1) (x2) (x3) (x4) (x5) (x6) (x7)))), (.int .i64 (y12)), (.int .i64 (y13))] (fun _ => none)) Try.prog _ (@Env.Ok.sym (Rho.of [(.int .i64 (x0)), (.int .i64 (x1)), (.int .i64 (x2)), (.int .i64 (x3)), (.int .i64 (x4)), (.int .i64 (x5)), (.int .i64 (x6)), (.int .i64 (x7)), (.int .i64 (x8)), (.int .i64 (x9)), (.int .i64 (x10)), (.int .i64 ((qcheck0 (x0) (x1) (x2) (x3) (x4) (x5) (x6) (x7)))), (.int .i64 (y12)), (.int .i64 (y13))] (fun _ => none)) _ _ (@env_ok (Rho.of [(.int .i64 (x0)), (.int .i64 (x1)), (.int .i64 (x2)), (.int .i64 (x3)), (.int .i64 (x4)), (.int .i64 (x5)), (.int .i64 (x6)), (.int .i64 (x7)), (.int .i64 (x8)), (.int .i64 (x9)), (.int .i64 (x10)), (.int .i64 ((qcheck0 (x0) (x1) (x2) (x3) (x4) (x5) (x6) (x7)))), (.int .i64 (y12)), (.int .i64 (y13))] (fun _ => none))) tS_e7 tS_c7 ⟨⟨rfl, rfl, fun w hm => (show KeyOk Try.prog w (.bin .neq 27) [(.int .i64 ((qcheck0 (x0) (x1) (x2) (x3) (x4) (x5) (x6) (x7)))), (.int .i64 0)] (.bool false) from k_neq_f c0)⟩, ⟨rfl, rfl, fun w hm => (show KeyOk Try.prog w (.bin .mul 3) [(.int .i64 (x0)), (.int .i64 (x1))] (.int .i64 (y12)) from key_eq (e := (x0 * x1)) hy12 (have ey : y12 = (x0 * x1) := hy12; k_mul (wrap64 (by omega))))⟩, ⟨rfl, rfl, fun w hm => (show KeyOk Try.prog w (.bin .sub 3) [(.int .i64 (y12)), (.int .i64 1)] (.int .i64 (y13)) from key_eq (e := (y12 - 1)) hy13 (have ey : y13 = (y12 - 1) := hy13; k_sub (wrap64 (by omega))))⟩, ⟨rfl, rfl, fun w hm => (show KeyOk Try.prog w (.bin .geq 3) [(.int .i64 (x9)), (.int .i64 0)] (.bool false) from k_geq_f c1)⟩, trivial⟩ ⟨(@CEntOk.of (Rho.of [(.int .i64 (x0)), (.int .i64 (x1)), (.int .i64 (x2)), (.int .i64 (x3)), (.int .i64 (x4)), (.int .i64 (x5)), (.int .i64 (x6)), (.int .i64 (x7)), (.int .i64 (x8)), (.int .i64 (x9)), (.int .i64 (x10)), (.int .i64 ((qcheck0 (x0) (x1) (x2) (x3) (x4) (x5) (x6) (x7)))), (.int .i64 (y12)), (.int .i64 (y13))] (fun _ => none)) Try.prog _ 18 _ _ #[(.agg #[(.int .i64 (x0)), (.int .i64 (x1)), (.int .i64 (x2)), (.int .i64 (x3)), (.int .i64 (x4)), (.int .i64 (x5)), (.int .i64 (x6)), (.int .i64 (x7))])] (.int .i64 ((qcheck0 (x0) (x1) (x2) (x3) (x4) (x5) (x6) (x7)))) rfl ⟨Try.f18, (Try.f18.body).getD .skip, by kernel_rfl, by kernel_rfl⟩ rfl rfl rfl (fun w hm => qcheck_any (x0) (x1) (x2) (x3) (x4) (x5) (x6) (x7)  w)), trivial⟩) 3000 16 [(.agg #[(.chan (some 0)), (.chan (some 1)), (.chan (some 2)), (.chan (some 3)), (.chan (some 4)), (.chan (some 5)), (.chan (some 6)), (.chan (some 7))]), (.chan (some 8)), (.chan (some 9)), (.chan (some 10))] (.tuple #[(.agg #[(.int .i64 0), (.int .i64 0)]), (.int .i64 4)]) rfl rfl tS_r7 w (fun _ _ h => nomatch h)
      have v0 : (0 : Int) = tS0 x0 x1 x2 x3 x4 x5 x6 x7 x8 x9 x10 := by
        have e12 : y12 = (x0 * x1) := hy12
        have e13 : y13 = (y12 - 1) := hy13
        try simp only [e12, e13] at c0
        try simp only [e12, e13] at c1
        unfold tS0
        try rw [if_neg c0]
        try rw [if_neg c1]
        try simp only [e12, e13]
      have v1 : (0 : Int) = tS1 x0 x1 x2 x3 x4 x5 x6 x7 x8 x9 x10 := by
        have e12 : y12 = (x0 * x1) := hy12
        have e13 : y13 = (y12 - 1) := hy13
        try simp only [e12, e13] at c0
        try simp only [e12, e13] at c1
        unfold tS1
        try rw [if_neg c0]
        try rw [if_neg c1]
        try simp only [e12, e13]
      have v2 : (4 : Int) = tS2 x0 x1 x2 x3 x4 x5 x6 x7 x8 x9 x10 := by
        have e12 : y12 = (x0 * x1) := hy12
        have e13 : y13 = (y12 - 1) := hy13
        try simp only [e12, e13] at c0
        try simp only [e12, e13] at c1
        unfold tS2
        try rw [if_neg c0]
        try rw [if_neg c1]
        try simp only [e12, e13]
      have hv : ((.tuple #[(.agg #[(.int .i64 (0)), (.int .i64 (0))]), (.int .i64 (4))]) : Value) = (.tuple #[(.agg #[(.int .i64 (tS0 x0 x1 x2 x3 x4 x5 x6 x7 x8 x9 x10)), (.int .i64 (tS1 x0 x1 x2 x3 x4 x5 x6 x7 x8 x9 x10))]), (.int .i64 (tS2 x0 x1 x2 x3 x4 x5 x6 x7 x8 x9 x10))]) := by rw [← v0, ← v1, ← v2]
      rw [← hv]
      exact q

noncomputable def rS0 (x0 : Int) (x1 : Int) (x2 : Int) (x3 : Int) (x4 : Int) (x5 : Int) (x6 : Int) (x7 : Int) (x8 : Int) (x9 : Int) (x10 : Int) : Int := (if (qcheck0 (x0) (x1) (x2) (x3) (x4) (x5) (x6) (x7)) ≠ 0 then 0 else (if x9 ≥ 0 then (if x9 ≤ ((x0 * x1) - 1) then (if x10 ≥ 0 then (if x10 ≤ ((x0 * x1) - 1) then (if x8 ≥ 1 then (if x8 ≤ 10 then (((100 * x8) - (fallZ ((dist1 (x0) (x1) (x2) (x3) (x4) (x5) (x6) (x7) (x9) (x10))))) - x7) else 0) else 0) else 0) else 0) else 0) else 0))
noncomputable def rS1 (x0 : Int) (x1 : Int) (x2 : Int) (x3 : Int) (x4 : Int) (x5 : Int) (x6 : Int) (x7 : Int) (x8 : Int) (x9 : Int) (x10 : Int) : Int := (if (qcheck0 (x0) (x1) (x2) (x3) (x4) (x5) (x6) (x7)) ≠ 0 then 0 else (if x9 ≥ 0 then (if x9 ≤ ((x0 * x1) - 1) then (if x10 ≥ 0 then (if x10 ≤ ((x0 * x1) - 1) then (if x8 ≥ 1 then (if x8 ≤ 10 then (((100 * x8) - (fallZ ((dist0 (x0) (x1) (x2) (x3) (x4) (x5) (x6) (x7) (x9) (x10))))) + x7) else 0) else 0) else 0) else 0) else 0) else 0))
noncomputable def rS2 (x0 : Int) (x1 : Int) (x2 : Int) (x3 : Int) (x4 : Int) (x5 : Int) (x6 : Int) (x7 : Int) (x8 : Int) (x9 : Int) (x10 : Int) : Int := (if (qcheck0 (x0) (x1) (x2) (x3) (x4) (x5) (x6) (x7)) ≠ 0 then (qcheck0 (x0) (x1) (x2) (x3) (x4) (x5) (x6) (x7)) else (if x9 ≥ 0 then (if x9 ≤ ((x0 * x1) - 1) then (if x10 ≥ 0 then (if x10 ≤ ((x0 * x1) - 1) then (if x8 ≥ 1 then (if x8 ≤ 10 then 0 else 3) else 3) else 4) else 4) else 4) else 4))
noncomputable def rS_e0 : List Ent := [⟨(.bin .neq 27), [(.chan (some 11)), (.int .i64 0)], (.bool true)⟩]
noncomputable def rS_c0 : List CEnt := [⟨19, [(.agg #[(.chan (some 0)), (.chan (some 1)), (.chan (some 2)), (.chan (some 3)), (.chan (some 4)), (.chan (some 5)), (.chan (some 6)), (.chan (some 7))])], [], (.chan (some 11))⟩]
set_option maxRecDepth 1000000 in
theorem rS_r0 : ev Try.prog (env.sym rS_e0 rS_c0) 3000 (.call 17 [(.agg #[(.chan (some 0)), (.chan (some 1)), (.chan (some 2)), (.chan (some 3)), (.chan (some 4)), (.chan (some 5)), (.chan (some 6)), (.chan (some 7))]), (.chan (some 8)), (.chan (some 9)), (.chan (some 10))] Ev.start fun v _ => some v) = some (.tuple #[(.agg #[(.int .i64 0), (.int .i64 0)]), (.chan (some 11))]) := by kernel_rfl
noncomputable def rS_e1 : List Ent := [⟨(.bin .neq 27), [(.chan (some 11)), (.int .i64 0)], (.bool false)⟩, ⟨(.bin .mul 3), [(.chan (some 0)), (.chan (some 1))], (.chan (some 12))⟩, ⟨(.bin .sub 3), [(.chan (some 12)), (.int .i64 1)], (.chan (some 13))⟩, ⟨(.bin .geq 3), [(.chan (some 9)), (.int .i64 0)], (.bool true)⟩, ⟨(.bin .leq 3), [(.chan (some 9)), (.chan (some 13))], (.bool true)⟩, ⟨(.bin .geq 3), [(.chan (some 10)), (.int .i64 0)], (.bool true)⟩, ⟨(.bin .leq 3), [(.chan (some 10)), (.chan (some 13))], (.bool true)⟩, ⟨(.bin .geq 3), [(.chan (some 8)), (.int .i64 1)], (.bool true)⟩, ⟨(.bin .leq 3), [(.chan (some 8)), (.int .i64 10)], (.bool true)⟩, ⟨(.bin .mul 3), [(.int .i64 100), (.chan (some 8))], (.chan (some 16))⟩, ⟨(.bin .sub 3), [(.chan (some 16)), (.chan (some 17))], (.chan (some 18))⟩, ⟨(.bin .sub 3), [(.chan (some 18)), (.chan (some 7))], (.chan (some 19))⟩, ⟨(.bin .sub 3), [(.chan (some 16)), (.chan (some 20))], (.chan (some 21))⟩, ⟨(.bin .add 3), [(.chan (some 21)), (.chan (some 7))], (.chan (some 22))⟩]
noncomputable def rS_c1 : List CEnt := [⟨19, [(.agg #[(.chan (some 0)), (.chan (some 1)), (.chan (some 2)), (.chan (some 3)), (.chan (some 4)), (.chan (some 5)), (.chan (some 6)), (.chan (some 7))])], [], (.chan (some 11))⟩, ⟨83, [(.agg #[(.chan (some 0)), (.chan (some 1)), (.chan (some 2)), (.chan (some 3)), (.chan (some 4)), (.chan (some 5)), (.chan (some 6)), (.chan (some 7))]), (.chan (some 9)), (.chan (some 10))], [], (.agg #[(.chan (some 14)), (.chan (some 15))])⟩, ⟨85, [(.chan (some 15))], [], (.chan (some 17))⟩, ⟨85, [(.chan (some 14))], [], (.chan (some 20))⟩]
set_option maxRecDepth 1000000 in
theorem rS_r1 : ev Try.prog (env.sym rS_e1 rS_c1) 3000 (.call 17 [(.agg #[(.chan (some 0)), (.chan (some 1)), (.chan (some 2)), (.chan (some 3)), (.chan (some 4)), (.chan (some 5)), (.chan (some 6)), (.chan (some 7))]), (.chan (some 8)), (.chan (some 9)), (.chan (some 10))] Ev.start fun v _ => some v) = some (.tuple #[(.agg #[(.chan (some 19)), (.chan (some 22))]), (.int .i64 0)]) := by kernel_rfl
noncomputable def rS_e2 : List Ent := [⟨(.bin .neq 27), [(.chan (some 11)), (.int .i64 0)], (.bool false)⟩, ⟨(.bin .mul 3), [(.chan (some 0)), (.chan (some 1))], (.chan (some 12))⟩, ⟨(.bin .sub 3), [(.chan (some 12)), (.int .i64 1)], (.chan (some 13))⟩, ⟨(.bin .geq 3), [(.chan (some 9)), (.int .i64 0)], (.bool true)⟩, ⟨(.bin .leq 3), [(.chan (some 9)), (.chan (some 13))], (.bool true)⟩, ⟨(.bin .geq 3), [(.chan (some 10)), (.int .i64 0)], (.bool true)⟩, ⟨(.bin .leq 3), [(.chan (some 10)), (.chan (some 13))], (.bool true)⟩, ⟨(.bin .geq 3), [(.chan (some 8)), (.int .i64 1)], (.bool true)⟩, ⟨(.bin .leq 3), [(.chan (some 8)), (.int .i64 10)], (.bool false)⟩]
noncomputable def rS_c2 : List CEnt := [⟨19, [(.agg #[(.chan (some 0)), (.chan (some 1)), (.chan (some 2)), (.chan (some 3)), (.chan (some 4)), (.chan (some 5)), (.chan (some 6)), (.chan (some 7))])], [], (.chan (some 11))⟩]
set_option maxRecDepth 1000000 in
theorem rS_r2 : ev Try.prog (env.sym rS_e2 rS_c2) 3000 (.call 17 [(.agg #[(.chan (some 0)), (.chan (some 1)), (.chan (some 2)), (.chan (some 3)), (.chan (some 4)), (.chan (some 5)), (.chan (some 6)), (.chan (some 7))]), (.chan (some 8)), (.chan (some 9)), (.chan (some 10))] Ev.start fun v _ => some v) = some (.tuple #[(.agg #[(.int .i64 0), (.int .i64 0)]), (.int .i64 3)]) := by kernel_rfl
noncomputable def rS_e3 : List Ent := [⟨(.bin .neq 27), [(.chan (some 11)), (.int .i64 0)], (.bool false)⟩, ⟨(.bin .mul 3), [(.chan (some 0)), (.chan (some 1))], (.chan (some 12))⟩, ⟨(.bin .sub 3), [(.chan (some 12)), (.int .i64 1)], (.chan (some 13))⟩, ⟨(.bin .geq 3), [(.chan (some 9)), (.int .i64 0)], (.bool true)⟩, ⟨(.bin .leq 3), [(.chan (some 9)), (.chan (some 13))], (.bool true)⟩, ⟨(.bin .geq 3), [(.chan (some 10)), (.int .i64 0)], (.bool true)⟩, ⟨(.bin .leq 3), [(.chan (some 10)), (.chan (some 13))], (.bool true)⟩, ⟨(.bin .geq 3), [(.chan (some 8)), (.int .i64 1)], (.bool false)⟩]
noncomputable def rS_c3 : List CEnt := [⟨19, [(.agg #[(.chan (some 0)), (.chan (some 1)), (.chan (some 2)), (.chan (some 3)), (.chan (some 4)), (.chan (some 5)), (.chan (some 6)), (.chan (some 7))])], [], (.chan (some 11))⟩]
set_option maxRecDepth 1000000 in
theorem rS_r3 : ev Try.prog (env.sym rS_e3 rS_c3) 3000 (.call 17 [(.agg #[(.chan (some 0)), (.chan (some 1)), (.chan (some 2)), (.chan (some 3)), (.chan (some 4)), (.chan (some 5)), (.chan (some 6)), (.chan (some 7))]), (.chan (some 8)), (.chan (some 9)), (.chan (some 10))] Ev.start fun v _ => some v) = some (.tuple #[(.agg #[(.int .i64 0), (.int .i64 0)]), (.int .i64 3)]) := by kernel_rfl
noncomputable def rS_e4 : List Ent := [⟨(.bin .neq 27), [(.chan (some 11)), (.int .i64 0)], (.bool false)⟩, ⟨(.bin .mul 3), [(.chan (some 0)), (.chan (some 1))], (.chan (some 12))⟩, ⟨(.bin .sub 3), [(.chan (some 12)), (.int .i64 1)], (.chan (some 13))⟩, ⟨(.bin .geq 3), [(.chan (some 9)), (.int .i64 0)], (.bool true)⟩, ⟨(.bin .leq 3), [(.chan (some 9)), (.chan (some 13))], (.bool true)⟩, ⟨(.bin .geq 3), [(.chan (some 10)), (.int .i64 0)], (.bool true)⟩, ⟨(.bin .leq 3), [(.chan (some 10)), (.chan (some 13))], (.bool false)⟩]
noncomputable def rS_c4 : List CEnt := [⟨19, [(.agg #[(.chan (some 0)), (.chan (some 1)), (.chan (some 2)), (.chan (some 3)), (.chan (some 4)), (.chan (some 5)), (.chan (some 6)), (.chan (some 7))])], [], (.chan (some 11))⟩]
set_option maxRecDepth 1000000 in
theorem rS_r4 : ev Try.prog (env.sym rS_e4 rS_c4) 3000 (.call 17 [(.agg #[(.chan (some 0)), (.chan (some 1)), (.chan (some 2)), (.chan (some 3)), (.chan (some 4)), (.chan (some 5)), (.chan (some 6)), (.chan (some 7))]), (.chan (some 8)), (.chan (some 9)), (.chan (some 10))] Ev.start fun v _ => some v) = some (.tuple #[(.agg #[(.int .i64 0), (.int .i64 0)]), (.int .i64 4)]) := by kernel_rfl
noncomputable def rS_e5 : List Ent := [⟨(.bin .neq 27), [(.chan (some 11)), (.int .i64 0)], (.bool false)⟩, ⟨(.bin .mul 3), [(.chan (some 0)), (.chan (some 1))], (.chan (some 12))⟩, ⟨(.bin .sub 3), [(.chan (some 12)), (.int .i64 1)], (.chan (some 13))⟩, ⟨(.bin .geq 3), [(.chan (some 9)), (.int .i64 0)], (.bool true)⟩, ⟨(.bin .leq 3), [(.chan (some 9)), (.chan (some 13))], (.bool true)⟩, ⟨(.bin .geq 3), [(.chan (some 10)), (.int .i64 0)], (.bool false)⟩]
noncomputable def rS_c5 : List CEnt := [⟨19, [(.agg #[(.chan (some 0)), (.chan (some 1)), (.chan (some 2)), (.chan (some 3)), (.chan (some 4)), (.chan (some 5)), (.chan (some 6)), (.chan (some 7))])], [], (.chan (some 11))⟩]
set_option maxRecDepth 1000000 in
theorem rS_r5 : ev Try.prog (env.sym rS_e5 rS_c5) 3000 (.call 17 [(.agg #[(.chan (some 0)), (.chan (some 1)), (.chan (some 2)), (.chan (some 3)), (.chan (some 4)), (.chan (some 5)), (.chan (some 6)), (.chan (some 7))]), (.chan (some 8)), (.chan (some 9)), (.chan (some 10))] Ev.start fun v _ => some v) = some (.tuple #[(.agg #[(.int .i64 0), (.int .i64 0)]), (.int .i64 4)]) := by kernel_rfl
noncomputable def rS_e6 : List Ent := [⟨(.bin .neq 27), [(.chan (some 11)), (.int .i64 0)], (.bool false)⟩, ⟨(.bin .mul 3), [(.chan (some 0)), (.chan (some 1))], (.chan (some 12))⟩, ⟨(.bin .sub 3), [(.chan (some 12)), (.int .i64 1)], (.chan (some 13))⟩, ⟨(.bin .geq 3), [(.chan (some 9)), (.int .i64 0)], (.bool true)⟩, ⟨(.bin .leq 3), [(.chan (some 9)), (.chan (some 13))], (.bool false)⟩]
noncomputable def rS_c6 : List CEnt := [⟨19, [(.agg #[(.chan (some 0)), (.chan (some 1)), (.chan (some 2)), (.chan (some 3)), (.chan (some 4)), (.chan (some 5)), (.chan (some 6)), (.chan (some 7))])], [], (.chan (some 11))⟩]
set_option maxRecDepth 1000000 in
theorem rS_r6 : ev Try.prog (env.sym rS_e6 rS_c6) 3000 (.call 17 [(.agg #[(.chan (some 0)), (.chan (some 1)), (.chan (some 2)), (.chan (some 3)), (.chan (some 4)), (.chan (some 5)), (.chan (some 6)), (.chan (some 7))]), (.chan (some 8)), (.chan (some 9)), (.chan (some 10))] Ev.start fun v _ => some v) = some (.tuple #[(.agg #[(.int .i64 0), (.int .i64 0)]), (.int .i64 4)]) := by kernel_rfl
noncomputable def rS_e7 : List Ent := [⟨(.bin .neq 27), [(.chan (some 11)), (.int .i64 0)], (.bool false)⟩, ⟨(.bin .mul 3), [(.chan (some 0)), (.chan (some 1))], (.chan (some 12))⟩, ⟨(.bin .sub 3), [(.chan (some 12)), (.int .i64 1)], (.chan (some 13))⟩, ⟨(.bin .geq 3), [(.chan (some 9)), (.int .i64 0)], (.bool false)⟩]
noncomputable def rS_c7 : List CEnt := [⟨19, [(.agg #[(.chan (some 0)), (.chan (some 1)), (.chan (some 2)), (.chan (some 3)), (.chan (some 4)), (.chan (some 5)), (.chan (some 6)), (.chan (some 7))])], [], (.chan (some 11))⟩]
set_option maxRecDepth 1000000 in
theorem rS_r7 : ev Try.prog (env.sym rS_e7 rS_c7) 3000 (.call 17 [(.agg #[(.chan (some 0)), (.chan (some 1)), (.chan (some 2)), (.chan (some 3)), (.chan (some 4)), (.chan (some 5)), (.chan (some 6)), (.chan (some 7))]), (.chan (some 8)), (.chan (some 9)), (.chan (some 10))] Ev.start fun v _ => some v) = some (.tuple #[(.agg #[(.int .i64 0), (.int .i64 0)]), (.int .i64 4)]) := by kernel_rfl
set_option maxHeartbeats 8000000 in
set_option maxRecDepth 100000 in
theorem rS_any (x0 : Int) (x1 : Int) (x2 : Int) (x3 : Int) (x4 : Int) (x5 : Int) (x6 : Int) (x7 : Int) (x8 : Int) (x9 : Int) (x10 : Int)  (w : World)  : Calls Try.prog 17 #[(.agg #[(.int .i64 (x0)), (.int .i64 (x1)), (.int .i64 (x2)), (.int .i64 (x3)), (.int .i64 (x4)), (.int .i64 (x5)), (.int .i64 (x6)), (.int .i64 (x7))]), (.int .i64 (x8)), (.int .i64 (x9)), (.int .i64 (x10))] w (fun en w' => en = .returned (.tuple #[(.agg #[(.int .i64 (rS0 x0 x1 x2 x3 x4 x5 x6 x7 x8 x9 x10)), (.int .i64 (rS1 x0 x1 x2 x3 x4 x5 x6 x7 x8 x9 x10))]), (.int .i64 (rS2 x0 x1 x2 x3 x4 x5 x6 x7 x8 x9 x10))]) ∧ Below w.heap.size w w') := by
  have b11 : -9223372036854775808 ≤ (qcheck0 (x0) (x1) (x2) (x3) (x4) (x5) (x6) (x7)) ∧ (qcheck0 (x0) (x1) (x2) (x3) (x4) (x5) (x6) (x7)) ≤ 9223372036854775807 := by have := qcheck_bd (x0 := x0) (x1 := x1) (x2 := x2) (x3 := x3) (x4 := x4) (x5 := x5) (x6 := x6) (x7 := x7); omega
  by_cases c0 : (qcheck0 (x0) (x1) (x2) (x3) (x4) (x5) (x6) (x7)) ≠ 0
  · have q := @calls_sym (Rho.of [(.int .i64 (x0)), (.int .i64 (x1)), (.int .i64 (x2)), (.int .i64 (x3)), (.int .i64 (x4)), (.int .i64 (x5)), (.int .i64 (x6)), (.int .i64 (x7)), (.int .i64 (x8)), (.int .i64 (x9)), (.int .i64 (x10)), (.int .i64 ((qcheck0 (x0) (x1) (x2) (x3) (x4) (x5) (x6) (x7))))] (fun _ => none)) Try.prog _ (@Env.Ok.sym (Rho.of [(.int .i64 (x0)), (.int .i64 (x1)), (.int .i64 (x2)), (.int .i64 (x3)), (.int .i64 (x4)), (.int .i64 (x5)), (.int .i64 (x6)), (.int .i64 (x7)), (.int .i64 (x8)), (.int .i64 (x9)), (.int .i64 (x10)), (.int .i64 ((qcheck0 (x0) (x1) (x2) (x3) (x4) (x5) (x6) (x7))))] (fun _ => none)) _ _ (@env_ok (Rho.of [(.int .i64 (x0)), (.int .i64 (x1)), (.int .i64 (x2)), (.int .i64 (x3)), (.int .i64 (x4)), (.int .i64 (x5)), (.int .i64 (x6)), (.int .i64 (x7)), (.int .i64 (x8)), (.int .i64 (x9)), (.int .i64 (x10)), (.int .i64 ((qcheck0 (x0) (x1) (x2) (x3) (x4) (x5) (x6) (x7))))] (fun _ => none))) rS_e0 rS_c0 ⟨⟨rfl, rfl, fun w hm => (show KeyOk Try.prog w (.bin .neq 27) [(.int .i64 ((qcheck0 (x0) (x1) (x2) (x3) (x4) (x5) (x6) (x7)))), (.int .i64 0)] (.bool true) from k_neq_t c0)⟩, trivial⟩ ⟨(@CEntOk.of (Rho.of [(.int .i64 (x0)), (.int .i64 (x1)), (.int .i64 (x2)), (.int .i64 (x3)), (.int .i64 (x4)), (.int .i64 (x5)), (.int .i64 (x6)), (.int .i64 (x7)), (.int .i64 (x8)), (.int .i64 (x9)), (.int .i64 (x10)), (.int .i64 ((qcheck0 (x0) (x1) (x2) (x3) (x4) (x5) (x6) (x7))))] (fun _ => none)) Try.prog _ 19 _ _ #[(.agg #[(.int .i64 (x0)), (.int .i64 (x1)), (.int .i64 (x2)), (.int .i64 (x3)), (.int .i64 (x4)), (.int .i64 (x5)), (.int .i64 (x6)), (.int .i64 (x7))])] (.int .i64 ((qcheck0 (x0) (x1) (x2) (x3) (x4) (x5) (x6) (x7)))) rfl ⟨Try.f19, (Try.f19.body).getD .skip, by kernel_rfl, by kernel_rfl⟩ rfl rfl rfl (fun w hm => rcheckq_any (x0) (x1) (x2) (x3) (x4) (x5) (x6) (x7)  w)), trivial⟩) 3000 17 [(.agg #[(.chan (some 0)), (.chan (some 1)), (.chan (some 2)), (.chan (some 3)), (.chan (some 4)), (.chan (some 5)), (.chan (some 6)), (.chan (some 7))]), (.chan (some 8)), (.chan (some 9)), (.chan (some 10))] (.tuple #[(.agg #[(.int .i64 0), (.int .i64 0)]), (.chan (some 11))]) rfl rfl rS_r0 w (fun _ _ h => nomatch h)
    have v0 : (0 : Int) = rS0 x0 x1 x2 x3 x4 x5 x6 x7 x8 x9 x10 := by
      unfold rS0
      try rw [if_pos c0]
      try rfl
    have v1 : (0 : Int) = rS1 x0 x1 x2 x3 x4 x5 x6 x7 x8 x9 x10 := by
      unfold rS1
      try rw [if_pos c0]
      try rfl
    have v2 : ((qcheck0 (x0) (x1) (x2) (x3) (x4) (x5) (x6) (x7)) : Int) = rS2 x0 x1 x2 x3 x4 x5 x6 x7 x8 x9 x10 := by
      unfold rS2
      try rw [if_pos c0]
      try rfl
    have hv : ((.tuple #[(.agg #[(.int .i64 (0)), (.int .i64 (0))]), (.int .i64 ((qcheck0 (x0) (x1) (x2) (x3) (x4) (x5) (x6) (x7))))]) : Value) = (.tuple #[(.agg #[(.int .i64 (rS0 x0 x1 x2 x3 x4 x5 x6 x7 x8 x9 x10)), (.int .i64 (rS1 x0 x1 x2 x3 x4 x5 x6 x7 x8 x9 x10))]), (.int .i64 (rS2 x0 x1 x2 x3 x4 x5 x6 x7 x8 x9 x10))]) := by rw [← v0, ← v1, ← v2]
    rw [← hv]
    exact q
  · have hv := qcheck_ok (x0 := x0) (x1 := x1) (x2 := x2) (x3 := x3) (x4 := x4) (x5 := x5) (x6 := x6) (x7 := x7) (by omega)
    have hx := mul_bd (a := x0) (b := x1) (A := 24) (B := 24) (C := 576) (by omega) (by omega) (by omega) (by omega)
    obtain ⟨y12, hy12⟩ : ∃ y : Int, y = (x0 * x1) := ⟨_, rfl⟩
    have b12 : 0 ≤ y12 ∧ y12 ≤ 576 := by rw [hy12]; exact mul_bd (A := 24) (B := 24) (C := 576) (by omega) (by omega) (by omega) (by omega)
    replace hy12 : Hid (y12 = (x0 * x1)) := hy12
    obtain ⟨y13, hy13⟩ : ∃ y : Int, y = (y12 - 1) := ⟨_, rfl⟩
    have b13 : (-1) ≤ y13 ∧ y13 ≤ 575 := by rw [hy13]; omega
    replace hy13 : Hid (y13 = (y12 - 1)) := hy13
    by_cases c1 : x9 ≥ 0
    · by_cases c2 : x9 ≤ y13
      · by_cases c3 : x10 ≥ 0
        · by_cases c4 : x10 ≤ y13
          · by_cases c5 : x8 ≥ 1
            · by_cases c6 : x8 ≤ 10
              · have b14 : 0 ≤ (dist0 (x0) (x1) (x2) (x3) (x4) (x5) (x6) (x7) (x9) (x10)) ∧ (dist0 (x0) (x1) (x2) (x3) (x4) (x5) (x6) (x7) (x9) (x10)) ≤ 1048575 := (dist_bd (hv.1) (hv.2.1) (hv.2.2.1) (hv.2.2.2.1) (hv.2.2.2.2.1) (hv.2.2.2.2.2) ⟨(by have e1 : y12 = (x0 * x1) := hy12; have e2 : y13 = (y12 - 1) := hy13; omega), (by have e1 : y12 = (x0 * x1) := hy12; have e2 : y13 = (y12 - 1) := hy13; omega)⟩ ⟨(by have e1 : y12 = (x0 * x1) := hy12; have e2 : y13 = (y12 - 1) := hy13; omega), (by have e1 : y12 = (x0 * x1) := hy12; have e2 : y13 = (y12 - 1) := hy13; omega)⟩).1
                have b15 : 0 ≤ (dist1 (x0) (x1) (x2) (x3) (x4) (x5) (x6) (x7) (x9) (x10)) ∧ (dist1 (x0) (x1) (x2) (x3) (x4) (x5) (x6) (x7) (x9) (x10)) ≤ 1048576 := (dist_bd (hv.1) (hv.2.1) (hv.2.2.1) (hv.2.2.2.1) (hv.2.2.2.2.1) (hv.2.2.2.2.2) ⟨(by have e1 : y12 = (x0 * x1) := hy12; have e2 : y13 = (y12 - 1) := hy13; omega), (by have e1 : y12 = (x0 * x1) := hy12; have e2 : y13 = (y12 - 1) := hy13; omega)⟩ ⟨(by have e1 : y12 = (x0 * x1) := hy12; have e2 : y13 = (y12 - 1) := hy13; omega), (by have e1 : y12 = (x0 * x1) := hy12; have e2 : y13 = (y12 - 1) := hy13; omega)⟩).2
                obtain ⟨y16, hy16⟩ : ∃ y : Int, y = (100 * x8) := ⟨_, rfl⟩
                have b16 : 100 ≤ y16 ∧ y16 ≤ 1000 := by rw [hy16]; omega
                replace hy16 : Hid (y16 = (100 * x8)) := hy16
                have b17 : 0 ≤ (fallZ ((dist1 (x0) (x1) (x2) (x3) (x4) (x5) (x6) (x7) (x9) (x10)))) ∧ (fallZ ((dist1 (x0) (x1) (x2) (x3) (x4) (x5) (x6) (x7) (x9) (x10)))) ≤ 450 := fall_bd (d := (dist1 (x0) (x1) (x2) (x3) (x4) (x5) (x6) (x7) (x9) (x10))) (by omega) (by omega)
                obtain ⟨y18, hy18⟩ : ∃ y : Int, y = (y16 - (fallZ ((dist1 (x0) (x1) (x2) (x3) (x4) (x5) (x6) (x7) (x9) (x10))))) := ⟨_, rfl⟩
                have b18 : (-350) ≤ y18 ∧ y18 ≤ 1000 := by rw [hy18]; omega
                replace hy18 : Hid (y18 = (y16 - (fallZ ((dist1 (x0) (x1) (x2) (x3) (x4) (x5) (x6) (x7) (x9) (x10)))))) := hy18
                obtain ⟨y19, hy19⟩ : ∃ y : Int, y = (y18 - x7) := ⟨_, rfl⟩
                have b19 : (-1350) ≤ y19 ∧ y19 ≤ 1000 := by rw [hy19]; omega
                replace hy19 : Hid (y19 = (y18 - x7)) := hy19
                have b20 : 0 ≤ (fallZ ((dist0 (x0) (x1) (x2) (x3) (x4) (x5) (x6) (x7) (x9) (x10)))) ∧ (fallZ ((dist0 (x0) (x1) (x2) (x3) (x4) (x5) (x6) (x7) (x9) (x10)))) ≤ 450 := fall_bd (d := (dist0 (x0) (x1) (x2) (x3) (x4) (x5) (x6) (x7) (x9) (x10))) (by omega) (by omega)
                obtain ⟨y21, hy21⟩ : ∃ y : Int, y = (y16 - (fallZ ((dist0 (x0) (x1) (x2) (x3) (x4) (x5) (x6) (x7) (x9) (x10))))) := ⟨_, rfl⟩
                have b21 : (-350) ≤ y21 ∧ y21 ≤ 1000 := by rw [hy21]; omega
                replace hy21 : Hid (y21 = (y16 - (fallZ ((dist0 (x0) (x1) (x2) (x3) (x4) (x5) (x6) (x7) (x9) (x10)))))) := hy21
                obtain ⟨y22, hy22⟩ : ∃ y : Int, y = (y21 + x7) := ⟨_, rfl⟩
                have b22 : (-350) ≤ y22 ∧ y22 ≤ 2000 := by rw [hy22]; omega
                replace hy22 : Hid (y22 = (y21 + x7)) := hy22
                have q := @calls_sym (Rho.of [(.int .i64 (x0)), (.int .i64 (x1)), (.int .i64 (x2)), (.int .i64 (x3)), (.int .i64 (x4)), (.int .i64 (x5)), (.int .i64 (x6)), (.int .i64 (x7)), (.int .i64 (x8)), (.int .i64 (x9)), (.int .i64 (x10)), (.int .i64 ((qcheck0 (x0) (x1) (x2) (x3) (x4) (x5) (x6) (x7)))), (.int .i64 (y12)), (.int .i64 (y13)), (.int .i64 ((dist0 (x0) (x1) (x2) (x3) (x4) (x5) (x6) (x7) (x9) (x10)))), (.int .i64 ((dist1 (x0) (x1) (x2) (x3) (x4) (x5) (x6) (x7) (x9) (x10)))), (.int .i64 (y16)), (.int .i64 ((fallZ ((dist1 (x0) (x1) (x2) (x3) (x4) (x5) (x6) (x7) (x9) (x10)))))), (.int .i64 (y18)), (.int .i64 (y19)), (.int .i64 ((fallZ ((dist0 (x0) (x1) (x2) (x3) (x4) (x5) (x6) (x7) (x9) (x10)))))), (.int .i64 (y21)), (.int .i64 (y22))] (fun _ => none)) Try.prog _ (@Env.Ok.sym (Rho.of [(.int .i64 (x0)), (.int .i64 (x1)), (.int .i64 (x2)), (.int .i64 (x3)), (.int .i64 (x4)), (.int .i64 (x5)), (.int .i64 (x6)), (.int .i64 (x7)), (.int .i64 (x8)), (.int .i64 (x9)), (.int .i64 (x10)), (.int .i64 ((qcheck0 (x0) (x1) (x2) (x3) (x4) (x5) (x6) (x7)))), (.int .i64 (y12)), (.int .i64 (y13)), (.int .i64 ((dist0 (x0) (x1) (x2) (x3) (x4) (x5) (x6) (x7) (x9) (x10)))), (.int .i64 ((dist1 (x0) (x1) (x2) (x3) (x4) (x5) (x6) (x7) (x9) (x10)))), (.int .i64 (y16)), (.int .i64 ((fallZ ((dist1 (x0) (x1) (x2) (x3) (x4) (x5) (x6) (x7) (x9) (x10)))))), (.int .i64 (y18)), (.int .i64 (y19)), (.int .i64 ((fallZ ((dist0 (x0) (x1) (x2) (x3) (x4) (x5) (x6) (x7) (x9) (x10)))))), (.int .i64 (y21)), (.int .i64 (y22))] (fun _ => none)) _ _ (@env_ok (Rho.of [(.int .i64 (x0)), (.int .i64 (x1)), (.int .i64 (x2)), (.int .i64 (x3)), (.int .i64 (x4)), (.int .i64 (x5)), (.int .i64 (x6)), (.int .i64 (x7)), (.int .i64 (x8)), (.int .i64 (x9)), (.int .i64 (x10)), (.int .i64 ((qcheck0 (x0) (x1) (x2) (x3) (x4) (x5) (x6) (x7)))), (.int .i64 (y12)), (.int .i64 (y13)), (.int .i64 ((dist0 (x0) (x1) (x2) (x3) (x4) (x5) (x6) (x7) (x9) (x10)))), (.int .i64 ((dist1 (x0) (x1) (x2) (x3) (x4) (x5) (x6) (x7) (x9) (x10)))), (.int .i64 (y16)), (.int .i64 ((fallZ ((dist1 (x0) (x1) (x2) (x3) (x4) (x5) (x6) (x7) (x9) (x10)))))), (.int .i64 (y18)), (.int .i64 (y19)), (.int .i64 ((fallZ ((dist0 (x0) (x1) (x2) (x3) (x4) (x5) (x6) (x7) (x9) (x10)))))), (.int .i64 (y21)), (.int .i64 (y22))] (fun _ => none))) rS_e1 rS_c1 ⟨⟨rfl, rfl, fun w hm => (show KeyOk Try.prog w (.bin .neq 27) [(.int .i64 ((qcheck0 (x0) (x1) (x2) (x3) (x4) (x5) (x6) (x7)))), (.int .i64 0)] (.bool false) from k_neq_f c0)⟩, ⟨rfl, rfl, fun w hm => (show KeyOk Try.prog w (.bin .mul 3) [(.int .i64 (x0)), (.int .i64 (x1))] (.int .i64 (y12)) from key_eq (e := (x0 * x1)) hy12 (have ey : y12 = (x0 * x1) := hy12; k_mul (wrap64 (by omega))))⟩, ⟨rfl, rfl, fun w hm => (show KeyOk Try.prog w (.bin .sub 3) [(.int .i64 (y12)), (.int .i64 1)] (.int .i64 (y13)) from key_eq (e := (y12 - 1)) hy13 (have ey : y13 = (y12 - 1) := hy13; k_sub (wrap64 (by omega))))⟩, ⟨rfl, rfl, fun w hm => (show KeyOk Try.prog w (.bin .geq 3) [(.int .i64 (x9)), (.int .i64 0)] (.bool true) from k_geq_t c1)⟩, ⟨rfl, rfl, fun w hm => (show KeyOk Try.prog w (.bin .leq 3) [(.int .i64 (x9)), (.int .i64 (y13))] (.bool true) from k_leq_t c2)⟩, ⟨rfl, rfl, fun w hm => (show KeyOk Try.prog w (.bin .geq 3) [(.int .i64 (x10)), (.int .i64 0)] (.bool true) from k_geq_t c3)⟩, ⟨rfl, rfl, fun w hm => (show KeyOk Try.prog w (.bin .leq 3) [(.int .i64 (x10)), (.int .i64 (y13))] (.bool true) from k_leq_t c4)⟩, ⟨rfl, rfl, fun w hm => (show KeyOk Try.prog w (.bin .geq 3) [(.int .i64 (x8)), (.int .i64 1)] (.bool true) from k_geq_t c5)⟩, ⟨rfl, rfl, fun w hm => (show KeyOk Try.prog w (.bin .leq 3) [(.int .i64 (x8)), (.int .i64 10)] (.bool true) from k_leq_t c6)⟩, ⟨rfl, rfl, fun w hm => (show KeyOk Try.prog w (.bin .mul 3) [(.int .i64 100), (.int .i64 (x8))] (.int .i64 (y16)) from key_eq (e := (100 * x8)) hy16 (have ey : y16 = (100 * x8) := hy16; k_mul (wrap64 (by omega))))⟩, ⟨rfl, rfl, fun w hm => (show KeyOk Try.prog w (.bin .sub 3) [(.int .i64 (y16)), (.int .i64 ((fallZ ((dist1 (x0) (x1) (x2) (x3) (x4) (x5) (x6) (x7) (x9) (x10))))))] (.int .i64 (y18)) from key_eq (e := (y16 - (fallZ ((dist1 (x0) (x1) (x2) (x3) (x4) (x5) (x6) (x7) (x9) (x10)))))) hy18 (have ey : y18 = (y16 - (fallZ ((dist1 (x0) (x1) (x2) (x3) (x4) (x5) (x6) (x7) (x9) (x10))))) := hy18; k_sub (wrap64 (by omega))))⟩, ⟨rfl, rfl, fun w hm => (show KeyOk Try.prog w (.bin .sub 3) [(.int .i64 (y18)), (.int .i64 (x7))] (.int .i64 (y19)) from key_eq (e := (y18 - x7)) hy19 (have ey : y19 = (y18 - x7) := hy19; k_sub (wrap64 (by omega))))⟩, ⟨rfl, rfl, fun w hm => (show KeyOk Try.prog w (.bin .sub 3) [(.int .i64 (y16)), (.int .i64 ((fallZ ((dist0 (x0) (x1) (x2) (x3) (x4) (x5) (x6) (x7) (x9) (x10))))))] (.int .i64 (y21)) from key_eq (e := (y16 - (fallZ ((dist0 (x0) (x1) (x2) (x3) (x4) (x5) (x6) (x7) (x9) (x10)))))) hy21 (have ey : y21 = (y16 - (fallZ ((dist0 (x0) (x1) (x2) (x3) (x4) (x5) (x6) (x7) (x9) (x10))))) := hy21; k_sub (wrap64 (by omega))))⟩, ⟨rfl, rfl, fun w hm => (show KeyOk Try.prog w (.bin .add 3) [(.int .i64 (y21)), (.int .i64 (x7))] (.int .i64 (y22)) from key_eq (e := (y21 + x7)) hy22 (have ey : y22 = (y21 + x7) := hy22; k_add (wrap64 (by omega))))⟩, trivial⟩ ⟨(@CEntOk.of (Rho.of [(.int .i64 (x0)), (.int .i64 (x1)), (.int .i64 (x2)), (.int .i64 (x3)), (.int .i64 (x4)), (.int .i64 (x5)), (.int .i64 (x6)), (.int .i64 (x7)), (.int .i64 (x8)), (.int .i64 (x9)), (.int .i64 (x10)), (.int .i64 ((qcheck0 (x0) (x1) (x2) (x3) (x4) (x5) (x6) (x7)))), (.int .i64 (y12)), (.int .i64 (y13)), (.int .i64 ((dist0 (x0) (x1) (x2) (x3) (x4) (x5) (x6) (x7) (x9) (x10)))), (.int .i64 ((dist1 (x0) (x1) (x2) (x3) (x4) (x5) (x6) (x7) (x9) (x10)))), (.int .i64 (y16)), (.int .i64 ((fallZ ((dist1 (x0) (x1) (x2) (x3) (x4) (x5) (x6) (x7) (x9) (x10)))))), (.int .i64 (y18)), (.int .i64 (y19)), (.int .i64 ((fallZ ((dist0 (x0) (x1) (x2) (x3) (x4) (x5) (x6) (x7) (x9) (x10)))))), (.int .i64 (y21)), (.int .i64 (y22))] (fun _ => none)) Try.prog _ 19 _ _ #[(.agg #[(.int .i64 (x0)), (.int .i64 (x1)), (.int .i64 (x2)), (.int .i64 (x3)), (.int .i64 (x4)), (.int .i64 (x5)), (.int .i64 (x6)), (.int .i64 (x7))])] (.int .i64 ((qcheck0 (x0) (x1) (x2) (x3) (x4) (x5) (x6) (x7)))) rfl ⟨Try.f19, (Try.f19.body).getD .skip, by kernel_rfl, by kernel_rfl⟩ rfl rfl rfl (fun w hm => rcheckq_any (x0) (x1) (x2) (x3) (x4) (x5) (x6) (x7)  w)), (@CEntOk.of (Rho.of [(.int .i64 (x0)), (.int .i64 (x1)), (.int .i64 (x2)), (.int .i64 (x3)), (.int .i64 (x4)), (.int .i64 (x5)), (.int .i64 (x6)), (.int .i64 (x7)), (.int .i64 (x8)), (.int .i64 (x9)), (.int .i64 (x10)), (.int .i64 ((qcheck0 (x0) (x1) (x2) (x3) (x4) (x5) (x6) (x7)))), (.int .i64 (y12)), (.int .i64 (y13)), (.int .i64 ((dist0 (x0) (x1) (x2) (x3) (x4) (x5) (x6) (x7) (x9) (x10)))), (.int .i64 ((dist1 (x0) (x1) (x2) (x3) (x4) (x5) (x6) (x7) (x9) (x10)))), (.int .i64 (y16)), (.int .i64 ((fallZ ((dist1 (x0) (x1) (x2) (x3) (x4) (x5) (x6) (x7) (x9) (x10)))))), (.int .i64 (y18)), (.int .i64 (y19)), (.int .i64 ((fallZ ((dist0 (x0) (x1) (x2) (x3) (x4) (x5) (x6) (x7) (x9) (x10)))))), (.int .i64 (y21)), (.int .i64 (y22))] (fun _ => none)) Try.prog _ 83 _ _ #[(.agg #[(.int .i64 (x0)), (.int .i64 (x1)), (.int .i64 (x2)), (.int .i64 (x3)), (.int .i64 (x4)), (.int .i64 (x5)), (.int .i64 (x6)), (.int .i64 (x7))]), (.int .i64 (x9)), (.int .i64 (x10))] (.agg #[(.int .i64 ((dist0 (x0) (x1) (x2) (x3) (x4) (x5) (x6) (x7) (x9) (x10)))), (.int .i64 ((dist1 (x0) (x1) (x2) (x3) (x4) (x5) (x6) (x7) (x9) (x10))))]) rfl ⟨Try.f83, (Try.f83.body).getD .skip, by kernel_rfl, by kernel_rfl⟩ rfl rfl rfl (fun w hm => rdist_any (x0) (x1) (x2) (x3) (x4) (x5) (x6) (x7) (x9) (x10) (hv.1) (hv.2.1) (hv.2.2.1) (hv.2.2.2.1) (hv.2.2.2.2.1) (hv.2.2.2.2.2) ⟨(by have e1 : y12 = (x0 * x1) := hy12; have e2 : y13 = (y12 - 1) := hy13; omega), (by have e1 : y12 = (x0 * x1) := hy12; have e2 : y13 = (y12 - 1) := hy13; omega)⟩ ⟨(by have e1 : y12 = (x0 * x1) := hy12; have e2 : y13 = (y12 - 1) := hy13; omega), (by have e1 : y12 = (x0 * x1) := hy12; have e2 : y13 = (y12 - 1) := hy13; omega)⟩ w)), (@CEntOk.of (Rho.of [(.int .i64 (x0)), (.int .i64 (x1)), (.int .i64 (x2)), (.int .i64 (x3)), (.int .i64 (x4)), (.int .i64 (x5)), (.int .i64 (x6)), (.int .i64 (x7)), (.int .i64 (x8)), (.int .i64 (x9)), (.int .i64 (x10)), (.int .i64 ((qcheck0 (x0) (x1) (x2) (x3) (x4) (x5) (x6) (x7)))), (.int .i64 (y12)), (.int .i64 (y13)), (.int .i64 ((dist0 (x0) (x1) (x2) (x3) (x4) (x5) (x6) (x7) (x9) (x10)))), (.int .i64 ((dist1 (x0) (x1) (x2) (x3) (x4) (x5) (x6) (x7) (x9) (x10)))), (.int .i64 (y16)), (.int .i64 ((fallZ ((dist1 (x0) (x1) (x2) (x3) (x4) (x5) (x6) (x7) (x9) (x10)))))), (.int .i64 (y18)), (.int .i64 (y19)), (.int .i64 ((fallZ ((dist0 (x0) (x1) (x2) (x3) (x4) (x5) (x6) (x7) (x9) (x10)))))), (.int .i64 (y21)), (.int .i64 (y22))] (fun _ => none)) Try.prog _ 85 _ _ #[(.int .i64 ((dist1 (x0) (x1) (x2) (x3) (x4) (x5) (x6) (x7) (x9) (x10))))] (.int .i64 ((fallZ ((dist1 (x0) (x1) (x2) (x3) (x4) (x5) (x6) (x7) (x9) (x10)))))) rfl ⟨Try.f85, (Try.f85.body).getD .skip, by kernel_rfl, by kernel_rfl⟩ rfl rfl rfl (fun w hm => rfall_any ((dist1 (x0) (x1) (x2) (x3) (x4) (x5) (x6) (x7) (x9) (x10))) (by omega) (by omega) w)), (@CEntOk.of (Rho.of [(.int .i64 (x0)), (.int .i64 (x1)), (.int .i64 (x2)), (.int .i64 (x3)), (.int .i64 (x4)), (.int .i64 (x5)), (.int .i64 (x6)), (.int .i64 (x7)), (.int .i64 (x8)), (.int .i64 (x9)), (.int .i64 (x10)), (.int .i64 ((qcheck0 (x0) (x1) (x2) (x3) (x4) (x5) (x6) (x7)))), (.int .i64 (y12)), (.int .i64 (y13)), (.int .i64 ((dist0 (x0) (x1) (x2) (x3) (x4) (x5) (x6) (x7) (x9) (x10)))), (.int .i64 ((dist1 (x0) (x1) (x2) (x3) (x4) (x5) (x6) (x7) (x9) (x10)))), (.int .i64 (y16)), (.int .i64 ((fallZ ((dist1 (x0) (x1) (x2) (x3) (x4) (x5) (x6) (x7) (x9) (x10)))))), (.int .i64 (y18)), (.int .i64 (y19)), (.int .i64 ((fallZ ((dist0 (x0) (x1) (x2) (x3) (x4) (x5) (x6) (x7) (x9) (x10)))))), (.int .i64 (y21)), (.int .i64 (y22))] (fun _ => none)) Try.prog _ 85 _ _ #[(.int .i64 ((dist0 (x0) (x1) (x2) (x3) (x4) (x5) (x6) (x7) (x9) (x10))))] (.int .i64 ((fallZ ((dist0 (x0) (x1) (x2) (x3) (x4) (x5) (x6) (x7) (x9) (x10)))))) rfl ⟨Try.f85, (Try.f85.body).getD .skip, by kernel_rfl, by kernel_rfl⟩ rfl rfl rfl (fun w hm => rfall_any ((dist0 (x0) (x1) (x2) (x3) (x4) (x5) (x6) (x7) (x9) (x10))) (by omega) (by omega) w)), trivial⟩) 3000 17 [(.agg #[(.chan (some 0)), (.chan (some 1)), (.chan (some 2)), (.chan (some 3)), (.chan (some 4)), (.chan (some 5)), (.chan (some 6)), (.chan (some 7))]), (.chan (some 8)), (.chan (some 9)), (.chan (some 10))] (.tuple #[(.agg #[(.chan (some 19)), (.chan (some 22))]), (.int .i64 0)]) rfl rfl rS_r1 w (fun _ _ h => nomatch h)
                have v0 : (y19 : Int) = rS0 x0 x1 x2 x3 x4 x5 x6 x7 x8 x9 x10 := by
                  have e12 : y12 = (x0 * x1) := hy12
                  have e13 : y13 = (y12 - 1) := hy13
                  have e16 : y16 = (100 * x8) := hy16
                  have e18 : y18 = (y16 - (fallZ ((dist1 (x0) (x1) (x2) (x3) (x4) (x5) (x6) (x7) (x9) (x10))))) := hy18
                  have e19 : y19 = (y18 - x7) := hy19
                  have e21 : y21 = (y16 - (fallZ ((dist0 (x0) (x1) (x2) (x3) (x4) (x5) (x6) (x7) (x9) (x10))))) := hy21
                  have e22 : y22 = (y21 + x7) := hy22
                  try simp only [e12, e13, e16, e18, e19, e21, e22] at c0
                  try simp only [e12, e13, e16, e18, e19, e21, e22] at c1
                  try simp only [e12, e13, e16, e18, e19, e21, e22] at c2
                  try simp only [e12, e13, e16, e18, e19, e21, e22] at c3
                  try simp only [e12, e13, e16, e18, e19, e21, e22] at c4
                  try simp only [e12, e13, e16, e18, e19, e21, e22] at c5
                  try simp only [e12, e13, e16, e18, e19, e21, e22] at c6
                  unfold rS0
                  try rw [if_neg c0]
                  try rw [if_pos c1]
                  try rw [if_pos c2]
                  try rw [if_pos c3]
                  try rw [if_pos c4]
                  try rw [if_pos c5]
                  try rw [if_pos c6]
                  try simp only [e12, e13, e16, e18, e19, e21, e22]
                have v1 : (y22 : Int) = rS1 x0 x1 x2 x3 x4 x5 x6 x7 x8 x9 x10 := by
                  have e12 : y12 = (x0 * x1) := hy12
                  have e13 : y13 = (y12 - 1) := hy13
                  have e16 : y16 = (100 * x8) := hy16
                  have e18 : y18 = (y16 - (fallZ ((dist1 (x0) (x1) (x2) (x3) (x4) (x5) (x6) (x7) (x9) (x10))))) := hy18
                  have e19 : y19 = (y18 - x7) := hy19
                  have e21 : y21 = (y16 - (fallZ ((dist0 (x0) (x1) (x2) (x3) (x4) (x5) (x6) (x7) (x9) (x10))))) := hy21
                  have e22 : y22 = (y21 + x7) := hy22
                  try simp only [e12, e13, e16, e18, e19, e21, e22] at c0
                  try simp only [e12, e13, e16, e18, e19, e21, e22] at c1
                  try simp only [e12, e13, e16, e18, e19, e21, e22] at c2
                  try simp only [e12, e13, e16, e18, e19, e21, e22] at c3
                  try simp only [e12, e13, e16, e18, e19, e21, e22] at c4
                  try simp only [e12, e13, e16, e18, e19, e21, e22] at c5
                  try simp only [e12, e13, e16, e18, e19, e21, e22] at c6
                  unfold rS1
                  try rw [if_neg c0]
                  try rw [if_pos c1]
                  try rw [if_pos c2]
                  try rw [if_pos c3]
                  try rw [if_pos c4]
                  try rw [if_pos c5]
                  try rw [if_pos c6]
                  try simp only [e12, e13, e16, e18, e19, e21, e22]
                have v2 : (0 : Int) = rS2 x0 x1 x2 x3 x4 x5 x6 x7 x8 x9 x10 := by
                  have e12 : y12 = (x0 * x1) := hy12
                  have e13 : y13 = (y12 - 1) := hy13
                  have e16 : y16 = (100 * x8) := hy16
                  have e18 : y18 = (y16 - (fallZ ((dist1 (x0) (x1) (x2) (x3) (x4) (x5) (x6) (x7) (x9) (x10))))) := hy18
                  have e19 : y19 = (y18 - x7) := hy19
                  have e21 : y21 = (y16 - (fallZ ((dist0 (x0) (x1) (x2) (x3) (x4) (x5) (x6) (x7) (x9) (x10))))) := hy21
                  have e22 : y22 = (y21 + x7) := hy22
                  try simp only [e12, e13, e16, e18, e19, e21, e22] at c0
                  try simp only [e12, e13, e16, e18, e19, e21, e22] at c1
                  try simp only [e12, e13, e16, e18, e19, e21, e22] at c2
                  try simp only [e12, e13, e16, e18, e19, e21, e22] at c3
                  try simp only [e12, e13, e16, e18, e19, e21, e22] at c4
                  try simp only [e12, e13, e16, e18, e19, e21, e22] at c5
                  try simp only [e12, e13, e16, e18, e19, e21, e22] at c6
                  unfold rS2
                  try rw [if_neg c0]
                  try rw [if_pos c1]
                  try rw [if_pos c2]
                  try rw [if_pos c3]
                  try rw [if_pos c4]
                  try rw [if_pos c5]
                  try rw [if_pos c6]
                  try simp only [e12, e13, e16, e18, e19, e21, e22]
                have hv : ((.tuple #[(.agg #[(.int .i64 (y19)), (.int .i64 (y22))]), (.int .i64 (0))]) : Value) = (.tuple #[(.agg #[(.int .i64 (rS0 x0 x1 x2 x3 x4 x5 x6 x7 x8 x9 x10)), (.int .i64 (rS1 x0 x1 x2 x3 x4 x5 x6 x7 x8 x9 x10))]), (.int .i64 (rS2 x0 x1 x2 x3 x4 x5 x6 x7 x8 x9 x10))]) := by rw [← v0, ← v1, ← v2]
                rw [← hv]
                exact q
              · have q := @calls_sym (Rho.of [(.int .i64 (x0)), (.int .i64 (x1)), (.int .i64 (x2)), (.int .i64 (x3)), (.int .i64 (x4)), (.int .i64 (x5)), (.int .i64 (x6)), (.int .i64 (x7)), (.int .i64 (x8)), (.int .i64 (x9)), (.int .i64 (x10)), (.int .i64 ((qcheck0 (x0) (x1) (x2) (x3) (x4) (x5) (x6) (x7)))), (.int .i64 (y12)), (.int .i64 (y13))] (fun _ => none)) Try.prog _ (@Env.Ok.sym (Rho.of [(.int .i64 (x0)), (.int .i64 (x1)), (.int .i64 (x2)), (.int .i64 (x3)), (.int .i64 (x4)), (.int .i64 (x5)), (.int .i64 (x6)), (.int .i64 (x7)), (.int .i64 (x8)), (.int .i64 (x9)), (.int .i64 (x10)), (.int .i64 ((qcheck0 (x0) (x1) (x2) (x3) (x4) (x5) (x6) (x7)))), (.int .i64 (y12)), (.int .i64 (y13))] (fun _ => none)) _ _ (@env_ok (Rho.of [(.int .i64 (x0)), (.int .i64 (x1)), (.int .i64 (x2)), (.int .i64 (x3)), (.int .i64 (x4)), (.int .i64 (x5)), (.int .i64 (x6)), (.int .i64 (x7)), (.int .i64 (x8)), (.int .i64 (x9)), (.int .i64 (x10)), (.int .i64 ((qcheck0 (x0) (x1) (x2) (x3) (x4) (x5) (x6) (x7)))), (.int .i64 (y12)), (.int .i64 (y13))] (fun _ => none))) rS_e2 rS_c2 ⟨⟨rfl, rfl, fun w hm => (show KeyOk Try.prog w (.bin .neq 27) [(.int .i64 ((qcheck0 (x0) (x1) (x2) (x3) (x4) (x5) (x6) (x7)))), (.int .i64 0)] (.bool false) from k_neq_f c0)⟩, ⟨rfl, rfl, fun w hm => (show KeyOk Try.prog w (.bin .mul 3) [(.int .i64 (x0)), (.int .i64 (x1))] (.int .i64 (y12)) from key_eq (e := (x0 * x1)) hy12 (have ey : y12 = (x0 * x1) := hy12; k_mul (wrap64 (by omega))))⟩, ⟨rfl, rfl, fun w hm => (show KeyOk Try.prog w (.bin .sub 3) [(.int .i64 (y12)), (.int .i64 1)] (.int .i64 (y13)) from key_eq (e := (y12 - 1)) hy13 (have ey : y13 = (y12 - 1) := hy13; k_sub (wrap64 (by omega))))⟩, ⟨rfl, rfl, fun w hm => (show KeyOk Try.prog w (.bin .geq 3) [(.int .i64 (x9)), (.int .i64 0)] (.bool true) from k_geq_t c1)⟩, ⟨rfl, rfl, fun w hm => (show KeyOk Try.prog w (.bin .leq 3) [(.int .i64 (x9)), (.int .i64 (y13))] (.bool true) from k_leq_t c2)⟩, ⟨rfl, rfl, fun w hm => (show KeyOk Try.prog w (.bin .geq 3) [(.int .i64 (x10)), (.int .i64 0)] (.bool true) from k_geq_t c3)⟩, ⟨rfl, rfl, fun w hm => (show KeyOk Try.prog w (.bin .leq 3) [(.int .i64 (x10)), (.int .i64 (y13))] (.bool true) from k_leq_t c4)⟩, ⟨rfl, rfl, fun w hm => (show KeyOk Try.prog w (.bin .geq 3) [(.int .i64 (x8)), (.int .i64 1)] (.bool true) from k_geq_t c5)⟩, ⟨rfl, rfl, fun w hm => (show KeyOk Try.prog w (.bin .leq 3) [(.int .i64 (x8)), (.int .i64 10)] (.bool false) from k_leq_f c6)⟩, trivial⟩ ⟨(@CEntOk.of (Rho.of [(.int .i64 (x0)), (.int .i64 (x1)), (.int .i64 (x2)), (.int .i64 (x3)), (.int .i64 (x4)), (.int .i64 (x5)), (.int .i64 (x6)), (.int .i64 (x7)), (.int .i64 (x8)), (.int .i64 (x9)), (.int .i64 (x10)), (.int .i64 ((qcheck0 (x0) (x1) (x2) (x3) (x4) (x5) (x6) (x7)))), (.int .i64 (y12)), (.int .i64 (y13))] (fun _ => none)) Try.prog _ 19 _ _ #[(.agg #[(.int .i64 (x0)), (.int .i64 (x1)), (.int .i64 (x2)), (.int .i64 (x3)), (.int .i64 (x4)), (.int .i64 (x5)), (.int .i64 (x6)), (.int .i64 (x7))])] (.int .i64 ((qcheck0 (x0) (x1) (x2) (x3) (x4) (x5) (x6) (x7)))) rfl ⟨Try.f19, (Try.f19.body).getD .skip, by kernel_rfl, by kernel_rfl⟩ rfl rfl rfl (fun w hm => rcheckq_any (x0) (x1) (x2) (x3) (x4) (x5) (x6) (x7)  w)), trivial⟩) 3000 17 [(.agg #[(.chan (some 0)), (.chan (some 1)), (.chan (some 2)), (.chan (some 3)), (.chan (some 4)), (.chan (some 5)), (.chan (some 6)), (.chan (some 7))]), (.chan (some 8)), (.chan (some 9)), (.chan (some 10))] (.tuple #[(.agg #[(.int .i64 0), (.int .i64 0)]), (.int .i64 3)]) rfl rfl rS_r2 w (fun _ _ h => nomatch h)
                have v0 : (0 : Int) = rS0 x0 x1 x2 x3 x4 x5 x6 x7 x8 x9 x10 := by
                  have e12 : y12 = (x0 * x1) := hy12
                  have e13 : y13 = (y12 - 1) := hy13
                  try simp only [e12, e13] at c0
                  try simp only [e12, e13] at c1
                  try simp only [e12, e13] at c2
                  try simp only [e12, e13] at c3
                  try simp only [e12, e13] at c4
                  try simp only [e12, e13] at c5
                  try simp only [e12, e13] at c6
                  unfold rS0
                  try rw [if_neg c0]
                  try rw [if_pos c1]
                  try rw [if_pos c2]
                  try rw [if_pos c3]
                  try rw [if_pos c4]
                  try rw [if_pos c5]
                  try rw [if_neg c6]
                  try simp only [e12, e13]
                have v1 : (0 : Int) = rS1 x0 x1 x2 x3 x4 x5 x6 x7 x8 x9 x10 := by
                  have e12 : y12 = (x0 * x1) := hy12
                  have e13 : y13 = (y12 - 1) := hy13
                  try simp only [e12, e13] at c0
                  try simp only [e12, e13] at c1
                  try simp only [e12, e13] at c2
                  try simp only [e12, e13] at c3
                  try simp only [e12, e13] at c4
                  try simp only [e12, e13] at c5
                  try simp only [e12, e13] at c6
                  unfold rS1
                  try rw [if_neg c0]
                  try rw [if_pos c1]
                  try rw [if_pos c2]
                  try rw [if_pos c3]
                  try rw [if_pos c4]
                  try rw [if_pos c5]
                  try rw [if_neg c6]
                  try simp only [e12, e13]
                have v2 : (3 : Int) = rS2 x0 x1 x2 x3 x4 x5 x6 x7 x8 x9 x10 := by
                  have e12 : y12 = (x0 * x1) := hy12
                  have e13 : y13 = (y12 - 1) := hy13
                  try simp only [e12, e13] at c0
                  try simp only [e12, e13] at c1
                  try simp only [e12, e13] at c2
                  try simp only [e12, e13] at c3
                  try simp only [e12, e13] at c4
                  try simp only [e12, e13] at c5
                  try simp only [e12, e13] at c6
                  unfold rS2
                  try rw [if_neg c0]
                  try rw [if_pos c1]
                  try rw [if_pos c2]
                  try rw [if_pos c3]
                  try rw [if_pos c4]
                  try rw [if_pos c5]
                  try rw [if_neg c6]
                  try simp only [e12, e13]
                have hv : ((.tuple #[(.agg #[(.int .i64 (0)), (.int .i64 (0))]), (.int .i64 (3))]) : Value) = (.tuple #[(.agg #[(.int .i64 (rS0 x0 x1 x2 x3 x4 x5 x6 x7 x8 x9 x10)), (.int .i64 (rS1 x0 x1 x2 x3 x4 x5 x6 x7 x8 x9 x10))]), (.int .i64 (rS2 x0 x1 x2 x3 x4 x5 x6 x7 x8 x9 x10))]) := by rw [← v0, ← v1, ← v2]
                rw [← hv]
                exact q
            · have q := @calls_sym (Rho.of [(.int .i64 (x0)), (.int .i64 (x1)), (.int .i64 (x2)), (.int .i64 (x3)), (.int .i64 (x4)), (.int .i64 (x5)), (.int .i64 (x6)), (.int .i64 (x7)), (.int .i64 (x8)), (.int .i64 (x9)), (.int .i64 (x10)), (.int .i64 ((qcheck0 (x0) (x1) (x2) (x3) (x4) (x5) (x6) (x7)))), (.int .i64 (y12)), (.int .i64 (y13))] (fun _ => none)) Try.prog _ (@Env.Ok.sym (Rho.of [(.int .i64 (x0)), (.int .i64 (x1)), (.int .i64 (x2)), (.int .i64 (x3)), (.int .i64 (x4)), (.int .i64 (x5)), (.int .i64 (x6)), (.int .i64 (x7)), (.int .i64 (x8)), (.int .i64 (x9)), (.int .i64 (x10)), (.int .i64 ((qcheck0 (x0) (x1) (x2) (x3) (x4) (x5) (x6) (x7)))), (.int .i64 (y12)), (.int .i64 (y13))] (fun _ => none)) _ _ (@env_ok (Rho.of [(.int .i64 (x0)), (.int .i64 (x1)), (.int .i64 (x2)), (.int .i64 (x3)), (.int .i64 (x4)), (.int .i64 (x5)), (.int .i64 (x6)), (.int .i64 (x7)), (.int .i64 (x8)), (.int .i64 (x9)), (.int .i64 (x10)), (.int .i64 ((qcheck0 (x0) (x1) (x2) (x3) (x4) (x5) (x6) (x7)))), (.int .i64 (y12)), (.int .i64 (y13))] (fun _ => none))) rS_e3 rS_c3 ⟨⟨rfl, rfl, fun w hm => (show KeyOk Try.prog w (.bin .neq 27) [(.int .i64 ((qcheck0 (x0) (x1) (x2) (x3) (x4) (x5) (x6) (x7)))), (.int .i64 0)] (.bool false) from k_neq_f c0)⟩, ⟨rfl, rfl, fun w hm => (show KeyOk Try.prog w (.bin .mul 3) [(.int .i64 (x0)), (.int .i64 (x1))] (.int .i64 (y12)) from key_eq (e := (x0 * x1)) hy12 (have ey : y12 = (x0 * x1) := hy12; k_mul (wrap64 (by omega))))⟩, ⟨rfl, rfl, fun w hm => (show KeyOk Try.prog w (.bin .sub 3) [(.int .i64 (y12)), (.int .i64 1)] (.int .i64 (y13)) from key_eq (e := (y12 - 1)) hy13 (have ey : y13 = (y12 - 1) := hy13; k_sub (wrap64 (by omega))))⟩, ⟨rfl, rfl, fun w hm => (show KeyOk Try.prog w (.bin .geq 3) [(.int .i64 (x9)), (.int .i64 0)] (.bool true) from k_geq_t c1)⟩, ⟨rfl, rfl, fun w hm => (show KeyOk Try.prog w (.bin .leq 3) [(.int .i64 (x9)), (.int .i64 (y13))] (.bool true) from k_leq_t c2)⟩, ⟨rfl, rfl, fun w hm => (show KeyOk Try.prog w (.bin .geq 3) [(.int .i64 (x10)), (.int .i64 0)] (.bool true) from k_geq_t c3)⟩, ⟨rfl, rfl, fun w hm => (show KeyOk Try.prog w (.bin .leq 3) [(.int .i64 (x10)), (.int .i64 (y13))] (.bool true) from k_leq_t c4)⟩, ⟨rfl, rfl, fun w hm => (show KeyOk Try.prog w (.bin .geq 3) [(.int .i64 (x8)), (.int .i64 1)] (.bool false) from k_geq_f c5)⟩, trivial⟩ ⟨(@CEntOk.of (Rho.of [(.int .i64 (x0)), (.int .i64 (x1)), (.int .i64 (x2)), (.int .i64 (x3)), (.int .i64 (x4)), (.int .i64 (x5)), (.int .i64 (x6)), (.int .i64 (x7)), (.int .i64 (x8)), (.int .i64 (x9)), (.int .i64 (x10)), (.int .i64 ((qcheck0 (x0) (x1) (x2) (x3) (x4) (x5) (x6) (x7)))), (.int .i64 (y12)), (.int .i64 (y13))] (fun _ => none)) Try.prog _ 19 _ _ #[(.agg #[(.int .i64 (x0)), (.int .i64 (x1)), (.int .i64 (x2)), (.int .i64 (x3)), (.int .i64 (x4)), (.int .i64 (x5)), (.int .i64 (x6)), (.int .i64 (x7))])] (.int .i64 ((qcheck0 (x0) (x1) (x2) (x3) (x4) (x5) (x6) (x7)))) rfl ⟨Try.f19, (Try.f19.body).getD .skip, by kernel_rfl, by kernel_rfl⟩ rfl rfl rfl (fun w hm => rcheckq_any (x0) (x1) (x2) (x3) (x4) (x5) (x6) (x7)  w)), trivial⟩) 3000 17 [(.agg #[(.chan (some 0)), (.chan (some 1)), (.chan (some 2)), (.chan (some 3)), (.chan (some 4)), (.chan (some 5)), (.chan (some 6)), (.chan (some 7))]), (.chan (some 8)), (.chan (some 9)), (.chan (some 10))] (.tuple #[(.agg #[(.int .i64 0), (.int .i64 0)]), (.int .i64 3)]) rfl rfl rS_r3 w (fun _ _ h => nomatch h)
              have v0 : (0 : Int) = rS0 x0 x1 x2 x3 x4 x5 x6 x7 x8 x9 x10 := by
                have e12 : y12 = (x0 * x1) := hy12
                have e13 : y13 = (y12 - 1) := hy13
                try simp only [e12, e13] at c0
                try simp only [e12, e13] at c1
                try simp only [e12, e13] at c2
                try simp only [e12, e13] at c3
                try simp only [e12, e13] at c4
                try simp only [e12, e13] at c5
                unfold rS0
                try rw [if_neg c0]
                try rw [if_pos c1]
                try rw [if_pos c2]
                try rw [if_pos c3]
                try rw [if_pos c4]
                try rw [if_neg c5]
                try simp only [e12, e13]
              have v1 : (0 : Int) = rS1 x0 x1 x2 x3 x4 x5 x6 x7 x8 x9 x10 := by
                have e12 : y12 = (x0 * x1) := hy12
                have e13 : y13 = (y12 - 1) := hy13
                try simp only [e12, e13] at c0
                try simp only [e12, e13] at c1
                try simp only [e12, e13] at c2
                try simp only [e12, e13] at c3
                try simp only [e12, e13] at c4
                try simp only [e12, e13] at c5
                unfold rS1
                try rw [if_neg c0]
                try rw [if_pos c1]
                try rw [if_pos c2]
                try rw [if_pos c3]
                try rw [if_pos c4]
                try rw [if_neg c5]
                try simp only [e12, e13]
              have v2 : (3 : Int) = rS2 x0 x1 x2 x3 x4 x5 x6 x7 x8 x9 x10 := by
                have e12 : y12 = (x0 * x1) := hy12
                have e13 : y13 = (y12 - 1) := hy13
                try simp only [e12, e13] at c0
                try simp only [e12, e13] at c1
                try simp only [e12, e13] at c2
                try simp only [e12, e13] at c3
                try simp only [e12, e13] at c4
                try simp only [e12, e13] at c5
                unfold rS2
                try rw [if_neg c0]
                try rw [if_pos c1]
                try rw [if_pos c2]
                try rw [if_pos c3]
                try rw [if_pos c4]
                try rw [if_neg c5]
                try simp only [e12, e13]
              have hv : ((.tuple #[(.agg #[(.int .i64 (0)), (.int .i64 (0))]), (.int .i64 (3))]) : Value) = (.tuple #[(.agg #[(.int .i64 (rS0 x0 x1 x2 x3 x4 x5 x6 x7 x8 x9 x10)), (.int .i64 (rS1 x0 x1 x2 x3 x4 x5 x6 x7 x8 x9 x10))]), (.int .i64 (rS2 x0 x1 x2 x3 x4 x5 x6 x7 x8 x9 x10))]) := by rw [← v0, ← v1, ← v2]
              rw [← hv]
              exact q
          · have q := @calls_sym (Rho.of [(.int .i64 (x0)), (.int .i64 (x1)), (.int .i64 (x2)), (.int .i64 (x3)), (.int .i64 (x4)), (.int .i64 (x5)), (.int .i64 (x6)), (.int .i64 (x7)), (.int .i64 (x8)), (.int .i64 (x9)), (.int .i64 (x10)), (.int .i64 ((qcheck0 (x0) (x1) (x2) (x3) (x4) (x5) (x6) (x7)))), (.int .i64 (y12)), (.int .i64 (y13))] (fun _ => none)) Try.prog _ (@Env.Ok.sym (Rho.of [(.int .i64 (x0)), (.int .i64 (x1)), (.int .i64 (x2)), (.int .i64 (x3)), (.int .i64 (x4)), (.int .i64 (x5)), (.int .i64 (x6)), (.int .i64 (x7)), (.int .i64 (x8)), (.int .i64 (x9)), (.int .i64 (x10)), (.int .i64 ((qcheck0 (x0) (x1) (x2) (x3) (x4) (x5) (x6) (x7)))), (.int .i64 (y12)), (.int .i64 (y13))] (fun _ => none)) _ _ (@env_ok (Rho.of [(.int .i64 (x0)), (.int .i64 (x1)), (.int .i64 (x2)), (.int .i64 (x3)), (.int .i64 (x4)), (.int .i64 (x5)), (.int .i64 (x6)), (.int .i64 (x7)), (.int .i64 (x8)), (.int .i64 (x9)), (.int .i64 (x10)), (.int .i64 ((qcheck0 (x0) (x1) (x2) (x3) (x4) (x5) (x6) (x7)))), (.int .i64 (y12)), (.int .i64 (y13))] (fun _ => none))) rS_e4 rS_c4 ⟨⟨rfl, rfl, fun w hm => (show KeyOk Try.prog w (.bin .neq 27) [(.int .i64 ((qcheck0 (x0) (x1) (x2) (x3) (x4) (x5) (x6) (x7)))), (.int .i64 0)] (.bool false) from k_neq_f c0)⟩, ⟨rfl, rfl, fun w hm => (show KeyOk Try.prog w (.bin .mul 3) [(.int .i64 (x0)), (.int .i64 (x1))] (.int .i64 (y12)) from key_eq (e := (x0 * x1)) hy12 (have ey : y12 = (x0 * x1) := hy12; k_mul (wrap64 (by omega))))⟩, ⟨rfl, rfl, fun w hm => (show KeyOk Try.prog w (.bin .sub 3) [(.int .i64 (y12)), (.int .i64 1)] (.int .i64 (y13)) from key_eq (e := (y12 - 1)) hy13 (have ey : y13 = (y12 - 1) := hy13; k_sub (wrap64 (by omega))))⟩, ⟨rfl, rfl, fun w hm => (show KeyOk Try.prog w (.bin .geq 3) [(.int .i64 (x9)), (.int .i64 0)] (.bool true) from k_geq_t c1)⟩, ⟨rfl, rfl, fun w hm => (show KeyOk Try.prog w (.bin .leq 3) [(.int .i64 (x9)), (.int .i64 (y13))] (.bool true) from k_leq_t c2)⟩, ⟨rfl, rfl, fun w hm => (show KeyOk Try.prog w (.bin .geq 3) [(.int .i64 (x10)), (.int .i64 0)] (.bool true) from k_geq_t c3)⟩, ⟨rfl, rfl, fun w hm => (show KeyOk Try.prog w (.bin .leq 3) [(.int .i64 (x10)), (.int .i64 (y13))] (.bool false) from k_leq_f c4)⟩, trivial⟩ ⟨(@CEntOk.of (Rho.of [(.int .i64 (x0)), (.int .i64 (x1)), (.int .i64 (x2)), (.int .i64 (x3)), (.int .i64 (x4)), (.int .i64 (x5)), (.int .i64 (x6)), (.int .i64 (x7)), (.int .i64 (x8)), (.int .i64 (x9)), (.int .i64 (x10)), (.int .i64 ((qcheck0 (x0) (x1) (x2) (x3) (x4) (x5) (x6) (x7)))), (.int .i64 (y12)), (.int .i64 (y13))] (fun _ => none)) Try.prog _ 19 _ _ #[(.agg #[(.int .i64 (x0)), (.int .i64 (x1)), (.int .i64 (x2)), (.int .i64 (x3)), (.int .i64 (x4)), (.int .i64 (x5)), (.int .i64 (x6)), (.int .i64 (x7))])] (.int .i64 ((qcheck0 (x0) (x1) (x2) (x3) (x4) (x5) (x6) (x7)))) rfl ⟨Try.f19, (Try.f19.body).getD .skip, by kernel_rfl, by kernel_rfl⟩ rfl rfl rfl (fun w hm => rcheckq_any (x0) (x1) (x2) (x3) (x4) (x5) (x6) (x7)  w)), trivial⟩) 3000 17 [(.agg #[(.chan (some 0)), (.chan (some 1)), (.chan (some 2)), (.chan (some 3)), (.chan (some 4)), (.chan (some 5)), (.chan (some 6)), (.chan (some 7))]), (.chan (some 8)), (.chan (some 9)), (.chan (some 10))] (.tuple #[(.agg #[(.int .i64 0), (.int .i64 0)]), (.int .i64 4)]) rfl rfl rS_r4 w (fun _ _ h => nomatch h)
            have v0 : (0 : Int) = rS0 x0 x1 x2 x3 x4 x5 x6 x7 x8 x9 x10 := by
              have e12 : y12 = (x0 * x1) := hy12
              have e13 : y13 = (y12 - 1) := hy13
              try simp only [e12, e13] at c0
              try simp only [e12, e13] at c1
              try simp only [e12, e13] at c2
              try simp only [e12, e13] at c3
              try simp only [e12, e13] at c4
              unfold rS0
              try rw [if_neg c0]
              try rw [if_pos c1]
              try rw [if_pos c2]
              try rw [if_pos c3]
              try rw [if_neg c4]
              try simp only [e12, e13]
            have v1 : (0 : Int) = rS1 x0 x1 x2 x3 x4 x5 x6 x7 x8 x9 x10 := by
              have e12 : y12 = (x0 * x1) := hy12
              have e13 : y13 = (y12 - 1) := hy13
              try simp only [e12, e13] at c0
              try simp only [e12, e13] at c1
              try simp only [e12, e13] at c2
              try simp only [e12, e13] at c3
              try simp only [e12, e13] at c4
              unfold rS1
              try rw [if_neg c0]
              try rw [if_pos c1]
              try rw [if_pos c2]
              try rw [if_pos c3]
              try rw [if_neg c4]
              try simp only [e12, e13]
            have v2 : (4 : Int) = rS2 x0 x1 x2 x3 x4 x5 x6 x7 x8 x9 x10 := by
              have e12 : y12 = (x0 * x1) := hy12
              have e13 : y13 = (y12 - 1) := hy13
              try simp only [e12, e13] at c0
              try simp only [e12, e13] at c1
              try simp only [e12, e13] at c2
              try simp only [e12, e13] at c3
              try simp only [e12, e13] at c4
              unfold rS2
              try rw [if_neg c0]
              try rw [if_pos c1]
              try rw [if_pos c2]
              try rw [if_pos c3]
              try rw [if_neg c4]
              try simp only [e12, e13]
            have hv : ((.tuple #[(.agg #[(.int .i64 (0)), (.int .i64 (0))]), (.int .i64 (4))]) : Value) = (.tuple #[(.agg #[(.int .i64 (rS0 x0 x1 x2 x3 x4 x5 x6 x7 x8 x9 x10)), (.int .i64 (rS1 x0 x1 x2 x3 x4 x5 x6 x7 x8 x9 x10))]), (.int .i64 (rS2 x0 x1 x2 x3 x4 x5 x6 x7 x8 x9 x10))]) := by rw [← v0, ← v1, ← v2]
            rw [← hv]
            exact q
        · have q := @calls_sym (Rho.of [(.int .i64 (x0)), (.int .i64 (x1)), (.int .i64 (x2)), (.int .i64 (x3)), (.int .i64 (x4)), (.int .i64 (x5)), (.int .i64 (x6)), (.int .i64 (x7)), (.int .i64 (x8)), (.int .i64 (x9)), (.int .i64 (x10)), (.int .i64 ((qcheck0 (x0) (x1) (x2) (x3) (x4) (x5) (x6) (x7)))), (.int .i64 (y12)), (.int .i64 (y13))] (fun _ => none)) Try.prog _ (@Env.Ok.sym (Rho.of [(.int .i64 (x0)), (.int .i64 (x1)), (.int .i64 (x2)), (.int .i64 (x3)), (.int .i64 (x4)), (.int .i64 (x5)), (.int .i64 (x6)), (.int .i64 (x7)), (.int .i64 (x8)), (.int .i64 (x9)), (.int .i64 (x10)), (.int .i64 ((qcheck0 (x0) (x1) (x2) (x3) (x4) (x5) (x6) (x7)))), (.int .i64 (y12)), (.int .i64 (y13))] (fun _ => none)) _ _ (@env_ok (Rho.of [(.int .i64 (x0)), (.int .i64 (x1)), (.int .i64 (x2)), (.int .i64 (x3)), (.int .i64 (x4)), (.int .i64 (x5)), (.int .i64 (x6)), (.int .i64 (x7)), (.int .i64 (x8)), (.int .i64 (x9)), (.int .i64 (x10)), (.int .i64 ((qcheck0 (x0) (x1) (x2) (x3) (x4) (x5) (x6) (x7)))), (.int .i64 (y12)), (.int .i64 (y13))] (fun _ => none))) rS_e5 rS_c5 ⟨⟨rfl, rfl, fun w hm => (show KeyOk Try.prog w (.bin .neq 27) [(.int .i64 ((qcheck0 (x0) (x1) (x2) (x3) (x4) (x5) (x6) (x7)))), (.int .i64 0)] (.bool false) from k_neq_f c0)⟩, ⟨rfl, rfl, fun w hm => (show KeyOk Try.prog w (.bin .mul 3) [(.int .i64 (x0)), (.int .i64 (x1))] (.int .i64 (y12)) from key_eq (e := (x0 * x1)) hy12 (have ey : y12 = (x0 * x1) := hy12; k_mul (wrap64 (by omega))))⟩, ⟨rfl, rfl, fun w hm => (show KeyOk Try.prog w (.bin .sub 3) [(.int .i64 (y12)), (.int .i64 1)] (.int .i64 (y13)) from key_eq (e := (y12 - 1)) hy13 (have ey : y13 = (y12 - 1) := hy13; k_sub (wrap64 (by omega))))⟩, ⟨rfl, rfl, fun w hm => (show KeyOk Try.prog w (.bin .geq 3) [(.int .i64 (x9)), (.int .i64 0)] (.bool true) from k_geq_t c1)⟩, ⟨rfl, rfl, fun w hm => (show KeyOk Try.prog w (.bin .leq 3) [(.int .i64 (x9)), (.int .i64 (y13))] (.bool true) from k_leq_t c2)⟩, ⟨rfl, rfl, fun w hm => (show KeyOk Try.prog w (.bin .geq 3) [(.int .i64 (x10)), (.int .i64 0)] (.bool false) from k_geq_f c3)⟩, trivial⟩ ⟨(@CEntOk.of (Rho.of [(.int .i64 (x0)), (.int .i64 (x1)), (.int .i64 (x2)), (.int .i64 (x3)), (.int .i64 (x4)), (.int .i64 (x5)), (.int .i64 (x6)), (.int .i64 (x7)), (.int .i64 (x8)), (.int .i64 (x9)), (.int .i64 (x10)), (.int .i64 ((qcheck0 (x0) (x1) (x2) (x3) (x4) (x5) (x6) (x7)))), (.int .i64 (y12)), (.int .i64 (y13))] (fun _ => none)) Try.prog _ 19 _ _ #[(.agg #[(.int .i64 (x0)), (.int .i64 (x1)), (.int .i64 (x2)), (.int .i64 (x3)), (.int .i64 (x4)), (.int .i64 (x5)), (.int .i64 (x6)), (.int .i64 (x7))])] (.int .i64 ((qcheck0 (x0) (x1) (x2) (x3) (x4) (x5) (x6) (x7)))) rfl ⟨Try.f19, (Try.f19.body).getD .skip, by kernel_rfl, by kernel_rfl⟩ rfl rfl rfl (fun w hm => rcheckq_any (x0) (x1) (x2) (x3) (x4) (x5) (x6) (x7)  w)), trivial⟩) 3000 17 [(.agg #[(.chan (some 0)), (.chan (some 1)), (.chan (some 2)), (.chan (some 3)), (.chan (some 4)), (.chan (some 5)), (.chan (some 6)), (.chan (some 7))]), (.chan (some 8)), (.chan (some 9)), (.chan (some 10))] (.tuple #[(.agg #[(.int .i64 0), (.int .i64 0)]), (.int .i64 4)]) rfl rfl rS_r5 w (fun _ _ h => nomatch h)
          have v0 : (0 : Int) = rS0 x0 x1 x2 x3 x4 x5 x6 x7 x8 x9 x10 := by
            have e12 : y12 = (x0 * x1) := hy12
            have e13 : y13 = (y12 - 1) := hy13
            try simp only [e12, e13] at c0
            try simp only [e12, e13] at c1
            try simp only [e12, e13] at c2
            try simp only [e12, e13] at c3
            unfold rS0
            try rw [if_neg c0]
            try rw [if_pos c1]
            try rw [if_pos c2]
            try rw [if_neg c3]
            try simp only [e12, e13]
          have v1 : (0 : Int) = rS1 x0 x1 x2 x3 x4 x5 x6 x7 x8 x9 x10 := by
            have e12 : y12 = (x0 * x1) := hy12
            have e13 : y13 = (y12 - 1) := hy13
            try simp only [e12, e13] at c0
            try simp only [e12, e13] at c1
            try simp only [e12, e13] at c2
            try simp only [e12, e13] at c3
            unfold rS1
            try rw [if_neg c0]
            try rw [if_pos c1]
            try rw [if_pos c2]
            try rw [if_neg c3]
            try simp only [e12, e13]
          have v2 : (4 : Int) = rS2 x0 x1 x2 x3 x4 x5 x6 x7 x8 x9 x10 := by
            have e12 : y12 = (x0 * x1) := hy12
            have e13 : y13 = (y12 - 1) := hy13
            try simp only [e12, e13] at c0
            try simp only [e12, e13] at c1
            try simp only [e12, e13] at c2
            try simp only [e12, e13] at c3
            unfold rS2
            try rw [if_neg c0]
            try rw [if_pos c1]
            try rw [if_pos c2]
            try rw [if_neg c3]
            try simp only [e12, e13]
          have hv : ((.tuple #[(.agg #[(.int .i64 (0)), (.int .i64 (0))]), (.int .i64 (4))]) : Value) = (.tuple #[(.agg #[(.int .i64 (rS0 x0 x1 x2 x3 x4 x5 x6 x7 x8 x9 x10)), (.int .i64 (rS1 x0 x1 x2 x3 x4 x5 x6 x7 x8 x9 x10))]), (.int .i64 (rS2 x0 x1 x2 x3 x4 x5 x6 x7 x8 x9 x10))]) := by rw [← v0, ← v1, ← v2]
          rw [← hv]
          exact q
      · have q := @calls_sym (Rho.of [(.int .i64 (x0)), (.int .i64 (x1)), (.int .i64 (x2)), (.int .i64 (x3)), (.int .i64 (x4)), (.int .i64 (x5)), (.int .i64 (x6)), (.int .i64 (x7)), (.int .i64 (x8)), (.int .i64 (x9)), (.int .i64 (x10)), (.int .i64 ((qcheck0 (x0) (x1) (x2) (x3) (x4) (x5) (x6) (x7)))), (.int .i64 (y12)), (.int .i64 (y13))] (fun _ => none)) Try.prog _ (@Env.Ok.sym (Rho.of [(.int .i64 (x0)), (.int .i64 (x1)), (.int .i64 (x2)), (.int .i64 (x3)), (.int .i64 (x4)), (.int .i64 (x5)), (.int .i64 (x6)), (.int .i64 (x7)), (.int .i64 (x8)), (.int .i64 (x9)), (.int .i64 (x10)), (.int .i64 ((qcheck0 (x0) (x1) (x2) (x3) (x4) (x5) (x6) (x7)))), (.int .i64 (y12)), (.int .i64 (y13))] (fun _ => none)) _ _ (@env_ok (Rho.of [(.int .i64 (x0)), (.int .i64 (x1)), (.int .i64 (x2)), (.int .i64 (x3)), (.int .i64 (x4)), (.int .i64 (x5)), (.int .i64 (x6)), (.int .i64 (x7)), (.int .i64 (x8)), (.int .i64 (x9)), (.int .i64 (x10)), (.int .i64 ((qcheck0 (x0) (x1) (x2) (x3) (x4) (x5) (x6) (x7)))), (.int .i64 (y12)), (.int .i64 (y13))] (fun _ => none))) rS_e6 rS_c6 ⟨⟨rfl, rfl, fun w hm => (show KeyOk Try.prog w (.bin .neq 27) [(.int .i64 ((qcheck0 (x0) (x1) (x2) (x3) (x4) (x5) (x6) (x7)))), (.int .i64 0)] (.bool false) from k_neq_f c0)⟩, ⟨rfl, rfl, fun w hm => (show KeyOk Try.prog w (.bin .mul 3) [(.int .i64 (x0)), (.int .i64 (x1))] (.int .i64 (y12)) from key_eq (e := (x0 * x1)) hy12 (have ey : y12 = (x0 * x1) := hy12; k_mul (wrap64 (by omega))))⟩, ⟨rfl, rfl, fun w hm => (show KeyOk Try.prog w (.bin .sub 3) [(.int .i64 (y12)), (.int .i64 1)] (.int .i64 (y13)) from key_eq (e := (y12 - 1)) hy13 (have ey : y13 = (y12 - 1) := hy13; k_sub (wrap64 (by omega))))⟩, ⟨rfl, rfl, fun w hm => (show KeyOk Try.prog w (.bin .geq 3) [(.int .i64 (x9)), (.int .i64 0)] (.bool true) from k_geq_t c1)⟩, ⟨rfl, rfl, fun w hm => (show KeyOk Try.prog w (.bin .leq 3) [(.int .i64 (x9)), (.int .i64 (y13))] (.bool false) from k_leq_f c2)⟩, trivial⟩ ⟨(@CEntOk.of (Rho.of [(.int .i64 (x0)), (.int .i64 (x1)), (.int .i64 (x2)), (.int .i64 (x3)), (.int .i64 (x4)), (.int .i64 (x5)), (.int .i64 (x6)), (.int .i64 (x7)), (.int .i64 (x8)), (.int .i64 (x9)), (.int .i64 (x10)), (.int .i64 ((qcheck0 (x0) (x1) (x2) (x3) (x4) (x5) (x6) (x7)))), (.int .i64 (y12)), (.int .i64 (y13))] (fun _ => none)) Try.prog _ 19 _ _ #[(.agg #[(.int .i64 (x0)), (.int .i64 (x1)), (.int .i64 (x2)), (.int .i64 (x3)), (.int .i64 (x4)), (.int .i64 (x5)), (.int .i64 (x6)), (.int .i64 (x7))])] (.int .i64 ((qcheck0 (x0) (x1) (x2) (x3) (x4) (x5) (x6) (x7)))) rfl ⟨Try.f19, (Try.f19.body).getD .skip, by kernel_rfl, by kernel_rfl⟩ rfl rfl rfl (fun w hm => rcheckq_any (x0) (x1) (x2) (x3) (x4) (x5) (x6) (x7)  w)), trivial⟩) 3000 17 [(.agg #[(.chan (some 0)), (.chan (some 1)), (.chan (some 2)), (.chan (some 3)), (.chan (some 4)), (.chan (some 5)), (.chan (some 6)), (.chan (some 7))]), (.chan (some 8)), (.chan (some 9)), (.chan (some 10))] (.tuple #[(.agg #[(.int .i64 0), (.int .i64 0)]), (.int .i64 4)]) rfl rfl rS_r6 w (fun _ _ h => nomatch h)
        have v0 : (0 : Int) = rS0 x0 x1 x2 x3 x4 x5 x6 x7 x8 x9 x10 := by
          have e12 : y12 = (x0 * x1) := hy12
          have e13 : y13 = (y12 - 1) := hy13
          try simp only [e12, e13] at c0
          try simp only [e12, e13] at c1
          try simp only [e12, e13] at c2
          unfold rS0
          try rw [if_neg c0]
          try rw [if_pos c1]
          try rw [if_neg c2]
          try simp only [e12, e13]
        have v1 : (0 : Int) = rS1 x0 x1 x2 x3 x4 x5 x6 x7 x8 x9 x10 := by
          have e12 : y12 = (x0 * x1) := hy12
          have e13 : y13 = (y12 - 1) := hy13
          try simp only [e12, e13] at c0
          try simp only [e12, e13] at c1
          try simp only [e12, e13] at c2
          unfold rS1
          try rw [if_neg c0]
          try rw [if_pos c1]
          try rw [if_neg c2]
          try simp only [e12, e13]
        have v2 : (4 : Int) = rS2 x0 x1 x2 x3 x4 x5 x6 x7 x8 x9 x10 := by
          have e12 : y12 = (x0 * x1) := hy12
          have e13 : y13 = (y12 - 1) := hy13
          try simp only [e12, e13] at c0
          try simp only [e12, e13] at c1
          try simp only [e12, e13] at c2
          unfold rS2
          try rw [if_neg c0]
          try rw [if_pos c1]
          try rw [if_neg c2]
          try simp only [e12, e13]
        have hv : ((.tuple #[(.agg #[(.int .i64 (0)), (.int .i64 (0))]), (.int .i64 (4))]) : Value) = (.tuple #[(.agg #[(.int .i64 (rS0 x0 x1 x2 x3 x4 x5 x6 x7 x8 x9 x10)), (.int .i64 (rS1 x0 x1 x2 x3 x4 x5 x6 x7 x8 x9 x10))]), (.int .i64 (rS2 x0 x1 x2 x3 x4 x5 x6 x7 x8 x9 x10))]) := by rw [← v0, ← v1, ← v2]
        rw [← hv]
        exact q
    · have q := @calls_sym (Rho.of [(.int .i64 (x0)), (.int .i64 (x1)), (.int .i64 (x2)), (.int .i64 (x3)), (.int .i64 (x4)), (.int .i64 (x5)), (.int .i64 (x6)), (.int .i64 (x7)), (.int .i64 (x8)), (.int .i64 (x9)), (.int .i64 (x10)), (.int .i64 ((qcheck0 (x0) (x1) (x2) (x3) (x4) (x5) (x6) (x7)))), (.int .i64 (y12)), (.int .i64 (y13))] (fun _ => none)) Try.prog _ (@Env.Ok.sym (Rho.of [(.int .i64 (x0)), (.int .i64 (x1)), (.int .i64 (x2)), (.int .i64 (x3)), (.int .i64 (x4)), (.int .i64 (x5)), (.int .i64 (x6)), (.int .i64 (x7)), (.int .i64 (x8)), (.int .i64 (x9)), (.int .i64 (x10)), (.int .i64 ((qcheck0 (x0) (x1) (x2) (x3) (x4) (x5) (x6) (x7)))), (.int .i64 (y12)), (.int .i64 (y13))] (fun _ => none)) _ _ (@env_ok (Rho.of [(.int .i64 (x0)), (.int .i64 (x1)), (.int .i64 (x2)), (.int .i64 (x3)), (.int .i64 (x4)), (.int .i64 (x5)), (.int .i64 (x6)), (.int .i64 (x7)), (.int .i64 (x8)), (.int .i64 (x9)), (.int .i64 (x10)), (.int .i64 ((qcheck0 (x0) (x1) (x2) (x3) (x4) (x5) (x6) (x7)))), (.int .i64 (y12)), (.int .i64 (y13))] (fun _ => none))) rS_e7 rS_c7 ⟨⟨rfl, rfl, fun w hm => (show KeyOk Try.prog w (.bin .neq 27) [(.int .i64 ((qcheck0 (x0) (x1) (x2) (x3) (x4) (x5) (x6) (x7)))), (.int .i64 0)] (.bool false) from k_neq_f c0)⟩, ⟨rfl, rfl, fun w hm => (show KeyOk Try.prog w (.bin .mul 3) [(.int .i64 (x0)), (.int .i64 (x1))] (.int .i64 (y12)) from key_eq (e := (x0 * x1)) hy12 (have ey : y12 = (x0 * x1) := hy12; k_mul (wrap64 (by omega))))⟩, ⟨rfl, rfl, fun w hm => (show KeyOk Try.prog w (.bin .sub 3) [(.int .i64 (y12)), (.int .i64 1)] (.int .i64 (y13)) from key_eq (e := (y12 - 1)) hy13 (have ey : y13 = (y12 - 1) := hy13; k_sub (wrap64 (by omega))))⟩, ⟨rfl, rfl, fun w hm => (show KeyOk Try.prog w (.bin .geq 3) [(.int .i64 (x9)), (.int .i64 0)] (.bool false) from k_geq_f c1)⟩, trivial⟩ ⟨(@CEntOk.of (Rho.of [(.int .i64 (x0)), (.int .i64 (x1)), (.int .i64 (x2)), (.int .i64 (x3)), (.int .i64 (x4)), (.int .i64 (x5)), (.int .i64 (x6)), (.int .i64 (x7)), (.int .i64 (x8)), (.int .i64 (x9)), (.int .i64 (x10)), (.int .i64 ((qcheck0 (x0) (x1) (x2) (x3) (x4) (x5) (x6) (x7)))), (.int .i64 (y12)), (.int .i64 (y13))] (fun _ => none)) Try.prog _ 19 _ _ #[(.agg #[(.int .i64 (x0)), (.int .i64 (x1)), (.int .i64 (x2)), (.int .i64 (x3)), (.int .i64 (x4)), (.int .i64 (x5)), (.int .i64 (x6)), (.int .i64 (x7))])] (.int .i64 ((qcheck0 (x0) (x1) (x2) (x3) (x4) (x5) (x6) (x7)))) rfl ⟨Try.f19, (Try.f19.body).getD .skip, by kernel_rfl, by kernel_rfl⟩ rfl rfl rfl (fun w hm => rcheckq_any (x0) (x1) (x2) (x3) (x4) (x5) (x6) (x7)  w)), trivial⟩) 3000 17 [(.agg #[(.chan (some 0)), (.chan (some 1)), (.chan (some 2)), (.chan (some 3)), (.chan (some 4)), (.chan (some 5)), (.chan (some 6)), (.chan (some 7))]), (.chan (some 8)), (.chan (some 9)), (.chan (some 10))] (.tuple #[(.agg #[(.int .i64 0), (.int .i64 0)]), (.int .i64 4)]) rfl rfl rS_r7 w (fun _ _ h => nomatch h)
      have v0 : (0 : Int) = rS0 x0 x1 x2 x3 x4 x5 x6 x7 x8 x9 x10 := by
        have e12 : y12 = (x0 * x1) := hy12
        have e13 : y13 = (y12 - 1) := hy13
        try simp only [e12, e13] at c0
        try simp only [e12, e13] at c1
        unfold rS0
        try rw [if_neg c0]
        try rw [if_neg c1]
        try simp only [e12, e13]
      have v1 : (0 : Int) = rS1 x0 x1 x2 x3 x4 x5 x6 x7 x8 x9 x10 := by
        have e12 : y12 = (x0 * x1) := hy12
        have e13 : y13 = (y12 - 1) := hy13
        try simp only [e12, e13] at c0
        try simp only [e12, e13] at c1
        unfold rS1
        try rw [if_neg c0]
        try rw [if_neg c1]
        try simp only [e12, e13]
      have v2 : (4 : Int) = rS2 x0 x1 x2 x3 x4 x5 x6 x7 x8 x9 x10 := by
        have e12 : y12 = (x0 * x1) := hy12
        have e13 : y13 = (y12 - 1) := hy13
        try simp only [e12, e13] at c0
        try simp only [e12, e13] at c1
        unfold rS2
        try rw [if_neg c0]
        try rw [if_neg c1]
        try simp only [e12, e13]
      have hv : ((.tuple #[(.agg #[(.int .i64 (0)), (.int .i64 (0))]), (.int .i64 (4))]) : Value) = (.tuple #[(.agg #[(.int .i64 (rS0 x0 x1 x2 x3 x4 x5 x6 x7 x8 x9 x10)), (.int .i64 (rS1 x0 x1 x2 x3 x4 x5 x6 x7 x8 x9 x10))]), (.int .i64 (rS2 x0 x1 x2 x3 x4 x5 x6 x7 x8 x9 x10))]) := by rw [← v0, ← v1, ← v2]
      rw [← hv]
      exact q
end Go.Proofs.Ytdgmciblanakdaa.En

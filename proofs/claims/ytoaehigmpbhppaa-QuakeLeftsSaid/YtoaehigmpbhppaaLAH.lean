import Derived.Test.YtoaehigmpbhppaaLAG
import Derived.Test.YtoaehigmpbhppaaLAG
import Derived.Test.YtoaehigmpbhppaaLAG
import Derived.Test.YtoaehigmpbhppaaLAE
/-
  Texts of the bench, merged.
-/
set_option linter.unusedSimpArgs false
set_option linter.unusedVariables false
namespace Go.Proofs.Ytoaehigmpbhppaa.En
open Go Go.Ev Go.Proofs Go.RowKit
noncomputable abbrev rcheck0 := qcheck0
theorem qcheck_any (x0 : Int) (x1 : Int) (x2 : Int) (x3 : Int) (x4 : Int) (x5 : Int) (x6 : Int) (x7 : Int)  (w : World)  : Calls Try.prog 18 #[(mV x0 x1 x2 x3 x4 x5 x6 x7)] w (fun en w' => en = .returned (iV (qcheck0 x0 x1 x2 x3 x4 x5 x6 x7)) ∧ Below w.heap.size w w') := qcheckS_any x0 x1 x2 x3 x4 x5 x6 x7 w
theorem rcheck_any (x0 : Int) (x1 : Int) (x2 : Int) (x3 : Int) (x4 : Int) (x5 : Int) (x6 : Int) (x7 : Int)  (w : World)  : Calls Try.prog 19 #[(mV x0 x1 x2 x3 x4 x5 x6 x7)] w (fun en w' => en = .returned (iV (rcheck0 x0 x1 x2 x3 x4 x5 x6 x7)) ∧ Below w.heap.size w w') := rcheckS_any x0 x1 x2 x3 x4 x5 x6 x7 w
theorem mul_bd {a b A B C : Int} (h1 : 0 ≤ a) (h2 : a ≤ A) (h3 : 0 ≤ b) (h4 : b ≤ B) (hC : A * B = C := by rfl) : 0 ≤ a * b ∧ a * b ≤ C := by
  refine ⟨Int.mul_nonneg h1 h3, ?_⟩
  rw [← hC]
  exact Int.mul_le_mul h2 h4 h3 (by omega)
theorem row_bd {a x y : Int} (h0 : 0 ≤ a) (h1 : a < x * y) (hx : 1 ≤ x) (hy : y ≤ 24) : 0 ≤ a / x ∧ a / x < 24 := by
  refine ⟨Int.ediv_nonneg h0 (by omega), ?_⟩
  have : a / x < y := Int.ediv_lt_of_lt_mul (by omega) (by rwa [Int.mul_comm])
  omega
theorem root_up {n : Int} (h0 : 0 ≤ n) (h1 : n ≤ 1000000000000) (h : rootD n * rootD n < n) : rootU n = rootD n + 1 := by
  obtain ⟨r, q1, q2, q3, q4⟩ := rootD_ex h0 h1
  have e := rootD_eq q1 q2 q3
  rw [e] at h ⊢
  exact rootU_eq (by omega) (by omega) (fun _ => by rw [show r + 1 - 1 = r by omega]; exact h)
theorem root_same {n : Int} (h0 : 0 ≤ n) (h1 : n ≤ 1000000000000) (h : ¬ rootD n * rootD n < n) : rootU n = rootD n := by
  obtain ⟨r, q1, q2, q3, q4⟩ := rootD_ex h0 h1
  have e := rootD_eq q1 q2 q3
  rw [e] at h ⊢
  exact rootU_eq q1 (by omega) (fun hr => by have := sq_lt (a := r - 1) (b := r) (by omega) (by omega); omega)
noncomputable def apart0 (x0 : Int) (x1 : Int) (x2 : Int) (x3 : Int) (x4 : Int) (x5 : Int) (x6 : Int) (x7 : Int) (x8 : Int) (x9 : Int) : Int := ((max ((max (x8 - x9) (x9 - x8)) - 1) 0) * x2)
noncomputable def apart1 (x0 : Int) (x1 : Int) (x2 : Int) (x3 : Int) (x4 : Int) (x5 : Int) (x6 : Int) (x7 : Int) (x8 : Int) (x9 : Int) : Int := (((max (x8 - x9) (x9 - x8)) + 1) * x2)
noncomputable def apart_e0 : List Ent := [aB .sub (sy 8) (sy 9) (sy 10), aB .sub (sy 9) (sy 8) (sy 11), ⟨(.bi 2 [3, 3]), [(sy 10), (sy 11)], (sy 12)⟩, aB .sub (sy 12) (iV 1) (sy 13), ⟨(.bi 2 [3, 3]), [(sy 13), (iV 0)], (sy 14)⟩, aB .mul (sy 14) (sy 2) (sy 15), aB .add (sy 12) (iV 1) (sy 16), aB .mul (sy 16) (sy 2) (sy 17)]
noncomputable def apart_c0 : List CEnt := []
set_option maxRecDepth 1000000 in
theorem apart_r0 : ev Try.prog (env.sym apart_e0 apart_c0) 3000 (.call 80 [(ag 0 8), (sy 8), (sy 9)] Ev.start fun v _ => some v) = some (.agg #[(sy 15), (sy 17)]) := by kernel_rfl
set_option maxHeartbeats 8000000 in
set_option maxRecDepth 100000 in
theorem apart_any (x0 : Int) (x1 : Int) (x2 : Int) (x3 : Int) (x4 : Int) (x5 : Int) (x6 : Int) (x7 : Int) (x8 : Int) (x9 : Int) (v2 : 1 ≤ x2 ∧ x2 ≤ 10000) (h8 : 0 ≤ x8 ∧ x8 < 24) (h9 : 0 ≤ x9 ∧ x9 < 24) (w : World)  : Calls Try.prog 80 #[(mV x0 x1 x2 x3 x4 x5 x6 x7), (iV x8), (iV x9)] w (fun en w' => en = .returned (.agg #[(iV (apart0 x0 x1 x2 x3 x4 x5 x6 x7 x8 x9)), (iV (apart1 x0 x1 x2 x3 x4 x5 x6 x7 x8 x9))]) ∧ Below w.heap.size w w') := by
  have q := @calls_sym (Rho.of [(iV x0), (iV x1), (iV x2), (iV x3), (iV x4), (iV x5), (iV x6), (iV x7), (iV x8), (iV x9), (iV ((x8 - x9))), (iV ((x9 - x8))), (iV ((max (x8 - x9) (x9 - x8)))), (iV (((max (x8 - x9) (x9 - x8)) - 1))), (iV ((max ((max (x8 - x9) (x9 - x8)) - 1) 0))), (iV (((max ((max (x8 - x9) (x9 - x8)) - 1) 0) * x2))), (iV (((max (x8 - x9) (x9 - x8)) + 1))), (iV ((((max (x8 - x9) (x9 - x8)) + 1) * x2)))] (fun _ => none)) Try.prog _ (@Env.Ok.sym (Rho.of [(iV x0), (iV x1), (iV x2), (iV x3), (iV x4), (iV x5), (iV x6), (iV x7), (iV x8), (iV x9), (iV ((x8 - x9))), (iV ((x9 - x8))), (iV ((max (x8 - x9) (x9 - x8)))), (iV (((max (x8 - x9) (x9 - x8)) - 1))), (iV ((max ((max (x8 - x9) (x9 - x8)) - 1) 0))), (iV (((max ((max (x8 - x9) (x9 - x8)) - 1) 0) * x2))), (iV (((max (x8 - x9) (x9 - x8)) + 1))), (iV ((((max (x8 - x9) (x9 - x8)) + 1) * x2)))] (fun _ => none)) _ _ (@env_ok (Rho.of [(iV x0), (iV x1), (iV x2), (iV x3), (iV x4), (iV x5), (iV x6), (iV x7), (iV x8), (iV x9), (iV ((x8 - x9))), (iV ((x9 - x8))), (iV ((max (x8 - x9) (x9 - x8)))), (iV (((max (x8 - x9) (x9 - x8)) - 1))), (iV ((max ((max (x8 - x9) (x9 - x8)) - 1) 0))), (iV (((max ((max (x8 - x9) (x9 - x8)) - 1) 0) * x2))), (iV (((max (x8 - x9) (x9 - x8)) + 1))), (iV ((((max (x8 - x9) (x9 - x8)) + 1) * x2)))] (fun _ => none))) apart_e0 apart_c0 ⟨⟨rfl, rfl, fun w hm => (show KO w (.bin .sub 3) [(iV x8), (iV x9)] (iV ((x8 - x9))) from k_sub (wrap64 (by first | omega | assumption)))⟩, ⟨rfl, rfl, fun w hm => (show KO w (.bin .sub 3) [(iV x9), (iV x8)] (iV ((x9 - x8))) from k_sub (wrap64 (by first | omega | assumption)))⟩, ⟨rfl, rfl, fun w hm => (show KO w (.bi 2 [3, 3]) [(iV ((x8 - x9))), (iV ((x9 - x8)))] (iV ((max (x8 - x9) (x9 - x8)))) from k_max)⟩, ⟨rfl, rfl, fun w hm => (show KO w (.bin .sub 3) [(iV ((max (x8 - x9) (x9 - x8)))), (iV 1)] (iV (((max (x8 - x9) (x9 - x8)) - 1))) from k_sub (wrap64 (by first | omega | assumption)))⟩, ⟨rfl, rfl, fun w hm => (show KO w (.bi 2 [3, 3]) [(iV (((max (x8 - x9) (x9 - x8)) - 1))), (iV 0)] (iV ((max ((max (x8 - x9) (x9 - x8)) - 1) 0))) from k_max)⟩, ⟨rfl, rfl, fun w hm => (show KO w (.bin .mul 3) [(iV ((max ((max (x8 - x9) (x9 - x8)) - 1) 0))), (iV x2)] (iV (((max ((max (x8 - x9) (x9 - x8)) - 1) 0) * x2))) from k_mul (wrap64 (by have := mul_bd (a := (max ((max (x8 - x9) (x9 - x8)) - 1) 0)) (b := x2) (A := 30) (B := 10000) (by omega) (by omega) (by omega) (by omega); omega)))⟩, ⟨rfl, rfl, fun w hm => (show KO w (.bin .add 3) [(iV ((max (x8 - x9) (x9 - x8)))), (iV 1)] (iV (((max (x8 - x9) (x9 - x8)) + 1))) from k_add (wrap64 (by first | omega | assumption)))⟩, ⟨rfl, rfl, fun w hm => (show KO w (.bin .mul 3) [(iV (((max (x8 - x9) (x9 - x8)) + 1))), (iV x2)] (iV ((((max (x8 - x9) (x9 - x8)) + 1) * x2))) from k_mul (wrap64 (by have := mul_bd (a := ((max (x8 - x9) (x9 - x8)) + 1)) (b := x2) (A := 30) (B := 10000) (by omega) (by omega) (by omega) (by omega); omega)))⟩, trivial⟩ trivial) 3000 80 [(ag 0 8), (sy 8), (sy 9)] (.agg #[(sy 15), (sy 17)]) rfl rfl apart_r0 w (fun _ _ h => nomatch h)
  have v0 : (((max ((max (x8 - x9) (x9 - x8)) - 1) 0) * x2) : Int) = apart0 x0 x1 x2 x3 x4 x5 x6 x7 x8 x9 := by simp only [apart0, if_true, if_false, reduceIte]
  have v1 : ((((max (x8 - x9) (x9 - x8)) + 1) * x2) : Int) = apart1 x0 x1 x2 x3 x4 x5 x6 x7 x8 x9 := by simp only [apart1, if_true, if_false, reduceIte]
  have hv : ((.agg #[(iV (((max ((max (x8 - x9) (x9 - x8)) - 1) 0) * x2))), (iV ((((max (x8 - x9) (x9 - x8)) + 1) * x2)))]) : Value) = (.agg #[(iV (apart0 x0 x1 x2 x3 x4 x5 x6 x7 x8 x9)), (iV (apart1 x0 x1 x2 x3 x4 x5 x6 x7 x8 x9))]) := by rw [v0, v1]
  rw [← hv]
  exact q
theorem apart_bd {x0 x1 x2 x3 x4 x5 x6 x7 x8 x9 : Int} (v2 : 1 ≤ x2 ∧ x2 ≤ 10000) (h8 : 0 ≤ x8 ∧ x8 < 24) (h9 : 0 ≤ x9 ∧ x9 < 24) :
    (0 ≤ apart0 x0 x1 x2 x3 x4 x5 x6 x7 x8 x9 ∧ apart0 x0 x1 x2 x3 x4 x5 x6 x7 x8 x9 ≤ 240000) ∧ (0 ≤ apart1 x0 x1 x2 x3 x4 x5 x6 x7 x8 x9 ∧ apart1 x0 x1 x2 x3 x4 x5 x6 x7 x8 x9 ≤ 240000) := by
  unfold apart0 apart1
  exact ⟨mul_bd (by omega) (by omega) (by omega) (by omega) (C := 240000) (A := 24) (B := 10000), mul_bd (by omega) (by omega) (by omega) (by omega) (C := 240000) (A := 24) (B := 10000)⟩
noncomputable def dist0 (x0 : Int) (x1 : Int) (x2 : Int) (x3 : Int) (x4 : Int) (x5 : Int) (x6 : Int) (x7 : Int) (x8 : Int) (x9 : Int) : Int := (rootD ((((apart0 (x0) (x1) (x2) (x3) (x4) (x5) (x6) (x7) ((x8 % x0)) ((x9 % x0))) * (apart0 (x0) (x1) (x2) (x3) (x4) (x5) (x6) (x7) ((x8 % x0)) ((x9 % x0)))) + ((apart0 (x0) (x1) (x2) (x3) (x4) (x5) (x6) (x7) ((x8 / x0)) ((x9 / x0))) * (apart0 (x0) (x1) (x2) (x3) (x4) (x5) (x6) (x7) ((x8 / x0)) ((x9 / x0))))) + (x5 * x5)))
noncomputable def dist1 (x0 : Int) (x1 : Int) (x2 : Int) (x3 : Int) (x4 : Int) (x5 : Int) (x6 : Int) (x7 : Int) (x8 : Int) (x9 : Int) : Int := (rootU ((((apart1 (x0) (x1) (x2) (x3) (x4) (x5) (x6) (x7) ((x8 % x0)) ((x9 % x0))) * (apart1 (x0) (x1) (x2) (x3) (x4) (x5) (x6) (x7) ((x8 % x0)) ((x9 % x0)))) + ((apart1 (x0) (x1) (x2) (x3) (x4) (x5) (x6) (x7) ((x8 / x0)) ((x9 / x0))) * (apart1 (x0) (x1) (x2) (x3) (x4) (x5) (x6) (x7) ((x8 / x0)) ((x9 / x0))))) + (x6 * x6)))
noncomputable def dist_e0 : List Ent := [aB .rem (sy 8) (sy 0) (sy 10), aB .rem (sy 9) (sy 0) (sy 11), aB .quo (sy 8) (sy 0) (sy 14), aB .quo (sy 9) (sy 0) (sy 15), aB .mul (sy 12) (sy 12) (sy 18), aB .mul (sy 16) (sy 16) (sy 19), aB .add (sy 18) (sy 19) (sy 20), aB .mul (sy 5) (sy 5) (sy 21), aB .add (sy 20) (sy 21) (sy 22), aB .mul (sy 13) (sy 13) (sy 24), aB .mul (sy 17) (sy 17) (sy 25), aB .add (sy 24) (sy 25) (sy 26), aB .mul (sy 6) (sy 6) (sy 27), aB .add (sy 26) (sy 27) (sy 28)]
noncomputable def dist_c0 : List CEnt := [⟨80, [(ag 0 8), (sy 10), (sy 11)], [], (ag 12 2)⟩, ⟨80, [(ag 0 8), (sy 14), (sy 15)], [], (ag 16 2)⟩, ⟨81, [(sy 22)], [], (sy 23)⟩, ⟨82, [(sy 28)], [], (sy 29)⟩]
set_option maxRecDepth 1000000 in
theorem dist_r0 : ev Try.prog (env.sym dist_e0 dist_c0) 3000 (.call 45 [(ag 0 8), (sy 8), (sy 9)] Ev.start fun v _ => some v) = some (.agg #[(sy 23), (sy 29)]) := by kernel_rfl
set_option maxHeartbeats 8000000 in
set_option maxRecDepth 100000 in
theorem dist_any (x0 : Int) (x1 : Int) (x2 : Int) (x3 : Int) (x4 : Int) (x5 : Int) (x6 : Int) (x7 : Int) (x8 : Int) (x9 : Int) (v0 : 1 ≤ x0 ∧ x0 ≤ 24) (v1 : 1 ≤ x1 ∧ x1 ≤ 24) (v2 : 1 ≤ x2 ∧ x2 ≤ 10000) (v3 : 100 ≤ x3 ∧ x3 ≤ x4 ∧ x4 ≤ 20000) (v5 : 0 ≤ x5 ∧ x5 ≤ x6 ∧ x6 ≤ 700000) (v7 : 0 ≤ x7 ∧ x7 ≤ 1000) (h8 : 0 ≤ x8 ∧ x8 < x0 * x1) (h9 : 0 ≤ x9 ∧ x9 < x0 * x1) (w : World)  : Calls Try.prog 45 #[(mV x0 x1 x2 x3 x4 x5 x6 x7), (iV x8), (iV x9)] w (fun en w' => en = .returned (.agg #[(iV (dist0 x0 x1 x2 x3 x4 x5 x6 x7 x8 x9)), (iV (dist1 x0 x1 x2 x3 x4 x5 x6 x7 x8 x9))]) ∧ Below w.heap.size w w') := by
  have m8 := Int.emod_nonneg x8 (by omega : x0 ≠ 0)
  have m8' := Int.emod_lt_of_pos x8 (by omega : 0 < x0)
  have m9 := Int.emod_nonneg x9 (by omega : x0 ≠ 0)
  have m9' := Int.emod_lt_of_pos x9 (by omega : 0 < x0)
  have r8 := row_bd (a := x8) (x := x0) (y := x1) h8.1 h8.2 (by omega) (by omega)
  have r9 := row_bd (a := x9) (x := x0) (y := x1) h9.1 h9.2 (by omega) (by omega)
  have ac := apart_bd (x0 := x0) (x1 := x1) (x2 := x2) (x3 := x3) (x4 := x4) (x5 := x5) (x6 := x6) (x7 := x7) (x8 := x8 % x0) (x9 := x9 % x0) v2 (by omega) (by omega)
  have ar := apart_bd (x0 := x0) (x1 := x1) (x2 := x2) (x3 := x3) (x4 := x4) (x5 := x5) (x6 := x6) (x7 := x7) (x8 := x8 / x0) (x9 := x9 / x0) v2 (by omega) (by omega)
  have s5 := mul_bd (a := x5) (b := x5) (A := 700000) (B := 700000) (C := 490000000000) (by omega) (by omega) (by omega) (by omega)
  have s6 := mul_bd (a := x6) (b := x6) (A := 700000) (B := 700000) (C := 490000000000) (by omega) (by omega) (by omega) (by omega)
  have c0 := mul_bd (A := 240000) (B := 240000) (C := 57600000000) ac.1.1 ac.1.2 ac.1.1 ac.1.2
  have c1 := mul_bd (A := 240000) (B := 240000) (C := 57600000000) ac.2.1 ac.2.2 ac.2.1 ac.2.2
  have e0 := mul_bd (A := 240000) (B := 240000) (C := 57600000000) ar.1.1 ar.1.2 ar.1.1 ar.1.2
  have e1 := mul_bd (A := 240000) (B := 240000) (C := 57600000000) ar.2.1 ar.2.2 ar.2.1 ar.2.2
  have q := @calls_sym (Rho.of [(iV x0), (iV x1), (iV x2), (iV x3), (iV x4), (iV x5), (iV x6), (iV x7), (iV x8), (iV x9), (iV ((x8 % x0))), (iV ((x9 % x0))), (iV ((apart0 (x0) (x1) (x2) (x3) (x4) (x5) (x6) (x7) ((x8 % x0)) ((x9 % x0))))), (iV ((apart1 (x0) (x1) (x2) (x3) (x4) (x5) (x6) (x7) ((x8 % x0)) ((x9 % x0))))), (iV ((x8 / x0))), (iV ((x9 / x0))), (iV ((apart0 (x0) (x1) (x2) (x3) (x4) (x5) (x6) (x7) ((x8 / x0)) ((x9 / x0))))), (iV ((apart1 (x0) (x1) (x2) (x3) (x4) (x5) (x6) (x7) ((x8 / x0)) ((x9 / x0))))), (iV (((apart0 (x0) (x1) (x2) (x3) (x4) (x5) (x6) (x7) ((x8 % x0)) ((x9 % x0))) * (apart0 (x0) (x1) (x2) (x3) (x4) (x5) (x6) (x7) ((x8 % x0)) ((x9 % x0)))))), (iV (((apart0 (x0) (x1) (x2) (x3) (x4) (x5) (x6) (x7) ((x8 / x0)) ((x9 / x0))) * (apart0 (x0) (x1) (x2) (x3) (x4) (x5) (x6) (x7) ((x8 / x0)) ((x9 / x0)))))), (iV ((((apart0 (x0) (x1) (x2) (x3) (x4) (x5) (x6) (x7) ((x8 % x0)) ((x9 % x0))) * (apart0 (x0) (x1) (x2) (x3) (x4) (x5) (x6) (x7) ((x8 % x0)) ((x9 % x0)))) + ((apart0 (x0) (x1) (x2) (x3) (x4) (x5) (x6) (x7) ((x8 / x0)) ((x9 / x0))) * (apart0 (x0) (x1) (x2) (x3) (x4) (x5) (x6) (x7) ((x8 / x0)) ((x9 / x0))))))), (iV ((x5 * x5))), (iV (((((apart0 (x0) (x1) (x2) (x3) (x4) (x5) (x6) (x7) ((x8 % x0)) ((x9 % x0))) * (apart0 (x0) (x1) (x2) (x3) (x4) (x5) (x6) (x7) ((x8 % x0)) ((x9 % x0)))) + ((apart0 (x0) (x1) (x2) (x3) (x4) (x5) (x6) (x7) ((x8 / x0)) ((x9 / x0))) * (apart0 (x0) (x1) (x2) (x3) (x4) (x5) (x6) (x7) ((x8 / x0)) ((x9 / x0))))) + (x5 * x5)))), (iV ((rootD ((((apart0 (x0) (x1) (x2) (x3) (x4) (x5) (x6) (x7) ((x8 % x0)) ((x9 % x0))) * (apart0 (x0) (x1) (x2) (x3) (x4) (x5) (x6) (x7) ((x8 % x0)) ((x9 % x0)))) + ((apart0 (x0) (x1) (x2) (x3) (x4) (x5) (x6) (x7) ((x8 / x0)) ((x9 / x0))) * (apart0 (x0) (x1) (x2) (x3) (x4) (x5) (x6) (x7) ((x8 / x0)) ((x9 / x0))))) + (x5 * x5))))), (iV (((apart1 (x0) (x1) (x2) (x3) (x4) (x5) (x6) (x7) ((x8 % x0)) ((x9 % x0))) * (apart1 (x0) (x1) (x2) (x3) (x4) (x5) (x6) (x7) ((x8 % x0)) ((x9 % x0)))))), (iV (((apart1 (x0) (x1) (x2) (x3) (x4) (x5) (x6) (x7) ((x8 / x0)) ((x9 / x0))) * (apart1 (x0) (x1) (x2) (x3) (x4) (x5) (x6) (x7) ((x8 / x0)) ((x9 / x0)))))), (iV ((((apart1 (x0) (x1) (x2) (x3) (x4) (x5) (x6) (x7) ((x8 % x0)) ((x9 % x0))) * (apart1 (x0) (x1) (x2) (x3) (x4) (x5) (x6) (x7) ((x8 % x0)) ((x9 % x0)))) + ((apart1 (x0) (x1) (x2) (x3) (x4) (x5) (x6) (x7) ((x8 / x0)) ((x9 / x0))) * (apart1 (x0) (x1) (x2) (x3) (x4) (x5) (x6) (x7) ((x8 / x0)) ((x9 / x0))))))), (iV ((x6 * x6))), (iV (((((apart1 (x0) (x1) (x2) (x3) (x4) (x5) (x6) (x7) ((x8 % x0)) ((x9 % x0))) * (apart1 (x0) (x1) (x2) (x3) (x4) (x5) (x6) (x7) ((x8 % x0)) ((x9 % x0)))) + ((apart1 (x0) (x1) (x2) (x3) (x4) (x5) (x6) (x7) ((x8 / x0)) ((x9 / x0))) * (apart1 (x0) (x1) (x2) (x3) (x4) (x5) (x6) (x7) ((x8 / x0)) ((x9 / x0))))) + (x6 * x6)))), (iV ((rootU ((((apart1 (x0) (x1) (x2) (x3) (x4) (x5) (x6) (x7) ((x8 % x0)) ((x9 % x0))) * (apart1 (x0) (x1) (x2) (x3) (x4) (x5) (x6) (x7) ((x8 % x0)) ((x9 % x0)))) + ((apart1 (x0) (x1) (x2) (x3) (x4) (x5) (x6) (x7) ((x8 / x0)) ((x9 / x0))) * (apart1 (x0) (x1) (x2) (x3) (x4) (x5) (x6) (x7) ((x8 / x0)) ((x9 / x0))))) + (x6 * x6)))))] (fun _ => none)) Try.prog _ (@Env.Ok.sym (Rho.of [(iV x0), (iV x1), (iV x2), (iV x3), (iV x4), (iV x5), (iV x6), (iV x7), (iV x8), (iV x9), (iV ((x8 % x0))), (iV ((x9 % x0))), (iV ((apart0 (x0) (x1) (x2) (x3) (x4) (x5) (x6) (x7) ((x8 % x0)) ((x9 % x0))))), (iV ((apart1 (x0) (x1) (x2) (x3) (x4) (x5) (x6) (x7) ((x8 % x0)) ((x9 % x0))))), (iV ((x8 / x0))), (iV ((x9 / x0))), (iV ((apart0 (x0) (x1) (x2) (x3) (x4) (x5) (x6) (x7) ((x8 / x0)) ((x9 / x0))))), (iV ((apart1 (x0) (x1) (x2) (x3) (x4) (x5) (x6) (x7) ((x8 / x0)) ((x9 / x0))))), (iV (((apart0 (x0) (x1) (x2) (x3) (x4) (x5) (x6) (x7) ((x8 % x0)) ((x9 % x0))) * (apart0 (x0) (x1) (x2) (x3) (x4) (x5) (x6) (x7) ((x8 % x0)) ((x9 % x0)))))), (iV (((apart0 (x0) (x1) (x2) (x3) (x4) (x5) (x6) (x7) ((x8 / x0)) ((x9 / x0))) * (apart0 (x0) (x1) (x2) (x3) (x4) (x5) (x6) (x7) ((x8 / x0)) ((x9 / x0)))))), (iV ((((apart0 (x0) (x1) (x2) (x3) (x4) (x5) (x6) (x7) ((x8 % x0)) ((x9 % x0))) * (apart0 (x0) (x1) (x2) (x3) (x4) (x5) (x6) (x7) ((x8 % x0)) ((x9 % x0)))) + ((apart0 (x0) (x1) (x2) (x3) (x4) (x5) (x6) (x7) ((x8 / x0)) ((x9 / x0))) * (apart0 (x0) (x1) (x2) (x3) (x4) (x5) (x6) (x7) ((x8 / x0)) ((x9 / x0))))))), (iV ((x5 * x5))), (iV (((((apart0 (x0) (x1) (x2) (x3) (x4) (x5) (x6) (x7) ((x8 % x0)) ((x9 % x0))) * (apart0 (x0) (x1) (x2) (x3) (x4) (x5) (x6) (x7) ((x8 % x0)) ((x9 % x0)))) + ((apart0 (x0) (x1) (x2) (x3) (x4) (x5) (x6) (x7) ((x8 / x0)) ((x9 / x0))) * (apart0 (x0) (x1) (x2) (x3) (x4) (x5) (x6) (x7) ((x8 / x0)) ((x9 / x0))))) + (x5 * x5)))), (iV ((rootD ((((apart0 (x0) (x1) (x2) (x3) (x4) (x5) (x6) (x7) ((x8 % x0)) ((x9 % x0))) * (apart0 (x0) (x1) (x2) (x3) (x4) (x5) (x6) (x7) ((x8 % x0)) ((x9 % x0)))) + ((apart0 (x0) (x1) (x2) (x3) (x4) (x5) (x6) (x7) ((x8 / x0)) ((x9 / x0))) * (apart0 (x0) (x1) (x2) (x3) (x4) (x5) (x6) (x7) ((x8 / x0)) ((x9 / x0))))) + (x5 * x5))))), (iV (((apart1 (x0) (x1) (x2) (x3) (x4) (x5) (x6) (x7) ((x8 % x0)) ((x9 % x0))) * (apart1 (x0) (x1) (x2) (x3) (x4) (x5) (x6) (x7) ((x8 % x0)) ((x9 % x0)))))), (iV (((apart1 (x0) (x1) (x2) (x3) (x4) (x5) (x6) (x7) ((x8 / x0)) ((x9 / x0))) * (apart1 (x0) (x1) (x2) (x3) (x4) (x5) (x6) (x7) ((x8 / x0)) ((x9 / x0)))))), (iV ((((apart1 (x0) (x1) (x2) (x3) (x4) (x5) (x6) (x7) ((x8 % x0)) ((x9 % x0))) * (apart1 (x0) (x1) (x2) (x3) (x4) (x5) (x6) (x7) ((x8 % x0)) ((x9 % x0)))) + ((apart1 (x0) (x1) (x2) (x3) (x4) (x5) (x6) (x7) ((x8 / x0)) ((x9 / x0))) * (apart1 (x0) (x1) (x2) (x3) (x4) (x5) (x6) (x7) ((x8 / x0)) ((x9 / x0))))))), (iV ((x6 * x6))), (iV (((((apart1 (x0) (x1) (x2) (x3) (x4) (x5) (x6) (x7) ((x8 % x0)) ((x9 % x0))) * (apart1 (x0) (x1) (x2) (x3) (x4) (x5) (x6) (x7) ((x8 % x0)) ((x9 % x0)))) + ((apart1 (x0) (x1) (x2) (x3) (x4) (x5) (x6) (x7) ((x8 / x0)) ((x9 / x0))) * (apart1 (x0) (x1) (x2) (x3) (x4) (x5) (x6) (x7) ((x8 / x0)) ((x9 / x0))))) + (x6 * x6)))), (iV ((rootU ((((apart1 (x0) (x1) (x2) (x3) (x4) (x5) (x6) (x7) ((x8 % x0)) ((x9 % x0))) * (apart1 (x0) (x1) (x2) (x3) (x4) (x5) (x6) (x7) ((x8 % x0)) ((x9 % x0)))) + ((apart1 (x0) (x1) (x2) (x3) (x4) (x5) (x6) (x7) ((x8 / x0)) ((x9 / x0))) * (apart1 (x0) (x1) (x2) (x3) (x4) (x5) (x6) (x7) ((x8 / x0)) ((x9 / x0))))) + (x6 * x6)))))] (fun _ => none)) _ _ (@env_ok (Rho.of [(iV x0), (iV x1), (iV x2), (iV x3), (iV x4), (iV x5), (iV x6), (iV x7), (iV x8), (iV x9), (iV ((x8 % x0))), (iV ((x9 % x0))), (iV ((apart0 (x0) (x1) (x2) (x3) (x4) (x5) (x6) (x7) ((x8 % x0)) ((x9 % x0))))), (iV ((apart1 (x0) (x1) (x2) (x3) (x4) (x5) (x6) (x7) ((x8 % x0)) ((x9 % x0))))), (iV ((x8 / x0))), (iV ((x9 / x0))), (iV ((apart0 (x0) (x1) (x2) (x3) (x4) (x5) (x6) (x7) ((x8 / x0)) ((x9 / x0))))), (iV ((apart1 (x0) (x1) (x2) (x3) (x4) (x5) (x6) (x7) ((x8 / x0)) ((x9 / x0))))), (iV (((apart0 (x0) (x1) (x2) (x3) (x4) (x5) (x6) (x7) ((x8 % x0)) ((x9 % x0))) * (apart0 (x0) (x1) (x2) (x3) (x4) (x5) (x6) (x7) ((x8 % x0)) ((x9 % x0)))))), (iV (((apart0 (x0) (x1) (x2) (x3) (x4) (x5) (x6) (x7) ((x8 / x0)) ((x9 / x0))) * (apart0 (x0) (x1) (x2) (x3) (x4) (x5) (x6) (x7) ((x8 / x0)) ((x9 / x0)))))), (iV ((((apart0 (x0) (x1) (x2) (x3) (x4) (x5) (x6) (x7) ((x8 % x0)) ((x9 % x0))) * (apart0 (x0) (x1) (x2) (x3) (x4) (x5) (x6) (x7) ((x8 % x0)) ((x9 % x0)))) + ((apart0 (x0) (x1) (x2) (x3) (x4) (x5) (x6) (x7) ((x8 / x0)) ((x9 / x0))) * (apart0 (x0) (x1) (x2) (x3) (x4) (x5) (x6) (x7) ((x8 / x0)) ((x9 / x0))))))), (iV ((x5 * x5))), (iV (((((apart0 (x0) (x1) (x2) (x3) (x4) (x5) (x6) (x7) ((x8 % x0)) ((x9 % x0))) * (apart0 (x0) (x1) (x2) (x3) (x4) (x5) (x6) (x7) ((x8 % x0)) ((x9 % x0)))) + ((apart0 (x0) (x1) (x2) (x3) (x4) (x5) (x6) (x7) ((x8 / x0)) ((x9 / x0))) * (apart0 (x0) (x1) (x2) (x3) (x4) (x5) (x6) (x7) ((x8 / x0)) ((x9 / x0))))) + (x5 * x5)))), (iV ((rootD ((((apart0 (x0) (x1) (x2) (x3) (x4) (x5) (x6) (x7) ((x8 % x0)) ((x9 % x0))) * (apart0 (x0) (x1) (x2) (x3) (x4) (x5) (x6) (x7) ((x8 % x0)) ((x9 % x0)))) + ((apart0 (x0) (x1) (x2) (x3) (x4) (x5) (x6) (x7) ((x8 / x0)) ((x9 / x0))) * (apart0 (x0) (x1) (x2) (x3) (x4) (x5) (x6) (x7) ((x8 / x0)) ((x9 / x0))))) + (x5 * x5))))), (iV (((apart1 (x0) (x1) (x2) (x3) (x4) (x5) (x6) (x7) ((x8 % x0)) ((x9 % x0))) * (apart1 (x0) (x1) (x2) (x3) (x4) (x5) (x6) (x7) ((x8 % x0)) ((x9 % x0)))))), (iV (((apart1 (x0) (x1) (x2) (x3) (x4) (x5) (x6) (x7) ((x8 / x0)) ((x9 / x0))) * (apart1 (x0) (x1) (x2) (x3) (x4) (x5) (x6) (x7) ((x8 / x0)) ((x9 / x0)))))), (iV ((((apart1 (x0) (x1) (x2) (x3) (x4) (x5) (x6) (x7) ((x8 % x0)) ((x9 % x0))) * (apart1 (x0) (x1) (x2) (x3) (x4) (x5) (x6) (x7) ((x8 % x0)) ((x9 % x0)))) + ((apart1 (x0) (x1) (x2) (x3) (x4) (x5) (x6) (x7) ((x8 / x0)) ((x9 / x0))) * (apart1 (x0) (x1) (x2) (x3) (x4) (x5) (x6) (x7) ((x8 / x0)) ((x9 / x0))))))), (iV ((x6 * x6))), (iV (((((apart1 (x0) (x1) (x2) (x3) (x4) (x5) (x6) (x7) ((x8 % x0)) ((x9 % x0))) * (apart1 (x0) (x1) (x2) (x3) (x4) (x5) (x6) (x7) ((x8 % x0)) ((x9 % x0)))) + ((apart1 (x0) (x1) (x2) (x3) (x4) (x5) (x6) (x7) ((x8 / x0)) ((x9 / x0))) * (apart1 (x0) (x1) (x2) (x3) (x4) (x5) (x6) (x7) ((x8 / x0)) ((x9 / x0))))) + (x6 * x6)))), (iV ((rootU ((((apart1 (x0) (x1) (x2) (x3) (x4) (x5) (x6) (x7) ((x8 % x0)) ((x9 % x0))) * (apart1 (x0) (x1) (x2) (x3) (x4) (x5) (x6) (x7) ((x8 % x0)) ((x9 % x0)))) + ((apart1 (x0) (x1) (x2) (x3) (x4) (x5) (x6) (x7) ((x8 / x0)) ((x9 / x0))) * (apart1 (x0) (x1) (x2) (x3) (x4) (x5) (x6) (x7) ((x8 / x0)) ((x9 / x0))))) + (x6 * x6)))))] (fun _ => none))) dist_e0 dist_c0 ⟨⟨rfl, rfl, fun w hm => (show KO w (.bin .rem 3) [(iV x8), (iV x0)] (iV ((x8 % x0))) from k_rem_nn (by first | omega | assumption) (by first | omega | assumption))⟩, ⟨rfl, rfl, fun w hm => (show KO w (.bin .rem 3) [(iV x9), (iV x0)] (iV ((x9 % x0))) from k_rem_nn (by first | omega | assumption) (by first | omega | assumption))⟩, ⟨rfl, rfl, fun w hm => (show KO w (.bin .quo 3) [(iV x8), (iV x0)] (iV ((x8 / x0))) from k_quo_nn (by first | omega | assumption) (by first | omega | assumption) (wrap64 (by first | omega | assumption)))⟩, ⟨rfl, rfl, fun w hm => (show KO w (.bin .quo 3) [(iV x9), (iV x0)] (iV ((x9 / x0))) from k_quo_nn (by first | omega | assumption) (by first | omega | assumption) (wrap64 (by first | omega | assumption)))⟩, ⟨rfl, rfl, fun w hm => (show KO w (.bin .mul 3) [(iV ((apart0 (x0) (x1) (x2) (x3) (x4) (x5) (x6) (x7) ((x8 % x0)) ((x9 % x0))))), (iV ((apart0 (x0) (x1) (x2) (x3) (x4) (x5) (x6) (x7) ((x8 % x0)) ((x9 % x0)))))] (iV (((apart0 (x0) (x1) (x2) (x3) (x4) (x5) (x6) (x7) ((x8 % x0)) ((x9 % x0))) * (apart0 (x0) (x1) (x2) (x3) (x4) (x5) (x6) (x7) ((x8 % x0)) ((x9 % x0)))))) from k_mul (wrap64 (by first | omega | assumption)))⟩, ⟨rfl, rfl, fun w hm => (show KO w (.bin .mul 3) [(iV ((apart0 (x0) (x1) (x2) (x3) (x4) (x5) (x6) (x7) ((x8 / x0)) ((x9 / x0))))), (iV ((apart0 (x0) (x1) (x2) (x3) (x4) (x5) (x6) (x7) ((x8 / x0)) ((x9 / x0)))))] (iV (((apart0 (x0) (x1) (x2) (x3) (x4) (x5) (x6) (x7) ((x8 / x0)) ((x9 / x0))) * (apart0 (x0) (x1) (x2) (x3) (x4) (x5) (x6) (x7) ((x8 / x0)) ((x9 / x0)))))) from k_mul (wrap64 (by first | omega | assumption)))⟩, ⟨rfl, rfl, fun w hm => (show KO w (.bin .add 3) [(iV (((apart0 (x0) (x1) (x2) (x3) (x4) (x5) (x6) (x7) ((x8 % x0)) ((x9 % x0))) * (apart0 (x0) (x1) (x2) (x3) (x4) (x5) (x6) (x7) ((x8 % x0)) ((x9 % x0)))))), (iV (((apart0 (x0) (x1) (x2) (x3) (x4) (x5) (x6) (x7) ((x8 / x0)) ((x9 / x0))) * (apart0 (x0) (x1) (x2) (x3) (x4) (x5) (x6) (x7) ((x8 / x0)) ((x9 / x0))))))] (iV ((((apart0 (x0) (x1) (x2) (x3) (x4) (x5) (x6) (x7) ((x8 % x0)) ((x9 % x0))) * (apart0 (x0) (x1) (x2) (x3) (x4) (x5) (x6) (x7) ((x8 % x0)) ((x9 % x0)))) + ((apart0 (x0) (x1) (x2) (x3) (x4) (x5) (x6) (x7) ((x8 / x0)) ((x9 / x0))) * (apart0 (x0) (x1) (x2) (x3) (x4) (x5) (x6) (x7) ((x8 / x0)) ((x9 / x0))))))) from k_add (wrap64 (by first | omega | assumption)))⟩, ⟨rfl, rfl, fun w hm => (show KO w (.bin .mul 3) [(iV x5), (iV x5)] (iV ((x5 * x5))) from k_mul (wrap64 (by first | omega | assumption)))⟩, ⟨rfl, rfl, fun w hm => (show KO w (.bin .add 3) [(iV ((((apart0 (x0) (x1) (x2) (x3) (x4) (x5) (x6) (x7) ((x8 % x0)) ((x9 % x0))) * (apart0 (x0) (x1) (x2) (x3) (x4) (x5) (x6) (x7) ((x8 % x0)) ((x9 % x0)))) + ((apart0 (x0) (x1) (x2) (x3) (x4) (x5) (x6) (x7) ((x8 / x0)) ((x9 / x0))) * (apart0 (x0) (x1) (x2) (x3) (x4) (x5) (x6) (x7) ((x8 / x0)) ((x9 / x0))))))), (iV ((x5 * x5)))] (iV (((((apart0 (x0) (x1) (x2) (x3) (x4) (x5) (x6) (x7) ((x8 % x0)) ((x9 % x0))) * (apart0 (x0) (x1) (x2) (x3) (x4) (x5) (x6) (x7) ((x8 % x0)) ((x9 % x0)))) + ((apart0 (x0) (x1) (x2) (x3) (x4) (x5) (x6) (x7) ((x8 / x0)) ((x9 / x0))) * (apart0 (x0) (x1) (x2) (x3) (x4) (x5) (x6) (x7) ((x8 / x0)) ((x9 / x0))))) + (x5 * x5)))) from k_add (wrap64 (by first | omega | assumption)))⟩, ⟨rfl, rfl, fun w hm => (show KO w (.bin .mul 3) [(iV ((apart1 (x0) (x1) (x2) (x3) (x4) (x5) (x6) (x7) ((x8 % x0)) ((x9 % x0))))), (iV ((apart1 (x0) (x1) (x2) (x3) (x4) (x5) (x6) (x7) ((x8 % x0)) ((x9 % x0)))))] (iV (((apart1 (x0) (x1) (x2) (x3) (x4) (x5) (x6) (x7) ((x8 % x0)) ((x9 % x0))) * (apart1 (x0) (x1) (x2) (x3) (x4) (x5) (x6) (x7) ((x8 % x0)) ((x9 % x0)))))) from k_mul (wrap64 (by first | omega | assumption)))⟩, ⟨rfl, rfl, fun w hm => (show KO w (.bin .mul 3) [(iV ((apart1 (x0) (x1) (x2) (x3) (x4) (x5) (x6) (x7) ((x8 / x0)) ((x9 / x0))))), (iV ((apart1 (x0) (x1) (x2) (x3) (x4) (x5) (x6) (x7) ((x8 / x0)) ((x9 / x0)))))] (iV (((apart1 (x0) (x1) (x2) (x3) (x4) (x5) (x6) (x7) ((x8 / x0)) ((x9 / x0))) * (apart1 (x0) (x1) (x2) (x3) (x4) (x5) (x6) (x7) ((x8 / x0)) ((x9 / x0)))))) from k_mul (wrap64 (by first | omega | assumption)))⟩, ⟨rfl, rfl, fun w hm => (show KO w (.bin .add 3) [(iV (((apart1 (x0) (x1) (x2) (x3) (x4) (x5) (x6) (x7) ((x8 % x0)) ((x9 % x0))) * (apart1 (x0) (x1) (x2) (x3) (x4) (x5) (x6) (x7) ((x8 % x0)) ((x9 % x0)))))), (iV (((apart1 (x0) (x1) (x2) (x3) (x4) (x5) (x6) (x7) ((x8 / x0)) ((x9 / x0))) * (apart1 (x0) (x1) (x2) (x3) (x4) (x5) (x6) (x7) ((x8 / x0)) ((x9 / x0))))))] (iV ((((apart1 (x0) (x1) (x2) (x3) (x4) (x5) (x6) (x7) ((x8 % x0)) ((x9 % x0))) * (apart1 (x0) (x1) (x2) (x3) (x4) (x5) (x6) (x7) ((x8 % x0)) ((x9 % x0)))) + ((apart1 (x0) (x1) (x2) (x3) (x4) (x5) (x6) (x7) ((x8 / x0)) ((x9 / x0))) * (apart1 (x0) (x1) (x2) (x3) (x4) (x5) (x6) (x7) ((x8 / x0)) ((x9 / x0))))))) from k_add (wrap64 (by first | omega | assumption)))⟩, ⟨rfl, rfl, fun w hm => (show KO w (.bin .mul 3) [(iV x6), (iV x6)] (iV ((x6 * x6))) from k_mul (wrap64 (by first | omega | assumption)))⟩, ⟨rfl, rfl, fun w hm => (show KO w (.bin .add 3) [(iV ((((apart1 (x0) (x1) (x2) (x3) (x4) (x5) (x6) (x7) ((x8 % x0)) ((x9 % x0))) * (apart1 (x0) (x1) (x2) (x3) (x4) (x5) (x6) (x7) ((x8 % x0)) ((x9 % x0)))) + ((apart1 (x0) (x1) (x2) (x3) (x4) (x5) (x6) (x7) ((x8 / x0)) ((x9 / x0))) * (apart1 (x0) (x1) (x2) (x3) (x4) (x5) (x6) (x7) ((x8 / x0)) ((x9 / x0))))))), (iV ((x6 * x6)))] (iV (((((apart1 (x0) (x1) (x2) (x3) (x4) (x5) (x6) (x7) ((x8 % x0)) ((x9 % x0))) * (apart1 (x0) (x1) (x2) (x3) (x4) (x5) (x6) (x7) ((x8 % x0)) ((x9 % x0)))) + ((apart1 (x0) (x1) (x2) (x3) (x4) (x5) (x6) (x7) ((x8 / x0)) ((x9 / x0))) * (apart1 (x0) (x1) (x2) (x3) (x4) (x5) (x6) (x7) ((x8 / x0)) ((x9 / x0))))) + (x6 * x6)))) from k_add (wrap64 (by first | omega | assumption)))⟩, trivial⟩ ⟨(@CEntOk.of (Rho.of [(iV x0), (iV x1), (iV x2), (iV x3), (iV x4), (iV x5), (iV x6), (iV x7), (iV x8), (iV x9), (iV ((x8 % x0))), (iV ((x9 % x0))), (iV ((apart0 (x0) (x1) (x2) (x3) (x4) (x5) (x6) (x7) ((x8 % x0)) ((x9 % x0))))), (iV ((apart1 (x0) (x1) (x2) (x3) (x4) (x5) (x6) (x7) ((x8 % x0)) ((x9 % x0))))), (iV ((x8 / x0))), (iV ((x9 / x0))), (iV ((apart0 (x0) (x1) (x2) (x3) (x4) (x5) (x6) (x7) ((x8 / x0)) ((x9 / x0))))), (iV ((apart1 (x0) (x1) (x2) (x3) (x4) (x5) (x6) (x7) ((x8 / x0)) ((x9 / x0))))), (iV (((apart0 (x0) (x1) (x2) (x3) (x4) (x5) (x6) (x7) ((x8 % x0)) ((x9 % x0))) * (apart0 (x0) (x1) (x2) (x3) (x4) (x5) (x6) (x7) ((x8 % x0)) ((x9 % x0)))))), (iV (((apart0 (x0) (x1) (x2) (x3) (x4) (x5) (x6) (x7) ((x8 / x0)) ((x9 / x0))) * (apart0 (x0) (x1) (x2) (x3) (x4) (x5) (x6) (x7) ((x8 / x0)) ((x9 / x0)))))), (iV ((((apart0 (x0) (x1) (x2) (x3) (x4) (x5) (x6) (x7) ((x8 % x0)) ((x9 % x0))) * (apart0 (x0) (x1) (x2) (x3) (x4) (x5) (x6) (x7) ((x8 % x0)) ((x9 % x0)))) + ((apart0 (x0) (x1) (x2) (x3) (x4) (x5) (x6) (x7) ((x8 / x0)) ((x9 / x0))) * (apart0 (x0) (x1) (x2) (x3) (x4) (x5) (x6) (x7) ((x8 / x0)) ((x9 / x0))))))), (iV ((x5 * x5))), (iV (((((apart0 (x0) (x1) (x2) (x3) (x4) (x5) (x6) (x7) ((x8 % x0)) ((x9 % x0))) * (apart0 (x0) (x1) (x2) (x3) (x4) (x5) (x6) (x7) ((x8 % x0)) ((x9 % x0)))) + ((apart0 (x0) (x1) (x2) (x3) (x4) (x5) (x6) (x7) ((x8 / x0)) ((x9 / x0))) * (apart0 (x0) (x1) (x2) (x3) (x4) (x5) (x6) (x7) ((x8 / x0)) ((x9 / x0))))) + (x5 * x5)))), (iV ((rootD ((((apart0 (x0) (x1) (x2) (x3) (x4) (x5) (x6) (x7) ((x8 % x0)) ((x9 % x0))) * (apart0 (x0) (x1) (x2) (x3) (x4) (x5) (x6) (x7) ((x8 % x0)) ((x9 % x0)))) + ((apart0 (x0) (x1) (x2) (x3) (x4) (x5) (x6) (x7) ((x8 / x0)) ((x9 / x0))) * (apart0 (x0) (x1) (x2) (x3) (x4) (x5) (x6) (x7) ((x8 / x0)) ((x9 / x0))))) + (x5 * x5))))), (iV (((apart1 (x0) (x1) (x2) (x3) (x4) (x5) (x6) (x7) ((x8 % x0)) ((x9 % x0))) * (apart1 (x0) (x1) (x2) (x3) (x4) (x5) (x6) (x7) ((x8 % x0)) ((x9 % x0)))))), (iV (((apart1 (x0) (x1) (x2) (x3) (x4) (x5) (x6) (x7) ((x8 / x0)) ((x9 / x0))) * (apart1 (x0) (x1) (x2) (x3) (x4) (x5) (x6) (x7) ((x8 / x0)) ((x9 / x0)))))), (iV ((((apart1 (x0) (x1) (x2) (x3) (x4) (x5) (x6) (x7) ((x8 % x0)) ((x9 % x0))) * (apart1 (x0) (x1) (x2) (x3) (x4) (x5) (x6) (x7) ((x8 % x0)) ((x9 % x0)))) + ((apart1 (x0) (x1) (x2) (x3) (x4) (x5) (x6) (x7) ((x8 / x0)) ((x9 / x0))) * (apart1 (x0) (x1) (x2) (x3) (x4) (x5) (x6) (x7) ((x8 / x0)) ((x9 / x0))))))), (iV ((x6 * x6))), (iV (((((apart1 (x0) (x1) (x2) (x3) (x4) (x5) (x6) (x7) ((x8 % x0)) ((x9 % x0))) * (apart1 (x0) (x1) (x2) (x3) (x4) (x5) (x6) (x7) ((x8 % x0)) ((x9 % x0)))) + ((apart1 (x0) (x1) (x2) (x3) (x4) (x5) (x6) (x7) ((x8 / x0)) ((x9 / x0))) * (apart1 (x0) (x1) (x2) (x3) (x4) (x5) (x6) (x7) ((x8 / x0)) ((x9 / x0))))) + (x6 * x6)))), (iV ((rootU ((((apart1 (x0) (x1) (x2) (x3) (x4) (x5) (x6) (x7) ((x8 % x0)) ((x9 % x0))) * (apart1 (x0) (x1) (x2) (x3) (x4) (x5) (x6) (x7) ((x8 % x0)) ((x9 % x0)))) + ((apart1 (x0) (x1) (x2) (x3) (x4) (x5) (x6) (x7) ((x8 / x0)) ((x9 / x0))) * (apart1 (x0) (x1) (x2) (x3) (x4) (x5) (x6) (x7) ((x8 / x0)) ((x9 / x0))))) + (x6 * x6)))))] (fun _ => none)) Try.prog _ 80 _ _ #[(mV x0 x1 x2 x3 x4 x5 x6 x7), (iV ((x8 % x0))), (iV ((x9 % x0)))] (.agg #[(iV ((apart0 (x0) (x1) (x2) (x3) (x4) (x5) (x6) (x7) ((x8 % x0)) ((x9 % x0))))), (iV ((apart1 (x0) (x1) (x2) (x3) (x4) (x5) (x6) (x7) ((x8 % x0)) ((x9 % x0)))))]) rfl ⟨Try.f80, (Try.f80.body).getD .skip, by kernel_rfl, by kernel_rfl⟩ rfl rfl rfl (fun w hm => apart_any (x0) (x1) (x2) (x3) (x4) (x5) (x6) (x7) ((x8 % x0)) ((x9 % x0)) (by first | omega | assumption) (by first | omega | assumption) (by first | omega | assumption) w)), (@CEntOk.of (Rho.of [(iV x0), (iV x1), (iV x2), (iV x3), (iV x4), (iV x5), (iV x6), (iV x7), (iV x8), (iV x9), (iV ((x8 % x0))), (iV ((x9 % x0))), (iV ((apart0 (x0) (x1) (x2) (x3) (x4) (x5) (x6) (x7) ((x8 % x0)) ((x9 % x0))))), (iV ((apart1 (x0) (x1) (x2) (x3) (x4) (x5) (x6) (x7) ((x8 % x0)) ((x9 % x0))))), (iV ((x8 / x0))), (iV ((x9 / x0))), (iV ((apart0 (x0) (x1) (x2) (x3) (x4) (x5) (x6) (x7) ((x8 / x0)) ((x9 / x0))))), (iV ((apart1 (x0) (x1) (x2) (x3) (x4) (x5) (x6) (x7) ((x8 / x0)) ((x9 / x0))))), (iV (((apart0 (x0) (x1) (x2) (x3) (x4) (x5) (x6) (x7) ((x8 % x0)) ((x9 % x0))) * (apart0 (x0) (x1) (x2) (x3) (x4) (x5) (x6) (x7) ((x8 % x0)) ((x9 % x0)))))), (iV (((apart0 (x0) (x1) (x2) (x3) (x4) (x5) (x6) (x7) ((x8 / x0)) ((x9 / x0))) * (apart0 (x0) (x1) (x2) (x3) (x4) (x5) (x6) (x7) ((x8 / x0)) ((x9 / x0)))))), (iV ((((apart0 (x0) (x1) (x2) (x3) (x4) (x5) (x6) (x7) ((x8 % x0)) ((x9 % x0))) * (apart0 (x0) (x1) (x2) (x3) (x4) (x5) (x6) (x7) ((x8 % x0)) ((x9 % x0)))) + ((apart0 (x0) (x1) (x2) (x3) (x4) (x5) (x6) (x7) ((x8 / x0)) ((x9 / x0))) * (apart0 (x0) (x1) (x2) (x3) (x4) (x5) (x6) (x7) ((x8 / x0)) ((x9 / x0))))))), (iV ((x5 * x5))), (iV (((((apart0 (x0) (x1) (x2) (x3) (x4) (x5) (x6) (x7) ((x8 % x0)) ((x9 % x0))) * (apart0 (x0) (x1) (x2) (x3) (x4) (x5) (x6) (x7) ((x8 % x0)) ((x9 % x0)))) + ((apart0 (x0) (x1) (x2) (x3) (x4) (x5) (x6) (x7) ((x8 / x0)) ((x9 / x0))) * (apart0 (x0) (x1) (x2) (x3) (x4) (x5) (x6) (x7) ((x8 / x0)) ((x9 / x0))))) + (x5 * x5)))), (iV ((rootD ((((apart0 (x0) (x1) (x2) (x3) (x4) (x5) (x6) (x7) ((x8 % x0)) ((x9 % x0))) * (apart0 (x0) (x1) (x2) (x3) (x4) (x5) (x6) (x7) ((x8 % x0)) ((x9 % x0)))) + ((apart0 (x0) (x1) (x2) (x3) (x4) (x5) (x6) (x7) ((x8 / x0)) ((x9 / x0))) * (apart0 (x0) (x1) (x2) (x3) (x4) (x5) (x6) (x7) ((x8 / x0)) ((x9 / x0))))) + (x5 * x5))))), (iV (((apart1 (x0) (x1) (x2) (x3) (x4) (x5) (x6) (x7) ((x8 % x0)) ((x9 % x0))) * (apart1 (x0) (x1) (x2) (x3) (x4) (x5) (x6) (x7) ((x8 % x0)) ((x9 % x0)))))), (iV (((apart1 (x0) (x1) (x2) (x3) (x4) (x5) (x6) (x7) ((x8 / x0)) ((x9 / x0))) * (apart1 (x0) (x1) (x2) (x3) (x4) (x5) (x6) (x7) ((x8 / x0)) ((x9 / x0)))))), (iV ((((apart1 (x0) (x1) (x2) (x3) (x4) (x5) (x6) (x7) ((x8 % x0)) ((x9 % x0))) * (apart1 (x0) (x1) (x2) (x3) (x4) (x5) (x6) (x7) ((x8 % x0)) ((x9 % x0)))) + ((apart1 (x0) (x1) (x2) (x3) (x4) (x5) (x6) (x7) ((x8 / x0)) ((x9 / x0))) * (apart1 (x0) (x1) (x2) (x3) (x4) (x5) (x6) (x7) ((x8 / x0)) ((x9 / x0))))))), (iV ((x6 * x6))), (iV (((((apart1 (x0) (x1) (x2) (x3) (x4) (x5) (x6) (x7) ((x8 % x0)) ((x9 % x0))) * (apart1 (x0) (x1) (x2) (x3) (x4) (x5) (x6) (x7) ((x8 % x0)) ((x9 % x0)))) + ((apart1 (x0) (x1) (x2) (x3) (x4) (x5) (x6) (x7) ((x8 / x0)) ((x9 / x0))) * (apart1 (x0) (x1) (x2) (x3) (x4) (x5) (x6) (x7) ((x8 / x0)) ((x9 / x0))))) + (x6 * x6)))), (iV ((rootU ((((apart1 (x0) (x1) (x2) (x3) (x4) (x5) (x6) (x7) ((x8 % x0)) ((x9 % x0))) * (apart1 (x0) (x1) (x2) (x3) (x4) (x5) (x6) (x7) ((x8 % x0)) ((x9 % x0)))) + ((apart1 (x0) (x1) (x2) (x3) (x4) (x5) (x6) (x7) ((x8 / x0)) ((x9 / x0))) * (apart1 (x0) (x1) (x2) (x3) (x4) (x5) (x6) (x7) ((x8 / x0)) ((x9 / x0))))) + (x6 * x6)))))] (fun _ => none)) Try.prog _ 80 _ _ #[(mV x0 x1 x2 x3 x4 x5 x6 x7), (iV ((x8 / x0))), (iV ((x9 / x0)))] (.agg #[(iV ((apart0 (x0) (x1) (x2) (x3) (x4) (x5) (x6) (x7) ((x8 / x0)) ((x9 / x0))))), (iV ((apart1 (x0) (x1) (x2) (x3) (x4) (x5) (x6) (x7) ((x8 / x0)) ((x9 / x0)))))]) rfl ⟨Try.f80, (Try.f80.body).getD .skip, by kernel_rfl, by kernel_rfl⟩ rfl rfl rfl (fun w hm => apart_any (x0) (x1) (x2) (x3) (x4) (x5) (x6) (x7) ((x8 / x0)) ((x9 / x0)) (by first | omega | assumption) (by first | omega | assumption) (by first | omega | assumption) w)), (@CEntOk.of (Rho.of [(iV x0), (iV x1), (iV x2), (iV x3), (iV x4), (iV x5), (iV x6), (iV x7), (iV x8), (iV x9), (iV ((x8 % x0))), (iV ((x9 % x0))), (iV ((apart0 (x0) (x1) (x2) (x3) (x4) (x5) (x6) (x7) ((x8 % x0)) ((x9 % x0))))), (iV ((apart1 (x0) (x1) (x2) (x3) (x4) (x5) (x6) (x7) ((x8 % x0)) ((x9 % x0))))), (iV ((x8 / x0))), (iV ((x9 / x0))), (iV ((apart0 (x0) (x1) (x2) (x3) (x4) (x5) (x6) (x7) ((x8 / x0)) ((x9 / x0))))), (iV ((apart1 (x0) (x1) (x2) (x3) (x4) (x5) (x6) (x7) ((x8 / x0)) ((x9 / x0))))), (iV (((apart0 (x0) (x1) (x2) (x3) (x4) (x5) (x6) (x7) ((x8 % x0)) ((x9 % x0))) * (apart0 (x0) (x1) (x2) (x3) (x4) (x5) (x6) (x7) ((x8 % x0)) ((x9 % x0)))))), (iV (((apart0 (x0) (x1) (x2) (x3) (x4) (x5) (x6) (x7) ((x8 / x0)) ((x9 / x0))) * (apart0 (x0) (x1) (x2) (x3) (x4) (x5) (x6) (x7) ((x8 / x0)) ((x9 / x0)))))), (iV ((((apart0 (x0) (x1) (x2) (x3) (x4) (x5) (x6) (x7) ((x8 % x0)) ((x9 % x0))) * (apart0 (x0) (x1) (x2) (x3) (x4) (x5) (x6) (x7) ((x8 % x0)) ((x9 % x0)))) + ((apart0 (x0) (x1) (x2) (x3) (x4) (x5) (x6) (x7) ((x8 / x0)) ((x9 / x0))) * (apart0 (x0) (x1) (x2) (x3) (x4) (x5) (x6) (x7) ((x8 / x0)) ((x9 / x0))))))), (iV ((x5 * x5))), (iV (((((apart0 (x0) (x1) (x2) (x3) (x4) (x5) (x6) (x7) ((x8 % x0)) ((x9 % x0))) * (apart0 (x0) (x1) (x2) (x3) (x4) (x5) (x6) (x7) ((x8 % x0)) ((x9 % x0)))) + ((apart0 (x0) (x1) (x2) (x3) (x4) (x5) (x6) (x7) ((x8 / x0)) ((x9 / x0))) * (apart0 (x0) (x1) (x2) (x3) (x4) (x5) (x6) (x7) ((x8 / x0)) ((x9 / x0))))) + (x5 * x5)))), (iV ((rootD ((((apart0 (x0) (x1) (x2) (x3) (x4) (x5) (x6) (x7) ((x8 % x0)) ((x9 % x0))) * (apart0 (x0) (x1) (x2) (x3) (x4) (x5) (x6) (x7) ((x8 % x0)) ((x9 % x0)))) + ((apart0 (x0) (x1) (x2) (x3) (x4) (x5) (x6) (x7) ((x8 / x0)) ((x9 / x0))) * (apart0 (x0) (x1) (x2) (x3) (x4) (x5) (x6) (x7) ((x8 / x0)) ((x9 / x0))))) + (x5 * x5))))), (iV (((apart1 (x0) (x1) (x2) (x3) (x4) (x5) (x6) (x7) ((x8 % x0)) ((x9 % x0))) * (apart1 (x0) (x1) (x2) (x3) (x4) (x5) (x6) (x7) ((x8 % x0)) ((x9 % x0)))))), (iV (((apart1 (x0) (x1) (x2) (x3) (x4) (x5) (x6) (x7) ((x8 / x0)) ((x9 / x0))) * (apart1 (x0) (x1) (x2) (x3) (x4) (x5) (x6) (x7) ((x8 / x0)) ((x9 / x0)))))), (iV ((((apart1 (x0) (x1) (x2) (x3) (x4) (x5) (x6) (x7) ((x8 % x0)) ((x9 % x0))) * (apart1 (x0) (x1) (x2) (x3) (x4) (x5) (x6) (x7) ((x8 % x0)) ((x9 % x0)))) + ((apart1 (x0) (x1) (x2) (x3) (x4) (x5) (x6) (x7) ((x8 / x0)) ((x9 / x0))) * (apart1 (x0) (x1) (x2) (x3) (x4) (x5) (x6) (x7) ((x8 / x0)) ((x9 / x0))))))), (iV ((x6 * x6))), (iV (((((apart1 (x0) (x1) (x2) (x3) (x4) (x5) (x6) (x7) ((x8 % x0)) ((x9 % x0))) * (apart1 (x0) (x1) (x2) (x3) (x4) (x5) (x6) (x7) ((x8 % x0)) ((x9 % x0)))) + ((apart1 (x0) (x1) (x2) (x3) (x4) (x5) (x6) (x7) ((x8 / x0)) ((x9 / x0))) * (apart1 (x0) (x1) (x2) (x3) (x4) (x5) (x6) (x7) ((x8 / x0)) ((x9 / x0))))) + (x6 * x6)))), (iV ((rootU ((((apart1 (x0) (x1) (x2) (x3) (x4) (x5) (x6) (x7) ((x8 % x0)) ((x9 % x0))) * (apart1 (x0) (x1) (x2) (x3) (x4) (x5) (x6) (x7) ((x8 % x0)) ((x9 % x0)))) + ((apart1 (x0) (x1) (x2) (x3) (x4) (x5) (x6) (x7) ((x8 / x0)) ((x9 / x0))) * (apart1 (x0) (x1) (x2) (x3) (x4) (x5) (x6) (x7) ((x8 / x0)) ((x9 / x0))))) + (x6 * x6)))))] (fun _ => none)) Try.prog _ 81 _ _ #[(iV (((((apart0 (x0) (x1) (x2) (x3) (x4) (x5) (x6) (x7) ((x8 % x0)) ((x9 % x0))) * (apart0 (x0) (x1) (x2) (x3) (x4) (x5) (x6) (x7) ((x8 % x0)) ((x9 % x0)))) + ((apart0 (x0) (x1) (x2) (x3) (x4) (x5) (x6) (x7) ((x8 / x0)) ((x9 / x0))) * (apart0 (x0) (x1) (x2) (x3) (x4) (x5) (x6) (x7) ((x8 / x0)) ((x9 / x0))))) + (x5 * x5))))] (iV ((rootD ((((apart0 (x0) (x1) (x2) (x3) (x4) (x5) (x6) (x7) ((x8 % x0)) ((x9 % x0))) * (apart0 (x0) (x1) (x2) (x3) (x4) (x5) (x6) (x7) ((x8 % x0)) ((x9 % x0)))) + ((apart0 (x0) (x1) (x2) (x3) (x4) (x5) (x6) (x7) ((x8 / x0)) ((x9 / x0))) * (apart0 (x0) (x1) (x2) (x3) (x4) (x5) (x6) (x7) ((x8 / x0)) ((x9 / x0))))) + (x5 * x5))))) rfl ⟨Try.f81, (Try.f81.body).getD .skip, by kernel_rfl, by kernel_rfl⟩ rfl rfl rfl (fun w hm => rootDown_any (((((apart0 (x0) (x1) (x2) (x3) (x4) (x5) (x6) (x7) ((x8 % x0)) ((x9 % x0))) * (apart0 (x0) (x1) (x2) (x3) (x4) (x5) (x6) (x7) ((x8 % x0)) ((x9 % x0)))) + ((apart0 (x0) (x1) (x2) (x3) (x4) (x5) (x6) (x7) ((x8 / x0)) ((x9 / x0))) * (apart0 (x0) (x1) (x2) (x3) (x4) (x5) (x6) (x7) ((x8 / x0)) ((x9 / x0))))) + (x5 * x5))) (by first | omega | assumption) (by first | omega | assumption) w)), (@CEntOk.of (Rho.of [(iV x0), (iV x1), (iV x2), (iV x3), (iV x4), (iV x5), (iV x6), (iV x7), (iV x8), (iV x9), (iV ((x8 % x0))), (iV ((x9 % x0))), (iV ((apart0 (x0) (x1) (x2) (x3) (x4) (x5) (x6) (x7) ((x8 % x0)) ((x9 % x0))))), (iV ((apart1 (x0) (x1) (x2) (x3) (x4) (x5) (x6) (x7) ((x8 % x0)) ((x9 % x0))))), (iV ((x8 / x0))), (iV ((x9 / x0))), (iV ((apart0 (x0) (x1) (x2) (x3) (x4) (x5) (x6) (x7) ((x8 / x0)) ((x9 / x0))))), (iV ((apart1 (x0) (x1) (x2) (x3) (x4) (x5) (x6) (x7) ((x8 / x0)) ((x9 / x0))))), (iV (((apart0 (x0) (x1) (x2) (x3) (x4) (x5) (x6) (x7) ((x8 % x0)) ((x9 % x0))) * (apart0 (x0) (x1) (x2) (x3) (x4) (x5) (x6) (x7) ((x8 % x0)) ((x9 % x0)))))), (iV (((apart0 (x0) (x1) (x2) (x3) (x4) (x5) (x6) (x7) ((x8 / x0)) ((x9 / x0))) * (apart0 (x0) (x1) (x2) (x3) (x4) (x5) (x6) (x7) ((x8 / x0)) ((x9 / x0)))))), (iV ((((apart0 (x0) (x1) (x2) (x3) (x4) (x5) (x6) (x7) ((x8 % x0)) ((x9 % x0))) * (apart0 (x0) (x1) (x2) (x3) (x4) (x5) (x6) (x7) ((x8 % x0)) ((x9 % x0)))) + ((apart0 (x0) (x1) (x2) (x3) (x4) (x5) (x6) (x7) ((x8 / x0)) ((x9 / x0))) * (apart0 (x0) (x1) (x2) (x3) (x4) (x5) (x6) (x7) ((x8 / x0)) ((x9 / x0))))))), (iV ((x5 * x5))), (iV (((((apart0 (x0) (x1) (x2) (x3) (x4) (x5) (x6) (x7) ((x8 % x0)) ((x9 % x0))) * (apart0 (x0) (x1) (x2) (x3) (x4) (x5) (x6) (x7) ((x8 % x0)) ((x9 % x0)))) + ((apart0 (x0) (x1) (x2) (x3) (x4) (x5) (x6) (x7) ((x8 / x0)) ((x9 / x0))) * (apart0 (x0) (x1) (x2) (x3) (x4) (x5) (x6) (x7) ((x8 / x0)) ((x9 / x0))))) + (x5 * x5)))), (iV ((rootD ((((apart0 (x0) (x1) (x2) (x3) (x4) (x5) (x6) (x7) ((x8 % x0)) ((x9 % x0))) * (apart0 (x0) (x1) (x2) (x3) (x4) (x5) (x6) (x7) ((x8 % x0)) ((x9 % x0)))) + ((apart0 (x0) (x1) (x2) (x3) (x4) (x5) (x6) (x7) ((x8 / x0)) ((x9 / x0))) * (apart0 (x0) (x1) (x2) (x3) (x4) (x5) (x6) (x7) ((x8 / x0)) ((x9 / x0))))) + (x5 * x5))))), (iV (((apart1 (x0) (x1) (x2) (x3) (x4) (x5) (x6) (x7) ((x8 % x0)) ((x9 % x0))) * (apart1 (x0) (x1) (x2) (x3) (x4) (x5) (x6) (x7) ((x8 % x0)) ((x9 % x0)))))), (iV (((apart1 (x0) (x1) (x2) (x3) (x4) (x5) (x6) (x7) ((x8 / x0)) ((x9 / x0))) * (apart1 (x0) (x1) (x2) (x3) (x4) (x5) (x6) (x7) ((x8 / x0)) ((x9 / x0)))))), (iV ((((apart1 (x0) (x1) (x2) (x3) (x4) (x5) (x6) (x7) ((x8 % x0)) ((x9 % x0))) * (apart1 (x0) (x1) (x2) (x3) (x4) (x5) (x6) (x7) ((x8 % x0)) ((x9 % x0)))) + ((apart1 (x0) (x1) (x2) (x3) (x4) (x5) (x6) (x7) ((x8 / x0)) ((x9 / x0))) * (apart1 (x0) (x1) (x2) (x3) (x4) (x5) (x6) (x7) ((x8 / x0)) ((x9 / x0))))))), (iV ((x6 * x6))), (iV (((((apart1 (x0) (x1) (x2) (x3) (x4) (x5) (x6) (x7) ((x8 % x0)) ((x9 % x0))) * (apart1 (x0) (x1) (x2) (x3) (x4) (x5) (x6) (x7) ((x8 % x0)) ((x9 % x0)))) + ((apart1 (x0) (x1) (x2) (x3) (x4) (x5) (x6) (x7) ((x8 / x0)) ((x9 / x0))) * (apart1 (x0) (x1) (x2) (x3) (x4) (x5) (x6) (x7) ((x8 / x0)) ((x9 / x0))))) + (x6 * x6)))), (iV ((rootU ((((apart1 (x0) (x1) (x2) (x3) (x4) (x5) (x6) (x7) ((x8 % x0)) ((x9 % x0))) * (apart1 (x0) (x1) (x2) (x3) (x4) (x5) (x6) (x7) ((x8 % x0)) ((x9 % x0)))) + ((apart1 (x0) (x1) (x2) (x3) (x4) (x5) (x6) (x7) ((x8 / x0)) ((x9 / x0))) * (apart1 (x0) (x1) (x2) (x3) (x4) (x5) (x6) (x7) ((x8 / x0)) ((x9 / x0))))) + (x6 * x6)))))] (fun _ => none)) Try.prog _ 82 _ _ #[(iV (((((apart1 (x0) (x1) (x2) (x3) (x4) (x5) (x6) (x7) ((x8 % x0)) ((x9 % x0))) * (apart1 (x0) (x1) (x2) (x3) (x4) (x5) (x6) (x7) ((x8 % x0)) ((x9 % x0)))) + ((apart1 (x0) (x1) (x2) (x3) (x4) (x5) (x6) (x7) ((x8 / x0)) ((x9 / x0))) * (apart1 (x0) (x1) (x2) (x3) (x4) (x5) (x6) (x7) ((x8 / x0)) ((x9 / x0))))) + (x6 * x6))))] (iV ((rootU ((((apart1 (x0) (x1) (x2) (x3) (x4) (x5) (x6) (x7) ((x8 % x0)) ((x9 % x0))) * (apart1 (x0) (x1) (x2) (x3) (x4) (x5) (x6) (x7) ((x8 % x0)) ((x9 % x0)))) + ((apart1 (x0) (x1) (x2) (x3) (x4) (x5) (x6) (x7) ((x8 / x0)) ((x9 / x0))) * (apart1 (x0) (x1) (x2) (x3) (x4) (x5) (x6) (x7) ((x8 / x0)) ((x9 / x0))))) + (x6 * x6))))) rfl ⟨Try.f82, (Try.f82.body).getD .skip, by kernel_rfl, by kernel_rfl⟩ rfl rfl rfl (fun w hm => rootUp_any (((((apart1 (x0) (x1) (x2) (x3) (x4) (x5) (x6) (x7) ((x8 % x0)) ((x9 % x0))) * (apart1 (x0) (x1) (x2) (x3) (x4) (x5) (x6) (x7) ((x8 % x0)) ((x9 % x0)))) + ((apart1 (x0) (x1) (x2) (x3) (x4) (x5) (x6) (x7) ((x8 / x0)) ((x9 / x0))) * (apart1 (x0) (x1) (x2) (x3) (x4) (x5) (x6) (x7) ((x8 / x0)) ((x9 / x0))))) + (x6 * x6))) (by first | omega | assumption) (by first | omega | assumption) w)), trivial⟩) 3000 45 [(ag 0 8), (sy 8), (sy 9)] (.agg #[(sy 23), (sy 29)]) rfl rfl dist_r0 w (fun _ _ h => nomatch h)
  have v0 : ((rootD ((((apart0 (x0) (x1) (x2) (x3) (x4) (x5) (x6) (x7) ((x8 % x0)) ((x9 % x0))) * (apart0 (x0) (x1) (x2) (x3) (x4) (x5) (x6) (x7) ((x8 % x0)) ((x9 % x0)))) + ((apart0 (x0) (x1) (x2) (x3) (x4) (x5) (x6) (x7) ((x8 / x0)) ((x9 / x0))) * (apart0 (x0) (x1) (x2) (x3) (x4) (x5) (x6) (x7) ((x8 / x0)) ((x9 / x0))))) + (x5 * x5))) : Int) = dist0 x0 x1 x2 x3 x4 x5 x6 x7 x8 x9 := by simp only [dist0, if_true, if_false, reduceIte]
  have v1 : ((rootU ((((apart1 (x0) (x1) (x2) (x3) (x4) (x5) (x6) (x7) ((x8 % x0)) ((x9 % x0))) * (apart1 (x0) (x1) (x2) (x3) (x4) (x5) (x6) (x7) ((x8 % x0)) ((x9 % x0)))) + ((apart1 (x0) (x1) (x2) (x3) (x4) (x5) (x6) (x7) ((x8 / x0)) ((x9 / x0))) * (apart1 (x0) (x1) (x2) (x3) (x4) (x5) (x6) (x7) ((x8 / x0)) ((x9 / x0))))) + (x6 * x6))) : Int) = dist1 x0 x1 x2 x3 x4 x5 x6 x7 x8 x9 := by simp only [dist1, if_true, if_false, reduceIte]
  have hv : ((.agg #[(iV ((rootD ((((apart0 (x0) (x1) (x2) (x3) (x4) (x5) (x6) (x7) ((x8 % x0)) ((x9 % x0))) * (apart0 (x0) (x1) (x2) (x3) (x4) (x5) (x6) (x7) ((x8 % x0)) ((x9 % x0)))) + ((apart0 (x0) (x1) (x2) (x3) (x4) (x5) (x6) (x7) ((x8 / x0)) ((x9 / x0))) * (apart0 (x0) (x1) (x2) (x3) (x4) (x5) (x6) (x7) ((x8 / x0)) ((x9 / x0))))) + (x5 * x5))))), (iV ((rootU ((((apart1 (x0) (x1) (x2) (x3) (x4) (x5) (x6) (x7) ((x8 % x0)) ((x9 % x0))) * (apart1 (x0) (x1) (x2) (x3) (x4) (x5) (x6) (x7) ((x8 % x0)) ((x9 % x0)))) + ((apart1 (x0) (x1) (x2) (x3) (x4) (x5) (x6) (x7) ((x8 / x0)) ((x9 / x0))) * (apart1 (x0) (x1) (x2) (x3) (x4) (x5) (x6) (x7) ((x8 / x0)) ((x9 / x0))))) + (x6 * x6)))))]) : Value) = (.agg #[(iV (dist0 x0 x1 x2 x3 x4 x5 x6 x7 x8 x9)), (iV (dist1 x0 x1 x2 x3 x4 x5 x6 x7 x8 x9))]) := by rw [v0, v1]
  rw [← hv]
  exact q
end Go.Proofs.Ytoaehigmpbhppaa.En
namespace Go.Proofs.Ytoaehigmpbhppaa.En
open Go Go.Ev Go.Proofs Go.RowKit
def Hid (p : Prop) : Prop := p
theorem absmax {a b : Int} : max (a - b) (b - a) = max (a - b) (-(a - b)) := by omega
theorem mod_iv {a b B : Int} (h1 : 1 ≤ b) (h2 : b ≤ B) : 0 ≤ a % b ∧ a % b ≤ B - 1 := by
  have := Int.emod_nonneg a (by omega : b ≠ 0)
  have := Int.emod_lt_of_pos a (by omega : 0 < b)
  omega
noncomputable def rdist_e0 : List Ent := [aB .rem (sy 8) (sy 0) (sy 10), aB .rem (sy 9) (sy 0) (sy 11), aB .sub (sy 10) (sy 11) (sy 12), aB .quo (sy 8) (sy 0) (sy 13), aB .quo (sy 9) (sy 0) (sy 14), aB .sub (sy 13) (sy 14) (sy 15), ⟨(.un .neg), [(sy 12)], (sy 16)⟩, ⟨(.bi 2 [3, 3]), [(sy 12), (sy 16)], (sy 17)⟩, ⟨(.un .neg), [(sy 15)], (sy 18)⟩, ⟨(.bi 2 [3, 3]), [(sy 15), (sy 18)], (sy 19)⟩, aB .sub (sy 17) (iV 1) (sy 20), ⟨(.bi 2 [3, 3]), [(iV 0), (sy 20)], (sy 21)⟩, aB .mul (sy 21) (sy 2) (sy 22), aB .sub (sy 19) (iV 1) (sy 23), ⟨(.bi 2 [3, 3]), [(iV 0), (sy 23)], (sy 24)⟩, aB .mul (sy 24) (sy 2) (sy 25), aB .add (sy 17) (iV 1) (sy 26), aB .mul (sy 26) (sy 2) (sy 27), aB .add (sy 19) (iV 1) (sy 28), aB .mul (sy 28) (sy 2) (sy 29), aB .mul (sy 27) (sy 27) (sy 30), aB .mul (sy 29) (sy 29) (sy 31), aB .add (sy 30) (sy 31) (sy 32), aB .mul (sy 6) (sy 6) (sy 33), aB .add (sy 32) (sy 33) (sy 34), aB .mul (sy 35) (sy 35) (sy 36), cB .lss (sy 36) (sy 34) true, aB .add (sy 35) (iV 1) (sy 37), aB .mul (sy 22) (sy 22) (sy 38), aB .mul (sy 25) (sy 25) (sy 39), aB .add (sy 38) (sy 39) (sy 40), aB .mul (sy 5) (sy 5) (sy 41), aB .add (sy 40) (sy 41) (sy 42)]
noncomputable def rdist_c0 : List CEnt := [⟨98, [(sy 34)], [], (sy 35)⟩, ⟨98, [(sy 42)], [], (sy 43)⟩]
set_option maxRecDepth 1000000 in
theorem rdist_r0 : ev Try.prog (env.sym rdist_e0 rdist_c0) 3000 (.call 83 [(ag 0 8), (sy 8), (sy 9)] Ev.start fun v _ => some v) = some (.agg #[(sy 43), (sy 37)]) := by kernel_rfl
noncomputable def rdist_e1 : List Ent := [aB .rem (sy 8) (sy 0) (sy 10), aB .rem (sy 9) (sy 0) (sy 11), aB .sub (sy 10) (sy 11) (sy 12), aB .quo (sy 8) (sy 0) (sy 13), aB .quo (sy 9) (sy 0) (sy 14), aB .sub (sy 13) (sy 14) (sy 15), ⟨(.un .neg), [(sy 12)], (sy 16)⟩, ⟨(.bi 2 [3, 3]), [(sy 12), (sy 16)], (sy 17)⟩, ⟨(.un .neg), [(sy 15)], (sy 18)⟩, ⟨(.bi 2 [3, 3]), [(sy 15), (sy 18)], (sy 19)⟩, aB .sub (sy 17) (iV 1) (sy 20), ⟨(.bi 2 [3, 3]), [(iV 0), (sy 20)], (sy 21)⟩, aB .mul (sy 21) (sy 2) (sy 22), aB .sub (sy 19) (iV 1) (sy 23), ⟨(.bi 2 [3, 3]), [(iV 0), (sy 23)], (sy 24)⟩, aB .mul (sy 24) (sy 2) (sy 25), aB .add (sy 17) (iV 1) (sy 26), aB .mul (sy 26) (sy 2) (sy 27), aB .add (sy 19) (iV 1) (sy 28), aB .mul (sy 28) (sy 2) (sy 29), aB .mul (sy 27) (sy 27) (sy 30), aB .mul (sy 29) (sy 29) (sy 31), aB .add (sy 30) (sy 31) (sy 32), aB .mul (sy 6) (sy 6) (sy 33), aB .add (sy 32) (sy 33) (sy 34), aB .mul (sy 35) (sy 35) (sy 36), cB .lss (sy 36) (sy 34) false, aB .mul (sy 22) (sy 22) (sy 37), aB .mul (sy 25) (sy 25) (sy 38), aB .add (sy 37) (sy 38) (sy 39), aB .mul (sy 5) (sy 5) (sy 40), aB .add (sy 39) (sy 40) (sy 41)]
noncomputable def rdist_c1 : List CEnt := [⟨98, [(sy 34)], [], (sy 35)⟩, ⟨98, [(sy 41)], [], (sy 42)⟩]
set_option maxRecDepth 1000000 in
theorem rdist_r1 : ev Try.prog (env.sym rdist_e1 rdist_c1) 3000 (.call 83 [(ag 0 8), (sy 8), (sy 9)] Ev.start fun v _ => some v) = some (.agg #[(sy 42), (sy 35)]) := by kernel_rfl
set_option maxHeartbeats 8000000 in
set_option maxRecDepth 100000 in
theorem rdist_any (x0 : Int) (x1 : Int) (x2 : Int) (x3 : Int) (x4 : Int) (x5 : Int) (x6 : Int) (x7 : Int) (x8 : Int) (x9 : Int) (v0 : 1 ≤ x0 ∧ x0 ≤ 24) (v1 : 1 ≤ x1 ∧ x1 ≤ 24) (v2 : 1 ≤ x2 ∧ x2 ≤ 10000) (v3 : 100 ≤ x3 ∧ x3 ≤ x4 ∧ x4 ≤ 20000) (v5 : 0 ≤ x5 ∧ x5 ≤ x6 ∧ x6 ≤ 700000) (v7 : 0 ≤ x7 ∧ x7 ≤ 1000) (h8 : 0 ≤ x8 ∧ x8 < x0 * x1) (h9 : 0 ≤ x9 ∧ x9 < x0 * x1) (w : World)  : Calls Try.prog 83 #[(mV x0 x1 x2 x3 x4 x5 x6 x7), (iV x8), (iV x9)] w (fun en w' => en = .returned (.agg #[(iV (dist0 x0 x1 x2 x3 x4 x5 x6 x7 x8 x9)), (iV (dist1 x0 x1 x2 x3 x4 x5 x6 x7 x8 x9))]) ∧ Below w.heap.size w w') := by
  have hx : x0 * x1 ≤ 576 := (mul_bd (A := 24) (B := 24) (C := 576) (by omega) (by omega) (by omega) (by omega)).2
  obtain ⟨y10, hy10⟩ : ∃ y : Int, y = (x8 % x0) := ⟨_, rfl⟩
  have b10 : 0 ≤ y10 ∧ y10 ≤ 23 := by rw [hy10]; exact mod_iv (B := 24) (by omega) (by omega)
  replace hy10 : Hid (y10 = (x8 % x0)) := hy10
  obtain ⟨y11, hy11⟩ : ∃ y : Int, y = (x9 % x0) := ⟨_, rfl⟩
  have b11 : 0 ≤ y11 ∧ y11 ≤ 23 := by rw [hy11]; exact mod_iv (B := 24) (by omega) (by omega)
  replace hy11 : Hid (y11 = (x9 % x0)) := hy11
  obtain ⟨y12, hy12⟩ : ∃ y : Int, y = (y10 - y11) := ⟨_, rfl⟩
  have b12 : (-23) ≤ y12 ∧ y12 ≤ 23 := by rw [hy12]; omega
  replace hy12 : Hid (y12 = (y10 - y11)) := hy12
  obtain ⟨y13, hy13⟩ : ∃ y : Int, y = (x8 / x0) := ⟨_, rfl⟩
  have b13 : 0 ≤ y13 ∧ y13 ≤ 23 := by rw [hy13]; have := row_bd (a := x8) (x := x0) (y := x1) (by omega) (by omega) (by omega) (by omega); omega
  replace hy13 : Hid (y13 = (x8 / x0)) := hy13
  obtain ⟨y14, hy14⟩ : ∃ y : Int, y = (x9 / x0) := ⟨_, rfl⟩
  have b14 : 0 ≤ y14 ∧ y14 ≤ 23 := by rw [hy14]; have := row_bd (a := x9) (x := x0) (y := x1) (by omega) (by omega) (by omega) (by omega); omega
  replace hy14 : Hid (y14 = (x9 / x0)) := hy14
  obtain ⟨y15, hy15⟩ : ∃ y : Int, y = (y13 - y14) := ⟨_, rfl⟩
  have b15 : (-23) ≤ y15 ∧ y15 ≤ 23 := by rw [hy15]; omega
  replace hy15 : Hid (y15 = (y13 - y14)) := hy15
  obtain ⟨y16, hy16⟩ : ∃ y : Int, y = (-y12) := ⟨_, rfl⟩
  have b16 : (-23) ≤ y16 ∧ y16 ≤ 23 := by rw [hy16]; omega
  replace hy16 : Hid (y16 = (-y12)) := hy16
  obtain ⟨y17, hy17⟩ : ∃ y : Int, y = (max y12 y16) := ⟨_, rfl⟩
  have b17 : 0 ≤ y17 ∧ y17 ≤ 23 := by rw [hy17]; have e := hy16; unfold Hid at e; omega
  replace hy17 : Hid (y17 = (max y12 y16)) := hy17
  obtain ⟨y18, hy18⟩ : ∃ y : Int, y = (-y15) := ⟨_, rfl⟩
  have b18 : (-23) ≤ y18 ∧ y18 ≤ 23 := by rw [hy18]; omega
  replace hy18 : Hid (y18 = (-y15)) := hy18
  obtain ⟨y19, hy19⟩ : ∃ y : Int, y = (max y15 y18) := ⟨_, rfl⟩
  have b19 : 0 ≤ y19 ∧ y19 ≤ 23 := by rw [hy19]; have e := hy18; unfold Hid at e; omega
  replace hy19 : Hid (y19 = (max y15 y18)) := hy19
  obtain ⟨y20, hy20⟩ : ∃ y : Int, y = (y17 - 1) := ⟨_, rfl⟩
  have b20 : (-1) ≤ y20 ∧ y20 ≤ 22 := by rw [hy20]; omega
  replace hy20 : Hid (y20 = (y17 - 1)) := hy20
  obtain ⟨y21, hy21⟩ : ∃ y : Int, y = (max 0 y20) := ⟨_, rfl⟩
  have b21 : 0 ≤ y21 ∧ y21 ≤ 22 := by rw [hy21]; omega
  replace hy21 : Hid (y21 = (max 0 y20)) := hy21
  obtain ⟨y22, hy22⟩ : ∃ y : Int, y = (y21 * x2) := ⟨_, rfl⟩
  have b22 : 0 ≤ y22 ∧ y22 ≤ 220000 := by rw [hy22]; exact mul_bd (A := 22) (B := 10000) (C := 220000) (by omega) (by omega) (by omega) (by omega)
  replace hy22 : Hid (y22 = (y21 * x2)) := hy22
  obtain ⟨y23, hy23⟩ : ∃ y : Int, y = (y19 - 1) := ⟨_, rfl⟩
  have b23 : (-1) ≤ y23 ∧ y23 ≤ 22 := by rw [hy23]; omega
  replace hy23 : Hid (y23 = (y19 - 1)) := hy23
  obtain ⟨y24, hy24⟩ : ∃ y : Int, y = (max 0 y23) := ⟨_, rfl⟩
  have b24 : 0 ≤ y24 ∧ y24 ≤ 22 := by rw [hy24]; omega
  replace hy24 : Hid (y24 = (max 0 y23)) := hy24
  obtain ⟨y25, hy25⟩ : ∃ y : Int, y = (y24 * x2) := ⟨_, rfl⟩
  have b25 : 0 ≤ y25 ∧ y25 ≤ 220000 := by rw [hy25]; exact mul_bd (A := 22) (B := 10000) (C := 220000) (by omega) (by omega) (by omega) (by omega)
  replace hy25 : Hid (y25 = (y24 * x2)) := hy25
  obtain ⟨y26, hy26⟩ : ∃ y : Int, y = (y17 + 1) := ⟨_, rfl⟩
  have b26 : 1 ≤ y26 ∧ y26 ≤ 24 := by rw [hy26]; omega
  replace hy26 : Hid (y26 = (y17 + 1)) := hy26
  obtain ⟨y27, hy27⟩ : ∃ y : Int, y = (y26 * x2) := ⟨_, rfl⟩
  have b27 : 0 ≤ y27 ∧ y27 ≤ 240000 := by rw [hy27]; exact mul_bd (A := 24) (B := 10000) (C := 240000) (by omega) (by omega) (by omega) (by omega)
  replace hy27 : Hid (y27 = (y26 * x2)) := hy27
  obtain ⟨y28, hy28⟩ : ∃ y : Int, y = (y19 + 1) := ⟨_, rfl⟩
  have b28 : 1 ≤ y28 ∧ y28 ≤ 24 := by rw [hy28]; omega
  replace hy28 : Hid (y28 = (y19 + 1)) := hy28
  obtain ⟨y29, hy29⟩ : ∃ y : Int, y = (y28 * x2) := ⟨_, rfl⟩
  have b29 : 0 ≤ y29 ∧ y29 ≤ 240000 := by rw [hy29]; exact mul_bd (A := 24) (B := 10000) (C := 240000) (by omega) (by omega) (by omega) (by omega)
  replace hy29 : Hid (y29 = (y28 * x2)) := hy29
  obtain ⟨y30, hy30⟩ : ∃ y : Int, y = (y27 * y27) := ⟨_, rfl⟩
  have b30 : 0 ≤ y30 ∧ y30 ≤ 57600000000 := by rw [hy30]; exact mul_bd (A := 240000) (B := 240000) (C := 57600000000) (by omega) (by omega) (by omega) (by omega)
  replace hy30 : Hid (y30 = (y27 * y27)) := hy30
  obtain ⟨y31, hy31⟩ : ∃ y : Int, y = (y29 * y29) := ⟨_, rfl⟩
  have b31 : 0 ≤ y31 ∧ y31 ≤ 57600000000 := by rw [hy31]; exact mul_bd (A := 240000) (B := 240000) (C := 57600000000) (by omega) (by omega) (by omega) (by omega)
  replace hy31 : Hid (y31 = (y29 * y29)) := hy31
  obtain ⟨y32, hy32⟩ : ∃ y : Int, y = (y30 + y31) := ⟨_, rfl⟩
  have b32 : 0 ≤ y32 ∧ y32 ≤ 115200000000 := by rw [hy32]; omega
  replace hy32 : Hid (y32 = (y30 + y31)) := hy32
  obtain ⟨y33, hy33⟩ : ∃ y : Int, y = (x6 * x6) := ⟨_, rfl⟩
  have b33 : 0 ≤ y33 ∧ y33 ≤ 490000000000 := by rw [hy33]; exact mul_bd (A := 700000) (B := 700000) (C := 490000000000) (by omega) (by omega) (by omega) (by omega)
  replace hy33 : Hid (y33 = (x6 * x6)) := hy33
  obtain ⟨y34, hy34⟩ : ∃ y : Int, y = (y32 + y33) := ⟨_, rfl⟩
  have b34 : 0 ≤ y34 ∧ y34 ≤ 605200000000 := by rw [hy34]; omega
  replace hy34 : Hid (y34 = (y32 + y33)) := hy34
  have b35 : 0 ≤ (rootD y34) ∧ (rootD y34) ≤ 1048575 := by have := rootD_bd (n := y34) (by omega) (by omega); omega
  obtain ⟨y36, hy36⟩ : ∃ y : Int, y = ((rootD y34) * (rootD y34)) := ⟨_, rfl⟩
  have b36 : 0 ≤ y36 ∧ y36 ≤ 1099509530625 := by rw [hy36]; exact mul_bd (A := 1048575) (B := 1048575) (C := 1099509530625) (by omega) (by omega) (by omega) (by omega)
  replace hy36 : Hid (y36 = ((rootD y34) * (rootD y34))) := hy36
  by_cases c0 : y36 < y34
  · obtain ⟨y37, hy37⟩ : ∃ y : Int, y = ((rootD y34) + 1) := ⟨_, rfl⟩
    have b37 : 1 ≤ y37 ∧ y37 ≤ 1048576 := by rw [hy37]; omega
    replace hy37 : Hid (y37 = ((rootD y34) + 1)) := hy37
    obtain ⟨y38, hy38⟩ : ∃ y : Int, y = (y22 * y22) := ⟨_, rfl⟩
    have b38 : 0 ≤ y38 ∧ y38 ≤ 48400000000 := by rw [hy38]; exact mul_bd (A := 220000) (B := 220000) (C := 48400000000) (by omega) (by omega) (by omega) (by omega)
    replace hy38 : Hid (y38 = (y22 * y22)) := hy38
    obtain ⟨y39, hy39⟩ : ∃ y : Int, y = (y25 * y25) := ⟨_, rfl⟩
    have b39 : 0 ≤ y39 ∧ y39 ≤ 48400000000 := by rw [hy39]; exact mul_bd (A := 220000) (B := 220000) (C := 48400000000) (by omega) (by omega) (by omega) (by omega)
    replace hy39 : Hid (y39 = (y25 * y25)) := hy39
    obtain ⟨y40, hy40⟩ : ∃ y : Int, y = (y38 + y39) := ⟨_, rfl⟩
    have b40 : 0 ≤ y40 ∧ y40 ≤ 96800000000 := by rw [hy40]; omega
    replace hy40 : Hid (y40 = (y38 + y39)) := hy40
    obtain ⟨y41, hy41⟩ : ∃ y : Int, y = (x5 * x5) := ⟨_, rfl⟩
    have b41 : 0 ≤ y41 ∧ y41 ≤ 490000000000 := by rw [hy41]; exact mul_bd (A := 700000) (B := 700000) (C := 490000000000) (by omega) (by omega) (by omega) (by omega)
    replace hy41 : Hid (y41 = (x5 * x5)) := hy41
    obtain ⟨y42, hy42⟩ : ∃ y : Int, y = (y40 + y41) := ⟨_, rfl⟩
    have b42 : 0 ≤ y42 ∧ y42 ≤ 586800000000 := by rw [hy42]; omega
    replace hy42 : Hid (y42 = (y40 + y41)) := hy42
    have b43 : 0 ≤ (rootD y42) ∧ (rootD y42) ≤ 1048575 := by have := rootD_bd (n := y42) (by omega) (by omega); omega
    have q := @calls_sym (Rho.of [(iV x0), (iV x1), (iV x2), (iV x3), (iV x4), (iV x5), (iV x6), (iV x7), (iV x8), (iV x9), (iV y10), (iV y11), (iV y12), (iV y13), (iV y14), (iV y15), (iV y16), (iV y17), (iV y18), (iV y19), (iV y20), (iV y21), (iV y22), (iV y23), (iV y24), (iV y25), (iV y26), (iV y27), (iV y28), (iV y29), (iV y30), (iV y31), (iV y32), (iV y33), (iV y34), (iV ((rootD y34))), (iV y36), (iV y37), (iV y38), (iV y39), (iV y40), (iV y41), (iV y42), (iV ((rootD y42)))] (fun _ => none)) Try.prog _ (@Env.Ok.sym (Rho.of [(iV x0), (iV x1), (iV x2), (iV x3), (iV x4), (iV x5), (iV x6), (iV x7), (iV x8), (iV x9), (iV y10), (iV y11), (iV y12), (iV y13), (iV y14), (iV y15), (iV y16), (iV y17), (iV y18), (iV y19), (iV y20), (iV y21), (iV y22), (iV y23), (iV y24), (iV y25), (iV y26), (iV y27), (iV y28), (iV y29), (iV y30), (iV y31), (iV y32), (iV y33), (iV y34), (iV ((rootD y34))), (iV y36), (iV y37), (iV y38), (iV y39), (iV y40), (iV y41), (iV y42), (iV ((rootD y42)))] (fun _ => none)) _ _ (@env_ok (Rho.of [(iV x0), (iV x1), (iV x2), (iV x3), (iV x4), (iV x5), (iV x6), (iV x7), (iV x8), (iV x9), (iV y10), (iV y11), (iV y12), (iV y13), (iV y14), (iV y15), (iV y16), (iV y17), (iV y18), (iV y19), (iV y20), (iV y21), (iV y22), (iV y23), (iV y24), (iV y25), (iV y26), (iV y27), (iV y28), (iV y29), (iV y30), (iV y31), (iV y32), (iV y33), (iV y34), (iV ((rootD y34))), (iV y36), (iV y37), (iV y38), (iV y39), (iV y40), (iV y41), (iV y42), (iV ((rootD y42)))] (fun _ => none))) rdist_e0 rdist_c0 ⟨⟨rfl, rfl, fun w hm => (show KO w (.bin .rem 3) [(iV x8), (iV x0)] (iV y10) from key_eq (e := (x8 % x0)) hy10 (have ey : y10 = (x8 % x0) := hy10; k_rem_nn (by omega) (by omega)))⟩, ⟨rfl, rfl, fun w hm => (show KO w (.bin .rem 3) [(iV x9), (iV x0)] (iV y11) from key_eq (e := (x9 % x0)) hy11 (have ey : y11 = (x9 % x0) := hy11; k_rem_nn (by omega) (by omega)))⟩, ⟨rfl, rfl, fun w hm => (show KO w (.bin .sub 3) [(iV y10), (iV y11)] (iV y12) from key_eq (e := (y10 - y11)) hy12 (have ey : y12 = (y10 - y11) := hy12; k_sub (wrap64 (by omega))))⟩, ⟨rfl, rfl, fun w hm => (show KO w (.bin .quo 3) [(iV x8), (iV x0)] (iV y13) from key_eq (e := (x8 / x0)) hy13 (have ey : y13 = (x8 / x0) := hy13; k_quo_nn (by omega) (by omega) (wrap64 (by omega))))⟩, ⟨rfl, rfl, fun w hm => (show KO w (.bin .quo 3) [(iV x9), (iV x0)] (iV y14) from key_eq (e := (x9 / x0)) hy14 (have ey : y14 = (x9 / x0) := hy14; k_quo_nn (by omega) (by omega) (wrap64 (by omega))))⟩, ⟨rfl, rfl, fun w hm => (show KO w (.bin .sub 3) [(iV y13), (iV y14)] (iV y15) from key_eq (e := (y13 - y14)) hy15 (have ey : y15 = (y13 - y14) := hy15; k_sub (wrap64 (by omega))))⟩, ⟨rfl, rfl, fun w hm => (show KO w (.un .neg) [(iV y12)] (iV y16) from key_eq (e := (-y12)) hy16 (have ey : y16 = (-y12) := hy16; k_neg (wrap64 (by omega))))⟩, ⟨rfl, rfl, fun w hm => (show KO w (.bi 2 [3, 3]) [(iV y12), (iV y16)] (iV y17) from key_eq (e := (max y12 y16)) hy17 (have ey : y17 = (max y12 y16) := hy17; k_max))⟩, ⟨rfl, rfl, fun w hm => (show KO w (.un .neg) [(iV y15)] (iV y18) from key_eq (e := (-y15)) hy18 (have ey : y18 = (-y15) := hy18; k_neg (wrap64 (by omega))))⟩, ⟨rfl, rfl, fun w hm => (show KO w (.bi 2 [3, 3]) [(iV y15), (iV y18)] (iV y19) from key_eq (e := (max y15 y18)) hy19 (have ey : y19 = (max y15 y18) := hy19; k_max))⟩, ⟨rfl, rfl, fun w hm => (show KO w (.bin .sub 3) [(iV y17), (iV 1)] (iV y20) from key_eq (e := (y17 - 1)) hy20 (have ey : y20 = (y17 - 1) := hy20; k_sub (wrap64 (by omega))))⟩, ⟨rfl, rfl, fun w hm => (show KO w (.bi 2 [3, 3]) [(iV 0), (iV y20)] (iV y21) from key_eq (e := (max 0 y20)) hy21 (have ey : y21 = (max 0 y20) := hy21; k_max))⟩, ⟨rfl, rfl, fun w hm => (show KO w (.bin .mul 3) [(iV y21), (iV x2)] (iV y22) from key_eq (e := (y21 * x2)) hy22 (have ey : y22 = (y21 * x2) := hy22; k_mul (wrap64 (by omega))))⟩, ⟨rfl, rfl, fun w hm => (show KO w (.bin .sub 3) [(iV y19), (iV 1)] (iV y23) from key_eq (e := (y19 - 1)) hy23 (have ey : y23 = (y19 - 1) := hy23; k_sub (wrap64 (by omega))))⟩, ⟨rfl, rfl, fun w hm => (show KO w (.bi 2 [3, 3]) [(iV 0), (iV y23)] (iV y24) from key_eq (e := (max 0 y23)) hy24 (have ey : y24 = (max 0 y23) := hy24; k_max))⟩, ⟨rfl, rfl, fun w hm => (show KO w (.bin .mul 3) [(iV y24), (iV x2)] (iV y25) from key_eq (e := (y24 * x2)) hy25 (have ey : y25 = (y24 * x2) := hy25; k_mul (wrap64 (by omega))))⟩, ⟨rfl, rfl, fun w hm => (show KO w (.bin .add 3) [(iV y17), (iV 1)] (iV y26) from key_eq (e := (y17 + 1)) hy26 (have ey : y26 = (y17 + 1) := hy26; k_add (wrap64 (by omega))))⟩, ⟨rfl, rfl, fun w hm => (show KO w (.bin .mul 3) [(iV y26), (iV x2)] (iV y27) from key_eq (e := (y26 * x2)) hy27 (have ey : y27 = (y26 * x2) := hy27; k_mul (wrap64 (by omega))))⟩, ⟨rfl, rfl, fun w hm => (show KO w (.bin .add 3) [(iV y19), (iV 1)] (iV y28) from key_eq (e := (y19 + 1)) hy28 (have ey : y28 = (y19 + 1) := hy28; k_add (wrap64 (by omega))))⟩, ⟨rfl, rfl, fun w hm => (show KO w (.bin .mul 3) [(iV y28), (iV x2)] (iV y29) from key_eq (e := (y28 * x2)) hy29 (have ey : y29 = (y28 * x2) := hy29; k_mul (wrap64 (by omega))))⟩, ⟨rfl, rfl, fun w hm => (show KO w (.bin .mul 3) [(iV y27), (iV y27)] (iV y30) from key_eq (e := (y27 * y27)) hy30 (have ey : y30 = (y27 * y27) := hy30; k_mul (wrap64 (by omega))))⟩, ⟨rfl, rfl, fun w hm => (show KO w (.bin .mul 3) [(iV y29), (iV y29)] (iV y31) from key_eq (e := (y29 * y29)) hy31 (have ey : y31 = (y29 * y29) := hy31; k_mul (wrap64 (by omega))))⟩, ⟨rfl, rfl, fun w hm => (show KO w (.bin .add 3) [(iV y30), (iV y31)] (iV y32) from key_eq (e := (y30 + y31)) hy32 (have ey : y32 = (y30 + y31) := hy32; k_add (wrap64 (by omega))))⟩, ⟨rfl, rfl, fun w hm => (show KO w (.bin .mul 3) [(iV x6), (iV x6)] (iV y33) from key_eq (e := (x6 * x6)) hy33 (have ey : y33 = (x6 * x6) := hy33; k_mul (wrap64 (by omega))))⟩, ⟨rfl, rfl, fun w hm => (show KO w (.bin .add 3) [(iV y32), (iV y33)] (iV y34) from key_eq (e := (y32 + y33)) hy34 (have ey : y34 = (y32 + y33) := hy34; k_add (wrap64 (by omega))))⟩, ⟨rfl, rfl, fun w hm => (show KO w (.bin .mul 3) [(iV ((rootD y34))), (iV ((rootD y34)))] (iV y36) from key_eq (e := ((rootD y34) * (rootD y34))) hy36 (have ey : y36 = ((rootD y34) * (rootD y34)) := hy36; k_mul (wrap64 (by omega))))⟩, ⟨rfl, rfl, fun w hm => (show KO w (.bin .lss 3) [(iV y36), (iV y34)] (.bool true) from k_lss_t c0)⟩, ⟨rfl, rfl, fun w hm => (show KO w (.bin .add 3) [(iV ((rootD y34))), (iV 1)] (iV y37) from key_eq (e := ((rootD y34) + 1)) hy37 (have ey : y37 = ((rootD y34) + 1) := hy37; k_add (wrap64 (by omega))))⟩, ⟨rfl, rfl, fun w hm => (show KO w (.bin .mul 3) [(iV y22), (iV y22)] (iV y38) from key_eq (e := (y22 * y22)) hy38 (have ey : y38 = (y22 * y22) := hy38; k_mul (wrap64 (by omega))))⟩, ⟨rfl, rfl, fun w hm => (show KO w (.bin .mul 3) [(iV y25), (iV y25)] (iV y39) from key_eq (e := (y25 * y25)) hy39 (have ey : y39 = (y25 * y25) := hy39; k_mul (wrap64 (by omega))))⟩, ⟨rfl, rfl, fun w hm => (show KO w (.bin .add 3) [(iV y38), (iV y39)] (iV y40) from key_eq (e := (y38 + y39)) hy40 (have ey : y40 = (y38 + y39) := hy40; k_add (wrap64 (by omega))))⟩, ⟨rfl, rfl, fun w hm => (show KO w (.bin .mul 3) [(iV x5), (iV x5)] (iV y41) from key_eq (e := (x5 * x5)) hy41 (have ey : y41 = (x5 * x5) := hy41; k_mul (wrap64 (by omega))))⟩, ⟨rfl, rfl, fun w hm => (show KO w (.bin .add 3) [(iV y40), (iV y41)] (iV y42) from key_eq (e := (y40 + y41)) hy42 (have ey : y42 = (y40 + y41) := hy42; k_add (wrap64 (by omega))))⟩, trivial⟩ ⟨(@CEntOk.of (Rho.of [(iV x0), (iV x1), (iV x2), (iV x3), (iV x4), (iV x5), (iV x6), (iV x7), (iV x8), (iV x9), (iV y10), (iV y11), (iV y12), (iV y13), (iV y14), (iV y15), (iV y16), (iV y17), (iV y18), (iV y19), (iV y20), (iV y21), (iV y22), (iV y23), (iV y24), (iV y25), (iV y26), (iV y27), (iV y28), (iV y29), (iV y30), (iV y31), (iV y32), (iV y33), (iV y34), (iV ((rootD y34))), (iV y36), (iV y37), (iV y38), (iV y39), (iV y40), (iV y41), (iV y42), (iV ((rootD y42)))] (fun _ => none)) Try.prog _ 98 _ _ #[(iV y34)] (iV ((rootD y34))) rfl ⟨Try.f98, (Try.f98.body).getD .skip, by kernel_rfl, by kernel_rfl⟩ rfl rfl rfl (fun w hm => rroot_any (y34) (by omega) (by omega) w)), (@CEntOk.of (Rho.of [(iV x0), (iV x1), (iV x2), (iV x3), (iV x4), (iV x5), (iV x6), (iV x7), (iV x8), (iV x9), (iV y10), (iV y11), (iV y12), (iV y13), (iV y14), (iV y15), (iV y16), (iV y17), (iV y18), (iV y19), (iV y20), (iV y21), (iV y22), (iV y23), (iV y24), (iV y25), (iV y26), (iV y27), (iV y28), (iV y29), (iV y30), (iV y31), (iV y32), (iV y33), (iV y34), (iV ((rootD y34))), (iV y36), (iV y37), (iV y38), (iV y39), (iV y40), (iV y41), (iV y42), (iV ((rootD y42)))] (fun _ => none)) Try.prog _ 98 _ _ #[(iV y42)] (iV ((rootD y42))) rfl ⟨Try.f98, (Try.f98.body).getD .skip, by kernel_rfl, by kernel_rfl⟩ rfl rfl rfl (fun w hm => rroot_any (y42) (by omega) (by omega) w)), trivial⟩) 3000 83 [(ag 0 8), (sy 8), (sy 9)] (.agg #[(sy 43), (sy 37)]) rfl rfl rdist_r0 w (fun _ _ h => nomatch h)
    have v0 : ((rootD y42) : Int) = dist0 x0 x1 x2 x3 x4 x5 x6 x7 x8 x9 := by
      have e10 : y10 = (x8 % x0) := hy10
      have e11 : y11 = (x9 % x0) := hy11
      have e12 : y12 = (y10 - y11) := hy12
      have e13 : y13 = (x8 / x0) := hy13
      have e14 : y14 = (x9 / x0) := hy14
      have e15 : y15 = (y13 - y14) := hy15
      have e16 : y16 = (-y12) := hy16
      have e17 : y17 = (max y12 y16) := hy17
      have e18 : y18 = (-y15) := hy18
      have e19 : y19 = (max y15 y18) := hy19
      have e20 : y20 = (y17 - 1) := hy20
      have e21 : y21 = (max 0 y20) := hy21
      have e22 : y22 = (y21 * x2) := hy22
      have e23 : y23 = (y19 - 1) := hy23
      have e24 : y24 = (max 0 y23) := hy24
      have e25 : y25 = (y24 * x2) := hy25
      have e26 : y26 = (y17 + 1) := hy26
      have e27 : y27 = (y26 * x2) := hy27
      have e28 : y28 = (y19 + 1) := hy28
      have e29 : y29 = (y28 * x2) := hy29
      have e30 : y30 = (y27 * y27) := hy30
      have e31 : y31 = (y29 * y29) := hy31
      have e32 : y32 = (y30 + y31) := hy32
      have e33 : y33 = (x6 * x6) := hy33
      have e34 : y34 = (y32 + y33) := hy34
      have e36 : y36 = ((rootD y34) * (rootD y34)) := hy36
      have e37 : y37 = ((rootD y34) + 1) := hy37
      have e38 : y38 = (y22 * y22) := hy38
      have e39 : y39 = (y25 * y25) := hy39
      have e40 : y40 = (y38 + y39) := hy40
      have e41 : y41 = (x5 * x5) := hy41
      have e42 : y42 = (y40 + y41) := hy42
      have q8 : apart0 x0 x1 x2 x3 x4 x5 x6 x7 (x8 % x0) (x9 % x0) = max 0 (max (x8 % x0 - x9 % x0) (-(x8 % x0 - x9 % x0)) - 1) * x2 := by unfold apart0; rw [absmax, Int.max_comm]
      have q9 : apart1 x0 x1 x2 x3 x4 x5 x6 x7 (x8 % x0) (x9 % x0) = (max (x8 % x0 - x9 % x0) (-(x8 % x0 - x9 % x0)) + 1) * x2 := by unfold apart1; rw [absmax]
      have t8 : apart0 x0 x1 x2 x3 x4 x5 x6 x7 (x8 / x0) (x9 / x0) = max 0 (max (x8 / x0 - x9 / x0) (-(x8 / x0 - x9 / x0)) - 1) * x2 := by unfold apart0; rw [absmax, Int.max_comm]
      have t9 : apart1 x0 x1 x2 x3 x4 x5 x6 x7 (x8 / x0) (x9 / x0) = (max (x8 / x0 - x9 / x0) (-(x8 / x0 - x9 / x0)) + 1) * x2 := by unfold apart1; rw [absmax]
      have f34 : (max (x8 % x0 - x9 % x0) (-(x8 % x0 - x9 % x0)) + 1) * x2 * ((max (x8 % x0 - x9 % x0) (-(x8 % x0 - x9 % x0)) + 1) * x2) + (max (x8 / x0 - x9 / x0) (-(x8 / x0 - x9 / x0)) + 1) * x2 * ((max (x8 / x0 - x9 / x0) (-(x8 / x0 - x9 / x0)) + 1) * x2) + x6 * x6 = y34 := by simp only [e10, e11, e12, e13, e14, e15, e16, e17, e18, e19, e20, e21, e22, e23, e24, e25, e26, e27, e28, e29, e30, e31, e32, e33, e34, e36, e37, e38, e39, e40, e41, e42]
      first | (unfold dist0; rw [q8, t8]; simp only [e10, e11, e12, e13, e14, e15, e16, e17, e18, e19, e20, e21, e22, e23, e24, e25, e26, e27, e28, e29, e30, e31, e32, e33, e34, e36, e37, e38, e39, e40, e41, e42]; done) | (unfold dist1; rw [q9, t9, f34, root_up (by omega) (by omega) (by rw [e36] at c0; exact c0)]; omega) | (unfold dist1; rw [q9, t9, f34, root_same (by omega) (by omega) (by rw [e36] at c0; exact c0)])
    have v1 : (y37 : Int) = dist1 x0 x1 x2 x3 x4 x5 x6 x7 x8 x9 := by
      have e10 : y10 = (x8 % x0) := hy10
      have e11 : y11 = (x9 % x0) := hy11
      have e12 : y12 = (y10 - y11) := hy12
      have e13 : y13 = (x8 / x0) := hy13
      have e14 : y14 = (x9 / x0) := hy14
      have e15 : y15 = (y13 - y14) := hy15
      have e16 : y16 = (-y12) := hy16
      have e17 : y17 = (max y12 y16) := hy17
      have e18 : y18 = (-y15) := hy18
      have e19 : y19 = (max y15 y18) := hy19
      have e20 : y20 = (y17 - 1) := hy20
      have e21 : y21 = (max 0 y20) := hy21
      have e22 : y22 = (y21 * x2) := hy22
      have e23 : y23 = (y19 - 1) := hy23
      have e24 : y24 = (max 0 y23) := hy24
      have e25 : y25 = (y24 * x2) := hy25
      have e26 : y26 = (y17 + 1) := hy26
      have e27 : y27 = (y26 * x2) := hy27
      have e28 : y28 = (y19 + 1) := hy28
      have e29 : y29 = (y28 * x2) := hy29
      have e30 : y30 = (y27 * y27) := hy30
      have e31 : y31 = (y29 * y29) := hy31
      have e32 : y32 = (y30 + y31) := hy32
      have e33 : y33 = (x6 * x6) := hy33
      have e34 : y34 = (y32 + y33) := hy34
      have e36 : y36 = ((rootD y34) * (rootD y34)) := hy36
      have e37 : y37 = ((rootD y34) + 1) := hy37
      have e38 : y38 = (y22 * y22) := hy38
      have e39 : y39 = (y25 * y25) := hy39
      have e40 : y40 = (y38 + y39) := hy40
      have e41 : y41 = (x5 * x5) := hy41
      have e42 : y42 = (y40 + y41) := hy42
      have q8 : apart0 x0 x1 x2 x3 x4 x5 x6 x7 (x8 % x0) (x9 % x0) = max 0 (max (x8 % x0 - x9 % x0) (-(x8 % x0 - x9 % x0)) - 1) * x2 := by unfold apart0; rw [absmax, Int.max_comm]
      have q9 : apart1 x0 x1 x2 x3 x4 x5 x6 x7 (x8 % x0) (x9 % x0) = (max (x8 % x0 - x9 % x0) (-(x8 % x0 - x9 % x0)) + 1) * x2 := by unfold apart1; rw [absmax]
      have t8 : apart0 x0 x1 x2 x3 x4 x5 x6 x7 (x8 / x0) (x9 / x0) = max 0 (max (x8 / x0 - x9 / x0) (-(x8 / x0 - x9 / x0)) - 1) * x2 := by unfold apart0; rw [absmax, Int.max_comm]
      have t9 : apart1 x0 x1 x2 x3 x4 x5 x6 x7 (x8 / x0) (x9 / x0) = (max (x8 / x0 - x9 / x0) (-(x8 / x0 - x9 / x0)) + 1) * x2 := by unfold apart1; rw [absmax]
      have f34 : (max (x8 % x0 - x9 % x0) (-(x8 % x0 - x9 % x0)) + 1) * x2 * ((max (x8 % x0 - x9 % x0) (-(x8 % x0 - x9 % x0)) + 1) * x2) + (max (x8 / x0 - x9 / x0) (-(x8 / x0 - x9 / x0)) + 1) * x2 * ((max (x8 / x0 - x9 / x0) (-(x8 / x0 - x9 / x0)) + 1) * x2) + x6 * x6 = y34 := by simp only [e10, e11, e12, e13, e14, e15, e16, e17, e18, e19, e20, e21, e22, e23, e24, e25, e26, e27, e28, e29, e30, e31, e32, e33, e34, e36, e37, e38, e39, e40, e41, e42]
      first | (unfold dist0; rw [q8, t8]; simp only [e10, e11, e12, e13, e14, e15, e16, e17, e18, e19, e20, e21, e22, e23, e24, e25, e26, e27, e28, e29, e30, e31, e32, e33, e34, e36, e37, e38, e39, e40, e41, e42]; done) | (unfold dist1; rw [q9, t9, f34, root_up (by omega) (by omega) (by rw [e36] at c0; exact c0)]; omega) | (unfold dist1; rw [q9, t9, f34, root_same (by omega) (by omega) (by rw [e36] at c0; exact c0)])
    have hv : ((.agg #[(iV ((rootD y42))), (iV y37)]) : Value) = (.agg #[(iV (dist0 x0 x1 x2 x3 x4 x5 x6 x7 x8 x9)), (iV (dist1 x0 x1 x2 x3 x4 x5 x6 x7 x8 x9))]) := by rw [v0, v1]
    rw [← hv]
    exact q
  · obtain ⟨y37, hy37⟩ : ∃ y : Int, y = (y22 * y22) := ⟨_, rfl⟩
    have b37 : 0 ≤ y37 ∧ y37 ≤ 48400000000 := by rw [hy37]; exact mul_bd (A := 220000) (B := 220000) (C := 48400000000) (by omega) (by omega) (by omega) (by omega)
    replace hy37 : Hid (y37 = (y22 * y22)) := hy37
    obtain ⟨y38, hy38⟩ : ∃ y : Int, y = (y25 * y25) := ⟨_, rfl⟩
    have b38 : 0 ≤ y38 ∧ y38 ≤ 48400000000 := by rw [hy38]; exact mul_bd (A := 220000) (B := 220000) (C := 48400000000) (by omega) (by omega) (by omega) (by omega)
    replace hy38 : Hid (y38 = (y25 * y25)) := hy38
    obtain ⟨y39, hy39⟩ : ∃ y : Int, y = (y37 + y38) := ⟨_, rfl⟩
    have b39 : 0 ≤ y39 ∧ y39 ≤ 96800000000 := by rw [hy39]; omega
    replace hy39 : Hid (y39 = (y37 + y38)) := hy39
    obtain ⟨y40, hy40⟩ : ∃ y : Int, y = (x5 * x5) := ⟨_, rfl⟩
    have b40 : 0 ≤ y40 ∧ y40 ≤ 490000000000 := by rw [hy40]; exact mul_bd (A := 700000) (B := 700000) (C := 490000000000) (by omega) (by omega) (by omega) (by omega)
    replace hy40 : Hid (y40 = (x5 * x5)) := hy40
    obtain ⟨y41, hy41⟩ : ∃ y : Int, y = (y39 + y40) := ⟨_, rfl⟩
    have b41 : 0 ≤ y41 ∧ y41 ≤ 586800000000 := by rw [hy41]; omega
    replace hy41 : Hid (y41 = (y39 + y40)) := hy41
    have b42 : 0 ≤ (rootD y41) ∧ (rootD y41) ≤ 1048575 := by have := rootD_bd (n := y41) (by omega) (by omega); omega
    have q := @calls_sym (Rho.of [(iV x0), (iV x1), (iV x2), (iV x3), (iV x4), (iV x5), (iV x6), (iV x7), (iV x8), (iV x9), (iV y10), (iV y11), (iV y12), (iV y13), (iV y14), (iV y15), (iV y16), (iV y17), (iV y18), (iV y19), (iV y20), (iV y21), (iV y22), (iV y23), (iV y24), (iV y25), (iV y26), (iV y27), (iV y28), (iV y29), (iV y30), (iV y31), (iV y32), (iV y33), (iV y34), (iV ((rootD y34))), (iV y36), (iV y37), (iV y38), (iV y39), (iV y40), (iV y41), (iV ((rootD y41)))] (fun _ => none)) Try.prog _ (@Env.Ok.sym (Rho.of [(iV x0), (iV x1), (iV x2), (iV x3), (iV x4), (iV x5), (iV x6), (iV x7), (iV x8), (iV x9), (iV y10), (iV y11), (iV y12), (iV y13), (iV y14), (iV y15), (iV y16), (iV y17), (iV y18), (iV y19), (iV y20), (iV y21), (iV y22), (iV y23), (iV y24), (iV y25), (iV y26), (iV y27), (iV y28), (iV y29), (iV y30), (iV y31), (iV y32), (iV y33), (iV y34), (iV ((rootD y34))), (iV y36), (iV y37), (iV y38), (iV y39), (iV y40), (iV y41), (iV ((rootD y41)))] (fun _ => none)) _ _ (@env_ok (Rho.of [(iV x0), (iV x1), (iV x2), (iV x3), (iV x4), (iV x5), (iV x6), (iV x7), (iV x8), (iV x9), (iV y10), (iV y11), (iV y12), (iV y13), (iV y14), (iV y15), (iV y16), (iV y17), (iV y18), (iV y19), (iV y20), (iV y21), (iV y22), (iV y23), (iV y24), (iV y25), (iV y26), (iV y27), (iV y28), (iV y29), (iV y30), (iV y31), (iV y32), (iV y33), (iV y34), (iV ((rootD y34))), (iV y36), (iV y37), (iV y38), (iV y39), (iV y40), (iV y41), (iV ((rootD y41)))] (fun _ => none))) rdist_e1 rdist_c1 ⟨⟨rfl, rfl, fun w hm => (show KO w (.bin .rem 3) [(iV x8), (iV x0)] (iV y10) from key_eq (e := (x8 % x0)) hy10 (have ey : y10 = (x8 % x0) := hy10; k_rem_nn (by omega) (by omega)))⟩, ⟨rfl, rfl, fun w hm => (show KO w (.bin .rem 3) [(iV x9), (iV x0)] (iV y11) from key_eq (e := (x9 % x0)) hy11 (have ey : y11 = (x9 % x0) := hy11; k_rem_nn (by omega) (by omega)))⟩, ⟨rfl, rfl, fun w hm => (show KO w (.bin .sub 3) [(iV y10), (iV y11)] (iV y12) from key_eq (e := (y10 - y11)) hy12 (have ey : y12 = (y10 - y11) := hy12; k_sub (wrap64 (by omega))))⟩, ⟨rfl, rfl, fun w hm => (show KO w (.bin .quo 3) [(iV x8), (iV x0)] (iV y13) from key_eq (e := (x8 / x0)) hy13 (have ey : y13 = (x8 / x0) := hy13; k_quo_nn (by omega) (by omega) (wrap64 (by omega))))⟩, ⟨rfl, rfl, fun w hm => (show KO w (.bin .quo 3) [(iV x9), (iV x0)] (iV y14) from key_eq (e := (x9 / x0)) hy14 (have ey : y14 = (x9 / x0) := hy14; k_quo_nn (by omega) (by omega) (wrap64 (by omega))))⟩, ⟨rfl, rfl, fun w hm => (show KO w (.bin .sub 3) [(iV y13), (iV y14)] (iV y15) from key_eq (e := (y13 - y14)) hy15 (have ey : y15 = (y13 - y14) := hy15; k_sub (wrap64 (by omega))))⟩, ⟨rfl, rfl, fun w hm => (show KO w (.un .neg) [(iV y12)] (iV y16) from key_eq (e := (-y12)) hy16 (have ey : y16 = (-y12) := hy16; k_neg (wrap64 (by omega))))⟩, ⟨rfl, rfl, fun w hm => (show KO w (.bi 2 [3, 3]) [(iV y12), (iV y16)] (iV y17) from key_eq (e := (max y12 y16)) hy17 (have ey : y17 = (max y12 y16) := hy17; k_max))⟩, ⟨rfl, rfl, fun w hm => (show KO w (.un .neg) [(iV y15)] (iV y18) from key_eq (e := (-y15)) hy18 (have ey : y18 = (-y15) := hy18; k_neg (wrap64 (by omega))))⟩, ⟨rfl, rfl, fun w hm => (show KO w (.bi 2 [3, 3]) [(iV y15), (iV y18)] (iV y19) from key_eq (e := (max y15 y18)) hy19 (have ey : y19 = (max y15 y18) := hy19; k_max))⟩, ⟨rfl, rfl, fun w hm => (show KO w (.bin .sub 3) [(iV y17), (iV 1)] (iV y20) from key_eq (e := (y17 - 1)) hy20 (have ey : y20 = (y17 - 1) := hy20; k_sub (wrap64 (by omega))))⟩, ⟨rfl, rfl, fun w hm => (show KO w (.bi 2 [3, 3]) [(iV 0), (iV y20)] (iV y21) from key_eq (e := (max 0 y20)) hy21 (have ey : y21 = (max 0 y20) := hy21; k_max))⟩, ⟨rfl, rfl, fun w hm => (show KO w (.bin .mul 3) [(iV y21), (iV x2)] (iV y22) from key_eq (e := (y21 * x2)) hy22 (have ey : y22 = (y21 * x2) := hy22; k_mul (wrap64 (by omega))))⟩, ⟨rfl, rfl, fun w hm => (show KO w (.bin .sub 3) [(iV y19), (iV 1)] (iV y23) from key_eq (e := (y19 - 1)) hy23 (have ey : y23 = (y19 - 1) := hy23; k_sub (wrap64 (by omega))))⟩, ⟨rfl, rfl, fun w hm => (show KO w (.bi 2 [3, 3]) [(iV 0), (iV y23)] (iV y24) from key_eq (e := (max 0 y23)) hy24 (have ey : y24 = (max 0 y23) := hy24; k_max))⟩, ⟨rfl, rfl, fun w hm => (show KO w (.bin .mul 3) [(iV y24), (iV x2)] (iV y25) from key_eq (e := (y24 * x2)) hy25 (have ey : y25 = (y24 * x2) := hy25; k_mul (wrap64 (by omega))))⟩, ⟨rfl, rfl, fun w hm => (show KO w (.bin .add 3) [(iV y17), (iV 1)] (iV y26) from key_eq (e := (y17 + 1)) hy26 (have ey : y26 = (y17 + 1) := hy26; k_add (wrap64 (by omega))))⟩, ⟨rfl, rfl, fun w hm => (show KO w (.bin .mul 3) [(iV y26), (iV x2)] (iV y27) from key_eq (e := (y26 * x2)) hy27 (have ey : y27 = (y26 * x2) := hy27; k_mul (wrap64 (by omega))))⟩, ⟨rfl, rfl, fun w hm => (show KO w (.bin .add 3) [(iV y19), (iV 1)] (iV y28) from key_eq (e := (y19 + 1)) hy28 (have ey : y28 = (y19 + 1) := hy28; k_add (wrap64 (by omega))))⟩, ⟨rfl, rfl, fun w hm => (show KO w (.bin .mul 3) [(iV y28), (iV x2)] (iV y29) from key_eq (e := (y28 * x2)) hy29 (have ey : y29 = (y28 * x2) := hy29; k_mul (wrap64 (by omega))))⟩, ⟨rfl, rfl, fun w hm => (show KO w (.bin .mul 3) [(iV y27), (iV y27)] (iV y30) from key_eq (e := (y27 * y27)) hy30 (have ey : y30 = (y27 * y27) := hy30; k_mul (wrap64 (by omega))))⟩, ⟨rfl, rfl, fun w hm => (show KO w (.bin .mul 3) [(iV y29), (iV y29)] (iV y31) from key_eq (e := (y29 * y29)) hy31 (have ey : y31 = (y29 * y29) := hy31; k_mul (wrap64 (by omega))))⟩, ⟨rfl, rfl, fun w hm => (show KO w (.bin .add 3) [(iV y30), (iV y31)] (iV y32) from key_eq (e := (y30 + y31)) hy32 (have ey : y32 = (y30 + y31) := hy32; k_add (wrap64 (by omega))))⟩, ⟨rfl, rfl, fun w hm => (show KO w (.bin .mul 3) [(iV x6), (iV x6)] (iV y33) from key_eq (e := (x6 * x6)) hy33 (have ey : y33 = (x6 * x6) := hy33; k_mul (wrap64 (by omega))))⟩, ⟨rfl, rfl, fun w hm => (show KO w (.bin .add 3) [(iV y32), (iV y33)] (iV y34) from key_eq (e := (y32 + y33)) hy34 (have ey : y34 = (y32 + y33) := hy34; k_add (wrap64 (by omega))))⟩, ⟨rfl, rfl, fun w hm => (show KO w (.bin .mul 3) [(iV ((rootD y34))), (iV ((rootD y34)))] (iV y36) from key_eq (e := ((rootD y34) * (rootD y34))) hy36 (have ey : y36 = ((rootD y34) * (rootD y34)) := hy36; k_mul (wrap64 (by omega))))⟩, ⟨rfl, rfl, fun w hm => (show KO w (.bin .lss 3) [(iV y36), (iV y34)] (.bool false) from k_lss_f c0)⟩, ⟨rfl, rfl, fun w hm => (show KO w (.bin .mul 3) [(iV y22), (iV y22)] (iV y37) from key_eq (e := (y22 * y22)) hy37 (have ey : y37 = (y22 * y22) := hy37; k_mul (wrap64 (by omega))))⟩, ⟨rfl, rfl, fun w hm => (show KO w (.bin .mul 3) [(iV y25), (iV y25)] (iV y38) from key_eq (e := (y25 * y25)) hy38 (have ey : y38 = (y25 * y25) := hy38; k_mul (wrap64 (by omega))))⟩, ⟨rfl, rfl, fun w hm => (show KO w (.bin .add 3) [(iV y37), (iV y38)] (iV y39) from key_eq (e := (y37 + y38)) hy39 (have ey : y39 = (y37 + y38) := hy39; k_add (wrap64 (by omega))))⟩, ⟨rfl, rfl, fun w hm => (show KO w (.bin .mul 3) [(iV x5), (iV x5)] (iV y40) from key_eq (e := (x5 * x5)) hy40 (have ey : y40 = (x5 * x5) := hy40; k_mul (wrap64 (by omega))))⟩, ⟨rfl, rfl, fun w hm => (show KO w (.bin .add 3) [(iV y39), (iV y40)] (iV y41) from key_eq (e := (y39 + y40)) hy41 (have ey : y41 = (y39 + y40) := hy41; k_add (wrap64 (by omega))))⟩, trivial⟩ ⟨(@CEntOk.of (Rho.of [(iV x0), (iV x1), (iV x2), (iV x3), (iV x4), (iV x5), (iV x6), (iV x7), (iV x8), (iV x9), (iV y10), (iV y11), (iV y12), (iV y13), (iV y14), (iV y15), (iV y16), (iV y17), (iV y18), (iV y19), (iV y20), (iV y21), (iV y22), (iV y23), (iV y24), (iV y25), (iV y26), (iV y27), (iV y28), (iV y29), (iV y30), (iV y31), (iV y32), (iV y33), (iV y34), (iV ((rootD y34))), (iV y36), (iV y37), (iV y38), (iV y39), (iV y40), (iV y41), (iV ((rootD y41)))] (fun _ => none)) Try.prog _ 98 _ _ #[(iV y34)] (iV ((rootD y34))) rfl ⟨Try.f98, (Try.f98.body).getD .skip, by kernel_rfl, by kernel_rfl⟩ rfl rfl rfl (fun w hm => rroot_any (y34) (by omega) (by omega) w)), (@CEntOk.of (Rho.of [(iV x0), (iV x1), (iV x2), (iV x3), (iV x4), (iV x5), (iV x6), (iV x7), (iV x8), (iV x9), (iV y10), (iV y11), (iV y12), (iV y13), (iV y14), (iV y15), (iV y16), (iV y17), (iV y18), (iV y19), (iV y20), (iV y21), (iV y22), (iV y23), (iV y24), (iV y25), (iV y26), (iV y27), (iV y28), (iV y29), (iV y30), (iV y31), (iV y32), (iV y33), (iV y34), (iV ((rootD y34))), (iV y36), (iV y37), (iV y38), (iV y39), (iV y40), (iV y41), (iV ((rootD y41)))] (fun _ => none)) Try.prog _ 98 _ _ #[(iV y41)] (iV ((rootD y41))) rfl ⟨Try.f98, (Try.f98.body).getD .skip, by kernel_rfl, by kernel_rfl⟩ rfl rfl rfl (fun w hm => rroot_any (y41) (by omega) (by omega) w)), trivial⟩) 3000 83 [(ag 0 8), (sy 8), (sy 9)] (.agg #[(sy 42), (sy 35)]) rfl rfl rdist_r1 w (fun _ _ h => nomatch h)
    have v0 : ((rootD y41) : Int) = dist0 x0 x1 x2 x3 x4 x5 x6 x7 x8 x9 := by
      have e10 : y10 = (x8 % x0) := hy10
      have e11 : y11 = (x9 % x0) := hy11
      have e12 : y12 = (y10 - y11) := hy12
      have e13 : y13 = (x8 / x0) := hy13
      have e14 : y14 = (x9 / x0) := hy14
      have e15 : y15 = (y13 - y14) := hy15
      have e16 : y16 = (-y12) := hy16
      have e17 : y17 = (max y12 y16) := hy17
      have e18 : y18 = (-y15) := hy18
      have e19 : y19 = (max y15 y18) := hy19
      have e20 : y20 = (y17 - 1) := hy20
      have e21 : y21 = (max 0 y20) := hy21
      have e22 : y22 = (y21 * x2) := hy22
      have e23 : y23 = (y19 - 1) := hy23
      have e24 : y24 = (max 0 y23) := hy24
      have e25 : y25 = (y24 * x2) := hy25
      have e26 : y26 = (y17 + 1) := hy26
      have e27 : y27 = (y26 * x2) := hy27
      have e28 : y28 = (y19 + 1) := hy28
      have e29 : y29 = (y28 * x2) := hy29
      have e30 : y30 = (y27 * y27) := hy30
      have e31 : y31 = (y29 * y29) := hy31
      have e32 : y32 = (y30 + y31) := hy32
      have e33 : y33 = (x6 * x6) := hy33
      have e34 : y34 = (y32 + y33) := hy34
      have e36 : y36 = ((rootD y34) * (rootD y34)) := hy36
      have e37 : y37 = (y22 * y22) := hy37
      have e38 : y38 = (y25 * y25) := hy38
      have e39 : y39 = (y37 + y38) := hy39
      have e40 : y40 = (x5 * x5) := hy40
      have e41 : y41 = (y39 + y40) := hy41
      have q8 : apart0 x0 x1 x2 x3 x4 x5 x6 x7 (x8 % x0) (x9 % x0) = max 0 (max (x8 % x0 - x9 % x0) (-(x8 % x0 - x9 % x0)) - 1) * x2 := by unfold apart0; rw [absmax, Int.max_comm]
      have q9 : apart1 x0 x1 x2 x3 x4 x5 x6 x7 (x8 % x0) (x9 % x0) = (max (x8 % x0 - x9 % x0) (-(x8 % x0 - x9 % x0)) + 1) * x2 := by unfold apart1; rw [absmax]
      have t8 : apart0 x0 x1 x2 x3 x4 x5 x6 x7 (x8 / x0) (x9 / x0) = max 0 (max (x8 / x0 - x9 / x0) (-(x8 / x0 - x9 / x0)) - 1) * x2 := by unfold apart0; rw [absmax, Int.max_comm]
      have t9 : apart1 x0 x1 x2 x3 x4 x5 x6 x7 (x8 / x0) (x9 / x0) = (max (x8 / x0 - x9 / x0) (-(x8 / x0 - x9 / x0)) + 1) * x2 := by unfold apart1; rw [absmax]
      have f34 : (max (x8 % x0 - x9 % x0) (-(x8 % x0 - x9 % x0)) + 1) * x2 * ((max (x8 % x0 - x9 % x0) (-(x8 % x0 - x9 % x0)) + 1) * x2) + (max (x8 / x0 - x9 / x0) (-(x8 / x0 - x9 / x0)) + 1) * x2 * ((max (x8 / x0 - x9 / x0) (-(x8 / x0 - x9 / x0)) + 1) * x2) + x6 * x6 = y34 := by simp only [e10, e11, e12, e13, e14, e15, e16, e17, e18, e19, e20, e21, e22, e23, e24, e25, e26, e27, e28, e29, e30, e31, e32, e33, e34, e36, e37, e38, e39, e40, e41]
      first | (unfold dist0; rw [q8, t8]; simp only [e10, e11, e12, e13, e14, e15, e16, e17, e18, e19, e20, e21, e22, e23, e24, e25, e26, e27, e28, e29, e30, e31, e32, e33, e34, e36, e37, e38, e39, e40, e41]; done) | (unfold dist1; rw [q9, t9, f34, root_up (by omega) (by omega) (by rw [e36] at c0; exact c0)]; omega) | (unfold dist1; rw [q9, t9, f34, root_same (by omega) (by omega) (by rw [e36] at c0; exact c0)])
    have v1 : ((rootD y34) : Int) = dist1 x0 x1 x2 x3 x4 x5 x6 x7 x8 x9 := by
      have e10 : y10 = (x8 % x0) := hy10
      have e11 : y11 = (x9 % x0) := hy11
      have e12 : y12 = (y10 - y11) := hy12
      have e13 : y13 = (x8 / x0) := hy13
      have e14 : y14 = (x9 / x0) := hy14
      have e15 : y15 = (y13 - y14) := hy15
      have e16 : y16 = (-y12) := hy16
      have e17 : y17 = (max y12 y16) := hy17
      have e18 : y18 = (-y15) := hy18
      have e19 : y19 = (max y15 y18) := hy19
      have e20 : y20 = (y17 - 1) := hy20
      have e21 : y21 = (max 0 y20) := hy21
      have e22 : y22 = (y21 * x2) := hy22
      have e23 : y23 = (y19 - 1) := hy23
      have e24 : y24 = (max 0 y23) := hy24
      have e25 : y25 = (y24 * x2) := hy25
      have e26 : y26 = (y17 + 1) := hy26
      have e27 : y27 = (y26 * x2) := hy27
      have e28 : y28 = (y19 + 1) := hy28
      have e29 : y29 = (y28 * x2) := hy29
      have e30 : y30 = (y27 * y27) := hy30
      have e31 : y31 = (y29 * y29) := hy31
      have e32 : y32 = (y30 + y31) := hy32
      have e33 : y33 = (x6 * x6) := hy33
      have e34 : y34 = (y32 + y33) := hy34
      have e36 : y36 = ((rootD y34) * (rootD y34)) := hy36
      have e37 : y37 = (y22 * y22) := hy37
      have e38 : y38 = (y25 * y25) := hy38
      have e39 : y39 = (y37 + y38) := hy39
      have e40 : y40 = (x5 * x5) := hy40
      have e41 : y41 = (y39 + y40) := hy41
      have q8 : apart0 x0 x1 x2 x3 x4 x5 x6 x7 (x8 % x0) (x9 % x0) = max 0 (max (x8 % x0 - x9 % x0) (-(x8 % x0 - x9 % x0)) - 1) * x2 := by unfold apart0; rw [absmax, Int.max_comm]
      have q9 : apart1 x0 x1 x2 x3 x4 x5 x6 x7 (x8 % x0) (x9 % x0) = (max (x8 % x0 - x9 % x0) (-(x8 % x0 - x9 % x0)) + 1) * x2 := by unfold apart1; rw [absmax]
      have t8 : apart0 x0 x1 x2 x3 x4 x5 x6 x7 (x8 / x0) (x9 / x0) = max 0 (max (x8 / x0 - x9 / x0) (-(x8 / x0 - x9 / x0)) - 1) * x2 := by unfold apart0; rw [absmax, Int.max_comm]
      have t9 : apart1 x0 x1 x2 x3 x4 x5 x6 x7 (x8 / x0) (x9 / x0) = (max (x8 / x0 - x9 / x0) (-(x8 / x0 - x9 / x0)) + 1) * x2 := by unfold apart1; rw [absmax]
      have f34 : (max (x8 % x0 - x9 % x0) (-(x8 % x0 - x9 % x0)) + 1) * x2 * ((max (x8 % x0 - x9 % x0) (-(x8 % x0 - x9 % x0)) + 1) * x2) + (max (x8 / x0 - x9 / x0) (-(x8 / x0 - x9 / x0)) + 1) * x2 * ((max (x8 / x0 - x9 / x0) (-(x8 / x0 - x9 / x0)) + 1) * x2) + x6 * x6 = y34 := by simp only [e10, e11, e12, e13, e14, e15, e16, e17, e18, e19, e20, e21, e22, e23, e24, e25, e26, e27, e28, e29, e30, e31, e32, e33, e34, e36, e37, e38, e39, e40, e41]
      first | (unfold dist0; rw [q8, t8]; simp only [e10, e11, e12, e13, e14, e15, e16, e17, e18, e19, e20, e21, e22, e23, e24, e25, e26, e27, e28, e29, e30, e31, e32, e33, e34, e36, e37, e38, e39, e40, e41]; done) | (unfold dist1; rw [q9, t9, f34, root_up (by omega) (by omega) (by rw [e36] at c0; exact c0)]; omega) | (unfold dist1; rw [q9, t9, f34, root_same (by omega) (by omega) (by rw [e36] at c0; exact c0)])
    have hv : ((.agg #[(iV ((rootD y41))), (iV ((rootD y34)))]) : Value) = (.agg #[(iV (dist0 x0 x1 x2 x3 x4 x5 x6 x7 x8 x9)), (iV (dist1 x0 x1 x2 x3 x4 x5 x6 x7 x8 x9))]) := by rw [v0, v1]
    rw [← hv]
    exact q
end Go.Proofs.Ytoaehigmpbhppaa.En
namespace Go.Proofs.Ytoaehigmpbhppaa.En
open Go Go.Ev Go.Proofs Go.RowKit
theorem qcheck_ok {x0 x1 x2 x3 x4 x5 x6 x7 : Int} (h : qcheck0 x0 x1 x2 x3 x4 x5 x6 x7 = 0) : (1 ≤ x0 ∧ x0 ≤ 24) ∧ (1 ≤ x1 ∧ x1 ≤ 24) ∧ (1 ≤ x2 ∧ x2 ≤ 10000) ∧ (100 ≤ x3 ∧ x3 ≤ x4 ∧ x4 ≤ 20000) ∧ (0 ≤ x5 ∧ x5 ≤ x6 ∧ x6 ≤ 700000) ∧ (0 ≤ x7 ∧ x7 ≤ 1000) := by
  unfold qcheck0 at h
  repeat' split at h
  all_goals first | (exfalso; omega) | omega
theorem rcheckq_any (x0 x1 x2 x3 x4 x5 x6 x7 : Int) (w : World) : Calls Try.prog 19 #[(.agg #[iV x0, iV x1, iV x2, iV x3, iV x4, iV x5, iV x6, iV x7])] w (fun en w' => en = .returned (iV (qcheck0 x0 x1 x2 x3 x4 x5 x6 x7)) ∧ Below w.heap.size w w') :=
  rcheck_any x0 x1 x2 x3 x4 x5 x6 x7 w
theorem rootU_bd {n : Int} (h0 : 0 ≤ n) (h1 : n ≤ 1000000000000) : 0 ≤ rootU n ∧ rootU n ≤ 1048576 := by
  have := rootD_bd h0 h1
  by_cases h : rootD n * rootD n < n
  · rw [root_up h0 h1 h]; omega
  · rw [root_same h0 h1 h]; omega
theorem fall_bd {d : Int} (h0 : 0 ≤ d) (h1 : d ≤ 2000000) : 0 ≤ fallZ d ∧ fallZ d ≤ 450 := by
  have := lg_bd (x := d / 1000 + 1) (by omega) (by omega)
  unfold fallZ; omega
theorem dist_bd {x0 x1 x2 x3 x4 x5 x6 x7 x8 x9 : Int} (v0 : 1 ≤ x0 ∧ x0 ≤ 24) (v1 : 1 ≤ x1 ∧ x1 ≤ 24) (v2 : 1 ≤ x2 ∧ x2 ≤ 10000) (v3 : 100 ≤ x3 ∧ x3 ≤ x4 ∧ x4 ≤ 20000) (v5 : 0 ≤ x5 ∧ x5 ≤ x6 ∧ x6 ≤ 700000) (v7 : 0 ≤ x7 ∧ x7 ≤ 1000) (h8 : 0 ≤ x8 ∧ x8 < x0 * x1) (h9 : 0 ≤ x9 ∧ x9 < x0 * x1) : (0 ≤ dist0 x0 x1 x2 x3 x4 x5 x6 x7 x8 x9 ∧ dist0 x0 x1 x2 x3 x4 x5 x6 x7 x8 x9 ≤ 1048575) ∧ (0 ≤ dist1 x0 x1 x2 x3 x4 x5 x6 x7 x8 x9 ∧ dist1 x0 x1 x2 x3 x4 x5 x6 x7 x8 x9 ≤ 1048576) := by
  have m8 := Int.emod_nonneg x8 (by omega : x0 ≠ 0)
  have m8' := Int.emod_lt_of_pos x8 (by omega : 0 < x0)
  have m9 := Int.emod_nonneg x9 (by omega : x0 ≠ 0)
  have m9' := Int.emod_lt_of_pos x9 (by omega : 0 < x0)
  have r8 := row_bd (a := x8) (x := x0) (y := x1) h8.1 h8.2 (by omega) (by omega)
  have r9 := row_bd (a := x9) (x := x0) (y := x1) h9.1 h9.2 (by omega) (by omega)
  have ac := apart_bd (x0 := x0) (x1 := x1) (x2 := x2) (x3 := x3) (x4 := x4) (x5 := x5) (x6 := x6) (x7 := x7) (x8 := x8 % x0) (x9 := x9 % x0) v2 (by omega) (by omega)
  have ar := apart_bd (x0 := x0) (x1 := x1) (x2 := x2) (x3 := x3) (x4 := x4) (x5 := x5) (x6 := x6) (x7 := x7) (x8 := x8 / x0) (x9 := x9 / x0) v2 (by omega) (by omega)
  have s5 := mul_bd (a := x5) (b := x5) (A := 700000) (B := 700000) (C := 490000000000) (by omega) (by omega) (by omega) (by omega)
  have s6 := mul_bd (a := x6) (b := x6) (A := 700000) (B := 700000) (C := 490000000000) (by omega) (by omega) (by omega) (by omega)
  have c0 := mul_bd (A := 240000) (B := 240000) (C := 57600000000) ac.1.1 ac.1.2 ac.1.1 ac.1.2
  have c1 := mul_bd (A := 240000) (B := 240000) (C := 57600000000) ac.2.1 ac.2.2 ac.2.1 ac.2.2
  have e0 := mul_bd (A := 240000) (B := 240000) (C := 57600000000) ar.1.1 ar.1.2 ar.1.1 ar.1.2
  have e1 := mul_bd (A := 240000) (B := 240000) (C := 57600000000) ar.2.1 ar.2.2 ar.2.1 ar.2.2
  
  unfold dist0 dist1
  refine ⟨?_, ?_⟩
  · have := rootD_bd (n := apart0 x0 x1 x2 x3 x4 x5 x6 x7 (x8 % x0) (x9 % x0) * apart0 x0 x1 x2 x3 x4 x5 x6 x7 (x8 % x0) (x9 % x0) + apart0 x0 x1 x2 x3 x4 x5 x6 x7 (x8 / x0) (x9 / x0) * apart0 x0 x1 x2 x3 x4 x5 x6 x7 (x8 / x0) (x9 / x0) + x5 * x5) (by omega) (by omega)
    exact ⟨this.1, by omega⟩
  · exact rootU_bd (by omega) (by omega)
end Go.Proofs.Ytoaehigmpbhppaa.En
namespace Go.Proofs.Ytoaehigmpbhppaa.En
open Go Go.Ev Go.Proofs Go.RowKit
structure Src where
  kind : Int
  cell : Int
  cls : Int
  lo : Int
  hi : Int
def srcC (x : Src) : List Value := [.int .i64 x.kind, .int .i64 x.cell, .int .i64 x.cls, .int .i64 x.lo, .int .i64 x.hi]
def srcD : Src := ⟨0, 0, 0, 0, 0⟩
def intC (x : Int) : List Value := [.int .i64 x]
def firstErr {α : Type} (f : α → Int) : List α → Int
  | [] => 0
  | x :: l => if f x = 0 then firstErr f l else f x
theorem firstErr_at {α : Type} (f : α → Int) (d : α) : ∀ (l : List α) (i : Nat), i < l.length → (∀ k, k < i → f (l.getD k d) = 0) → ¬ f (l.getD i d) = 0 → firstErr f l = f (l.getD i d)
  | [], i, h, _, _ => by simp at h
  | x :: l, 0, _, _, h => by
    have h' : ¬ f x = 0 := by simpa using h
    simp [firstErr, h']
  | x :: l, i + 1, h, hk, hi => by
    have h0 : f x = 0 := by simpa using hk 0 (by omega)
    have := firstErr_at f d l i (by simpa using h) (fun k hk2 => by simpa using hk (k + 1) (by omega)) (by simpa using hi)
    simpa [firstErr, h0] using this
theorem firstErr_all {α : Type} (f : α → Int) (d : α) : ∀ (l : List α), (∀ k, k < l.length → f (l.getD k d) = 0) → firstErr f l = 0
  | [], _ => rfl
  | x :: l, h => by
    have h0 : f x = 0 := by simpa using h 0 (by simp)
    have := firstErr_all f d l (fun k hk => by simpa using h (k + 1) (by simpa using hk))
    simpa [firstErr, h0] using this
def srcErr (x0 x1 : Int) (s : Src) : Int :=
  if ¬ (s.kind = 1 ∨ s.kind = 2 ∨ s.kind = 3) then 2
  else if ¬ (0 ≤ s.cell ∧ s.cell ≤ x0 * x1 - 1) then 4
  else if ¬ (1 ≤ s.cls ∧ s.cls ≤ 10 ∧ s.lo ≤ s.hi ∧ 0 ≤ s.lo ∧ s.hi ≤ 1000000000) then 3 else 0
def srcsErr (x0 x1 : Int) (l : List Src) : Int := if (256 : Int) < l.length then 9 else firstErr (srcErr x0 x1) l
end Go.Proofs.Ytoaehigmpbhppaa.En
namespace Go.Proofs.Ytoaehigmpbhppaa.En
open Go Go.Ev Go.Proofs Go.RowKit
set_option maxRecDepth 1000000
noncomputable section
def f62b0 : Code := (Try.f62.body).getD .skip
def f62F0 : Fr := mkFr Try.f62 [(0, (ag 0 8)), (1, (ag 8 5))] []
def f62S1 : St := mkSt 0 []
theorem f62I2 : IdOk 13 0 0 f62F0 f62S1 := ⟨mkSt_wf rfl, by kernel_rfl⟩
def f62n3 : List Ent := cB .neq (sy 8) (iV 2) true :: cB .neq (sy 8) (iV 1) true :: []
def f62n4 : List Ent := cB .neq (sy 8) (iV 3) true :: f62n3
def f62n5 : List Ent := aB .sub (sy 13) (iV 1) (sy 14) :: aB .mul (sy 0) (sy 1) (sy 13) :: cB .neq (sy 8) (iV 3) false :: f62n3
def f62n6 : List Ent := cB .geq (sy 9) (iV 0) true :: f62n5
def f62n7 : List Ent := cB .leq (sy 9) (sy 14) true :: f62n6
def f62n8 : List Ent := cB .geq (sy 10) (iV 1) true :: f62n7
def f62n9 : List Ent := cB .leq (sy 10) (iV 10) true :: f62n8
def f62n10 : List Ent := cB .leq (sy 11) (sy 12) true :: f62n9
def f62n11 : List Ent := cB .geq (sy 11) (iV 0) true :: f62n10
def f62n12 : List Ent := cB .leq (sy 12) (iV 1000000000) true :: f62n11
def f62n13 : List Ent := cB .leq (sy 12) (iV 1000000000) false :: f62n11
def f62n14 : List Ent := cB .geq (sy 11) (iV 0) false :: f62n10
def f62n15 : List Ent := cB .leq (sy 11) (sy 12) false :: f62n9
def f62n16 : List Ent := cB .leq (sy 10) (iV 10) false :: f62n8
def f62n17 : List Ent := cB .geq (sy 10) (iV 1) false :: f62n7
def f62n18 : List Ent := cB .leq (sy 9) (sy 14) false :: f62n6
def f62n19 : List Ent := cB .geq (sy 9) (iV 0) false :: f62n5
def f62n20 : List Ent := aB .sub (sy 13) (iV 1) (sy 14) :: aB .mul (sy 0) (sy 1) (sy 13) :: cB .neq (sy 8) (iV 2) false :: cB .neq (sy 8) (iV 1) true :: []
def f62n21 : List Ent := cB .geq (sy 9) (iV 0) true :: f62n20
def f62n22 : List Ent := cB .leq (sy 9) (sy 14) true :: f62n21
def f62n23 : List Ent := cB .geq (sy 10) (iV 1) true :: f62n22
def f62n24 : List Ent := cB .leq (sy 10) (iV 10) true :: f62n23
def f62n25 : List Ent := cB .leq (sy 11) (sy 12) true :: f62n24
def f62n26 : List Ent := cB .geq (sy 11) (iV 0) true :: f62n25
def f62n27 : List Ent := cB .leq (sy 12) (iV 1000000000) true :: f62n26
def f62n28 : List Ent := cB .leq (sy 12) (iV 1000000000) false :: f62n26
def f62n29 : List Ent := cB .geq (sy 11) (iV 0) false :: f62n25
def f62n30 : List Ent := cB .leq (sy 11) (sy 12) false :: f62n24
def f62n31 : List Ent := cB .leq (sy 10) (iV 10) false :: f62n23
def f62n32 : List Ent := cB .geq (sy 10) (iV 1) false :: f62n22
def f62n33 : List Ent := cB .leq (sy 9) (sy 14) false :: f62n21
def f62n34 : List Ent := cB .geq (sy 9) (iV 0) false :: f62n20
def f62n35 : List Ent := aB .sub (sy 13) (iV 1) (sy 14) :: aB .mul (sy 0) (sy 1) (sy 13) :: cB .neq (sy 8) (iV 1) false :: []
def f62n36 : List Ent := cB .geq (sy 9) (iV 0) true :: f62n35
def f62n37 : List Ent := cB .leq (sy 9) (sy 14) true :: f62n36
def f62n38 : List Ent := cB .geq (sy 10) (iV 1) true :: f62n37
def f62n39 : List Ent := cB .leq (sy 10) (iV 10) true :: f62n38
def f62n40 : List Ent := cB .leq (sy 11) (sy 12) true :: f62n39
def f62n41 : List Ent := cB .geq (sy 11) (iV 0) true :: f62n40
def f62n42 : List Ent := cB .leq (sy 12) (iV 1000000000) true :: f62n41
def f62n43 : List Ent := cB .leq (sy 12) (iV 1000000000) false :: f62n41
def f62n44 : List Ent := cB .geq (sy 11) (iV 0) false :: f62n40
def f62n45 : List Ent := cB .leq (sy 11) (sy 12) false :: f62n39
def f62n46 : List Ent := cB .leq (sy 10) (iV 10) false :: f62n38
def f62n47 : List Ent := cB .geq (sy 10) (iV 1) false :: f62n37
def f62n48 : List Ent := cB .leq (sy 9) (sy 14) false :: f62n36
def f62n49 : List Ent := cB .geq (sy 9) (iV 0) false :: f62n35
theorem f62a0 : agreeL (ids 13) [] [] f62F0 f62S1 (frameOf Try.f62 [(ag 0 8), (ag 8 5)]) Ev.start = true := by kernel_rfl
theorem f62r0 : lE f62n4 [] [] [] f62b0 f62F0 f62S1 Try.f62 (endV (iV 2)) = some () := by kernel_rfl
theorem f62r1 : lE f62n12 [] [] [] f62b0 f62F0 f62S1 Try.f62 (endV (iV 0)) = some () := by kernel_rfl
theorem f62r2 : lE f62n13 [] [] [] f62b0 f62F0 f62S1 Try.f62 (endV (iV 3)) = some () := by kernel_rfl
theorem f62r3 : lE f62n14 [] [] [] f62b0 f62F0 f62S1 Try.f62 (endV (iV 3)) = some () := by kernel_rfl
theorem f62r4 : lE f62n15 [] [] [] f62b0 f62F0 f62S1 Try.f62 (endV (iV 3)) = some () := by kernel_rfl
theorem f62r5 : lE f62n16 [] [] [] f62b0 f62F0 f62S1 Try.f62 (endV (iV 3)) = some () := by kernel_rfl
theorem f62r6 : lE f62n17 [] [] [] f62b0 f62F0 f62S1 Try.f62 (endV (iV 3)) = some () := by kernel_rfl
theorem f62r7 : lE f62n18 [] [] [] f62b0 f62F0 f62S1 Try.f62 (endV (iV 4)) = some () := by kernel_rfl
theorem f62r8 : lE f62n19 [] [] [] f62b0 f62F0 f62S1 Try.f62 (endV (iV 4)) = some () := by kernel_rfl
theorem f62r9 : lE f62n27 [] [] [] f62b0 f62F0 f62S1 Try.f62 (endV (iV 0)) = some () := by kernel_rfl
theorem f62r10 : lE f62n28 [] [] [] f62b0 f62F0 f62S1 Try.f62 (endV (iV 3)) = some () := by kernel_rfl
theorem f62r11 : lE f62n29 [] [] [] f62b0 f62F0 f62S1 Try.f62 (endV (iV 3)) = some () := by kernel_rfl
theorem f62r12 : lE f62n30 [] [] [] f62b0 f62F0 f62S1 Try.f62 (endV (iV 3)) = some () := by kernel_rfl
theorem f62r13 : lE f62n31 [] [] [] f62b0 f62F0 f62S1 Try.f62 (endV (iV 3)) = some () := by kernel_rfl
theorem f62r14 : lE f62n32 [] [] [] f62b0 f62F0 f62S1 Try.f62 (endV (iV 3)) = some () := by kernel_rfl
theorem f62r15 : lE f62n33 [] [] [] f62b0 f62F0 f62S1 Try.f62 (endV (iV 4)) = some () := by kernel_rfl
theorem f62r16 : lE f62n34 [] [] [] f62b0 f62F0 f62S1 Try.f62 (endV (iV 4)) = some () := by kernel_rfl
theorem f62r17 : lE f62n42 [] [] [] f62b0 f62F0 f62S1 Try.f62 (endV (iV 0)) = some () := by kernel_rfl
theorem f62r18 : lE f62n43 [] [] [] f62b0 f62F0 f62S1 Try.f62 (endV (iV 3)) = some () := by kernel_rfl
theorem f62r19 : lE f62n44 [] [] [] f62b0 f62F0 f62S1 Try.f62 (endV (iV 3)) = some () := by kernel_rfl
theorem f62r20 : lE f62n45 [] [] [] f62b0 f62F0 f62S1 Try.f62 (endV (iV 3)) = some () := by kernel_rfl
theorem f62r21 : lE f62n46 [] [] [] f62b0 f62F0 f62S1 Try.f62 (endV (iV 3)) = some () := by kernel_rfl
theorem f62r22 : lE f62n47 [] [] [] f62b0 f62F0 f62S1 Try.f62 (endV (iV 3)) = some () := by kernel_rfl
theorem f62r23 : lE f62n48 [] [] [] f62b0 f62F0 f62S1 Try.f62 (endV (iV 4)) = some () := by kernel_rfl
theorem f62r24 : lE f62n49 [] [] [] f62b0 f62F0 f62S1 Try.f62 (endV (iV 4)) = some () := by kernel_rfl
set_option maxHeartbeats 8000000 in
theorem checkSource_any (x0 : Int) (x1 : Int) (x2 : Int) (x3 : Int) (x4 : Int) (x5 : Int) (x6 : Int) (x7 : Int) (s : Src) (w0 : World) (v0 : 1 ≤ x0 ∧ x0 ≤ 24) (v1 : 1 ≤ x1 ∧ x1 ≤ 24) : Calls Try.prog 62 #[(mV x0 x1 x2 x3 x4 x5 x6 x7), (.agg #[(iV s.kind), (iV s.cell), (iV s.cls), (iV s.lo), (iV s.hi)])] w0 (fun en w' => en = .returned (iV (srcErr x0 x1 s)) ∧ Below w0.heap.size w0 w') := by
  have hx := mul_bd (a := x0) (b := x1) (A := 24) (B := 24) (C := 576) (by omega) (by omega) (by omega) (by omega)
  let vb : List Value := [(iV x0), (iV x1), (iV x2), (iV x3), (iV x4), (iV x5), (iV x6), (iV x7), (iV s.kind), (iV s.cell), (iV s.cls), (iV s.lo), (iV s.hi)]
  let p0 : Rho := (RO w0 vb [])
  refine At.begin (ρ := p0) (c := f62b0) (@env_ok p0) f62I2 f62a0 (fun a w hat => ?_)
  by_cases c0 : s.kind ≠ 1
  · by_cases c1 : s.kind ≠ 2
    · by_cases c2 : s.kind ≠ 3
      · refine At.lastsV (ρ1 := p0) f62r0 (@env_ok p0) ⟨enk (kneqt c2), enk (kneqt c1), enk (kneqt c0), trivial⟩ trivial trivial trivial f62I2 hat (fun w2 hb => ?_)
        have v0 : (2 : Int) = srcErr x0 x1 s := by
          unfold srcErr; repeat' split
          all_goals omega
        exact ret1 v0 hb
      have K0 : KA w0 (.bin .mul 3) [(iV x0), (iV x1)] (iV ((x0 * x1))) := fun w hm => k_mul (wrap64 (by omega))
      have K1 := kSub w0 ((x0 * x1)) (1) (by omega)
      by_cases c3 : s.cell ≥ 0
      · by_cases c4 : s.cell ≤ ((x0 * x1) - 1)
        · by_cases c5 : s.cls ≥ 1
          · by_cases c6 : s.cls ≤ 10
            · by_cases c7 : s.lo ≤ s.hi
              · by_cases c8 : s.lo ≥ 0
                · by_cases c9 : s.hi ≤ 1000000000
                  · let r1 : Rho := (RO w0 (vb ++ [(iV ((x0 * x1))), (iV (((x0 * x1) - 1)))]) [])
                    refine At.lastsV (ρ1 := r1) f62r1 (@env_ok r1) ⟨enk (kleqt c9), enk (kgeqt c8), enk (kleqt c7), enk (kleqt c6), enk (kgeqt c5), enk (kleqt c4), enk (kgeqt c3), enk K1, enk K0, enk (kneqf c2), enk (kneqt c1), enk (kneqt c0), trivial⟩ trivial trivial trivial f62I2 hat (fun w2 hb => ?_)
                    have v0 : (0 : Int) = srcErr x0 x1 s := by
                      unfold srcErr; repeat' split
                      all_goals omega
                    exact ret1 v0 hb
                  let r2 : Rho := (RO w0 (vb ++ [(iV ((x0 * x1))), (iV (((x0 * x1) - 1)))]) [])
                  refine At.lastsV (ρ1 := r2) f62r2 (@env_ok r2) ⟨enk (kleqf c9), enk (kgeqt c8), enk (kleqt c7), enk (kleqt c6), enk (kgeqt c5), enk (kleqt c4), enk (kgeqt c3), enk K1, enk K0, enk (kneqf c2), enk (kneqt c1), enk (kneqt c0), trivial⟩ trivial trivial trivial f62I2 hat (fun w2 hb => ?_)
                  have v0 : (3 : Int) = srcErr x0 x1 s := by
                    unfold srcErr; repeat' split
                    all_goals omega
                  exact ret1 v0 hb
                let r3 : Rho := (RO w0 (vb ++ [(iV ((x0 * x1))), (iV (((x0 * x1) - 1)))]) [])
                refine At.lastsV (ρ1 := r3) f62r3 (@env_ok r3) ⟨enk (kgeqf c8), enk (kleqt c7), enk (kleqt c6), enk (kgeqt c5), enk (kleqt c4), enk (kgeqt c3), enk K1, enk K0, enk (kneqf c2), enk (kneqt c1), enk (kneqt c0), trivial⟩ trivial trivial trivial f62I2 hat (fun w2 hb => ?_)
                have v0 : (3 : Int) = srcErr x0 x1 s := by
                  unfold srcErr; repeat' split
                  all_goals omega
                exact ret1 v0 hb
              let r4 : Rho := (RO w0 (vb ++ [(iV ((x0 * x1))), (iV (((x0 * x1) - 1)))]) [])
              refine At.lastsV (ρ1 := r4) f62r4 (@env_ok r4) ⟨enk (kleqf c7), enk (kleqt c6), enk (kgeqt c5), enk (kleqt c4), enk (kgeqt c3), enk K1, enk K0, enk (kneqf c2), enk (kneqt c1), enk (kneqt c0), trivial⟩ trivial trivial trivial f62I2 hat (fun w2 hb => ?_)
              have v0 : (3 : Int) = srcErr x0 x1 s := by
                unfold srcErr; repeat' split
                all_goals omega
              exact ret1 v0 hb
            let r5 : Rho := (RO w0 (vb ++ [(iV ((x0 * x1))), (iV (((x0 * x1) - 1)))]) [])
            refine At.lastsV (ρ1 := r5) f62r5 (@env_ok r5) ⟨enk (kleqf c6), enk (kgeqt c5), enk (kleqt c4), enk (kgeqt c3), enk K1, enk K0, enk (kneqf c2), enk (kneqt c1), enk (kneqt c0), trivial⟩ trivial trivial trivial f62I2 hat (fun w2 hb => ?_)
            have v0 : (3 : Int) = srcErr x0 x1 s := by
              unfold srcErr; repeat' split
              all_goals omega
            exact ret1 v0 hb
          let r6 : Rho := (RO w0 (vb ++ [(iV ((x0 * x1))), (iV (((x0 * x1) - 1)))]) [])
          refine At.lastsV (ρ1 := r6) f62r6 (@env_ok r6) ⟨enk (kgeqf c5), enk (kleqt c4), enk (kgeqt c3), enk K1, enk K0, enk (kneqf c2), enk (kneqt c1), enk (kneqt c0), trivial⟩ trivial trivial trivial f62I2 hat (fun w2 hb => ?_)
          have v0 : (3 : Int) = srcErr x0 x1 s := by
            unfold srcErr; repeat' split
            all_goals omega
          exact ret1 v0 hb
        let r7 : Rho := (RO w0 (vb ++ [(iV ((x0 * x1))), (iV (((x0 * x1) - 1)))]) [])
        refine At.lastsV (ρ1 := r7) f62r7 (@env_ok r7) ⟨enk (kleqf c4), enk (kgeqt c3), enk K1, enk K0, enk (kneqf c2), enk (kneqt c1), enk (kneqt c0), trivial⟩ trivial trivial trivial f62I2 hat (fun w2 hb => ?_)
        have v0 : (4 : Int) = srcErr x0 x1 s := by
          unfold srcErr; repeat' split
          all_goals omega
        exact ret1 v0 hb
      let r8 : Rho := (RO w0 (vb ++ [(iV ((x0 * x1))), (iV (((x0 * x1) - 1)))]) [])
      refine At.lastsV (ρ1 := r8) f62r8 (@env_ok r8) ⟨enk (kgeqf c3), enk K1, enk K0, enk (kneqf c2), enk (kneqt c1), enk (kneqt c0), trivial⟩ trivial trivial trivial f62I2 hat (fun w2 hb => ?_)
      have v0 : (4 : Int) = srcErr x0 x1 s := by
        unfold srcErr; repeat' split
        all_goals omega
      exact ret1 v0 hb
    have K2 : KA w0 (.bin .mul 3) [(iV x0), (iV x1)] (iV ((x0 * x1))) := fun w hm => k_mul (wrap64 (by omega))
    have K3 := kSub w0 ((x0 * x1)) (1) (by omega)
    by_cases c10 : s.cell ≥ 0
    · by_cases c11 : s.cell ≤ ((x0 * x1) - 1)
      · by_cases c12 : s.cls ≥ 1
        · by_cases c13 : s.cls ≤ 10
          · by_cases c14 : s.lo ≤ s.hi
            · by_cases c15 : s.lo ≥ 0
              · by_cases c16 : s.hi ≤ 1000000000
                · let r9 : Rho := (RO w0 (vb ++ [(iV ((x0 * x1))), (iV (((x0 * x1) - 1)))]) [])
                  refine At.lastsV (ρ1 := r9) f62r9 (@env_ok r9) ⟨enk (kleqt c16), enk (kgeqt c15), enk (kleqt c14), enk (kleqt c13), enk (kgeqt c12), enk (kleqt c11), enk (kgeqt c10), enk K3, enk K2, enk (kneqf c1), enk (kneqt c0), trivial⟩ trivial trivial trivial f62I2 hat (fun w2 hb => ?_)
                  have v0 : (0 : Int) = srcErr x0 x1 s := by
                    unfold srcErr; repeat' split
                    all_goals omega
                  exact ret1 v0 hb
                let r10 : Rho := (RO w0 (vb ++ [(iV ((x0 * x1))), (iV (((x0 * x1) - 1)))]) [])
                refine At.lastsV (ρ1 := r10) f62r10 (@env_ok r10) ⟨enk (kleqf c16), enk (kgeqt c15), enk (kleqt c14), enk (kleqt c13), enk (kgeqt c12), enk (kleqt c11), enk (kgeqt c10), enk K3, enk K2, enk (kneqf c1), enk (kneqt c0), trivial⟩ trivial trivial trivial f62I2 hat (fun w2 hb => ?_)
                have v0 : (3 : Int) = srcErr x0 x1 s := by
                  unfold srcErr; repeat' split
                  all_goals omega
                exact ret1 v0 hb
              let r11 : Rho := (RO w0 (vb ++ [(iV ((x0 * x1))), (iV (((x0 * x1) - 1)))]) [])
              refine At.lastsV (ρ1 := r11) f62r11 (@env_ok r11) ⟨enk (kgeqf c15), enk (kleqt c14), enk (kleqt c13), enk (kgeqt c12), enk (kleqt c11), enk (kgeqt c10), enk K3, enk K2, enk (kneqf c1), enk (kneqt c0), trivial⟩ trivial trivial trivial f62I2 hat (fun w2 hb => ?_)
              have v0 : (3 : Int) = srcErr x0 x1 s := by
                unfold srcErr; repeat' split
                all_goals omega
              exact ret1 v0 hb
            let r12 : Rho := (RO w0 (vb ++ [(iV ((x0 * x1))), (iV (((x0 * x1) - 1)))]) [])
            refine At.lastsV (ρ1 := r12) f62r12 (@env_ok r12) ⟨enk (kleqf c14), enk (kleqt c13), enk (kgeqt c12), enk (kleqt c11), enk (kgeqt c10), enk K3, enk K2, enk (kneqf c1), enk (kneqt c0), trivial⟩ trivial trivial trivial f62I2 hat (fun w2 hb => ?_)
            have v0 : (3 : Int) = srcErr x0 x1 s := by
              unfold srcErr; repeat' split
              all_goals omega
            exact ret1 v0 hb
          let r13 : Rho := (RO w0 (vb ++ [(iV ((x0 * x1))), (iV (((x0 * x1) - 1)))]) [])
          refine At.lastsV (ρ1 := r13) f62r13 (@env_ok r13) ⟨enk (kleqf c13), enk (kgeqt c12), enk (kleqt c11), enk (kgeqt c10), enk K3, enk K2, enk (kneqf c1), enk (kneqt c0), trivial⟩ trivial trivial trivial f62I2 hat (fun w2 hb => ?_)
          have v0 : (3 : Int) = srcErr x0 x1 s := by
            unfold srcErr; repeat' split
            all_goals omega
          exact ret1 v0 hb
        let r14 : Rho := (RO w0 (vb ++ [(iV ((x0 * x1))), (iV (((x0 * x1) - 1)))]) [])
        refine At.lastsV (ρ1 := r14) f62r14 (@env_ok r14) ⟨enk (kgeqf c12), enk (kleqt c11), enk (kgeqt c10), enk K3, enk K2, enk (kneqf c1), enk (kneqt c0), trivial⟩ trivial trivial trivial f62I2 hat (fun w2 hb => ?_)
        have v0 : (3 : Int) = srcErr x0 x1 s := by
          unfold srcErr; repeat' split
          all_goals omega
        exact ret1 v0 hb
      let r15 : Rho := (RO w0 (vb ++ [(iV ((x0 * x1))), (iV (((x0 * x1) - 1)))]) [])
      refine At.lastsV (ρ1 := r15) f62r15 (@env_ok r15) ⟨enk (kleqf c11), enk (kgeqt c10), enk K3, enk K2, enk (kneqf c1), enk (kneqt c0), trivial⟩ trivial trivial trivial f62I2 hat (fun w2 hb => ?_)
      have v0 : (4 : Int) = srcErr x0 x1 s := by
        unfold srcErr; repeat' split
        all_goals omega
      exact ret1 v0 hb
    let r16 : Rho := (RO w0 (vb ++ [(iV ((x0 * x1))), (iV (((x0 * x1) - 1)))]) [])
    refine At.lastsV (ρ1 := r16) f62r16 (@env_ok r16) ⟨enk (kgeqf c10), enk K3, enk K2, enk (kneqf c1), enk (kneqt c0), trivial⟩ trivial trivial trivial f62I2 hat (fun w2 hb => ?_)
    have v0 : (4 : Int) = srcErr x0 x1 s := by
      unfold srcErr; repeat' split
      all_goals omega
    exact ret1 v0 hb
  have K4 : KA w0 (.bin .mul 3) [(iV x0), (iV x1)] (iV ((x0 * x1))) := fun w hm => k_mul (wrap64 (by omega))
  have K5 := kSub w0 ((x0 * x1)) (1) (by omega)
  by_cases c17 : s.cell ≥ 0
  · by_cases c18 : s.cell ≤ ((x0 * x1) - 1)
    · by_cases c19 : s.cls ≥ 1
      · by_cases c20 : s.cls ≤ 10
        · by_cases c21 : s.lo ≤ s.hi
          · by_cases c22 : s.lo ≥ 0
            · by_cases c23 : s.hi ≤ 1000000000
              · let r17 : Rho := (RO w0 (vb ++ [(iV ((x0 * x1))), (iV (((x0 * x1) - 1)))]) [])
                refine At.lastsV (ρ1 := r17) f62r17 (@env_ok r17) ⟨enk (kleqt c23), enk (kgeqt c22), enk (kleqt c21), enk (kleqt c20), enk (kgeqt c19), enk (kleqt c18), enk (kgeqt c17), enk K5, enk K4, enk (kneqf c0), trivial⟩ trivial trivial trivial f62I2 hat (fun w2 hb => ?_)
                have v0 : (0 : Int) = srcErr x0 x1 s := by
                  unfold srcErr; repeat' split
                  all_goals omega
                exact ret1 v0 hb
              let r18 : Rho := (RO w0 (vb ++ [(iV ((x0 * x1))), (iV (((x0 * x1) - 1)))]) [])
              refine At.lastsV (ρ1 := r18) f62r18 (@env_ok r18) ⟨enk (kleqf c23), enk (kgeqt c22), enk (kleqt c21), enk (kleqt c20), enk (kgeqt c19), enk (kleqt c18), enk (kgeqt c17), enk K5, enk K4, enk (kneqf c0), trivial⟩ trivial trivial trivial f62I2 hat (fun w2 hb => ?_)
              have v0 : (3 : Int) = srcErr x0 x1 s := by
                unfold srcErr; repeat' split
                all_goals omega
              exact ret1 v0 hb
            let r19 : Rho := (RO w0 (vb ++ [(iV ((x0 * x1))), (iV (((x0 * x1) - 1)))]) [])
            refine At.lastsV (ρ1 := r19) f62r19 (@env_ok r19) ⟨enk (kgeqf c22), enk (kleqt c21), enk (kleqt c20), enk (kgeqt c19), enk (kleqt c18), enk (kgeqt c17), enk K5, enk K4, enk (kneqf c0), trivial⟩ trivial trivial trivial f62I2 hat (fun w2 hb => ?_)
            have v0 : (3 : Int) = srcErr x0 x1 s := by
              unfold srcErr; repeat' split
              all_goals omega
            exact ret1 v0 hb
          let r20 : Rho := (RO w0 (vb ++ [(iV ((x0 * x1))), (iV (((x0 * x1) - 1)))]) [])
          refine At.lastsV (ρ1 := r20) f62r20 (@env_ok r20) ⟨enk (kleqf c21), enk (kleqt c20), enk (kgeqt c19), enk (kleqt c18), enk (kgeqt c17), enk K5, enk K4, enk (kneqf c0), trivial⟩ trivial trivial trivial f62I2 hat (fun w2 hb => ?_)
          have v0 : (3 : Int) = srcErr x0 x1 s := by
            unfold srcErr; repeat' split
            all_goals omega
          exact ret1 v0 hb
        let r21 : Rho := (RO w0 (vb ++ [(iV ((x0 * x1))), (iV (((x0 * x1) - 1)))]) [])
        refine At.lastsV (ρ1 := r21) f62r21 (@env_ok r21) ⟨enk (kleqf c20), enk (kgeqt c19), enk (kleqt c18), enk (kgeqt c17), enk K5, enk K4, enk (kneqf c0), trivial⟩ trivial trivial trivial f62I2 hat (fun w2 hb => ?_)
        have v0 : (3 : Int) = srcErr x0 x1 s := by
          unfold srcErr; repeat' split
          all_goals omega
        exact ret1 v0 hb
      let r22 : Rho := (RO w0 (vb ++ [(iV ((x0 * x1))), (iV (((x0 * x1) - 1)))]) [])
      refine At.lastsV (ρ1 := r22) f62r22 (@env_ok r22) ⟨enk (kgeqf c19), enk (kleqt c18), enk (kgeqt c17), enk K5, enk K4, enk (kneqf c0), trivial⟩ trivial trivial trivial f62I2 hat (fun w2 hb => ?_)
      have v0 : (3 : Int) = srcErr x0 x1 s := by
        unfold srcErr; repeat' split
        all_goals omega
      exact ret1 v0 hb
    let r23 : Rho := (RO w0 (vb ++ [(iV ((x0 * x1))), (iV (((x0 * x1) - 1)))]) [])
    refine At.lastsV (ρ1 := r23) f62r23 (@env_ok r23) ⟨enk (kleqf c18), enk (kgeqt c17), enk K5, enk K4, enk (kneqf c0), trivial⟩ trivial trivial trivial f62I2 hat (fun w2 hb => ?_)
    have v0 : (4 : Int) = srcErr x0 x1 s := by
      unfold srcErr; repeat' split
      all_goals omega
    exact ret1 v0 hb
  let r24 : Rho := (RO w0 (vb ++ [(iV ((x0 * x1))), (iV (((x0 * x1) - 1)))]) [])
  refine At.lastsV (ρ1 := r24) f62r24 (@env_ok r24) ⟨enk (kgeqf c17), enk K5, enk K4, enk (kneqf c0), trivial⟩ trivial trivial trivial f62I2 hat (fun w2 hb => ?_)
  have v0 : (4 : Int) = srcErr x0 x1 s := by
    unfold srcErr; repeat' split
    all_goals omega
  exact ret1 v0 hb
end
end Go.Proofs.Ytoaehigmpbhppaa.En
namespace Go.Proofs.Ytoaehigmpbhppaa.En
open Go Go.Ev Go.Proofs Go.RowKit
set_option maxRecDepth 1000000
noncomputable section
def f24b0 : Code := (Try.f24.body).getD .skip
def f24F0 : Fr := mkFr Try.f24 [(0, (ag 0 8)), (1, (sy 8))] []
def f24S1 : St := mkSt 0 []
theorem f24I2 : IdOk 9 0 0 f24F0 f24S1 := ⟨mkSt_wf rfl, by kernel_rfl⟩
def f24F3 : Fr := mkFr Try.f24 [(1, (sy 8)), (2, (pt 0 0)), (4, (iV 0))] []
def f24S4 : St := mkSt 1 [(0, (.cells (ids 8) 25 .none .false))]
theorem f24I5 : IdOk 9 1 0 f24F3 f24S4 := ⟨mkSt_wf rfl, by kernel_rfl⟩
theorem f24f18 : FnIn env 18 := ⟨Try.f18, (Try.f18.body).getD .skip, by kernel_rfl, by kernel_rfl⟩
def f24n6 : List CEnt := ⟨18, [(ag 0 8)], [], (sy 9)⟩ :: []
def f24n7 : List Ent := ⟨(.bin .neq 27), [(sy 9), (iV 0)], (.bool true)⟩ :: []
def f24n8 : List Ent := ⟨(.bin .neq 27), [(sy 9), (iV 0)], (.bool false)⟩ :: []
def f24n9 : List Ent := cB .gtr (sy 9) (iV 256) true :: ⟨(.bi 0 [38]), [(sy 8)], (sy 9)⟩ :: []
def f24n10 : List Ent := cB .gtr (sy 9) (iV 256) false :: ⟨(.bi 0 [38]), [(sy 8)], (sy 9)⟩ :: []
def f24n11 : List Ent := ⟨(.bi 0 [38]), [(sy 8)], (sy 9)⟩ :: []
def f24F12 : Fr := mkFr Try.f24 [(2, (pt 0 0)), (4, (iV 0)), (17, (sy 8)), (18, (sy 9)), (19, (iV 0))] []
theorem f24I13 : IdOk 10 1 0 f24F12 f24S4 := ⟨mkSt_wf rfl, by kernel_rfl⟩
theorem f24f62 : FnIn env 62 := ⟨Try.f62, (Try.f62.body).getD .skip, by kernel_rfl, by kernel_rfl⟩
def f24n19 : List Ent := ⟨(.load 54), [(sy 11)], (ag 12 5)⟩ :: ⟨(.indexAddr 38), [(sy 8), (sy 10)], (sy 11)⟩ :: cB .lss (sy 10) (sy 9) true :: []
def f24n20 : List CEnt := ⟨62, [(ag 0 8), (ag 12 5)], [], (sy 17)⟩ :: []
def f24n21 : List Ent := ⟨(.bin .neq 27), [(sy 17), (iV 0)], (.bool true)⟩ :: f24n19
def f24n22 : List Ent := aB .add (sy 10) (iV 1) (sy 18) :: ⟨(.bin .neq 27), [(sy 17), (iV 0)], (.bool false)⟩ :: f24n19
def f24n23 : List Ent := cB .lss (sy 10) (sy 9) false :: []
def f24F24 : Fr := mkFr Try.f24 [(2, (pt 0 0)), (4, (iV 0)), (17, (sy 8)), (18, (sy 9)), (19, (sy 10))] []
theorem f24I25 : IdOk 11 1 0 f24F24 f24S4 := ⟨mkSt_wf rfl, by kernel_rfl⟩
def f24F26 : Fr := mkFr Try.f24 [(4, (iV 0))] []
theorem f24I27 : IdOk 9 0 0 f24F26 f24S1 := ⟨mkSt_wf rfl, by kernel_rfl⟩
theorem f24a0 : agreeL (ids 9) [] [] f24F0 f24S1 (frameOf Try.f24 [(ag 0 8), (sy 8)]) Ev.start = true := by kernel_rfl
def f24b1 : Code := headC f24b0
def f24b2 : Code := tailC f24b0
theorem f24q0 : f24b0 = .seq f24b1 f24b2 := by kernel_rfl
theorem f24r0 : gE [] [] [] [] f24b1 f24F0 f24S1 .normal (ids 9) [0] [] f24F3 f24S4 = some () := by kernel_rfl
def f24b3 : Code := headC f24b2
def f24b4 : Code := tailC f24b2
theorem f24q1 : f24b2 = .seq f24b3 f24b4 := by kernel_rfl
theorem f24r1 : rE f24n7 f24n6 [] [] f24b3 f24F3 f24S4 Try.f24 (endV (sy 9)) = some () := by kernel_rfl
theorem f24r2 : gE f24n8 f24n6 [] [] f24b3 f24F3 f24S4 .normal (ids 9) [0] [] f24F3 f24S4 = some () := by kernel_rfl
def f24b5 : Code := headC f24b4
def f24b6 : Code := tailC f24b4
theorem f24q2 : f24b4 = .seq f24b5 f24b6 := by kernel_rfl
theorem f24r3 : rE f24n9 [] [] [] f24b5 f24F3 f24S4 Try.f24 (endV (iV 9)) = some () := by kernel_rfl
theorem f24r4 : gE f24n10 [] [] [] f24b5 f24F3 f24S4 .normal (ids 9) [0] [] f24F3 f24S4 = some () := by kernel_rfl
def f24b7 : Code := headC f24b6
def f24b8 : Code := tailC f24b6
theorem f24q3 : f24b6 = .seq f24b7 f24b8 := by kernel_rfl
def f24b9 : Code := headC f24b7
def f24b10 : Code := tailC f24b7
theorem f24q4 : f24b7 = .seq f24b9 f24b10 := by kernel_rfl
theorem f24r5 : gE f24n11 [] [] [] f24b9 f24F3 f24S4 .normal (ids 10) [0] [] f24F12 f24S4 = some () := by kernel_rfl
def f24b11 : Code := inBlockC f24b10
theorem f24q5 : f24b10 = .block 0 f24b11 := by kernel_rfl
def f24b12 : Code := inLoopC f24b11
theorem f24q6 : f24b11 = .loop f24b12 := by kernel_rfl
theorem f24h7 : agreeL (ids 10 ++ [(iV 0)]) [0] [] f24F24 f24S4 f24F12 f24S4 = true := by kernel_rfl
theorem f24r6 : rE f24n21 f24n20 [] [] f24b12 f24F24 f24S4 Try.f24 (endV (sy 17)) = some () := by kernel_rfl
theorem f24r7 : gE f24n22 f24n20 [] [] f24b12 f24F24 f24S4 .normal (pk 10 [18]) [0] [] f24F24 f24S4 = some () := by kernel_rfl
theorem f24r8 : gE f24n23 [] [] [] f24b12 f24F24 f24S4 (.exit 0) (ids 9) [] [] f24F26 f24S1 = some () := by kernel_rfl
theorem f24r9 : lE [] [] [] [] f24b8 f24F26 f24S1 Try.f24 (endV (iV 0)) = some () := by kernel_rfl
set_option maxHeartbeats 8000000 in
theorem checkSources_any (x0 : Int) (x1 : Int) (x2 : Int) (x3 : Int) (x4 : Int) (x5 : Int) (x6 : Int) (x7 : Int) (al : Option Addr) (l : List Src) (ql : Nat) (w0 : World) {tl : TypeId} (Hl : Lies w0 tl (flat srcC l) al l.length) (hn : l.length < 1000000) : Calls Try.prog 24 #[(mV x0 x1 x2 x3 x4 x5 x6 x7), (.slice al l.length ql)] w0 (fun en w' => en = .returned (iV (if ¬ qcheck0 x0 x1 x2 x3 x4 x5 x6 x7 = 0 then qcheck0 x0 x1 x2 x3 x4 x5 x6 x7 else srcsErr x0 x1 l)) ∧ Below w0.heap.size w0 w') := by
  let vb : List Value := [(iV x0), (iV x1), (iV x2), (iV x3), (iV x4), (iV x5), (iV x6), (iV x7), (.slice al l.length ql)]
  let p0 : Rho := (RO w0 vb [])
  refine At.begin (ρ := p0) (c := f24b0) (@env_ok p0) f24I2 f24a0 (fun a w hat => ?_)
  refine g_seq f24q0 ?_
  let p1 : Rho := (RO w0 vb [])
  refine At.go (ρ1 := p0) (ρ2 := p1) f24r0 (@env_ok p0) trivial trivial trivial trivial f24I2 f24I5 hat (fun a w hat => .inl ⟨rfl, ?_⟩)
  refine g_seq f24q1 ?_
  have K0 : CA w0 18 #[(mV x0 x1 x2 x3 x4 x5 x6 x7)] (iV ((qcheck0 x0 x1 x2 x3 x4 x5 x6 x7))) := fun w hm => qcheck_any x0 x1 x2 x3 x4 x5 x6 x7 w  
  by_cases c0 : (qcheck0 x0 x1 x2 x3 x4 x5 x6 x7) ≠ 0
  · have K1 : KA w0 (.bin .neq 27) [(iV ((qcheck0 x0 x1 x2 x3 x4 x5 x6 x7))), (iV 0)] (.bool true) := fun w hm => k_neq_t c0
    let r1 : Rho := (RO w0 (vb ++ [(iV ((qcheck0 x0 x1 x2 x3 x4 x5 x6 x7)))]) [])
    refine At.retsV (ρ1 := r1) f24r1 (@env_ok r1) ⟨enk K1, trivial⟩ ⟨cok K0 f24f18, trivial⟩ trivial trivial f24I5 hat (fun a w h => .inr ⟨(fun q => nomatch q), h⟩) (fun w2 hb => ?_)
    have v0 : ((qcheck0 x0 x1 x2 x3 x4 x5 x6 x7) : Int) = (if ¬ qcheck0 x0 x1 x2 x3 x4 x5 x6 x7 = 0 then qcheck0 x0 x1 x2 x3 x4 x5 x6 x7 else srcsErr x0 x1 l) := by
      first | (rw [if_pos (by omega)]; done) | (rw [if_neg (by omega)]; unfold srcsErr; rw [if_pos (by omega)]; done) | (rw [if_neg (by omega)]; unfold srcsErr; rw [if_neg (by omega)]; first | (rw [firstErr_at (srcErr x0 x1) srcD l i.toNat (by omega) (fun k hk => i2 k (by omega)) (by simp_all)]; simp_all; done) | (rw [firstErr_all (srcErr x0 x1) srcD l (fun k hk => i2 k (by omega))]))
    exact ret1 v0 hb
  have K2 : KA w0 (.bin .neq 27) [(iV ((qcheck0 x0 x1 x2 x3 x4 x5 x6 x7))), (iV 0)] (.bool false) := fun w hm => k_neq_f c0
  have hv := qcheck_ok (x0 := x0) (x1 := x1) (x2 := x2) (x3 := x3) (x4 := x4) (x5 := x5) (x6 := x6) (x7 := x7) (by omega)
  let r2 : Rho := (RO w0 (vb ++ [(iV ((qcheck0 x0 x1 x2 x3 x4 x5 x6 x7)))]) [])
  let p2 : Rho := (RO w0 vb [])
  refine At.go (ρ1 := r2) (ρ2 := p2) f24r2 (@env_ok r2) ⟨enk K2, trivial⟩ ⟨cok K0 f24f18, trivial⟩ trivial trivial f24I5 f24I5 hat (fun a w hat => .inl ⟨rfl, ?_⟩)
  refine g_seq f24q2 ?_
  have K3 : KA w0 (.bi 0 [38]) [(.slice al l.length ql)] (iV (((l.length : Nat) : Int))) := fun w hm => k_len Try.underlying38
  by_cases c1 : ((l.length : Nat) : Int) > 256
  · let r3 : Rho := (RO w0 (vb ++ [(iV (((l.length : Nat) : Int)))]) [])
    refine At.retsV (ρ1 := r3) f24r3 (@env_ok r3) ⟨enk (kgtrt c1), enk K3, trivial⟩ trivial trivial trivial f24I5 hat (fun a w h => .inr ⟨(fun q => nomatch q), h⟩) (fun w2 hb => ?_)
    have v0 : (9 : Int) = (if ¬ qcheck0 x0 x1 x2 x3 x4 x5 x6 x7 = 0 then qcheck0 x0 x1 x2 x3 x4 x5 x6 x7 else srcsErr x0 x1 l) := by
      first | (rw [if_pos (by omega)]; done) | (rw [if_neg (by omega)]; unfold srcsErr; rw [if_pos (by omega)]; done) | (rw [if_neg (by omega)]; unfold srcsErr; rw [if_neg (by omega)]; first | (rw [firstErr_at (srcErr x0 x1) srcD l i.toNat (by omega) (fun k hk => i2 k (by omega)) (by simp_all)]; simp_all; done) | (rw [firstErr_all (srcErr x0 x1) srcD l (fun k hk => i2 k (by omega))]))
    exact ret1 v0 hb
  let r4 : Rho := (RO w0 (vb ++ [(iV (((l.length : Nat) : Int)))]) [])
  let p3 : Rho := (RO w0 vb [])
  refine At.go (ρ1 := r4) (ρ2 := p3) f24r4 (@env_ok r4) ⟨enk (kgtrf c1), enk K3, trivial⟩ trivial trivial trivial f24I5 f24I5 hat (fun a w hat => .inl ⟨rfl, ?_⟩)
  refine g_seq f24q3 ?_
  refine g_seq f24q4 ?_
  have K4 : KA w0 (.bi 0 [38]) [(.slice al l.length ql)] (iV (((l.length : Nat) : Int))) := fun w hm => k_len Try.underlying38
  let r5 : Rho := (RO w0 (vb ++ [(iV (((l.length : Nat) : Int)))]) [])
  let d4 : List Value := (vb ++ [(iV (((l.length : Nat) : Int)))])
  let p4 : Rho := RO w0 d4 []
  refine At.go (ρ1 := r5) (ρ2 := p4) f24r5 (@env_ok r5) ⟨enk K4, trivial⟩ trivial trivial trivial f24I5 f24I13 hat (fun a w hat => .inl ⟨rfl, ?_⟩)
  refine g_block f24q5 ?_
  have hat0 := At.shiftL (ρ1 := p4) (ρ2 := (RO w0 (vb ++ [(iV (((l.length : Nat) : Int))), (iV ((0 : Int)))]) [])) (σ := (ids 10 ++ [(iV 0)])) (π := [0]) (τ := []) ⟨rfl, rfl, rfl, rfl, rfl, rfl, rfl, rfl, rfl, rfl, rfl, rfl, rfl, rfl, rfl, rfl, rfl, rfl, rfl, rfl, rfl, rfl, trivial⟩ trivial (fun _ _ h => h) f24I25.1 f24h7 hat
  clear hat
  refine g_loop (fun (x : Int) a w => (0 ≤ (x : Int) ∧ (x : Int) ≤ l.length ∧ (∀ k : Nat, (k : Int) < (x : Int) → srcErr x0 x1 (l.getD k srcD) = 0)) ∧ @At (RO w0 (vb ++ [(iV (((l.length : Nat) : Int))), (iV ((x : Int)))]) []) w0 f24F24 f24S4 a w) (fun x => (l.length - (x : Int)).toNat) f24q6 ?_ (0) ⟨?_, hat0⟩
  · clear hat0
    rintro i a w ⟨hinv, hat⟩
    change 0 ≤ i ∧ i ≤ l.length ∧ (∀ k : Nat, (k : Int) < i → srcErr x0 x1 (l.getD k srcD) = 0) at hinv
    let d5 : List Value := (vb ++ [(iV (((l.length : Nat) : Int))), (iV i)])
    let p5 : Rho := RO w0 d5 []
    change @At p5 w0 f24F24 f24S4 a w at hat
    obtain ⟨i0, i1, i2⟩ := hinv
    by_cases c2 : i < ((l.length : Nat) : Int)
    · have K16 : KA w0 (.indexAddr 38) [(.slice al l.length ql), (iV i)] (.pointer (ptrO al ((i).toNat * 5))) := fun w hm => l_index (Hl.keep hm) Try.underlying38 (by kernel_rfl) (by omega) (by omega)
      obtain ⟨z3, hz3⟩ : ∃ z : Src, z = l.getD (i).toNat srcD := ⟨_, rfl⟩
      have K17 : KA w0 (.load 54) [(.pointer (ptrO al ((i).toNat * 5)))] (.agg #[(iV z3.kind), (iV z3.cell), (iV z3.cls), (iV z3.lo), (iV z3.hi)]) := fun w hm => l_loadS (Hl.keep hm) (by omega) Try.underlying54 rfl (l := [(iV z3.kind), (iV z3.cell), (iV z3.cls), (iV z3.lo), (iV z3.hi)]) (by kernel_rfl) (flat_getz (c := srcC) (sz := 5) (fun _ => rfl) hz3 (by omega))
      have K18 : CA w0 62 #[(mV x0 x1 x2 x3 x4 x5 x6 x7), (.agg #[(iV z3.kind), (iV z3.cell), (iV z3.cls), (iV z3.lo), (iV z3.hi)])] (iV ((srcErr x0 x1 z3))) := fun w hm => checkSource_any x0 x1 x2 x3 x4 x5 x6 x7 z3 w  (by omega) (by omega)
      by_cases c4 : (srcErr x0 x1 z3) ≠ 0
      · have K19 : KA w0 (.bin .neq 27) [(iV ((srcErr x0 x1 z3))), (iV 0)] (.bool true) := fun w hm => k_neq_t c4
        let r6 : Rho := (RO w0 (d5 ++ [(.pointer (ptrO al ((i).toNat * 5))), (iV z3.kind), (iV z3.cell), (iV z3.cls), (iV z3.lo), (iV z3.hi), (iV ((srcErr x0 x1 z3)))]) [])
        refine At.retsV (ρ1 := r6) f24r6 (@env_ok r6) ⟨enk K19, enk K17, enk K16, enk (klsst c2), trivial⟩ ⟨cok K18 f24f62, trivial⟩ trivial trivial f24I25 hat (fun a w h => .inr ⟨.inr rfl, .inr ⟨(fun q => nomatch q), .inr ⟨(fun q => nomatch q), h⟩⟩⟩) (fun w2 hb => ?_)
        have v0 : ((srcErr x0 x1 z3) : Int) = (if ¬ qcheck0 x0 x1 x2 x3 x4 x5 x6 x7 = 0 then qcheck0 x0 x1 x2 x3 x4 x5 x6 x7 else srcsErr x0 x1 l) := by
          first | (rw [if_pos (by omega)]; done) | (rw [if_neg (by omega)]; unfold srcsErr; rw [if_pos (by omega)]; done) | (rw [if_neg (by omega)]; unfold srcsErr; rw [if_neg (by omega)]; first | (rw [firstErr_at (srcErr x0 x1) srcD l i.toNat (by omega) (fun k hk => i2 k (by omega)) (by simp_all)]; simp_all; done) | (rw [firstErr_all (srcErr x0 x1) srcD l (fun k hk => i2 k (by omega))]))
        exact ret1 v0 hb
      have K20 : KA w0 (.bin .neq 27) [(iV ((srcErr x0 x1 z3))), (iV 0)] (.bool false) := fun w hm => k_neq_f c4
      have K21 := kAdd w0 (i) (1) (by omega)
      let r7 : Rho := (RO w0 (d5 ++ [(.pointer (ptrO al ((i).toNat * 5))), (iV z3.kind), (iV z3.cell), (iV z3.cls), (iV z3.lo), (iV z3.hi), (iV ((srcErr x0 x1 z3))), (iV ((i + 1)))]) [])
      refine At.goS (ρ1 := r7) (ρ2 := (RO w0 (vb ++ [(iV (((l.length : Nat) : Int))), (iV (((i + 1) : Int)))]) [])) f24r7 (@env_ok r7) ⟨enk K21, enk K20, enk K17, enk K16, enk (klsst c2), trivial⟩ ⟨cok K18 f24f62, trivial⟩ trivial trivial f24I25 f24I25 hat (SubOk.om rfl rfl) (LsubOk.om rfl) (fun a w hat => .inl ⟨rfl, ⟨((i + 1)), ?_, ?_, hat⟩⟩)
      · show (l.length - ((i + 1) : Int)).toNat < (l.length - i).toNat
        omega
      show 0 ≤ ((i + 1) : Int) ∧ ((i + 1) : Int) ≤ l.length ∧ (∀ k : Nat, (k : Int) < ((i + 1) : Int) → srcErr x0 x1 (l.getD k srcD) = 0)
      refine ⟨by omega, by omega, fun k hk => ?_⟩
      rcases Int.lt_or_le (k : Int) i with q | q
      · exact i2 k q
      · have e : k = i.toNat := (by omega)
        subst e; simp_all
    let p6 : Rho := (RO w0 vb [])
    refine At.go (ρ1 := p5) (ρ2 := p6) f24r8 (@env_ok p5) ⟨enk (klssf c2), trivial⟩ trivial trivial trivial f24I25 f24I27 hat (fun a w hat => .inr ⟨.inl ⟨0, rfl⟩, .inl ⟨rfl, .inl ⟨rfl, ?_⟩⟩⟩)
    refine At.lastsV (ρ1 := p6) f24r9 (@env_ok p6) trivial trivial trivial trivial f24I27 hat (fun w2 hb => ?_)
    have v0 : (0 : Int) = (if ¬ qcheck0 x0 x1 x2 x3 x4 x5 x6 x7 = 0 then qcheck0 x0 x1 x2 x3 x4 x5 x6 x7 else srcsErr x0 x1 l) := by
      first | (rw [if_pos (by omega)]; done) | (rw [if_neg (by omega)]; unfold srcsErr; rw [if_pos (by omega)]; done) | (rw [if_neg (by omega)]; unfold srcsErr; rw [if_neg (by omega)]; first | (rw [firstErr_at (srcErr x0 x1) srcD l i.toNat (by omega) (fun k hk => i2 k (by omega)) (by simp_all)]; simp_all; done) | (rw [firstErr_all (srcErr x0 x1) srcD l (fun k hk => i2 k (by omega))]))
    exact ret1 v0 hb
  · show 0 ≤ (0 : Int) ∧ (0 : Int) ≤ l.length ∧ (∀ k : Nat, (k : Int) < (0 : Int) → srcErr x0 x1 (l.getD k srcD) = 0)
    exact ⟨by omega, by omega, fun k hk => by omega⟩
end
end Go.Proofs.Ytoaehigmpbhppaa.En

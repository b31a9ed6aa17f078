/-
  Roots, rounded down and up.
-/
import Derived.Test.YtoaehigmpbhppaaQA
set_option linter.unusedSimpArgs false
set_option linter.unusedVariables false
namespace Go.Proofs.Ytoaehigmpbhppaa.En
open Go Go.Ev Go.Proofs Go.RowKit

theorem rootD_ex {n : Int} (h0 : 0 ≤ n) (h1 : n ≤ 1000000000000) : ∃ r, 0 ≤ r ∧ r * r ≤ n ∧ n < (r + 1) * (r + 1) ∧ r < 1048576 := by
  have key : ∀ k : Nat, n < (k : Int) * (k : Int) → k ≤ 1048576 → ∃ r, 0 ≤ r ∧ r * r ≤ n ∧ n < (r + 1) * (r + 1) ∧ r < 1048576 := by
    intro k
    induction k with
    | zero => intro h; simp at h; omega
    | succ k ih =>
      intro h hk
      by_cases q : n < (k : Int) * (k : Int)
      · exact ih q (by omega)
      · exact ⟨k, by omega, by omega, by simpa using h, by omega⟩
  exact key 1048576 (by simp; omega) (by omega)
theorem rootD_bd {n : Int} (h0 : 0 ≤ n) (h1 : n ≤ 1000000000000) : 0 ≤ rootD n ∧ rootD n < 1048576 := by
  obtain ⟨r, q1, q2, q3, q4⟩ := rootD_ex h0 h1
  rw [rootD_eq q1 q2 q3]
  exact ⟨q1, q4⟩
noncomputable def rootDown_e0 : List Ent := [⟨(.bin .sub 3), [(sy 1), (.int .i64 1)], (sy 2)⟩]
noncomputable def rootDown_c0 : List CEnt := [⟨95, [(.int .i64 1048576), (.func (.func 96) #[] #[(.pointer (.some (.mk 0 0 .none)))])], [(0, (.cells [(sy 0)] 3 .none false))], (sy 1)⟩]
set_option maxRecDepth 1000000 in
theorem rootDown_r0 : ev Try.prog (env.sym rootDown_e0 rootDown_c0) 3000 (.call 81 [(sy 0)] Ev.start fun v _ => some v) = some (sy 2) := by kernel_rfl
set_option maxHeartbeats 8000000 in
set_option maxRecDepth 100000 in
theorem rootDown_any (n : Int) (h0 : 0 ≤ n) (h1 : n ≤ 1000000000000) (w : World)  : Calls Try.prog 81 #[(.int .i64 (n))] w (fun en w' => en = .returned (.int .i64 (rootD n)) ∧ Below w.heap.size w w') := by
  have q := @calls_sym (Rho.of [(.int .i64 (n)), (.int .i64 ((rootD n + 1))), (.int .i64 (((rootD n + 1) - 1)))] (fun _ => none)) Try.prog _ (@Env.Ok.sym (Rho.of [(.int .i64 (n)), (.int .i64 ((rootD n + 1))), (.int .i64 (((rootD n + 1) - 1)))] (fun _ => none)) _ _ (@env_ok (Rho.of [(.int .i64 (n)), (.int .i64 ((rootD n + 1))), (.int .i64 (((rootD n + 1) - 1)))] (fun _ => none))) rootDown_e0 rootDown_c0 ⟨⟨rfl, rfl, fun w hm => (show KeyOk Try.prog w (.bin .sub 3) [(.int .i64 ((rootD n + 1))), (.int .i64 1)] (.int .i64 (((rootD n + 1) - 1))) from k_sub (wrap64 (by have := rootD_bd h0 h1; omega)))⟩, trivial⟩ ⟨@cent_box (Rho.of [(.int .i64 (n)), (.int .i64 ((rootD n + 1))), (.int .i64 (((rootD n + 1) - 1)))] (fun _ => none)) _ _ _ _ _ _ _ _ _ _ _ _ rfl ⟨Try.f95, (Try.f95.body).getD .skip, by kernel_rfl, by kernel_rfl⟩ rfl (fun B o arr w hB hv => srchDown_any B o arr _ n hv h0 h1 w hB), trivial⟩) 3000 81 [(sy 0)] (sy 2) rfl rfl rootDown_r0 w (fun _ _ h => nomatch h)
  have v0 : (((rootD n + 1) - 1) : Int) = rootD n := by
    omega
  have hv : ((.int .i64 (((rootD n + 1) - 1))) : Value) = (.int .i64 (rootD n)) := by rw [v0]
  rw [← hv]
  exact q

noncomputable def rootUp_e0 : List Ent := []
noncomputable def rootUp_c0 : List CEnt := [⟨95, [(.int .i64 1048576), (.func (.func 97) #[] #[(.pointer (.some (.mk 0 0 .none)))])], [(0, (.cells [(sy 0)] 3 .none false))], (sy 1)⟩]
set_option maxRecDepth 1000000 in
theorem rootUp_r0 : ev Try.prog (env.sym rootUp_e0 rootUp_c0) 3000 (.call 82 [(sy 0)] Ev.start fun v _ => some v) = some (sy 1) := by kernel_rfl
set_option maxHeartbeats 8000000 in
set_option maxRecDepth 100000 in
theorem rootUp_any (n : Int) (h0 : 0 ≤ n) (h1 : n ≤ 1000000000000) (w : World)  : Calls Try.prog 82 #[(.int .i64 (n))] w (fun en w' => en = .returned (.int .i64 (rootU n)) ∧ Below w.heap.size w w') := by
  have q := @calls_sym (Rho.of [(.int .i64 (n)), (.int .i64 ((rootU n)))] (fun _ => none)) Try.prog _ (@Env.Ok.sym (Rho.of [(.int .i64 (n)), (.int .i64 ((rootU n)))] (fun _ => none)) _ _ (@env_ok (Rho.of [(.int .i64 (n)), (.int .i64 ((rootU n)))] (fun _ => none))) rootUp_e0 rootUp_c0 trivial ⟨@cent_box (Rho.of [(.int .i64 (n)), (.int .i64 ((rootU n)))] (fun _ => none)) _ _ _ _ _ _ _ _ _ _ _ _ rfl ⟨Try.f95, (Try.f95.body).getD .skip, by kernel_rfl, by kernel_rfl⟩ rfl (fun B o arr w hB hv => srchUp_any B o arr _ n hv h0 h1 w hB), trivial⟩) 3000 82 [(sy 0)] (sy 1) rfl rfl rootUp_r0 w (fun _ _ h => nomatch h)
  have v0 : ((rootU n) : Int) = rootU n := by
    omega
  have hv : ((.int .i64 ((rootU n))) : Value) = (.int .i64 (rootU n)) := by rw [v0]
  rw [← hv]
  exact q
end Go.Proofs.Ytoaehigmpbhppaa.En

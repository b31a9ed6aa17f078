/-
  Searching: what sort.Search returns for the conditions of roots.
-/
import Derived.Test.YtoaehigmpbhppaaEwD
import Derived.Test.YtoaehigmpbhppaaEn
set_option linter.unusedSimpArgs false
set_option linter.unusedVariables false
namespace Go.Proofs.Ytoaehigmpbhppaa.En
open Go Go.Ev Go.Proofs Go.RowKit
theorem sq20 {x : Int} (h : 0 ≤ x) (h2 : x ≤ 1048576) : 0 ≤ x * x ∧ x * x ≤ 1099511627776 := ⟨Int.mul_nonneg h h, by have := Int.mul_le_mul h2 h2 h (by decide : (0 : Int) ≤ 1048576); omega⟩
theorem sq_lt {a b : Int} (h : 0 ≤ a) (h2 : a < b) : a * a < b * b := by
  have h1 : a * a ≤ a * b := Int.mul_le_mul_of_nonneg_left (by omega) h
  have h3 : a * b < b * b := Int.mul_lt_mul_of_pos_right h2 (by omega)
  omega
theorem sq_le {a b : Int} (h : 0 ≤ a) (h2 : a ≤ b) : a * a ≤ b * b := Int.mul_le_mul h2 h2 h (by omega)
/-- The root, rounded down. -/
noncomputable def rootD (n : Int) : Int := Classical.epsilon fun r => 0 ≤ r ∧ r * r ≤ n ∧ n < (r + 1) * (r + 1)
/-- The root, rounded up. -/
noncomputable def rootU (n : Int) : Int := Classical.epsilon fun r => 0 ≤ r ∧ n ≤ r * r ∧ (0 < r → (r - 1) * (r - 1) < n)
theorem rootD_eq {n r : Int} (h0 : 0 ≤ r) (h1 : r * r ≤ n) (h2 : n < (r + 1) * (r + 1)) : rootD n = r := by
  have hs := Classical.epsilon_spec (p := fun r : Int => 0 ≤ r ∧ r * r ≤ n ∧ n < (r + 1) * (r + 1)) ⟨r, h0, h1, h2⟩
  obtain ⟨q0, q1, q2⟩ := hs
  show Classical.epsilon _ = r
  generalize (Classical.epsilon fun r : Int => 0 ≤ r ∧ r * r ≤ n ∧ n < (r + 1) * (r + 1)) = x at *
  rcases Int.lt_trichotomy x r with h | h | h
  · have := sq_le (a := x + 1) (b := r) (by omega) (by omega); omega
  · exact h
  · have := sq_le (a := r + 1) (b := x) (by omega) (by omega); omega
theorem rootU_eq {n r : Int} (h0 : 0 ≤ r) (h1 : n ≤ r * r) (h2 : 0 < r → (r - 1) * (r - 1) < n) : rootU n = r := by
  have hs := Classical.epsilon_spec (p := fun r : Int => 0 ≤ r ∧ n ≤ r * r ∧ (0 < r → (r - 1) * (r - 1) < n)) ⟨r, h0, h1, h2⟩
  obtain ⟨q0, q1, q2⟩ := hs
  show Classical.epsilon _ = r
  generalize (Classical.epsilon fun r : Int => 0 ≤ r ∧ n ≤ r * r ∧ (0 < r → (r - 1) * (r - 1) < n)) = x at *
  rcases Int.lt_trichotomy x r with h | h | h
  · have := sq_le (a := x) (b := r - 1) q0 (by omega); have := h2 (by omega); omega
  · exact h
  · have := sq_le (a := r) (b := x - 1) h0 (by omega); have := q2 (by omega); omega
noncomputable def srchDownL_fr : Fr := mkFr Try.f95 [(1, (.func (.func 96) #[] #[(.chan (.some 0))])), (5, (.chan (.some 2))), (6, (.chan (.some 1)))] []
noncomputable def srchDownL_st : St := mkSt 0 []
theorem srchDownL_wf : srchDownL_st.Wf := mkSt_wf rfl

def srchDownL_inv (B : Nat) (o : Nat) (arr : Array Value) (t0 : TypeId) (n : Int) (x : Int × Int) : Prop := 0 ≤ x.2 ∧ x.2 ≤ x.1 ∧ x.1 ≤ 1048576 ∧ (0 < x.2 → (x.2 - 1) * (x.2 - 1) ≤ n) ∧ (x.1 < 1048576 → n < x.1 * x.1)

set_option maxRecDepth 1000000 in
theorem srchDownL_id : agree [sy 0, sy 1, sy 2] [] srchDownL_fr srchDownL_st srchDownL_fr srchDownL_st = true := by kernel_rfl

noncomputable def srchDown_e0 : List Ent := [⟨(.bin .lss 3), [(sy 2), (sy 1)], (.bool true)⟩, ⟨(.bin .add 3), [(sy 2), (sy 1)], (sy 3)⟩, ⟨(.conv 3 151), [(sy 3)], (sy 4)⟩, ⟨(.bin .shr 151), [(sy 4), (.int .u64 1)], (sy 5)⟩, ⟨(.conv 151 3), [(sy 5)], (sy 6)⟩, ⟨(.bin .mul 3), [(sy 6), (sy 6)], (sy 7)⟩, ⟨(.load 3), [(sy 0)], (sy 8)⟩, ⟨(.bin .gtr 3), [(sy 7), (sy 8)], (.bool true)⟩]
noncomputable def srchDown_c0 : List CEnt := []

set_option maxRecDepth 1000000 in
theorem srchDownL_r0 : ev Try.prog (env.sym srchDown_e0 srchDown_c0) 3000 (.code (inLoopC (inBlockC (headC (dropC 2 ((Try.f95.body).getD .skip))))) none srchDownL_fr srchDownL_st (stop .normal [(sy 0), (sy 6), (sy 2)] [] srchDownL_fr srchDownL_st)) = some () := by kernel_rfl

noncomputable def srchDown_e1 : List Ent := [⟨(.bin .lss 3), [(sy 2), (sy 1)], (.bool true)⟩, ⟨(.bin .add 3), [(sy 2), (sy 1)], (sy 3)⟩, ⟨(.conv 3 151), [(sy 3)], (sy 4)⟩, ⟨(.bin .shr 151), [(sy 4), (.int .u64 1)], (sy 5)⟩, ⟨(.conv 151 3), [(sy 5)], (sy 6)⟩, ⟨(.bin .mul 3), [(sy 6), (sy 6)], (sy 7)⟩, ⟨(.load 3), [(sy 0)], (sy 8)⟩, ⟨(.bin .gtr 3), [(sy 7), (sy 8)], (.bool false)⟩, ⟨(.bin .add 3), [(sy 6), (.int .i64 1)], (sy 9)⟩]
noncomputable def srchDown_c1 : List CEnt := []

set_option maxRecDepth 1000000 in
theorem srchDownL_r1 : ev Try.prog (env.sym srchDown_e1 srchDown_c1) 3000 (.code (inLoopC (inBlockC (headC (dropC 2 ((Try.f95.body).getD .skip))))) none srchDownL_fr srchDownL_st (stop .normal [(sy 0), (sy 1), (sy 9)] [] srchDownL_fr srchDownL_st)) = some () := by kernel_rfl

noncomputable def srchDown_e2 : List Ent := [⟨(.bin .lss 3), [(sy 2), (sy 1)], (.bool false)⟩]
noncomputable def srchDown_c2 : List CEnt := []

set_option maxRecDepth 1000000 in
theorem srchDownL_r2 : ev Try.prog (env.sym srchDown_e2 srchDown_c2) 3000 (.code (inLoopC (inBlockC (headC (dropC 2 ((Try.f95.body).getD .skip))))) none srchDownL_fr srchDownL_st (stop (.exit 0) [sy 0, sy 1, sy 2] [] srchDownL_fr srchDownL_st)) = some () := by kernel_rfl

set_option maxRecDepth 100000 in
theorem srchDownL_loop (B : Nat) (o : Nat) (arr : Array Value) (t0 : TypeId) (n : Int) (hv : arr[o]? = some (.int .i64 n)) {w0 : World} : ∀ (x : Int × Int) (a : Act) (w : World), (srchDownL_inv B o arr t0 n x ∧ @At (Rho.of [(.pointer (some ⟨B, o, none⟩)), (.int .i64 (x.1)), (.int .i64 (x.2))] (memOne B (.cells arr t0 (0, 0)))) w0 srchDownL_fr srchDownL_st a w) → (Code.loop (inLoopC (inBlockC (headC (dropC 2 ((Try.f95.body).getD .skip)))))).wpIn (FF none) 0 Try.prog (fun ex a' w' => (ex = .exit 0 ∧ ∃ x' : Int × Int, (srchDownL_inv B o arr t0 n x' ∧ x'.1 ≤ x'.2) ∧ @At (Rho.of [(.pointer (some ⟨B, o, none⟩)), (.int .i64 (x'.1)), (.int .i64 (x'.2))] (memOne B (.cells arr t0 (0, 0)))) w0 srchDownL_fr srchDownL_st a' w')) a w := by
  refine loop_rounds (fun (x : Int × Int) a w => srchDownL_inv B o arr t0 n x ∧ @At (Rho.of [(.pointer (some ⟨B, o, none⟩)), (.int .i64 (x.1)), (.int .i64 (x.2))] (memOne B (.cells arr t0 (0, 0)))) w0 srchDownL_fr srchDownL_st a w) (fun x => (x.1 - x.2).toNat) ?_
  rintro ⟨j, i⟩ a w ⟨hinv, hat⟩
  have hinv' := hinv
  simp only [srchDownL_inv] at hinv'
  obtain ⟨i0, i1, i2, i3, i4⟩ := hinv'
  by_cases c0 : i < j
  · by_cases c1 : (((i + j) / 2) * ((i + j) / 2)) > n
    · have hat1 : @At (Rho.of [(.pointer (some ⟨B, o, none⟩)), (.int .i64 (j)), (.int .i64 (i)), (.int .i64 ((i + j))), (.int .u64 ((i + j))), (.int .u64 (((i + j) / 2))), (.int .i64 (((i + j) / 2))), (.int .i64 ((((i + j) / 2) * ((i + j) / 2)))), (.int .i64 (n))] (memOne B (.cells arr t0 (0, 0)))) w0 srchDownL_fr srchDownL_st a w := At.shift (ρ1 := (Rho.of [(.pointer (some ⟨B, o, none⟩)), (.int .i64 (j)), (.int .i64 (i))] (memOne B (.cells arr t0 (0, 0))))) (ρ2 := (Rho.of [(.pointer (some ⟨B, o, none⟩)), (.int .i64 (j)), (.int .i64 (i)), (.int .i64 ((i + j))), (.int .u64 ((i + j))), (.int .u64 (((i + j) / 2))), (.int .i64 (((i + j) / 2))), (.int .i64 ((((i + j) / 2) * ((i + j) / 2)))), (.int .i64 (n))] (memOne B (.cells arr t0 (0, 0))))) (σ := [sy 0, sy 1, sy 2]) (π := []) ⟨rfl, rfl, rfl, rfl, rfl, rfl, trivial⟩ (fun _ _ h => h) srchDownL_wf srchDownL_id hat
      refine At.piece (ρ1 := (Rho.of [(.pointer (some ⟨B, o, none⟩)), (.int .i64 (j)), (.int .i64 (i)), (.int .i64 ((i + j))), (.int .u64 ((i + j))), (.int .u64 (((i + j) / 2))), (.int .i64 (((i + j) / 2))), (.int .i64 ((((i + j) / 2) * ((i + j) / 2)))), (.int .i64 (n))] (memOne B (.cells arr t0 (0, 0))))) (ρ2 := (Rho.of [(.pointer (some ⟨B, o, none⟩)), (.int .i64 (((i + j) / 2))), (.int .i64 (i))] (memOne B (.cells arr t0 (0, 0))))) (@Env.Ok.sym (Rho.of [(.pointer (some ⟨B, o, none⟩)), (.int .i64 (j)), (.int .i64 (i)), (.int .i64 ((i + j))), (.int .u64 ((i + j))), (.int .u64 (((i + j) / 2))), (.int .i64 (((i + j) / 2))), (.int .i64 ((((i + j) / 2) * ((i + j) / 2)))), (.int .i64 (n))] (memOne B (.cells arr t0 (0, 0)))) _ _ (@env_ok (Rho.of [(.pointer (some ⟨B, o, none⟩)), (.int .i64 (j)), (.int .i64 (i)), (.int .i64 ((i + j))), (.int .u64 ((i + j))), (.int .u64 (((i + j) / 2))), (.int .i64 (((i + j) / 2))), (.int .i64 ((((i + j) / 2) * ((i + j) / 2)))), (.int .i64 (n))] (memOne B (.cells arr t0 (0, 0))))) srchDown_e0 srchDown_c0 ⟨⟨rfl, rfl, fun w hm => (show KeyOk Try.prog w (.bin .lss 3) [(.int .i64 (i)), (.int .i64 (j))] (.bool true) from k_lss_t c0)⟩, ⟨rfl, rfl, fun w hm => (show KeyOk Try.prog w (.bin .add 3) [(.int .i64 (i)), (.int .i64 (j))] (.int .i64 ((i + j))) from k_add (wrap64 (by first | omega | (have := sq20 (x := (i + j) / 2) (by omega) (by omega); omega))))⟩, ⟨rfl, rfl, fun w hm => (show KeyOk Try.prog w (.conv 3 151) [(.int .i64 ((i + j)))] (.int .u64 ((i + j))) from k_conv Try.underlying3 Try.underlying151 (wrapU64 (by first | omega | (have := sq20 (x := (i + j) / 2) (by omega) (by omega); omega))))⟩, ⟨rfl, rfl, fun w hm => (show KeyOk Try.prog w (.bin .shr 151) [(.int .u64 ((i + j))), (.int .u64 1)] (.int .u64 (((i + j) / 2))) from k_shr (n := 1) (d := 2) (by decide) (by decide))⟩, ⟨rfl, rfl, fun w hm => (show KeyOk Try.prog w (.conv 151 3) [(.int .u64 (((i + j) / 2)))] (.int .i64 (((i + j) / 2))) from k_conv Try.underlying151 Try.underlying3 (wrap64 (by first | omega | (have := sq20 (x := (i + j) / 2) (by omega) (by omega); omega))))⟩, ⟨rfl, rfl, fun w hm => (show KeyOk Try.prog w (.bin .mul 3) [(.int .i64 (((i + j) / 2))), (.int .i64 (((i + j) / 2)))] (.int .i64 ((((i + j) / 2) * ((i + j) / 2)))) from k_mul (wrap64 (by have := sq20 (x := ((i + j) / 2)) (by omega) (by omega); omega)))⟩, ⟨rfl, rfl, fun w hm => (show KeyOk Try.prog w (.load 3) [(.pointer (some ⟨B, o, none⟩))] (.int .i64 (n)) from k_load Try.underlying3 rfl (hm B _ (memOne_at _ _)) hv)⟩, ⟨rfl, rfl, fun w hm => (show KeyOk Try.prog w (.bin .gtr 3) [(.int .i64 ((((i + j) / 2) * ((i + j) / 2)))), (.int .i64 (n))] (.bool true) from k_gtr_t c1)⟩, trivial⟩ trivial) srchDownL_r0 ⟨rfl, rfl, rfl, rfl, rfl, rfl, trivial⟩ (fun _ _ h => h) srchDownL_wf srchDownL_wf hat1 (fun a' w' hat' => .inl ⟨rfl, (((i + j) / 2), i), ?_, ?_, hat'⟩)
      · show ((((i + j) / 2)) - (i)).toNat < (j - i).toNat
        first | omega | (refine ⟨by omega, by omega, by omega, ?_, ?_⟩ <;> intro hh <;> first | exact i3 hh | exact i4 hh | omega | (rw [show ((i + j) / 2 + 1 - 1 : Int) = (i + j) / 2 by omega]; omega))
      · show 0 ≤ (i) ∧ (i) ≤ (((i + j) / 2)) ∧ (((i + j) / 2)) ≤ 1048576 ∧ (0 < (i) → ((i) - 1) * ((i) - 1) ≤ n) ∧ ((((i + j) / 2)) < 1048576 → n < (((i + j) / 2)) * (((i + j) / 2)))
        first | omega | (refine ⟨by omega, by omega, by omega, ?_, ?_⟩ <;> intro hh <;> first | exact i3 hh | exact i4 hh | omega | (rw [show ((i + j) / 2 + 1 - 1 : Int) = (i + j) / 2 by omega]; omega))
    · have hat1 : @At (Rho.of [(.pointer (some ⟨B, o, none⟩)), (.int .i64 (j)), (.int .i64 (i)), (.int .i64 ((i + j))), (.int .u64 ((i + j))), (.int .u64 (((i + j) / 2))), (.int .i64 (((i + j) / 2))), (.int .i64 ((((i + j) / 2) * ((i + j) / 2)))), (.int .i64 (n)), (.int .i64 ((((i + j) / 2) + 1)))] (memOne B (.cells arr t0 (0, 0)))) w0 srchDownL_fr srchDownL_st a w := At.shift (ρ1 := (Rho.of [(.pointer (some ⟨B, o, none⟩)), (.int .i64 (j)), (.int .i64 (i))] (memOne B (.cells arr t0 (0, 0))))) (ρ2 := (Rho.of [(.pointer (some ⟨B, o, none⟩)), (.int .i64 (j)), (.int .i64 (i)), (.int .i64 ((i + j))), (.int .u64 ((i + j))), (.int .u64 (((i + j) / 2))), (.int .i64 (((i + j) / 2))), (.int .i64 ((((i + j) / 2) * ((i + j) / 2)))), (.int .i64 (n)), (.int .i64 ((((i + j) / 2) + 1)))] (memOne B (.cells arr t0 (0, 0))))) (σ := [sy 0, sy 1, sy 2]) (π := []) ⟨rfl, rfl, rfl, rfl, rfl, rfl, trivial⟩ (fun _ _ h => h) srchDownL_wf srchDownL_id hat
      refine At.piece (ρ1 := (Rho.of [(.pointer (some ⟨B, o, none⟩)), (.int .i64 (j)), (.int .i64 (i)), (.int .i64 ((i + j))), (.int .u64 ((i + j))), (.int .u64 (((i + j) / 2))), (.int .i64 (((i + j) / 2))), (.int .i64 ((((i + j) / 2) * ((i + j) / 2)))), (.int .i64 (n)), (.int .i64 ((((i + j) / 2) + 1)))] (memOne B (.cells arr t0 (0, 0))))) (ρ2 := (Rho.of [(.pointer (some ⟨B, o, none⟩)), (.int .i64 (j)), (.int .i64 ((((i + j) / 2) + 1)))] (memOne B (.cells arr t0 (0, 0))))) (@Env.Ok.sym (Rho.of [(.pointer (some ⟨B, o, none⟩)), (.int .i64 (j)), (.int .i64 (i)), (.int .i64 ((i + j))), (.int .u64 ((i + j))), (.int .u64 (((i + j) / 2))), (.int .i64 (((i + j) / 2))), (.int .i64 ((((i + j) / 2) * ((i + j) / 2)))), (.int .i64 (n)), (.int .i64 ((((i + j) / 2) + 1)))] (memOne B (.cells arr t0 (0, 0)))) _ _ (@env_ok (Rho.of [(.pointer (some ⟨B, o, none⟩)), (.int .i64 (j)), (.int .i64 (i)), (.int .i64 ((i + j))), (.int .u64 ((i + j))), (.int .u64 (((i + j) / 2))), (.int .i64 (((i + j) / 2))), (.int .i64 ((((i + j) / 2) * ((i + j) / 2)))), (.int .i64 (n)), (.int .i64 ((((i + j) / 2) + 1)))] (memOne B (.cells arr t0 (0, 0))))) srchDown_e1 srchDown_c1 ⟨⟨rfl, rfl, fun w hm => (show KeyOk Try.prog w (.bin .lss 3) [(.int .i64 (i)), (.int .i64 (j))] (.bool true) from k_lss_t c0)⟩, ⟨rfl, rfl, fun w hm => (show KeyOk Try.prog w (.bin .add 3) [(.int .i64 (i)), (.int .i64 (j))] (.int .i64 ((i + j))) from k_add (wrap64 (by first | omega | (have := sq20 (x := (i + j) / 2) (by omega) (by omega); omega))))⟩, ⟨rfl, rfl, fun w hm => (show KeyOk Try.prog w (.conv 3 151) [(.int .i64 ((i + j)))] (.int .u64 ((i + j))) from k_conv Try.underlying3 Try.underlying151 (wrapU64 (by first | omega | (have := sq20 (x := (i + j) / 2) (by omega) (by omega); omega))))⟩, ⟨rfl, rfl, fun w hm => (show KeyOk Try.prog w (.bin .shr 151) [(.int .u64 ((i + j))), (.int .u64 1)] (.int .u64 (((i + j) / 2))) from k_shr (n := 1) (d := 2) (by decide) (by decide))⟩, ⟨rfl, rfl, fun w hm => (show KeyOk Try.prog w (.conv 151 3) [(.int .u64 (((i + j) / 2)))] (.int .i64 (((i + j) / 2))) from k_conv Try.underlying151 Try.underlying3 (wrap64 (by first | omega | (have := sq20 (x := (i + j) / 2) (by omega) (by omega); omega))))⟩, ⟨rfl, rfl, fun w hm => (show KeyOk Try.prog w (.bin .mul 3) [(.int .i64 (((i + j) / 2))), (.int .i64 (((i + j) / 2)))] (.int .i64 ((((i + j) / 2) * ((i + j) / 2)))) from k_mul (wrap64 (by have := sq20 (x := ((i + j) / 2)) (by omega) (by omega); omega)))⟩, ⟨rfl, rfl, fun w hm => (show KeyOk Try.prog w (.load 3) [(.pointer (some ⟨B, o, none⟩))] (.int .i64 (n)) from k_load Try.underlying3 rfl (hm B _ (memOne_at _ _)) hv)⟩, ⟨rfl, rfl, fun w hm => (show KeyOk Try.prog w (.bin .gtr 3) [(.int .i64 ((((i + j) / 2) * ((i + j) / 2)))), (.int .i64 (n))] (.bool false) from k_gtr_f c1)⟩, ⟨rfl, rfl, fun w hm => (show KeyOk Try.prog w (.bin .add 3) [(.int .i64 (((i + j) / 2))), (.int .i64 1)] (.int .i64 ((((i + j) / 2) + 1))) from k_add (wrap64 (by first | omega | (have := sq20 (x := (i + j) / 2) (by omega) (by omega); omega))))⟩, trivial⟩ trivial) srchDownL_r1 ⟨rfl, rfl, rfl, rfl, rfl, rfl, trivial⟩ (fun _ _ h => h) srchDownL_wf srchDownL_wf hat1 (fun a' w' hat' => .inl ⟨rfl, (j, (((i + j) / 2) + 1)), ?_, ?_, hat'⟩)
      · show ((j) - ((((i + j) / 2) + 1))).toNat < (j - i).toNat
        first | omega | (refine ⟨by omega, by omega, by omega, ?_, ?_⟩ <;> intro hh <;> first | exact i3 hh | exact i4 hh | omega | (rw [show ((i + j) / 2 + 1 - 1 : Int) = (i + j) / 2 by omega]; omega))
      · show 0 ≤ ((((i + j) / 2) + 1)) ∧ ((((i + j) / 2) + 1)) ≤ (j) ∧ (j) ≤ 1048576 ∧ (0 < ((((i + j) / 2) + 1)) → (((((i + j) / 2) + 1)) - 1) * (((((i + j) / 2) + 1)) - 1) ≤ n) ∧ ((j) < 1048576 → n < (j) * (j))
        first | omega | (refine ⟨by omega, by omega, by omega, ?_, ?_⟩ <;> intro hh <;> first | exact i3 hh | exact i4 hh | omega | (rw [show ((i + j) / 2 + 1 - 1 : Int) = (i + j) / 2 by omega]; omega))
  · have hat1 : @At (Rho.of [(.pointer (some ⟨B, o, none⟩)), (.int .i64 (j)), (.int .i64 (i))] (memOne B (.cells arr t0 (0, 0)))) w0 srchDownL_fr srchDownL_st a w := At.shift (ρ1 := (Rho.of [(.pointer (some ⟨B, o, none⟩)), (.int .i64 (j)), (.int .i64 (i))] (memOne B (.cells arr t0 (0, 0))))) (ρ2 := (Rho.of [(.pointer (some ⟨B, o, none⟩)), (.int .i64 (j)), (.int .i64 (i))] (memOne B (.cells arr t0 (0, 0))))) (σ := [sy 0, sy 1, sy 2]) (π := []) ⟨rfl, rfl, rfl, rfl, rfl, rfl, trivial⟩ (fun _ _ h => h) srchDownL_wf srchDownL_id hat
    refine At.piece (ρ1 := (Rho.of [(.pointer (some ⟨B, o, none⟩)), (.int .i64 (j)), (.int .i64 (i))] (memOne B (.cells arr t0 (0, 0))))) (ρ2 := (Rho.of [(.pointer (some ⟨B, o, none⟩)), (.int .i64 (j)), (.int .i64 (i))] (memOne B (.cells arr t0 (0, 0))))) (@Env.Ok.sym (Rho.of [(.pointer (some ⟨B, o, none⟩)), (.int .i64 (j)), (.int .i64 (i))] (memOne B (.cells arr t0 (0, 0)))) _ _ (@env_ok (Rho.of [(.pointer (some ⟨B, o, none⟩)), (.int .i64 (j)), (.int .i64 (i))] (memOne B (.cells arr t0 (0, 0))))) srchDown_e2 srchDown_c2 ⟨⟨rfl, rfl, fun w hm => (show KeyOk Try.prog w (.bin .lss 3) [(.int .i64 (i)), (.int .i64 (j))] (.bool false) from k_lss_f c0)⟩, trivial⟩ trivial) srchDownL_r2 ⟨rfl, rfl, rfl, rfl, rfl, rfl, trivial⟩ (fun _ _ h => h) srchDownL_wf srchDownL_wf hat1 (fun a' w' hat' => .inr ⟨.inl ⟨0, rfl⟩, ⟨rfl, (j, i), ⟨hinv, ?_⟩, hat'⟩⟩)
    show j ≤ i
    first | omega | (refine ⟨by omega, by omega, by omega, ?_, ?_⟩ <;> intro hh <;> first | exact i3 hh | exact i4 hh | omega | (rw [show ((i + j) / 2 + 1 - 1 : Int) = (i + j) / 2 by omega]; omega))

set_option maxRecDepth 1000000 in
theorem srchDown_pre : segA Try.prog env 3000 (takeC 2 ((Try.f95.body).getD .skip)) (frameOf Try.f95 [(.int .i64 1048576), (.func (.func 96) #[] #[(sy 0)])]) Ev.start (fun fr' s' => stop .normal [(sy 0), (.int .i64 1048576), (.int .i64 0)] [] srchDownL_fr srchDownL_st .normal fr' s') = some () := by kernel_rfl

set_option maxRecDepth 1000000 in
theorem srchDown_cut : dropC 2 ((Try.f95.body).getD .skip) = .seq (.block 0 (.loop (inLoopC (inBlockC (headC (dropC 2 ((Try.f95.body).getD .skip))))))) (dropC 3 ((Try.f95.body).getD .skip)) := by kernel_rfl

noncomputable def srchDown_e3 : List Ent := []
noncomputable def srchDown_c3 : List CEnt := []

set_option maxRecDepth 1000000 in
theorem srchDown_r3 : ev Try.prog (env.sym srchDown_e3 srchDown_c3) 3000 (.code (dropC 3 ((Try.f95.body).getD .skip)) none srchDownL_fr srchDownL_st (retK (env.sym srchDown_e3 srchDown_c3) Try.f95 fun v _ => cond (sameV 4 (sy 2) v) (some ()) none)) = some () := by kernel_rfl

set_option maxRecDepth 100000 in
theorem srchDown_any (B : Nat) (o : Nat) (arr : Array Value) (t0 : TypeId) (n : Int) (hv : arr[o]? = some (.int .i64 n)) (h0 : 0 ≤ n) (h1 : n ≤ 1000000000000) (w : World) (hB : w.heap[B]? = some (.cells arr t0 (0, 0))) : Calls Try.prog 95 #[(.int .i64 1048576), (.func (.func 96) #[] #[(.pointer (some ⟨B, o, none⟩))])] w (fun en w' => en = .returned (.int .i64 (rootD n + 1)) ∧ Below w.heap.size w w') := by
  refine @calls_of_body (Rho.of [(.pointer (some ⟨B, o, none⟩))] (memOne B (.cells arr t0 (0, 0)))) Try.prog env (@env_ok (Rho.of [(.pointer (some ⟨B, o, none⟩))] (memOne B (.cells arr t0 (0, 0))))) 95 Try.f95 ((Try.f95.body).getD .skip) [(.int .i64 1048576), (.func (.func 96) #[] #[(sy 0)])] w _ (by kernel_rfl) (by kernel_rfl) (of_decide_eq_true (by kernel_rfl)) (of_decide_eq_true (by kernel_rfl)) rfl (memOk_one hB) (fun a hat => ?_)
  refine At.cut (ρ1 := (Rho.of [(.pointer (some ⟨B, o, none⟩))] (memOne B (.cells arr t0 (0, 0))))) (ρ2 := (Rho.of [(.pointer (some ⟨B, o, none⟩)), (.int .i64 (1048576)), (.int .i64 (0))] (memOne B (.cells arr t0 (0, 0))))) (@env_ok (Rho.of [(.pointer (some ⟨B, o, none⟩))] (memOne B (.cells arr t0 (0, 0))))) srchDown_pre ⟨rfl, rfl, rfl, rfl, rfl, rfl, trivial⟩ (fun _ _ h => h) start_wf srchDownL_wf hat (fun a1 w1 hat1 => ?_)
  rw [srchDown_cut]
  refine sym_then (I := fun a' w' => ∃ x' : Int × Int, (srchDownL_inv B o arr t0 n x' ∧ x'.1 ≤ x'.2) ∧ @At (Rho.of [(.pointer (some ⟨B, o, none⟩)), (.int .i64 (x'.1)), (.int .i64 (x'.2))] (memOne B (.cells arr t0 (0, 0)))) w srchDownL_fr srchDownL_st a' w') (sym_block (wpIn_mono (srchDownL_loop B o arr t0 n hv (1048576, 0) a1 w1 ⟨?_, hat1⟩) ?_)) ?_
  · show 0 ≤ (0) ∧ (0) ≤ (1048576) ∧ (1048576) ≤ 1048576 ∧ (0 < (0) → ((0) - 1) * ((0) - 1) ≤ n) ∧ ((1048576) < 1048576 → n < (1048576) * (1048576))
    omega
  · rintro ex a' w' ⟨rfl, h⟩
    exact .inl ⟨rfl, .inl ⟨rfl, h⟩⟩
  · rintro a' w' ⟨⟨j, i⟩, ⟨hinv, hdone⟩, hat'⟩
    simp only [srchDownL_inv] at hinv
    obtain ⟨i0, i1, i2, i3, i4⟩ := hinv
    simp only at hdone
    have hat1 : @At (Rho.of [(.pointer (some ⟨B, o, none⟩)), (.int .i64 (j)), (.int .i64 (i))] (memOne B (.cells arr t0 (0, 0)))) w srchDownL_fr srchDownL_st a' w' := At.shift (ρ1 := (Rho.of [(.pointer (some ⟨B, o, none⟩)), (.int .i64 (j)), (.int .i64 (i))] (memOne B (.cells arr t0 (0, 0))))) (ρ2 := (Rho.of [(.pointer (some ⟨B, o, none⟩)), (.int .i64 (j)), (.int .i64 (i))] (memOne B (.cells arr t0 (0, 0))))) (σ := [sy 0, sy 1, sy 2]) (π := []) ⟨rfl, rfl, rfl, rfl, rfl, rfl, trivial⟩ (fun _ _ h => h) srchDownL_wf srchDownL_id hat'
    refine @At.last (Rho.of [(.pointer (some ⟨B, o, none⟩)), (.int .i64 (j)), (.int .i64 (i))] (memOne B (.cells arr t0 (0, 0)))) Try.prog (env.sym srchDown_e3 srchDown_c3) (@Env.Ok.sym (Rho.of [(.pointer (some ⟨B, o, none⟩)), (.int .i64 (j)), (.int .i64 (i))] (memOne B (.cells arr t0 (0, 0)))) _ _ (@env_ok (Rho.of [(.pointer (some ⟨B, o, none⟩)), (.int .i64 (j)), (.int .i64 (i))] (memOne B (.cells arr t0 (0, 0))))) srchDown_e3 srchDown_c3 trivial trivial) w 3000 _ Try.f95 srchDownL_fr srchDownL_st (sy 2) _ srchDown_r3 rfl srchDownL_wf a' w' hat1 (fun w2 hb => ⟨?_, hb⟩)
    show Ending.returned (.int .i64 (i)) = Ending.returned (.int .i64 (rootD n + 1))
    have hres : ((.int .i64 (i)) : Value) = (.int .i64 (rootD n + 1)) := by
      have hji : j = i := by omega
      subst hji
      have q1 : n < j * j := by
        by_cases q : j < 1048576
        · exact i4 q
        · have e1 : j = 1048576 := by omega
          subst e1; omega
      have q0 : 0 < j := by
        by_cases q : 0 < j
        · exact q
        · have e1 : j = 0 := by omega
          subst e1; omega
      rw [rootD_eq (r := j - 1) (by omega) (i3 q0) (by rw [show j - 1 + 1 = j by omega]; exact q1), show j - 1 + 1 = j by omega]
    rw [hres]
noncomputable def srchUpL_fr : Fr := mkFr Try.f95 [(1, (.func (.func 97) #[] #[(.chan (.some 0))])), (5, (.chan (.some 2))), (6, (.chan (.some 1)))] []
noncomputable def srchUpL_st : St := mkSt 0 []
theorem srchUpL_wf : srchUpL_st.Wf := mkSt_wf rfl

def srchUpL_inv (B : Nat) (o : Nat) (arr : Array Value) (t0 : TypeId) (n : Int) (x : Int × Int) : Prop := 0 ≤ x.2 ∧ x.2 ≤ x.1 ∧ x.1 ≤ 1048576 ∧ (0 < x.2 → (x.2 - 1) * (x.2 - 1) < n) ∧ (x.1 < 1048576 → n ≤ x.1 * x.1)

set_option maxRecDepth 1000000 in
theorem srchUpL_id : agree [sy 0, sy 1, sy 2] [] srchUpL_fr srchUpL_st srchUpL_fr srchUpL_st = true := by kernel_rfl

noncomputable def srchUp_e0 : List Ent := [⟨(.bin .lss 3), [(sy 2), (sy 1)], (.bool true)⟩, ⟨(.bin .add 3), [(sy 2), (sy 1)], (sy 3)⟩, ⟨(.conv 3 151), [(sy 3)], (sy 4)⟩, ⟨(.bin .shr 151), [(sy 4), (.int .u64 1)], (sy 5)⟩, ⟨(.conv 151 3), [(sy 5)], (sy 6)⟩, ⟨(.bin .mul 3), [(sy 6), (sy 6)], (sy 7)⟩, ⟨(.load 3), [(sy 0)], (sy 8)⟩, ⟨(.bin .geq 3), [(sy 7), (sy 8)], (.bool true)⟩]
noncomputable def srchUp_c0 : List CEnt := []

set_option maxRecDepth 1000000 in
theorem srchUpL_r0 : ev Try.prog (env.sym srchUp_e0 srchUp_c0) 3000 (.code (inLoopC (inBlockC (headC (dropC 2 ((Try.f95.body).getD .skip))))) none srchUpL_fr srchUpL_st (stop .normal [(sy 0), (sy 6), (sy 2)] [] srchUpL_fr srchUpL_st)) = some () := by kernel_rfl

noncomputable def srchUp_e1 : List Ent := [⟨(.bin .lss 3), [(sy 2), (sy 1)], (.bool true)⟩, ⟨(.bin .add 3), [(sy 2), (sy 1)], (sy 3)⟩, ⟨(.conv 3 151), [(sy 3)], (sy 4)⟩, ⟨(.bin .shr 151), [(sy 4), (.int .u64 1)], (sy 5)⟩, ⟨(.conv 151 3), [(sy 5)], (sy 6)⟩, ⟨(.bin .mul 3), [(sy 6), (sy 6)], (sy 7)⟩, ⟨(.load 3), [(sy 0)], (sy 8)⟩, ⟨(.bin .geq 3), [(sy 7), (sy 8)], (.bool false)⟩, ⟨(.bin .add 3), [(sy 6), (.int .i64 1)], (sy 9)⟩]
noncomputable def srchUp_c1 : List CEnt := []

set_option maxRecDepth 1000000 in
theorem srchUpL_r1 : ev Try.prog (env.sym srchUp_e1 srchUp_c1) 3000 (.code (inLoopC (inBlockC (headC (dropC 2 ((Try.f95.body).getD .skip))))) none srchUpL_fr srchUpL_st (stop .normal [(sy 0), (sy 1), (sy 9)] [] srchUpL_fr srchUpL_st)) = some () := by kernel_rfl

noncomputable def srchUp_e2 : List Ent := [⟨(.bin .lss 3), [(sy 2), (sy 1)], (.bool false)⟩]
noncomputable def srchUp_c2 : List CEnt := []

set_option maxRecDepth 1000000 in
theorem srchUpL_r2 : ev Try.prog (env.sym srchUp_e2 srchUp_c2) 3000 (.code (inLoopC (inBlockC (headC (dropC 2 ((Try.f95.body).getD .skip))))) none srchUpL_fr srchUpL_st (stop (.exit 0) [sy 0, sy 1, sy 2] [] srchUpL_fr srchUpL_st)) = some () := by kernel_rfl

set_option maxRecDepth 100000 in
theorem srchUpL_loop (B : Nat) (o : Nat) (arr : Array Value) (t0 : TypeId) (n : Int) (hv : arr[o]? = some (.int .i64 n)) {w0 : World} : ∀ (x : Int × Int) (a : Act) (w : World), (srchUpL_inv B o arr t0 n x ∧ @At (Rho.of [(.pointer (some ⟨B, o, none⟩)), (.int .i64 (x.1)), (.int .i64 (x.2))] (memOne B (.cells arr t0 (0, 0)))) w0 srchUpL_fr srchUpL_st a w) → (Code.loop (inLoopC (inBlockC (headC (dropC 2 ((Try.f95.body).getD .skip)))))).wpIn (FF none) 0 Try.prog (fun ex a' w' => (ex = .exit 0 ∧ ∃ x' : Int × Int, (srchUpL_inv B o arr t0 n x' ∧ x'.1 ≤ x'.2) ∧ @At (Rho.of [(.pointer (some ⟨B, o, none⟩)), (.int .i64 (x'.1)), (.int .i64 (x'.2))] (memOne B (.cells arr t0 (0, 0)))) w0 srchUpL_fr srchUpL_st a' w')) a w := by
  refine loop_rounds (fun (x : Int × Int) a w => srchUpL_inv B o arr t0 n x ∧ @At (Rho.of [(.pointer (some ⟨B, o, none⟩)), (.int .i64 (x.1)), (.int .i64 (x.2))] (memOne B (.cells arr t0 (0, 0)))) w0 srchUpL_fr srchUpL_st a w) (fun x => (x.1 - x.2).toNat) ?_
  rintro ⟨j, i⟩ a w ⟨hinv, hat⟩
  have hinv' := hinv
  simp only [srchUpL_inv] at hinv'
  obtain ⟨i0, i1, i2, i3, i4⟩ := hinv'
  by_cases c0 : i < j
  · by_cases c1 : (((i + j) / 2) * ((i + j) / 2)) ≥ n
    · have hat1 : @At (Rho.of [(.pointer (some ⟨B, o, none⟩)), (.int .i64 (j)), (.int .i64 (i)), (.int .i64 ((i + j))), (.int .u64 ((i + j))), (.int .u64 (((i + j) / 2))), (.int .i64 (((i + j) / 2))), (.int .i64 ((((i + j) / 2) * ((i + j) / 2)))), (.int .i64 (n))] (memOne B (.cells arr t0 (0, 0)))) w0 srchUpL_fr srchUpL_st a w := At.shift (ρ1 := (Rho.of [(.pointer (some ⟨B, o, none⟩)), (.int .i64 (j)), (.int .i64 (i))] (memOne B (.cells arr t0 (0, 0))))) (ρ2 := (Rho.of [(.pointer (some ⟨B, o, none⟩)), (.int .i64 (j)), (.int .i64 (i)), (.int .i64 ((i + j))), (.int .u64 ((i + j))), (.int .u64 (((i + j) / 2))), (.int .i64 (((i + j) / 2))), (.int .i64 ((((i + j) / 2) * ((i + j) / 2)))), (.int .i64 (n))] (memOne B (.cells arr t0 (0, 0))))) (σ := [sy 0, sy 1, sy 2]) (π := []) ⟨rfl, rfl, rfl, rfl, rfl, rfl, trivial⟩ (fun _ _ h => h) srchUpL_wf srchUpL_id hat
      refine At.piece (ρ1 := (Rho.of [(.pointer (some ⟨B, o, none⟩)), (.int .i64 (j)), (.int .i64 (i)), (.int .i64 ((i + j))), (.int .u64 ((i + j))), (.int .u64 (((i + j) / 2))), (.int .i64 (((i + j) / 2))), (.int .i64 ((((i + j) / 2) * ((i + j) / 2)))), (.int .i64 (n))] (memOne B (.cells arr t0 (0, 0))))) (ρ2 := (Rho.of [(.pointer (some ⟨B, o, none⟩)), (.int .i64 (((i + j) / 2))), (.int .i64 (i))] (memOne B (.cells arr t0 (0, 0))))) (@Env.Ok.sym (Rho.of [(.pointer (some ⟨B, o, none⟩)), (.int .i64 (j)), (.int .i64 (i)), (.int .i64 ((i + j))), (.int .u64 ((i + j))), (.int .u64 (((i + j) / 2))), (.int .i64 (((i + j) / 2))), (.int .i64 ((((i + j) / 2) * ((i + j) / 2)))), (.int .i64 (n))] (memOne B (.cells arr t0 (0, 0)))) _ _ (@env_ok (Rho.of [(.pointer (some ⟨B, o, none⟩)), (.int .i64 (j)), (.int .i64 (i)), (.int .i64 ((i + j))), (.int .u64 ((i + j))), (.int .u64 (((i + j) / 2))), (.int .i64 (((i + j) / 2))), (.int .i64 ((((i + j) / 2) * ((i + j) / 2)))), (.int .i64 (n))] (memOne B (.cells arr t0 (0, 0))))) srchUp_e0 srchUp_c0 ⟨⟨rfl, rfl, fun w hm => (show KeyOk Try.prog w (.bin .lss 3) [(.int .i64 (i)), (.int .i64 (j))] (.bool true) from k_lss_t c0)⟩, ⟨rfl, rfl, fun w hm => (show KeyOk Try.prog w (.bin .add 3) [(.int .i64 (i)), (.int .i64 (j))] (.int .i64 ((i + j))) from k_add (wrap64 (by first | omega | (have := sq20 (x := (i + j) / 2) (by omega) (by omega); omega))))⟩, ⟨rfl, rfl, fun w hm => (show KeyOk Try.prog w (.conv 3 151) [(.int .i64 ((i + j)))] (.int .u64 ((i + j))) from k_conv Try.underlying3 Try.underlying151 (wrapU64 (by first | omega | (have := sq20 (x := (i + j) / 2) (by omega) (by omega); omega))))⟩, ⟨rfl, rfl, fun w hm => (show KeyOk Try.prog w (.bin .shr 151) [(.int .u64 ((i + j))), (.int .u64 1)] (.int .u64 (((i + j) / 2))) from k_shr (n := 1) (d := 2) (by decide) (by decide))⟩, ⟨rfl, rfl, fun w hm => (show KeyOk Try.prog w (.conv 151 3) [(.int .u64 (((i + j) / 2)))] (.int .i64 (((i + j) / 2))) from k_conv Try.underlying151 Try.underlying3 (wrap64 (by first | omega | (have := sq20 (x := (i + j) / 2) (by omega) (by omega); omega))))⟩, ⟨rfl, rfl, fun w hm => (show KeyOk Try.prog w (.bin .mul 3) [(.int .i64 (((i + j) / 2))), (.int .i64 (((i + j) / 2)))] (.int .i64 ((((i + j) / 2) * ((i + j) / 2)))) from k_mul (wrap64 (by have := sq20 (x := ((i + j) / 2)) (by omega) (by omega); omega)))⟩, ⟨rfl, rfl, fun w hm => (show KeyOk Try.prog w (.load 3) [(.pointer (some ⟨B, o, none⟩))] (.int .i64 (n)) from k_load Try.underlying3 rfl (hm B _ (memOne_at _ _)) hv)⟩, ⟨rfl, rfl, fun w hm => (show KeyOk Try.prog w (.bin .geq 3) [(.int .i64 ((((i + j) / 2) * ((i + j) / 2)))), (.int .i64 (n))] (.bool true) from k_geq_t c1)⟩, trivial⟩ trivial) srchUpL_r0 ⟨rfl, rfl, rfl, rfl, rfl, rfl, trivial⟩ (fun _ _ h => h) srchUpL_wf srchUpL_wf hat1 (fun a' w' hat' => .inl ⟨rfl, (((i + j) / 2), i), ?_, ?_, hat'⟩)
      · show ((((i + j) / 2)) - (i)).toNat < (j - i).toNat
        first | omega | (refine ⟨by omega, by omega, by omega, ?_, ?_⟩ <;> intro hh <;> first | exact i3 hh | exact i4 hh | omega | (rw [show ((i + j) / 2 + 1 - 1 : Int) = (i + j) / 2 by omega]; omega))
      · show 0 ≤ (i) ∧ (i) ≤ (((i + j) / 2)) ∧ (((i + j) / 2)) ≤ 1048576 ∧ (0 < (i) → ((i) - 1) * ((i) - 1) < n) ∧ ((((i + j) / 2)) < 1048576 → n ≤ (((i + j) / 2)) * (((i + j) / 2)))
        first | omega | (refine ⟨by omega, by omega, by omega, ?_, ?_⟩ <;> intro hh <;> first | exact i3 hh | exact i4 hh | omega | (rw [show ((i + j) / 2 + 1 - 1 : Int) = (i + j) / 2 by omega]; omega))
    · have hat1 : @At (Rho.of [(.pointer (some ⟨B, o, none⟩)), (.int .i64 (j)), (.int .i64 (i)), (.int .i64 ((i + j))), (.int .u64 ((i + j))), (.int .u64 (((i + j) / 2))), (.int .i64 (((i + j) / 2))), (.int .i64 ((((i + j) / 2) * ((i + j) / 2)))), (.int .i64 (n)), (.int .i64 ((((i + j) / 2) + 1)))] (memOne B (.cells arr t0 (0, 0)))) w0 srchUpL_fr srchUpL_st a w := At.shift (ρ1 := (Rho.of [(.pointer (some ⟨B, o, none⟩)), (.int .i64 (j)), (.int .i64 (i))] (memOne B (.cells arr t0 (0, 0))))) (ρ2 := (Rho.of [(.pointer (some ⟨B, o, none⟩)), (.int .i64 (j)), (.int .i64 (i)), (.int .i64 ((i + j))), (.int .u64 ((i + j))), (.int .u64 (((i + j) / 2))), (.int .i64 (((i + j) / 2))), (.int .i64 ((((i + j) / 2) * ((i + j) / 2)))), (.int .i64 (n)), (.int .i64 ((((i + j) / 2) + 1)))] (memOne B (.cells arr t0 (0, 0))))) (σ := [sy 0, sy 1, sy 2]) (π := []) ⟨rfl, rfl, rfl, rfl, rfl, rfl, trivial⟩ (fun _ _ h => h) srchUpL_wf srchUpL_id hat
      refine At.piece (ρ1 := (Rho.of [(.pointer (some ⟨B, o, none⟩)), (.int .i64 (j)), (.int .i64 (i)), (.int .i64 ((i + j))), (.int .u64 ((i + j))), (.int .u64 (((i + j) / 2))), (.int .i64 (((i + j) / 2))), (.int .i64 ((((i + j) / 2) * ((i + j) / 2)))), (.int .i64 (n)), (.int .i64 ((((i + j) / 2) + 1)))] (memOne B (.cells arr t0 (0, 0))))) (ρ2 := (Rho.of [(.pointer (some ⟨B, o, none⟩)), (.int .i64 (j)), (.int .i64 ((((i + j) / 2) + 1)))] (memOne B (.cells arr t0 (0, 0))))) (@Env.Ok.sym (Rho.of [(.pointer (some ⟨B, o, none⟩)), (.int .i64 (j)), (.int .i64 (i)), (.int .i64 ((i + j))), (.int .u64 ((i + j))), (.int .u64 (((i + j) / 2))), (.int .i64 (((i + j) / 2))), (.int .i64 ((((i + j) / 2) * ((i + j) / 2)))), (.int .i64 (n)), (.int .i64 ((((i + j) / 2) + 1)))] (memOne B (.cells arr t0 (0, 0)))) _ _ (@env_ok (Rho.of [(.pointer (some ⟨B, o, none⟩)), (.int .i64 (j)), (.int .i64 (i)), (.int .i64 ((i + j))), (.int .u64 ((i + j))), (.int .u64 (((i + j) / 2))), (.int .i64 (((i + j) / 2))), (.int .i64 ((((i + j) / 2) * ((i + j) / 2)))), (.int .i64 (n)), (.int .i64 ((((i + j) / 2) + 1)))] (memOne B (.cells arr t0 (0, 0))))) srchUp_e1 srchUp_c1 ⟨⟨rfl, rfl, fun w hm => (show KeyOk Try.prog w (.bin .lss 3) [(.int .i64 (i)), (.int .i64 (j))] (.bool true) from k_lss_t c0)⟩, ⟨rfl, rfl, fun w hm => (show KeyOk Try.prog w (.bin .add 3) [(.int .i64 (i)), (.int .i64 (j))] (.int .i64 ((i + j))) from k_add (wrap64 (by first | omega | (have := sq20 (x := (i + j) / 2) (by omega) (by omega); omega))))⟩, ⟨rfl, rfl, fun w hm => (show KeyOk Try.prog w (.conv 3 151) [(.int .i64 ((i + j)))] (.int .u64 ((i + j))) from k_conv Try.underlying3 Try.underlying151 (wrapU64 (by first | omega | (have := sq20 (x := (i + j) / 2) (by omega) (by omega); omega))))⟩, ⟨rfl, rfl, fun w hm => (show KeyOk Try.prog w (.bin .shr 151) [(.int .u64 ((i + j))), (.int .u64 1)] (.int .u64 (((i + j) / 2))) from k_shr (n := 1) (d := 2) (by decide) (by decide))⟩, ⟨rfl, rfl, fun w hm => (show KeyOk Try.prog w (.conv 151 3) [(.int .u64 (((i + j) / 2)))] (.int .i64 (((i + j) / 2))) from k_conv Try.underlying151 Try.underlying3 (wrap64 (by first | omega | (have := sq20 (x := (i + j) / 2) (by omega) (by omega); omega))))⟩, ⟨rfl, rfl, fun w hm => (show KeyOk Try.prog w (.bin .mul 3) [(.int .i64 (((i + j) / 2))), (.int .i64 (((i + j) / 2)))] (.int .i64 ((((i + j) / 2) * ((i + j) / 2)))) from k_mul (wrap64 (by have := sq20 (x := ((i + j) / 2)) (by omega) (by omega); omega)))⟩, ⟨rfl, rfl, fun w hm => (show KeyOk Try.prog w (.load 3) [(.pointer (some ⟨B, o, none⟩))] (.int .i64 (n)) from k_load Try.underlying3 rfl (hm B _ (memOne_at _ _)) hv)⟩, ⟨rfl, rfl, fun w hm => (show KeyOk Try.prog w (.bin .geq 3) [(.int .i64 ((((i + j) / 2) * ((i + j) / 2)))), (.int .i64 (n))] (.bool false) from k_geq_f c1)⟩, ⟨rfl, rfl, fun w hm => (show KeyOk Try.prog w (.bin .add 3) [(.int .i64 (((i + j) / 2))), (.int .i64 1)] (.int .i64 ((((i + j) / 2) + 1))) from k_add (wrap64 (by first | omega | (have := sq20 (x := (i + j) / 2) (by omega) (by omega); omega))))⟩, trivial⟩ trivial) srchUpL_r1 ⟨rfl, rfl, rfl, rfl, rfl, rfl, trivial⟩ (fun _ _ h => h) srchUpL_wf srchUpL_wf hat1 (fun a' w' hat' => .inl ⟨rfl, (j, (((i + j) / 2) + 1)), ?_, ?_, hat'⟩)
      · show ((j) - ((((i + j) / 2) + 1))).toNat < (j - i).toNat
        first | omega | (refine ⟨by omega, by omega, by omega, ?_, ?_⟩ <;> intro hh <;> first | exact i3 hh | exact i4 hh | omega | (rw [show ((i + j) / 2 + 1 - 1 : Int) = (i + j) / 2 by omega]; omega))
      · show 0 ≤ ((((i + j) / 2) + 1)) ∧ ((((i + j) / 2) + 1)) ≤ (j) ∧ (j) ≤ 1048576 ∧ (0 < ((((i + j) / 2) + 1)) → (((((i + j) / 2) + 1)) - 1) * (((((i + j) / 2) + 1)) - 1) < n) ∧ ((j) < 1048576 → n ≤ (j) * (j))
        first | omega | (refine ⟨by omega, by omega, by omega, ?_, ?_⟩ <;> intro hh <;> first | exact i3 hh | exact i4 hh | omega | (rw [show ((i + j) / 2 + 1 - 1 : Int) = (i + j) / 2 by omega]; omega))
  · have hat1 : @At (Rho.of [(.pointer (some ⟨B, o, none⟩)), (.int .i64 (j)), (.int .i64 (i))] (memOne B (.cells arr t0 (0, 0)))) w0 srchUpL_fr srchUpL_st a w := At.shift (ρ1 := (Rho.of [(.pointer (some ⟨B, o, none⟩)), (.int .i64 (j)), (.int .i64 (i))] (memOne B (.cells arr t0 (0, 0))))) (ρ2 := (Rho.of [(.pointer (some ⟨B, o, none⟩)), (.int .i64 (j)), (.int .i64 (i))] (memOne B (.cells arr t0 (0, 0))))) (σ := [sy 0, sy 1, sy 2]) (π := []) ⟨rfl, rfl, rfl, rfl, rfl, rfl, trivial⟩ (fun _ _ h => h) srchUpL_wf srchUpL_id hat
    refine At.piece (ρ1 := (Rho.of [(.pointer (some ⟨B, o, none⟩)), (.int .i64 (j)), (.int .i64 (i))] (memOne B (.cells arr t0 (0, 0))))) (ρ2 := (Rho.of [(.pointer (some ⟨B, o, none⟩)), (.int .i64 (j)), (.int .i64 (i))] (memOne B (.cells arr t0 (0, 0))))) (@Env.Ok.sym (Rho.of [(.pointer (some ⟨B, o, none⟩)), (.int .i64 (j)), (.int .i64 (i))] (memOne B (.cells arr t0 (0, 0)))) _ _ (@env_ok (Rho.of [(.pointer (some ⟨B, o, none⟩)), (.int .i64 (j)), (.int .i64 (i))] (memOne B (.cells arr t0 (0, 0))))) srchUp_e2 srchUp_c2 ⟨⟨rfl, rfl, fun w hm => (show KeyOk Try.prog w (.bin .lss 3) [(.int .i64 (i)), (.int .i64 (j))] (.bool false) from k_lss_f c0)⟩, trivial⟩ trivial) srchUpL_r2 ⟨rfl, rfl, rfl, rfl, rfl, rfl, trivial⟩ (fun _ _ h => h) srchUpL_wf srchUpL_wf hat1 (fun a' w' hat' => .inr ⟨.inl ⟨0, rfl⟩, ⟨rfl, (j, i), ⟨hinv, ?_⟩, hat'⟩⟩)
    show j ≤ i
    first | omega | (refine ⟨by omega, by omega, by omega, ?_, ?_⟩ <;> intro hh <;> first | exact i3 hh | exact i4 hh | omega | (rw [show ((i + j) / 2 + 1 - 1 : Int) = (i + j) / 2 by omega]; omega))

set_option maxRecDepth 1000000 in
theorem srchUp_pre : segA Try.prog env 3000 (takeC 2 ((Try.f95.body).getD .skip)) (frameOf Try.f95 [(.int .i64 1048576), (.func (.func 97) #[] #[(sy 0)])]) Ev.start (fun fr' s' => stop .normal [(sy 0), (.int .i64 1048576), (.int .i64 0)] [] srchUpL_fr srchUpL_st .normal fr' s') = some () := by kernel_rfl

set_option maxRecDepth 1000000 in
theorem srchUp_cut : dropC 2 ((Try.f95.body).getD .skip) = .seq (.block 0 (.loop (inLoopC (inBlockC (headC (dropC 2 ((Try.f95.body).getD .skip))))))) (dropC 3 ((Try.f95.body).getD .skip)) := by kernel_rfl

noncomputable def srchUp_e3 : List Ent := []
noncomputable def srchUp_c3 : List CEnt := []

set_option maxRecDepth 1000000 in
theorem srchUp_r3 : ev Try.prog (env.sym srchUp_e3 srchUp_c3) 3000 (.code (dropC 3 ((Try.f95.body).getD .skip)) none srchUpL_fr srchUpL_st (retK (env.sym srchUp_e3 srchUp_c3) Try.f95 fun v _ => cond (sameV 4 (sy 2) v) (some ()) none)) = some () := by kernel_rfl

set_option maxRecDepth 100000 in
theorem srchUp_any (B : Nat) (o : Nat) (arr : Array Value) (t0 : TypeId) (n : Int) (hv : arr[o]? = some (.int .i64 n)) (h0 : 0 ≤ n) (h1 : n ≤ 1000000000000) (w : World) (hB : w.heap[B]? = some (.cells arr t0 (0, 0))) : Calls Try.prog 95 #[(.int .i64 1048576), (.func (.func 97) #[] #[(.pointer (some ⟨B, o, none⟩))])] w (fun en w' => en = .returned (.int .i64 (rootU n)) ∧ Below w.heap.size w w') := by
  refine @calls_of_body (Rho.of [(.pointer (some ⟨B, o, none⟩))] (memOne B (.cells arr t0 (0, 0)))) Try.prog env (@env_ok (Rho.of [(.pointer (some ⟨B, o, none⟩))] (memOne B (.cells arr t0 (0, 0))))) 95 Try.f95 ((Try.f95.body).getD .skip) [(.int .i64 1048576), (.func (.func 97) #[] #[(sy 0)])] w _ (by kernel_rfl) (by kernel_rfl) (of_decide_eq_true (by kernel_rfl)) (of_decide_eq_true (by kernel_rfl)) rfl (memOk_one hB) (fun a hat => ?_)
  refine At.cut (ρ1 := (Rho.of [(.pointer (some ⟨B, o, none⟩))] (memOne B (.cells arr t0 (0, 0))))) (ρ2 := (Rho.of [(.pointer (some ⟨B, o, none⟩)), (.int .i64 (1048576)), (.int .i64 (0))] (memOne B (.cells arr t0 (0, 0))))) (@env_ok (Rho.of [(.pointer (some ⟨B, o, none⟩))] (memOne B (.cells arr t0 (0, 0))))) srchUp_pre ⟨rfl, rfl, rfl, rfl, rfl, rfl, trivial⟩ (fun _ _ h => h) start_wf srchUpL_wf hat (fun a1 w1 hat1 => ?_)
  rw [srchUp_cut]
  refine sym_then (I := fun a' w' => ∃ x' : Int × Int, (srchUpL_inv B o arr t0 n x' ∧ x'.1 ≤ x'.2) ∧ @At (Rho.of [(.pointer (some ⟨B, o, none⟩)), (.int .i64 (x'.1)), (.int .i64 (x'.2))] (memOne B (.cells arr t0 (0, 0)))) w srchUpL_fr srchUpL_st a' w') (sym_block (wpIn_mono (srchUpL_loop B o arr t0 n hv (1048576, 0) a1 w1 ⟨?_, hat1⟩) ?_)) ?_
  · show 0 ≤ (0) ∧ (0) ≤ (1048576) ∧ (1048576) ≤ 1048576 ∧ (0 < (0) → ((0) - 1) * ((0) - 1) < n) ∧ ((1048576) < 1048576 → n ≤ (1048576) * (1048576))
    omega
  · rintro ex a' w' ⟨rfl, h⟩
    exact .inl ⟨rfl, .inl ⟨rfl, h⟩⟩
  · rintro a' w' ⟨⟨j, i⟩, ⟨hinv, hdone⟩, hat'⟩
    simp only [srchUpL_inv] at hinv
    obtain ⟨i0, i1, i2, i3, i4⟩ := hinv
    simp only at hdone
    have hat1 : @At (Rho.of [(.pointer (some ⟨B, o, none⟩)), (.int .i64 (j)), (.int .i64 (i))] (memOne B (.cells arr t0 (0, 0)))) w srchUpL_fr srchUpL_st a' w' := At.shift (ρ1 := (Rho.of [(.pointer (some ⟨B, o, none⟩)), (.int .i64 (j)), (.int .i64 (i))] (memOne B (.cells arr t0 (0, 0))))) (ρ2 := (Rho.of [(.pointer (some ⟨B, o, none⟩)), (.int .i64 (j)), (.int .i64 (i))] (memOne B (.cells arr t0 (0, 0))))) (σ := [sy 0, sy 1, sy 2]) (π := []) ⟨rfl, rfl, rfl, rfl, rfl, rfl, trivial⟩ (fun _ _ h => h) srchUpL_wf srchUpL_id hat'
    refine @At.last (Rho.of [(.pointer (some ⟨B, o, none⟩)), (.int .i64 (j)), (.int .i64 (i))] (memOne B (.cells arr t0 (0, 0)))) Try.prog (env.sym srchUp_e3 srchUp_c3) (@Env.Ok.sym (Rho.of [(.pointer (some ⟨B, o, none⟩)), (.int .i64 (j)), (.int .i64 (i))] (memOne B (.cells arr t0 (0, 0)))) _ _ (@env_ok (Rho.of [(.pointer (some ⟨B, o, none⟩)), (.int .i64 (j)), (.int .i64 (i))] (memOne B (.cells arr t0 (0, 0))))) srchUp_e3 srchUp_c3 trivial trivial) w 3000 _ Try.f95 srchUpL_fr srchUpL_st (sy 2) _ srchUp_r3 rfl srchUpL_wf a' w' hat1 (fun w2 hb => ⟨?_, hb⟩)
    show Ending.returned (.int .i64 (i)) = Ending.returned (.int .i64 (rootU n))
    have hres : ((.int .i64 (i)) : Value) = (.int .i64 (rootU n)) := by
      have hji : j = i := by omega
      subst hji
      have q1 : n ≤ j * j := by
        by_cases q : j < 1048576
        · exact i4 q
        · have e1 : j = 1048576 := by omega
          subst e1; omega
      rw [rootU_eq (r := j) (by omega) q1 i3]
    rw [hres]
end Go.Proofs.Ytoaehigmpbhppaa.En

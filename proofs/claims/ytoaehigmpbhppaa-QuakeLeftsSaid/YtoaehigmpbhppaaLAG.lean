import Derived.Test.YtoaehigmpbhppaaLAE
import Derived.Test.YtoaehigmpbhppaaEn
import Derived.Test.YtoaehigmpbhppaaLAD
/-
  Texts of the bench, merged.
-/
set_option linter.unusedSimpArgs false
set_option linter.unusedVariables false
namespace Go.Proofs.Ytoaehigmpbhppaa.En
open Go Go.Ev Go.Proofs Go.RowKit
abbrev KO (w : World) (k : Key) (l : List Value) (r : Value) : Prop := KeyOk Try.prog w k l r
abbrev KA (w0 : World) (k : Key) (l : List Value) (r : Value) : Prop := ∀ w, MM w0 w → KeyOk Try.prog w k l r
abbrev CA (w0 : World) (f : FuncId) (l : Array Value) (r : Value) : Prop := ∀ w, MM w0 w → Calls Try.prog f l w (RetV w r)
abbrev mV (x0 x1 x2 x3 x4 x5 x6 x7 : Int) : Value := .agg #[iV x0, iV x1, iV x2, iV x3, iV x4, iV x5, iV x6, iV x7]
section
variable {w0 : World} {x y : Int}
theorem kneqt (h : x ≠ y) : KA w0 (.bin .neq 3) [iV x, iV y] (.bool true) := fun _ _ => k_neq_t h
theorem kneqf (h : ¬ (x ≠ y)) : KA w0 (.bin .neq 3) [iV x, iV y] (.bool false) := fun _ _ => k_neq_f h
theorem keqlt (h : x = y) : KA w0 (.bin .eql 3) [iV x, iV y] (.bool true) := fun _ _ => k_eql_t h
theorem keqlf (h : ¬ (x = y)) : KA w0 (.bin .eql 3) [iV x, iV y] (.bool false) := fun _ _ => k_eql_f h
theorem klsst (h : x < y) : KA w0 (.bin .lss 3) [iV x, iV y] (.bool true) := fun _ _ => k_lss_t h
theorem klssf (h : ¬ (x < y)) : KA w0 (.bin .lss 3) [iV x, iV y] (.bool false) := fun _ _ => k_lss_f h
theorem kleqt (h : x ≤ y) : KA w0 (.bin .leq 3) [iV x, iV y] (.bool true) := fun _ _ => k_leq_t h
theorem kleqf (h : ¬ (x ≤ y)) : KA w0 (.bin .leq 3) [iV x, iV y] (.bool false) := fun _ _ => k_leq_f h
theorem kgtrt (h : x > y) : KA w0 (.bin .gtr 3) [iV x, iV y] (.bool true) := fun _ _ => k_gtr_t h
theorem kgtrf (h : ¬ (x > y)) : KA w0 (.bin .gtr 3) [iV x, iV y] (.bool false) := fun _ _ => k_gtr_f h
theorem kgeqt (h : x ≥ y) : KA w0 (.bin .geq 3) [iV x, iV y] (.bool true) := fun _ _ => k_geq_t h
theorem kgeqf (h : ¬ (x ≥ y)) : KA w0 (.bin .geq 3) [iV x, iV y] (.bool false) := fun _ _ => k_geq_f h
theorem kAdd (w0 : World) (x y : Int) (h : -9223372036854775808 ≤ x + y ∧ x + y ≤ 9223372036854775807) : KA w0 (.bin .add 3) [iV x, iV y] (iV (x + y)) := fun _ _ => k_add (wrap64 h)
theorem kSub (w0 : World) (x y : Int) (h : -9223372036854775808 ≤ x - y ∧ x - y ≤ 9223372036854775807) : KA w0 (.bin .sub 3) [iV x, iV y] (iV (x - y)) := fun _ _ => k_sub (wrap64 h)
end
abbrev cB (o : BinOp) (a b : Value) (r : Bool) : Ent := ⟨.bin o 3, [a, b], .bool r⟩
abbrev aB (o : BinOp) (a b r : Value) : Ent := ⟨.bin o 3, [a, b], r⟩
noncomputable abbrev gE := evG Try.prog env
noncomputable abbrev lE := evL Try.prog env
noncomputable abbrev rE := evR Try.prog env
end Go.Proofs.Ytoaehigmpbhppaa.En
namespace Go.Proofs.Ytoaehigmpbhppaa.En
open Go Go.Ev Go.Proofs Go.RowKit
theorem sq20 {x : Int} (h : 0 ≤ x) (h2 : x ≤ 1048576) : 0 ≤ x * x ∧ x * x ≤ 1099511627776 := ⟨Int.mul_nonneg h h, by have := Int.mul_le_mul h2 h2 h (by decide : (0 : Int) ≤ 1048576); omega⟩
theorem sq_lt {a b : Int} (h : 0 ≤ a) (h2 : a < b) : a * a < b * b := by
  have h1 : a * a ≤ a * b := Int.mul_le_mul_of_nonneg_left (by omega) h
  have h3 : a * b < b * b := Int.mul_lt_mul_of_pos_right h2 (by omega)
  omega
theorem sq_le {a b : Int} (h : 0 ≤ a) (h2 : a ≤ b) : a * a ≤ b * b := Int.mul_le_mul h2 h2 h (by omega)
/-- The root, rounded down. -/
noncomputable def rootD (n : Int) : Int := Classical.epsilon fun r => 0 ≤ r ∧ r * r ≤ n ∧ n < (r + 1) * (r + 1)
/-- The root, rounded up. -/
noncomputable def rootU (n : Int) : Int := Classical.epsilon fun r => 0 ≤ r ∧ n ≤ r * r ∧ (0 < r → (r - 1) * (r - 1) < n)
theorem rootD_eq {n r : Int} (h0 : 0 ≤ r) (h1 : r * r ≤ n) (h2 : n < (r + 1) * (r + 1)) : rootD n = r := by
  have hs := Classical.epsilon_spec (p := fun r : Int => 0 ≤ r ∧ r * r ≤ n ∧ n < (r + 1) * (r + 1)) ⟨r, h0, h1, h2⟩
  obtain ⟨q0, q1, q2⟩ := hs
  show Classical.epsilon _ = r
  generalize (Classical.epsilon fun r : Int => 0 ≤ r ∧ r * r ≤ n ∧ n < (r + 1) * (r + 1)) = x at *
  rcases Int.lt_trichotomy x r with h | h | h
  · have := sq_le (a := x + 1) (b := r) (by omega) (by omega); omega
  · exact h
  · have := sq_le (a := r + 1) (b := x) (by omega) (by omega); omega
theorem rootU_eq {n r : Int} (h0 : 0 ≤ r) (h1 : n ≤ r * r) (h2 : 0 < r → (r - 1) * (r - 1) < n) : rootU n = r := by
  have hs := Classical.epsilon_spec (p := fun r : Int => 0 ≤ r ∧ n ≤ r * r ∧ (0 < r → (r - 1) * (r - 1) < n)) ⟨r, h0, h1, h2⟩
  obtain ⟨q0, q1, q2⟩ := hs
  show Classical.epsilon _ = r
  generalize (Classical.epsilon fun r : Int => 0 ≤ r ∧ n ≤ r * r ∧ (0 < r → (r - 1) * (r - 1) < n)) = x at *
  rcases Int.lt_trichotomy x r with h | h | h
  · have := sq_le (a := x) (b := r - 1) q0 (by omega); have := h2 (by omega); omega
  · exact h
  · have := sq_le (a := r) (b := x - 1) h0 (by omega); have := q2 (by omega); omega
noncomputable def srchDownL_fr : Fr := mkFr Try.f95 [(1, (.func (.func 96) #[] #[(sy 0)])), (5, (sy 2)), (6, (sy 1))] []
noncomputable def srchDownL_st : St := mkSt 0 []
theorem srchDownL_wf : srchDownL_st.Wf := mkSt_wf rfl
def srchDownL_inv (B : Nat) (o : Nat) (arr : Array Value) (t0 : TypeId) (n : Int) (x : Int × Int) : Prop := 0 ≤ x.2 ∧ x.2 ≤ x.1 ∧ x.1 ≤ 1048576 ∧ (0 < x.2 → (x.2 - 1) * (x.2 - 1) ≤ n) ∧ (x.1 < 1048576 → n < x.1 * x.1)
set_option maxRecDepth 1000000 in
theorem srchDownL_id : agree [sy 0, sy 1, sy 2] [] srchDownL_fr srchDownL_st srchDownL_fr srchDownL_st = true := by kernel_rfl
noncomputable def srchDown_e0 : List Ent := [cB .lss (sy 2) (sy 1) true, aB .add (sy 2) (sy 1) (sy 3), ⟨(.conv 3 151), [(sy 3)], (sy 4)⟩, ⟨(.bin .shr 151), [(sy 4), (.int .u64 1)], (sy 5)⟩, ⟨(.conv 151 3), [(sy 5)], (sy 6)⟩, aB .mul (sy 6) (sy 6) (sy 7), ⟨(.load 3), [(sy 0)], (sy 8)⟩, cB .gtr (sy 7) (sy 8) true]
noncomputable def srchDown_c0 : List CEnt := []
set_option maxRecDepth 1000000 in
theorem srchDownL_r0 : ev Try.prog (env.sym srchDown_e0 srchDown_c0) 3000 (.code (inLoopC (inBlockC (headC (dropC 2 ((Try.f95.body).getD .skip))))) none srchDownL_fr srchDownL_st (stop .normal [(sy 0), (sy 6), (sy 2)] [] srchDownL_fr srchDownL_st)) = some () := by kernel_rfl
noncomputable def srchDown_e1 : List Ent := [cB .lss (sy 2) (sy 1) true, aB .add (sy 2) (sy 1) (sy 3), ⟨(.conv 3 151), [(sy 3)], (sy 4)⟩, ⟨(.bin .shr 151), [(sy 4), (.int .u64 1)], (sy 5)⟩, ⟨(.conv 151 3), [(sy 5)], (sy 6)⟩, aB .mul (sy 6) (sy 6) (sy 7), ⟨(.load 3), [(sy 0)], (sy 8)⟩, cB .gtr (sy 7) (sy 8) false, aB .add (sy 6) (iV 1) (sy 9)]
noncomputable def srchDown_c1 : List CEnt := []
set_option maxRecDepth 1000000 in
theorem srchDownL_r1 : ev Try.prog (env.sym srchDown_e1 srchDown_c1) 3000 (.code (inLoopC (inBlockC (headC (dropC 2 ((Try.f95.body).getD .skip))))) none srchDownL_fr srchDownL_st (stop .normal [(sy 0), (sy 1), (sy 9)] [] srchDownL_fr srchDownL_st)) = some () := by kernel_rfl
noncomputable def srchDown_e2 : List Ent := [cB .lss (sy 2) (sy 1) false]
noncomputable def srchDown_c2 : List CEnt := []
set_option maxRecDepth 1000000 in
theorem srchDownL_r2 : ev Try.prog (env.sym srchDown_e2 srchDown_c2) 3000 (.code (inLoopC (inBlockC (headC (dropC 2 ((Try.f95.body).getD .skip))))) none srchDownL_fr srchDownL_st (stop (.exit 0) [sy 0, sy 1, sy 2] [] srchDownL_fr srchDownL_st)) = some () := by kernel_rfl
set_option maxRecDepth 100000 in
theorem srchDownL_loop (B : Nat) (o : Nat) (arr : Array Value) (t0 : TypeId) (n : Int) (hv : arr[o]? = some (iV n)) {w0 : World} : ∀ (x : Int × Int) (a : Act) (w : World), (srchDownL_inv B o arr t0 n x ∧ @At (Rho.of [(.pointer (some ⟨B, o, none⟩)), (iV x.1), (iV x.2)] (memOne B (.cells arr t0 (0, 0)))) w0 srchDownL_fr srchDownL_st a w) → (Code.loop (inLoopC (inBlockC (headC (dropC 2 ((Try.f95.body).getD .skip)))))).wpIn (FF none) 0 Try.prog (fun ex a' w' => (ex = .exit 0 ∧ ∃ x' : Int × Int, (srchDownL_inv B o arr t0 n x' ∧ x'.1 ≤ x'.2) ∧ @At (Rho.of [(.pointer (some ⟨B, o, none⟩)), (iV (x'.1)), (iV (x'.2))] (memOne B (.cells arr t0 (0, 0)))) w0 srchDownL_fr srchDownL_st a' w')) a w := by
  refine loop_rounds (fun (x : Int × Int) a w => srchDownL_inv B o arr t0 n x ∧ @At (Rho.of [(.pointer (some ⟨B, o, none⟩)), (iV x.1), (iV x.2)] (memOne B (.cells arr t0 (0, 0)))) w0 srchDownL_fr srchDownL_st a w) (fun x => (x.1 - x.2).toNat) ?_
  rintro ⟨j, i⟩ a w ⟨hinv, hat⟩
  have hinv' := hinv
  simp only [srchDownL_inv] at hinv'
  obtain ⟨i0, i1, i2, i3, i4⟩ := hinv'
  by_cases c0 : i < j
  · by_cases c1 : (((i + j) / 2) * ((i + j) / 2)) > n
    · have hat1 : @At (Rho.of [(.pointer (some ⟨B, o, none⟩)), (iV j), (iV i), (iV ((i + j))), (.int .u64 ((i + j))), (.int .u64 (((i + j) / 2))), (iV (((i + j) / 2))), (iV ((((i + j) / 2) * ((i + j) / 2)))), (iV n)] (memOne B (.cells arr t0 (0, 0)))) w0 srchDownL_fr srchDownL_st a w := At.shift (ρ1 := (Rho.of [(.pointer (some ⟨B, o, none⟩)), (iV j), (iV i)] (memOne B (.cells arr t0 (0, 0))))) (ρ2 := (Rho.of [(.pointer (some ⟨B, o, none⟩)), (iV j), (iV i), (iV ((i + j))), (.int .u64 ((i + j))), (.int .u64 (((i + j) / 2))), (iV (((i + j) / 2))), (iV ((((i + j) / 2) * ((i + j) / 2)))), (iV n)] (memOne B (.cells arr t0 (0, 0))))) (σ := [sy 0, sy 1, sy 2]) (π := []) ⟨rfl, rfl, rfl, rfl, rfl, rfl, trivial⟩ (fun _ _ h => h) srchDownL_wf srchDownL_id hat
      refine At.piece (ρ1 := (Rho.of [(.pointer (some ⟨B, o, none⟩)), (iV j), (iV i), (iV ((i + j))), (.int .u64 ((i + j))), (.int .u64 (((i + j) / 2))), (iV (((i + j) / 2))), (iV ((((i + j) / 2) * ((i + j) / 2)))), (iV n)] (memOne B (.cells arr t0 (0, 0))))) (ρ2 := (Rho.of [(.pointer (some ⟨B, o, none⟩)), (iV (((i + j) / 2))), (iV i)] (memOne B (.cells arr t0 (0, 0))))) (@Env.Ok.sym (Rho.of [(.pointer (some ⟨B, o, none⟩)), (iV j), (iV i), (iV ((i + j))), (.int .u64 ((i + j))), (.int .u64 (((i + j) / 2))), (iV (((i + j) / 2))), (iV ((((i + j) / 2) * ((i + j) / 2)))), (iV n)] (memOne B (.cells arr t0 (0, 0)))) _ _ (@env_ok (Rho.of [(.pointer (some ⟨B, o, none⟩)), (iV j), (iV i), (iV ((i + j))), (.int .u64 ((i + j))), (.int .u64 (((i + j) / 2))), (iV (((i + j) / 2))), (iV ((((i + j) / 2) * ((i + j) / 2)))), (iV n)] (memOne B (.cells arr t0 (0, 0))))) srchDown_e0 srchDown_c0 ⟨⟨rfl, rfl, fun w hm => (show KO w (.bin .lss 3) [(iV i), (iV j)] (.bool true) from k_lss_t c0)⟩, ⟨rfl, rfl, fun w hm => (show KO w (.bin .add 3) [(iV i), (iV j)] (iV ((i + j))) from k_add (wrap64 (by first | omega | (have := sq20 (x := (i + j) / 2) (by omega) (by omega); omega))))⟩, ⟨rfl, rfl, fun w hm => (show KO w (.conv 3 151) [(iV ((i + j)))] (.int .u64 ((i + j))) from k_conv Try.underlying3 Try.underlying151 (wrapU64 (by first | omega | (have := sq20 (x := (i + j) / 2) (by omega) (by omega); omega))))⟩, ⟨rfl, rfl, fun w hm => (show KO w (.bin .shr 151) [(.int .u64 ((i + j))), (.int .u64 1)] (.int .u64 (((i + j) / 2))) from k_shr (n := 1) (d := 2) (by decide) (by decide))⟩, ⟨rfl, rfl, fun w hm => (show KO w (.conv 151 3) [(.int .u64 (((i + j) / 2)))] (iV (((i + j) / 2))) from k_conv Try.underlying151 Try.underlying3 (wrap64 (by first | omega | (have := sq20 (x := (i + j) / 2) (by omega) (by omega); omega))))⟩, ⟨rfl, rfl, fun w hm => (show KO w (.bin .mul 3) [(iV (((i + j) / 2))), (iV (((i + j) / 2)))] (iV ((((i + j) / 2) * ((i + j) / 2)))) from k_mul (wrap64 (by have := sq20 (x := ((i + j) / 2)) (by omega) (by omega); omega)))⟩, ⟨rfl, rfl, fun w hm => (show KO w (.load 3) [(.pointer (some ⟨B, o, none⟩))] (iV n) from k_load Try.underlying3 rfl (hm B _ (memOne_at _ _)) hv)⟩, ⟨rfl, rfl, fun w hm => (show KO w (.bin .gtr 3) [(iV ((((i + j) / 2) * ((i + j) / 2)))), (iV n)] (.bool true) from k_gtr_t c1)⟩, trivial⟩ trivial) srchDownL_r0 ⟨rfl, rfl, rfl, rfl, rfl, rfl, trivial⟩ (fun _ _ h => h) srchDownL_wf srchDownL_wf hat1 (fun a' w' hat' => .inl ⟨rfl, (((i + j) / 2), i), ?_, ?_, hat'⟩)
      · show ((((i + j) / 2)) - (i)).toNat < (j - i).toNat
        first | omega | (refine ⟨by omega, by omega, by omega, ?_, ?_⟩ <;> intro hh <;> first | exact i3 hh | exact i4 hh | omega | (rw [show ((i + j) / 2 + 1 - 1 : Int) = (i + j) / 2 by omega]; omega))
      · show 0 ≤ (i) ∧ (i) ≤ (((i + j) / 2)) ∧ (((i + j) / 2)) ≤ 1048576 ∧ (0 < (i) → ((i) - 1) * ((i) - 1) ≤ n) ∧ ((((i + j) / 2)) < 1048576 → n < (((i + j) / 2)) * (((i + j) / 2)))
        first | omega | (refine ⟨by omega, by omega, by omega, ?_, ?_⟩ <;> intro hh <;> first | exact i3 hh | exact i4 hh | omega | (rw [show ((i + j) / 2 + 1 - 1 : Int) = (i + j) / 2 by omega]; omega))
    · have hat1 : @At (Rho.of [(.pointer (some ⟨B, o, none⟩)), (iV j), (iV i), (iV ((i + j))), (.int .u64 ((i + j))), (.int .u64 (((i + j) / 2))), (iV (((i + j) / 2))), (iV ((((i + j) / 2) * ((i + j) / 2)))), (iV n), (iV ((((i + j) / 2) + 1)))] (memOne B (.cells arr t0 (0, 0)))) w0 srchDownL_fr srchDownL_st a w := At.shift (ρ1 := (Rho.of [(.pointer (some ⟨B, o, none⟩)), (iV j), (iV i)] (memOne B (.cells arr t0 (0, 0))))) (ρ2 := (Rho.of [(.pointer (some ⟨B, o, none⟩)), (iV j), (iV i), (iV ((i + j))), (.int .u64 ((i + j))), (.int .u64 (((i + j) / 2))), (iV (((i + j) / 2))), (iV ((((i + j) / 2) * ((i + j) / 2)))), (iV n), (iV ((((i + j) / 2) + 1)))] (memOne B (.cells arr t0 (0, 0))))) (σ := [sy 0, sy 1, sy 2]) (π := []) ⟨rfl, rfl, rfl, rfl, rfl, rfl, trivial⟩ (fun _ _ h => h) srchDownL_wf srchDownL_id hat
      refine At.piece (ρ1 := (Rho.of [(.pointer (some ⟨B, o, none⟩)), (iV j), (iV i), (iV ((i + j))), (.int .u64 ((i + j))), (.int .u64 (((i + j) / 2))), (iV (((i + j) / 2))), (iV ((((i + j) / 2) * ((i + j) / 2)))), (iV n), (iV ((((i + j) / 2) + 1)))] (memOne B (.cells arr t0 (0, 0))))) (ρ2 := (Rho.of [(.pointer (some ⟨B, o, none⟩)), (iV j), (iV ((((i + j) / 2) + 1)))] (memOne B (.cells arr t0 (0, 0))))) (@Env.Ok.sym (Rho.of [(.pointer (some ⟨B, o, none⟩)), (iV j), (iV i), (iV ((i + j))), (.int .u64 ((i + j))), (.int .u64 (((i + j) / 2))), (iV (((i + j) / 2))), (iV ((((i + j) / 2) * ((i + j) / 2)))), (iV n), (iV ((((i + j) / 2) + 1)))] (memOne B (.cells arr t0 (0, 0)))) _ _ (@env_ok (Rho.of [(.pointer (some ⟨B, o, none⟩)), (iV j), (iV i), (iV ((i + j))), (.int .u64 ((i + j))), (.int .u64 (((i + j) / 2))), (iV (((i + j) / 2))), (iV ((((i + j) / 2) * ((i + j) / 2)))), (iV n), (iV ((((i + j) / 2) + 1)))] (memOne B (.cells arr t0 (0, 0))))) srchDown_e1 srchDown_c1 ⟨⟨rfl, rfl, fun w hm => (show KO w (.bin .lss 3) [(iV i), (iV j)] (.bool true) from k_lss_t c0)⟩, ⟨rfl, rfl, fun w hm => (show KO w (.bin .add 3) [(iV i), (iV j)] (iV ((i + j))) from k_add (wrap64 (by first | omega | (have := sq20 (x := (i + j) / 2) (by omega) (by omega); omega))))⟩, ⟨rfl, rfl, fun w hm => (show KO w (.conv 3 151) [(iV ((i + j)))] (.int .u64 ((i + j))) from k_conv Try.underlying3 Try.underlying151 (wrapU64 (by first | omega | (have := sq20 (x := (i + j) / 2) (by omega) (by omega); omega))))⟩, ⟨rfl, rfl, fun w hm => (show KO w (.bin .shr 151) [(.int .u64 ((i + j))), (.int .u64 1)] (.int .u64 (((i + j) / 2))) from k_shr (n := 1) (d := 2) (by decide) (by decide))⟩, ⟨rfl, rfl, fun w hm => (show KO w (.conv 151 3) [(.int .u64 (((i + j) / 2)))] (iV (((i + j) / 2))) from k_conv Try.underlying151 Try.underlying3 (wrap64 (by first | omega | (have := sq20 (x := (i + j) / 2) (by omega) (by omega); omega))))⟩, ⟨rfl, rfl, fun w hm => (show KO w (.bin .mul 3) [(iV (((i + j) / 2))), (iV (((i + j) / 2)))] (iV ((((i + j) / 2) * ((i + j) / 2)))) from k_mul (wrap64 (by have := sq20 (x := ((i + j) / 2)) (by omega) (by omega); omega)))⟩, ⟨rfl, rfl, fun w hm => (show KO w (.load 3) [(.pointer (some ⟨B, o, none⟩))] (iV n) from k_load Try.underlying3 rfl (hm B _ (memOne_at _ _)) hv)⟩, ⟨rfl, rfl, fun w hm => (show KO w (.bin .gtr 3) [(iV ((((i + j) / 2) * ((i + j) / 2)))), (iV n)] (.bool false) from k_gtr_f c1)⟩, ⟨rfl, rfl, fun w hm => (show KO w (.bin .add 3) [(iV (((i + j) / 2))), (iV 1)] (iV ((((i + j) / 2) + 1))) from k_add (wrap64 (by first | omega | (have := sq20 (x := (i + j) / 2) (by omega) (by omega); omega))))⟩, trivial⟩ trivial) srchDownL_r1 ⟨rfl, rfl, rfl, rfl, rfl, rfl, trivial⟩ (fun _ _ h => h) srchDownL_wf srchDownL_wf hat1 (fun a' w' hat' => .inl ⟨rfl, (j, (((i + j) / 2) + 1)), ?_, ?_, hat'⟩)
      · show ((j) - ((((i + j) / 2) + 1))).toNat < (j - i).toNat
        first | omega | (refine ⟨by omega, by omega, by omega, ?_, ?_⟩ <;> intro hh <;> first | exact i3 hh | exact i4 hh | omega | (rw [show ((i + j) / 2 + 1 - 1 : Int) = (i + j) / 2 by omega]; omega))
      · show 0 ≤ ((((i + j) / 2) + 1)) ∧ ((((i + j) / 2) + 1)) ≤ (j) ∧ (j) ≤ 1048576 ∧ (0 < ((((i + j) / 2) + 1)) → (((((i + j) / 2) + 1)) - 1) * (((((i + j) / 2) + 1)) - 1) ≤ n) ∧ ((j) < 1048576 → n < (j) * (j))
        first | omega | (refine ⟨by omega, by omega, by omega, ?_, ?_⟩ <;> intro hh <;> first | exact i3 hh | exact i4 hh | omega | (rw [show ((i + j) / 2 + 1 - 1 : Int) = (i + j) / 2 by omega]; omega))
  · have hat1 : @At (Rho.of [(.pointer (some ⟨B, o, none⟩)), (iV j), (iV i)] (memOne B (.cells arr t0 (0, 0)))) w0 srchDownL_fr srchDownL_st a w := At.shift (ρ1 := (Rho.of [(.pointer (some ⟨B, o, none⟩)), (iV j), (iV i)] (memOne B (.cells arr t0 (0, 0))))) (ρ2 := (Rho.of [(.pointer (some ⟨B, o, none⟩)), (iV j), (iV i)] (memOne B (.cells arr t0 (0, 0))))) (σ := [sy 0, sy 1, sy 2]) (π := []) ⟨rfl, rfl, rfl, rfl, rfl, rfl, trivial⟩ (fun _ _ h => h) srchDownL_wf srchDownL_id hat
    refine At.piece (ρ1 := (Rho.of [(.pointer (some ⟨B, o, none⟩)), (iV j), (iV i)] (memOne B (.cells arr t0 (0, 0))))) (ρ2 := (Rho.of [(.pointer (some ⟨B, o, none⟩)), (iV j), (iV i)] (memOne B (.cells arr t0 (0, 0))))) (@Env.Ok.sym (Rho.of [(.pointer (some ⟨B, o, none⟩)), (iV j), (iV i)] (memOne B (.cells arr t0 (0, 0)))) _ _ (@env_ok (Rho.of [(.pointer (some ⟨B, o, none⟩)), (iV j), (iV i)] (memOne B (.cells arr t0 (0, 0))))) srchDown_e2 srchDown_c2 ⟨⟨rfl, rfl, fun w hm => (show KO w (.bin .lss 3) [(iV i), (iV j)] (.bool false) from k_lss_f c0)⟩, trivial⟩ trivial) srchDownL_r2 ⟨rfl, rfl, rfl, rfl, rfl, rfl, trivial⟩ (fun _ _ h => h) srchDownL_wf srchDownL_wf hat1 (fun a' w' hat' => .inr ⟨.inl ⟨0, rfl⟩, ⟨rfl, (j, i), ⟨hinv, ?_⟩, hat'⟩⟩)
    show j ≤ i
    first | omega | (refine ⟨by omega, by omega, by omega, ?_, ?_⟩ <;> intro hh <;> first | exact i3 hh | exact i4 hh | omega | (rw [show ((i + j) / 2 + 1 - 1 : Int) = (i + j) / 2 by omega]; omega))
set_option maxRecDepth 1000000 in
theorem srchDown_pre : segA Try.prog env 3000 (takeC 2 ((Try.f95.body).getD .skip)) (frameOf Try.f95 [(iV 1048576), (.func (.func 96) #[] #[(sy 0)])]) Ev.start (fun fr' s' => stop .normal [(sy 0), (iV 1048576), (iV 0)] [] srchDownL_fr srchDownL_st .normal fr' s') = some () := by kernel_rfl
set_option maxRecDepth 1000000 in
theorem srchDown_cut : dropC 2 ((Try.f95.body).getD .skip) = .seq (.block 0 (.loop (inLoopC (inBlockC (headC (dropC 2 ((Try.f95.body).getD .skip))))))) (dropC 3 ((Try.f95.body).getD .skip)) := by kernel_rfl
noncomputable def srchDown_e3 : List Ent := []
noncomputable def srchDown_c3 : List CEnt := []
set_option maxRecDepth 1000000 in
theorem srchDown_r3 : ev Try.prog (env.sym srchDown_e3 srchDown_c3) 3000 (.code (dropC 3 ((Try.f95.body).getD .skip)) none srchDownL_fr srchDownL_st (retK (env.sym srchDown_e3 srchDown_c3) Try.f95 fun v _ => cond (sameV 4 (sy 2) v) (some ()) none)) = some () := by kernel_rfl
set_option maxRecDepth 100000 in
theorem srchDown_any (B : Nat) (o : Nat) (arr : Array Value) (t0 : TypeId) (n : Int) (hv : arr[o]? = some (iV n)) (h0 : 0 ≤ n) (h1 : n ≤ 1000000000000) (w : World) (hB : w.heap[B]? = some (.cells arr t0 (0, 0))) : Calls Try.prog 95 #[(iV 1048576), (.func (.func 96) #[] #[(.pointer (some ⟨B, o, none⟩))])] w (fun en w' => en = .returned (iV (rootD n + 1)) ∧ Below w.heap.size w w') := by
  refine @calls_of_body (Rho.of [(.pointer (some ⟨B, o, none⟩))] (memOne B (.cells arr t0 (0, 0)))) Try.prog env (@env_ok (Rho.of [(.pointer (some ⟨B, o, none⟩))] (memOne B (.cells arr t0 (0, 0))))) 95 Try.f95 ((Try.f95.body).getD .skip) [(iV 1048576), (.func (.func 96) #[] #[(sy 0)])] w _ (by kernel_rfl) (by kernel_rfl) (of_decide_eq_true (by kernel_rfl)) (of_decide_eq_true (by kernel_rfl)) rfl (memOk_one hB) (fun a hat => ?_)
  refine At.cut (ρ1 := (Rho.of [(.pointer (some ⟨B, o, none⟩))] (memOne B (.cells arr t0 (0, 0))))) (ρ2 := (Rho.of [(.pointer (some ⟨B, o, none⟩)), (iV 1048576), (iV 0)] (memOne B (.cells arr t0 (0, 0))))) (@env_ok (Rho.of [(.pointer (some ⟨B, o, none⟩))] (memOne B (.cells arr t0 (0, 0))))) srchDown_pre ⟨rfl, rfl, rfl, rfl, rfl, rfl, trivial⟩ (fun _ _ h => h) start_wf srchDownL_wf hat (fun a1 w1 hat1 => ?_)
  rw [srchDown_cut]
  refine sym_then (I := fun a' w' => ∃ x' : Int × Int, (srchDownL_inv B o arr t0 n x' ∧ x'.1 ≤ x'.2) ∧ @At (Rho.of [(.pointer (some ⟨B, o, none⟩)), (iV (x'.1)), (iV (x'.2))] (memOne B (.cells arr t0 (0, 0)))) w srchDownL_fr srchDownL_st a' w') (sym_block (wpIn_mono (srchDownL_loop B o arr t0 n hv (1048576, 0) a1 w1 ⟨?_, hat1⟩) ?_)) ?_
  · show 0 ≤ (0) ∧ (0) ≤ (1048576) ∧ (1048576) ≤ 1048576 ∧ (0 < (0) → ((0) - 1) * ((0) - 1) ≤ n) ∧ ((1048576) < 1048576 → n < (1048576) * (1048576))
    omega
  · rintro ex a' w' ⟨rfl, h⟩
    exact .inl ⟨rfl, .inl ⟨rfl, h⟩⟩
  · rintro a' w' ⟨⟨j, i⟩, ⟨hinv, hdone⟩, hat'⟩
    simp only [srchDownL_inv] at hinv
    obtain ⟨i0, i1, i2, i3, i4⟩ := hinv
    simp only at hdone
    have hat1 : @At (Rho.of [(.pointer (some ⟨B, o, none⟩)), (iV j), (iV i)] (memOne B (.cells arr t0 (0, 0)))) w srchDownL_fr srchDownL_st a' w' := At.shift (ρ1 := (Rho.of [(.pointer (some ⟨B, o, none⟩)), (iV j), (iV i)] (memOne B (.cells arr t0 (0, 0))))) (ρ2 := (Rho.of [(.pointer (some ⟨B, o, none⟩)), (iV j), (iV i)] (memOne B (.cells arr t0 (0, 0))))) (σ := [sy 0, sy 1, sy 2]) (π := []) ⟨rfl, rfl, rfl, rfl, rfl, rfl, trivial⟩ (fun _ _ h => h) srchDownL_wf srchDownL_id hat'
    refine @At.last (Rho.of [(.pointer (some ⟨B, o, none⟩)), (iV j), (iV i)] (memOne B (.cells arr t0 (0, 0)))) Try.prog (env.sym srchDown_e3 srchDown_c3) (@Env.Ok.sym (Rho.of [(.pointer (some ⟨B, o, none⟩)), (iV j), (iV i)] (memOne B (.cells arr t0 (0, 0)))) _ _ (@env_ok (Rho.of [(.pointer (some ⟨B, o, none⟩)), (iV j), (iV i)] (memOne B (.cells arr t0 (0, 0))))) srchDown_e3 srchDown_c3 trivial trivial) w 3000 _ Try.f95 srchDownL_fr srchDownL_st (sy 2) _ srchDown_r3 rfl srchDownL_wf a' w' hat1 (fun w2 hb => ⟨?_, hb⟩)
    show Ending.returned (iV i) = Ending.returned (iV (rootD n + 1))
    have hres : ((iV i) : Value) = (iV (rootD n + 1)) := by
      have hji : j = i := by omega
      subst hji
      have q1 : n < j * j := by
        by_cases q : j < 1048576
        · exact i4 q
        · have e1 : j = 1048576 := by omega
          subst e1; omega
      have q0 : 0 < j := by
        by_cases q : 0 < j
        · exact q
        · have e1 : j = 0 := by omega
          subst e1; omega
      rw [rootD_eq (r := j - 1) (by omega) (i3 q0) (by rw [show j - 1 + 1 = j by omega]; exact q1), show j - 1 + 1 = j by omega]
    rw [hres]
noncomputable def srchUpL_fr : Fr := mkFr Try.f95 [(1, (.func (.func 97) #[] #[(sy 0)])), (5, (sy 2)), (6, (sy 1))] []
noncomputable def srchUpL_st : St := mkSt 0 []
theorem srchUpL_wf : srchUpL_st.Wf := mkSt_wf rfl
def srchUpL_inv (B : Nat) (o : Nat) (arr : Array Value) (t0 : TypeId) (n : Int) (x : Int × Int) : Prop := 0 ≤ x.2 ∧ x.2 ≤ x.1 ∧ x.1 ≤ 1048576 ∧ (0 < x.2 → (x.2 - 1) * (x.2 - 1) < n) ∧ (x.1 < 1048576 → n ≤ x.1 * x.1)
set_option maxRecDepth 1000000 in
theorem srchUpL_id : agree [sy 0, sy 1, sy 2] [] srchUpL_fr srchUpL_st srchUpL_fr srchUpL_st = true := by kernel_rfl
noncomputable def srchUp_e0 : List Ent := [cB .lss (sy 2) (sy 1) true, aB .add (sy 2) (sy 1) (sy 3), ⟨(.conv 3 151), [(sy 3)], (sy 4)⟩, ⟨(.bin .shr 151), [(sy 4), (.int .u64 1)], (sy 5)⟩, ⟨(.conv 151 3), [(sy 5)], (sy 6)⟩, aB .mul (sy 6) (sy 6) (sy 7), ⟨(.load 3), [(sy 0)], (sy 8)⟩, cB .geq (sy 7) (sy 8) true]
noncomputable def srchUp_c0 : List CEnt := []
set_option maxRecDepth 1000000 in
theorem srchUpL_r0 : ev Try.prog (env.sym srchUp_e0 srchUp_c0) 3000 (.code (inLoopC (inBlockC (headC (dropC 2 ((Try.f95.body).getD .skip))))) none srchUpL_fr srchUpL_st (stop .normal [(sy 0), (sy 6), (sy 2)] [] srchUpL_fr srchUpL_st)) = some () := by kernel_rfl
noncomputable def srchUp_e1 : List Ent := [cB .lss (sy 2) (sy 1) true, aB .add (sy 2) (sy 1) (sy 3), ⟨(.conv 3 151), [(sy 3)], (sy 4)⟩, ⟨(.bin .shr 151), [(sy 4), (.int .u64 1)], (sy 5)⟩, ⟨(.conv 151 3), [(sy 5)], (sy 6)⟩, aB .mul (sy 6) (sy 6) (sy 7), ⟨(.load 3), [(sy 0)], (sy 8)⟩, cB .geq (sy 7) (sy 8) false, aB .add (sy 6) (iV 1) (sy 9)]
noncomputable def srchUp_c1 : List CEnt := []
set_option maxRecDepth 1000000 in
theorem srchUpL_r1 : ev Try.prog (env.sym srchUp_e1 srchUp_c1) 3000 (.code (inLoopC (inBlockC (headC (dropC 2 ((Try.f95.body).getD .skip))))) none srchUpL_fr srchUpL_st (stop .normal [(sy 0), (sy 1), (sy 9)] [] srchUpL_fr srchUpL_st)) = some () := by kernel_rfl
noncomputable def srchUp_e2 : List Ent := [cB .lss (sy 2) (sy 1) false]
noncomputable def srchUp_c2 : List CEnt := []
set_option maxRecDepth 1000000 in
theorem srchUpL_r2 : ev Try.prog (env.sym srchUp_e2 srchUp_c2) 3000 (.code (inLoopC (inBlockC (headC (dropC 2 ((Try.f95.body).getD .skip))))) none srchUpL_fr srchUpL_st (stop (.exit 0) [sy 0, sy 1, sy 2] [] srchUpL_fr srchUpL_st)) = some () := by kernel_rfl
set_option maxRecDepth 100000 in
theorem srchUpL_loop (B : Nat) (o : Nat) (arr : Array Value) (t0 : TypeId) (n : Int) (hv : arr[o]? = some (iV n)) {w0 : World} : ∀ (x : Int × Int) (a : Act) (w : World), (srchUpL_inv B o arr t0 n x ∧ @At (Rho.of [(.pointer (some ⟨B, o, none⟩)), (iV x.1), (iV x.2)] (memOne B (.cells arr t0 (0, 0)))) w0 srchUpL_fr srchUpL_st a w) → (Code.loop (inLoopC (inBlockC (headC (dropC 2 ((Try.f95.body).getD .skip)))))).wpIn (FF none) 0 Try.prog (fun ex a' w' => (ex = .exit 0 ∧ ∃ x' : Int × Int, (srchUpL_inv B o arr t0 n x' ∧ x'.1 ≤ x'.2) ∧ @At (Rho.of [(.pointer (some ⟨B, o, none⟩)), (iV (x'.1)), (iV (x'.2))] (memOne B (.cells arr t0 (0, 0)))) w0 srchUpL_fr srchUpL_st a' w')) a w := by
  refine loop_rounds (fun (x : Int × Int) a w => srchUpL_inv B o arr t0 n x ∧ @At (Rho.of [(.pointer (some ⟨B, o, none⟩)), (iV x.1), (iV x.2)] (memOne B (.cells arr t0 (0, 0)))) w0 srchUpL_fr srchUpL_st a w) (fun x => (x.1 - x.2).toNat) ?_
  rintro ⟨j, i⟩ a w ⟨hinv, hat⟩
  have hinv' := hinv
  simp only [srchUpL_inv] at hinv'
  obtain ⟨i0, i1, i2, i3, i4⟩ := hinv'
  by_cases c0 : i < j
  · by_cases c1 : (((i + j) / 2) * ((i + j) / 2)) ≥ n
    · have hat1 : @At (Rho.of [(.pointer (some ⟨B, o, none⟩)), (iV j), (iV i), (iV ((i + j))), (.int .u64 ((i + j))), (.int .u64 (((i + j) / 2))), (iV (((i + j) / 2))), (iV ((((i + j) / 2) * ((i + j) / 2)))), (iV n)] (memOne B (.cells arr t0 (0, 0)))) w0 srchUpL_fr srchUpL_st a w := At.shift (ρ1 := (Rho.of [(.pointer (some ⟨B, o, none⟩)), (iV j), (iV i)] (memOne B (.cells arr t0 (0, 0))))) (ρ2 := (Rho.of [(.pointer (some ⟨B, o, none⟩)), (iV j), (iV i), (iV ((i + j))), (.int .u64 ((i + j))), (.int .u64 (((i + j) / 2))), (iV (((i + j) / 2))), (iV ((((i + j) / 2) * ((i + j) / 2)))), (iV n)] (memOne B (.cells arr t0 (0, 0))))) (σ := [sy 0, sy 1, sy 2]) (π := []) ⟨rfl, rfl, rfl, rfl, rfl, rfl, trivial⟩ (fun _ _ h => h) srchUpL_wf srchUpL_id hat
      refine At.piece (ρ1 := (Rho.of [(.pointer (some ⟨B, o, none⟩)), (iV j), (iV i), (iV ((i + j))), (.int .u64 ((i + j))), (.int .u64 (((i + j) / 2))), (iV (((i + j) / 2))), (iV ((((i + j) / 2) * ((i + j) / 2)))), (iV n)] (memOne B (.cells arr t0 (0, 0))))) (ρ2 := (Rho.of [(.pointer (some ⟨B, o, none⟩)), (iV (((i + j) / 2))), (iV i)] (memOne B (.cells arr t0 (0, 0))))) (@Env.Ok.sym (Rho.of [(.pointer (some ⟨B, o, none⟩)), (iV j), (iV i), (iV ((i + j))), (.int .u64 ((i + j))), (.int .u64 (((i + j) / 2))), (iV (((i + j) / 2))), (iV ((((i + j) / 2) * ((i + j) / 2)))), (iV n)] (memOne B (.cells arr t0 (0, 0)))) _ _ (@env_ok (Rho.of [(.pointer (some ⟨B, o, none⟩)), (iV j), (iV i), (iV ((i + j))), (.int .u64 ((i + j))), (.int .u64 (((i + j) / 2))), (iV (((i + j) / 2))), (iV ((((i + j) / 2) * ((i + j) / 2)))), (iV n)] (memOne B (.cells arr t0 (0, 0))))) srchUp_e0 srchUp_c0 ⟨⟨rfl, rfl, fun w hm => (show KO w (.bin .lss 3) [(iV i), (iV j)] (.bool true) from k_lss_t c0)⟩, ⟨rfl, rfl, fun w hm => (show KO w (.bin .add 3) [(iV i), (iV j)] (iV ((i + j))) from k_add (wrap64 (by first | omega | (have := sq20 (x := (i + j) / 2) (by omega) (by omega); omega))))⟩, ⟨rfl, rfl, fun w hm => (show KO w (.conv 3 151) [(iV ((i + j)))] (.int .u64 ((i + j))) from k_conv Try.underlying3 Try.underlying151 (wrapU64 (by first | omega | (have := sq20 (x := (i + j) / 2) (by omega) (by omega); omega))))⟩, ⟨rfl, rfl, fun w hm => (show KO w (.bin .shr 151) [(.int .u64 ((i + j))), (.int .u64 1)] (.int .u64 (((i + j) / 2))) from k_shr (n := 1) (d := 2) (by decide) (by decide))⟩, ⟨rfl, rfl, fun w hm => (show KO w (.conv 151 3) [(.int .u64 (((i + j) / 2)))] (iV (((i + j) / 2))) from k_conv Try.underlying151 Try.underlying3 (wrap64 (by first | omega | (have := sq20 (x := (i + j) / 2) (by omega) (by omega); omega))))⟩, ⟨rfl, rfl, fun w hm => (show KO w (.bin .mul 3) [(iV (((i + j) / 2))), (iV (((i + j) / 2)))] (iV ((((i + j) / 2) * ((i + j) / 2)))) from k_mul (wrap64 (by have := sq20 (x := ((i + j) / 2)) (by omega) (by omega); omega)))⟩, ⟨rfl, rfl, fun w hm => (show KO w (.load 3) [(.pointer (some ⟨B, o, none⟩))] (iV n) from k_load Try.underlying3 rfl (hm B _ (memOne_at _ _)) hv)⟩, ⟨rfl, rfl, fun w hm => (show KO w (.bin .geq 3) [(iV ((((i + j) / 2) * ((i + j) / 2)))), (iV n)] (.bool true) from k_geq_t c1)⟩, trivial⟩ trivial) srchUpL_r0 ⟨rfl, rfl, rfl, rfl, rfl, rfl, trivial⟩ (fun _ _ h => h) srchUpL_wf srchUpL_wf hat1 (fun a' w' hat' => .inl ⟨rfl, (((i + j) / 2), i), ?_, ?_, hat'⟩)
      · show ((((i + j) / 2)) - (i)).toNat < (j - i).toNat
        first | omega | (refine ⟨by omega, by omega, by omega, ?_, ?_⟩ <;> intro hh <;> first | exact i3 hh | exact i4 hh | omega | (rw [show ((i + j) / 2 + 1 - 1 : Int) = (i + j) / 2 by omega]; omega))
      · show 0 ≤ (i) ∧ (i) ≤ (((i + j) / 2)) ∧ (((i + j) / 2)) ≤ 1048576 ∧ (0 < (i) → ((i) - 1) * ((i) - 1) < n) ∧ ((((i + j) / 2)) < 1048576 → n ≤ (((i + j) / 2)) * (((i + j) / 2)))
        first | omega | (refine ⟨by omega, by omega, by omega, ?_, ?_⟩ <;> intro hh <;> first | exact i3 hh | exact i4 hh | omega | (rw [show ((i + j) / 2 + 1 - 1 : Int) = (i + j) / 2 by omega]; omega))
    · have hat1 : @At (Rho.of [(.pointer (some ⟨B, o, none⟩)), (iV j), (iV i), (iV ((i + j))), (.int .u64 ((i + j))), (.int .u64 (((i + j) / 2))), (iV (((i + j) / 2))), (iV ((((i + j) / 2) * ((i + j) / 2)))), (iV n), (iV ((((i + j) / 2) + 1)))] (memOne B (.cells arr t0 (0, 0)))) w0 srchUpL_fr srchUpL_st a w := At.shift (ρ1 := (Rho.of [(.pointer (some ⟨B, o, none⟩)), (iV j), (iV i)] (memOne B (.cells arr t0 (0, 0))))) (ρ2 := (Rho.of [(.pointer (some ⟨B, o, none⟩)), (iV j), (iV i), (iV ((i + j))), (.int .u64 ((i + j))), (.int .u64 (((i + j) / 2))), (iV (((i + j) / 2))), (iV ((((i + j) / 2) * ((i + j) / 2)))), (iV n), (iV ((((i + j) / 2) + 1)))] (memOne B (.cells arr t0 (0, 0))))) (σ := [sy 0, sy 1, sy 2]) (π := []) ⟨rfl, rfl, rfl, rfl, rfl, rfl, trivial⟩ (fun _ _ h => h) srchUpL_wf srchUpL_id hat
      refine At.piece (ρ1 := (Rho.of [(.pointer (some ⟨B, o, none⟩)), (iV j), (iV i), (iV ((i + j))), (.int .u64 ((i + j))), (.int .u64 (((i + j) / 2))), (iV (((i + j) / 2))), (iV ((((i + j) / 2) * ((i + j) / 2)))), (iV n), (iV ((((i + j) / 2) + 1)))] (memOne B (.cells arr t0 (0, 0))))) (ρ2 := (Rho.of [(.pointer (some ⟨B, o, none⟩)), (iV j), (iV ((((i + j) / 2) + 1)))] (memOne B (.cells arr t0 (0, 0))))) (@Env.Ok.sym (Rho.of [(.pointer (some ⟨B, o, none⟩)), (iV j), (iV i), (iV ((i + j))), (.int .u64 ((i + j))), (.int .u64 (((i + j) / 2))), (iV (((i + j) / 2))), (iV ((((i + j) / 2) * ((i + j) / 2)))), (iV n), (iV ((((i + j) / 2) + 1)))] (memOne B (.cells arr t0 (0, 0)))) _ _ (@env_ok (Rho.of [(.pointer (some ⟨B, o, none⟩)), (iV j), (iV i), (iV ((i + j))), (.int .u64 ((i + j))), (.int .u64 (((i + j) / 2))), (iV (((i + j) / 2))), (iV ((((i + j) / 2) * ((i + j) / 2)))), (iV n), (iV ((((i + j) / 2) + 1)))] (memOne B (.cells arr t0 (0, 0))))) srchUp_e1 srchUp_c1 ⟨⟨rfl, rfl, fun w hm => (show KO w (.bin .lss 3) [(iV i), (iV j)] (.bool true) from k_lss_t c0)⟩, ⟨rfl, rfl, fun w hm => (show KO w (.bin .add 3) [(iV i), (iV j)] (iV ((i + j))) from k_add (wrap64 (by first | omega | (have := sq20 (x := (i + j) / 2) (by omega) (by omega); omega))))⟩, ⟨rfl, rfl, fun w hm => (show KO w (.conv 3 151) [(iV ((i + j)))] (.int .u64 ((i + j))) from k_conv Try.underlying3 Try.underlying151 (wrapU64 (by first | omega | (have := sq20 (x := (i + j) / 2) (by omega) (by omega); omega))))⟩, ⟨rfl, rfl, fun w hm => (show KO w (.bin .shr 151) [(.int .u64 ((i + j))), (.int .u64 1)] (.int .u64 (((i + j) / 2))) from k_shr (n := 1) (d := 2) (by decide) (by decide))⟩, ⟨rfl, rfl, fun w hm => (show KO w (.conv 151 3) [(.int .u64 (((i + j) / 2)))] (iV (((i + j) / 2))) from k_conv Try.underlying151 Try.underlying3 (wrap64 (by first | omega | (have := sq20 (x := (i + j) / 2) (by omega) (by omega); omega))))⟩, ⟨rfl, rfl, fun w hm => (show KO w (.bin .mul 3) [(iV (((i + j) / 2))), (iV (((i + j) / 2)))] (iV ((((i + j) / 2) * ((i + j) / 2)))) from k_mul (wrap64 (by have := sq20 (x := ((i + j) / 2)) (by omega) (by omega); omega)))⟩, ⟨rfl, rfl, fun w hm => (show KO w (.load 3) [(.pointer (some ⟨B, o, none⟩))] (iV n) from k_load Try.underlying3 rfl (hm B _ (memOne_at _ _)) hv)⟩, ⟨rfl, rfl, fun w hm => (show KO w (.bin .geq 3) [(iV ((((i + j) / 2) * ((i + j) / 2)))), (iV n)] (.bool false) from k_geq_f c1)⟩, ⟨rfl, rfl, fun w hm => (show KO w (.bin .add 3) [(iV (((i + j) / 2))), (iV 1)] (iV ((((i + j) / 2) + 1))) from k_add (wrap64 (by first | omega | (have := sq20 (x := (i + j) / 2) (by omega) (by omega); omega))))⟩, trivial⟩ trivial) srchUpL_r1 ⟨rfl, rfl, rfl, rfl, rfl, rfl, trivial⟩ (fun _ _ h => h) srchUpL_wf srchUpL_wf hat1 (fun a' w' hat' => .inl ⟨rfl, (j, (((i + j) / 2) + 1)), ?_, ?_, hat'⟩)
      · show ((j) - ((((i + j) / 2) + 1))).toNat < (j - i).toNat
        first | omega | (refine ⟨by omega, by omega, by omega, ?_, ?_⟩ <;> intro hh <;> first | exact i3 hh | exact i4 hh | omega | (rw [show ((i + j) / 2 + 1 - 1 : Int) = (i + j) / 2 by omega]; omega))
      · show 0 ≤ ((((i + j) / 2) + 1)) ∧ ((((i + j) / 2) + 1)) ≤ (j) ∧ (j) ≤ 1048576 ∧ (0 < ((((i + j) / 2) + 1)) → (((((i + j) / 2) + 1)) - 1) * (((((i + j) / 2) + 1)) - 1) < n) ∧ ((j) < 1048576 → n ≤ (j) * (j))
        first | omega | (refine ⟨by omega, by omega, by omega, ?_, ?_⟩ <;> intro hh <;> first | exact i3 hh | exact i4 hh | omega | (rw [show ((i + j) / 2 + 1 - 1 : Int) = (i + j) / 2 by omega]; omega))
  · have hat1 : @At (Rho.of [(.pointer (some ⟨B, o, none⟩)), (iV j), (iV i)] (memOne B (.cells arr t0 (0, 0)))) w0 srchUpL_fr srchUpL_st a w := At.shift (ρ1 := (Rho.of [(.pointer (some ⟨B, o, none⟩)), (iV j), (iV i)] (memOne B (.cells arr t0 (0, 0))))) (ρ2 := (Rho.of [(.pointer (some ⟨B, o, none⟩)), (iV j), (iV i)] (memOne B (.cells arr t0 (0, 0))))) (σ := [sy 0, sy 1, sy 2]) (π := []) ⟨rfl, rfl, rfl, rfl, rfl, rfl, trivial⟩ (fun _ _ h => h) srchUpL_wf srchUpL_id hat
    refine At.piece (ρ1 := (Rho.of [(.pointer (some ⟨B, o, none⟩)), (iV j), (iV i)] (memOne B (.cells arr t0 (0, 0))))) (ρ2 := (Rho.of [(.pointer (some ⟨B, o, none⟩)), (iV j), (iV i)] (memOne B (.cells arr t0 (0, 0))))) (@Env.Ok.sym (Rho.of [(.pointer (some ⟨B, o, none⟩)), (iV j), (iV i)] (memOne B (.cells arr t0 (0, 0)))) _ _ (@env_ok (Rho.of [(.pointer (some ⟨B, o, none⟩)), (iV j), (iV i)] (memOne B (.cells arr t0 (0, 0))))) srchUp_e2 srchUp_c2 ⟨⟨rfl, rfl, fun w hm => (show KO w (.bin .lss 3) [(iV i), (iV j)] (.bool false) from k_lss_f c0)⟩, trivial⟩ trivial) srchUpL_r2 ⟨rfl, rfl, rfl, rfl, rfl, rfl, trivial⟩ (fun _ _ h => h) srchUpL_wf srchUpL_wf hat1 (fun a' w' hat' => .inr ⟨.inl ⟨0, rfl⟩, ⟨rfl, (j, i), ⟨hinv, ?_⟩, hat'⟩⟩)
    show j ≤ i
    first | omega | (refine ⟨by omega, by omega, by omega, ?_, ?_⟩ <;> intro hh <;> first | exact i3 hh | exact i4 hh | omega | (rw [show ((i + j) / 2 + 1 - 1 : Int) = (i + j) / 2 by omega]; omega))
set_option maxRecDepth 1000000 in
theorem srchUp_pre : segA Try.prog env 3000 (takeC 2 ((Try.f95.body).getD .skip)) (frameOf Try.f95 [(iV 1048576), (.func (.func 97) #[] #[(sy 0)])]) Ev.start (fun fr' s' => stop .normal [(sy 0), (iV 1048576), (iV 0)] [] srchUpL_fr srchUpL_st .normal fr' s') = some () := by kernel_rfl
set_option maxRecDepth 1000000 in
theorem srchUp_cut : dropC 2 ((Try.f95.body).getD .skip) = .seq (.block 0 (.loop (inLoopC (inBlockC (headC (dropC 2 ((Try.f95.body).getD .skip))))))) (dropC 3 ((Try.f95.body).getD .skip)) := by kernel_rfl
noncomputable def srchUp_e3 : List Ent := []
noncomputable def srchUp_c3 : List CEnt := []
set_option maxRecDepth 1000000 in
theorem srchUp_r3 : ev Try.prog (env.sym srchUp_e3 srchUp_c3) 3000 (.code (dropC 3 ((Try.f95.body).getD .skip)) none srchUpL_fr srchUpL_st (retK (env.sym srchUp_e3 srchUp_c3) Try.f95 fun v _ => cond (sameV 4 (sy 2) v) (some ()) none)) = some () := by kernel_rfl
set_option maxRecDepth 100000 in
theorem srchUp_any (B : Nat) (o : Nat) (arr : Array Value) (t0 : TypeId) (n : Int) (hv : arr[o]? = some (iV n)) (h0 : 0 ≤ n) (h1 : n ≤ 1000000000000) (w : World) (hB : w.heap[B]? = some (.cells arr t0 (0, 0))) : Calls Try.prog 95 #[(iV 1048576), (.func (.func 97) #[] #[(.pointer (some ⟨B, o, none⟩))])] w (fun en w' => en = .returned (iV (rootU n)) ∧ Below w.heap.size w w') := by
  refine @calls_of_body (Rho.of [(.pointer (some ⟨B, o, none⟩))] (memOne B (.cells arr t0 (0, 0)))) Try.prog env (@env_ok (Rho.of [(.pointer (some ⟨B, o, none⟩))] (memOne B (.cells arr t0 (0, 0))))) 95 Try.f95 ((Try.f95.body).getD .skip) [(iV 1048576), (.func (.func 97) #[] #[(sy 0)])] w _ (by kernel_rfl) (by kernel_rfl) (of_decide_eq_true (by kernel_rfl)) (of_decide_eq_true (by kernel_rfl)) rfl (memOk_one hB) (fun a hat => ?_)
  refine At.cut (ρ1 := (Rho.of [(.pointer (some ⟨B, o, none⟩))] (memOne B (.cells arr t0 (0, 0))))) (ρ2 := (Rho.of [(.pointer (some ⟨B, o, none⟩)), (iV 1048576), (iV 0)] (memOne B (.cells arr t0 (0, 0))))) (@env_ok (Rho.of [(.pointer (some ⟨B, o, none⟩))] (memOne B (.cells arr t0 (0, 0))))) srchUp_pre ⟨rfl, rfl, rfl, rfl, rfl, rfl, trivial⟩ (fun _ _ h => h) start_wf srchUpL_wf hat (fun a1 w1 hat1 => ?_)
  rw [srchUp_cut]
  refine sym_then (I := fun a' w' => ∃ x' : Int × Int, (srchUpL_inv B o arr t0 n x' ∧ x'.1 ≤ x'.2) ∧ @At (Rho.of [(.pointer (some ⟨B, o, none⟩)), (iV (x'.1)), (iV (x'.2))] (memOne B (.cells arr t0 (0, 0)))) w srchUpL_fr srchUpL_st a' w') (sym_block (wpIn_mono (srchUpL_loop B o arr t0 n hv (1048576, 0) a1 w1 ⟨?_, hat1⟩) ?_)) ?_
  · show 0 ≤ (0) ∧ (0) ≤ (1048576) ∧ (1048576) ≤ 1048576 ∧ (0 < (0) → ((0) - 1) * ((0) - 1) < n) ∧ ((1048576) < 1048576 → n ≤ (1048576) * (1048576))
    omega
  · rintro ex a' w' ⟨rfl, h⟩
    exact .inl ⟨rfl, .inl ⟨rfl, h⟩⟩
  · rintro a' w' ⟨⟨j, i⟩, ⟨hinv, hdone⟩, hat'⟩
    simp only [srchUpL_inv] at hinv
    obtain ⟨i0, i1, i2, i3, i4⟩ := hinv
    simp only at hdone
    have hat1 : @At (Rho.of [(.pointer (some ⟨B, o, none⟩)), (iV j), (iV i)] (memOne B (.cells arr t0 (0, 0)))) w srchUpL_fr srchUpL_st a' w' := At.shift (ρ1 := (Rho.of [(.pointer (some ⟨B, o, none⟩)), (iV j), (iV i)] (memOne B (.cells arr t0 (0, 0))))) (ρ2 := (Rho.of [(.pointer (some ⟨B, o, none⟩)), (iV j), (iV i)] (memOne B (.cells arr t0 (0, 0))))) (σ := [sy 0, sy 1, sy 2]) (π := []) ⟨rfl, rfl, rfl, rfl, rfl, rfl, trivial⟩ (fun _ _ h => h) srchUpL_wf srchUpL_id hat'
    refine @At.last (Rho.of [(.pointer (some ⟨B, o, none⟩)), (iV j), (iV i)] (memOne B (.cells arr t0 (0, 0)))) Try.prog (env.sym srchUp_e3 srchUp_c3) (@Env.Ok.sym (Rho.of [(.pointer (some ⟨B, o, none⟩)), (iV j), (iV i)] (memOne B (.cells arr t0 (0, 0)))) _ _ (@env_ok (Rho.of [(.pointer (some ⟨B, o, none⟩)), (iV j), (iV i)] (memOne B (.cells arr t0 (0, 0))))) srchUp_e3 srchUp_c3 trivial trivial) w 3000 _ Try.f95 srchUpL_fr srchUpL_st (sy 2) _ srchUp_r3 rfl srchUpL_wf a' w' hat1 (fun w2 hb => ⟨?_, hb⟩)
    show Ending.returned (iV i) = Ending.returned (iV (rootU n))
    have hres : ((iV i) : Value) = (iV (rootU n)) := by
      have hji : j = i := by omega
      subst hji
      have q1 : n ≤ j * j := by
        by_cases q : j < 1048576
        · exact i4 q
        · have e1 : j = 1048576 := by omega
          subst e1; omega
      rw [rootU_eq (r := j) (by omega) q1 i3]
    rw [hres]
end Go.Proofs.Ytoaehigmpbhppaa.En
namespace Go.Proofs.Ytoaehigmpbhppaa.En
open Go Go.Ev Go.Proofs Go.RowKit
theorem rootD_ex {n : Int} (h0 : 0 ≤ n) (h1 : n ≤ 1000000000000) : ∃ r, 0 ≤ r ∧ r * r ≤ n ∧ n < (r + 1) * (r + 1) ∧ r < 1048576 := by
  have key : ∀ k : Nat, n < (k : Int) * (k : Int) → k ≤ 1048576 → ∃ r, 0 ≤ r ∧ r * r ≤ n ∧ n < (r + 1) * (r + 1) ∧ r < 1048576 := by
    intro k
    induction k with
    | zero => intro h; simp at h; omega
    | succ k ih =>
      intro h hk
      by_cases q : n < (k : Int) * (k : Int)
      · exact ih q (by omega)
      · exact ⟨k, by omega, by omega, by simpa using h, by omega⟩
  exact key 1048576 (by simp; omega) (by omega)
theorem rootD_bd {n : Int} (h0 : 0 ≤ n) (h1 : n ≤ 1000000000000) : 0 ≤ rootD n ∧ rootD n < 1048576 := by
  obtain ⟨r, q1, q2, q3, q4⟩ := rootD_ex h0 h1
  rw [rootD_eq q1 q2 q3]
  exact ⟨q1, q4⟩
noncomputable def rootDown_e0 : List Ent := [aB .sub (sy 1) (iV 1) (sy 2)]
noncomputable def rootDown_c0 : List CEnt := [⟨95, [(iV 1048576), (.func (.func 96) #[] #[(.pointer (.some (.mk 0 0 .none)))])], [(0, (.cells [(sy 0)] 3 .none false))], (sy 1)⟩]
set_option maxRecDepth 1000000 in
theorem rootDown_r0 : ev Try.prog (env.sym rootDown_e0 rootDown_c0) 3000 (.call 81 [(sy 0)] Ev.start fun v _ => some v) = some (sy 2) := by kernel_rfl
set_option maxHeartbeats 8000000 in
set_option maxRecDepth 100000 in
theorem rootDown_any (n : Int) (h0 : 0 ≤ n) (h1 : n ≤ 1000000000000) (w : World)  : Calls Try.prog 81 #[(iV n)] w (fun en w' => en = .returned (iV (rootD n)) ∧ Below w.heap.size w w') := by
  have q := @calls_sym (Rho.of [(iV n), (iV ((rootD n + 1))), (iV (((rootD n + 1) - 1)))] (fun _ => none)) Try.prog _ (@Env.Ok.sym (Rho.of [(iV n), (iV ((rootD n + 1))), (iV (((rootD n + 1) - 1)))] (fun _ => none)) _ _ (@env_ok (Rho.of [(iV n), (iV ((rootD n + 1))), (iV (((rootD n + 1) - 1)))] (fun _ => none))) rootDown_e0 rootDown_c0 ⟨⟨rfl, rfl, fun w hm => (show KO w (.bin .sub 3) [(iV ((rootD n + 1))), (iV 1)] (iV (((rootD n + 1) - 1))) from k_sub (wrap64 (by have := rootD_bd h0 h1; omega)))⟩, trivial⟩ ⟨@cent_box (Rho.of [(iV n), (iV ((rootD n + 1))), (iV (((rootD n + 1) - 1)))] (fun _ => none)) _ _ _ _ _ _ _ _ _ _ _ _ rfl ⟨Try.f95, (Try.f95.body).getD .skip, by kernel_rfl, by kernel_rfl⟩ rfl (fun B o arr w hB hv => srchDown_any B o arr _ n hv h0 h1 w hB), trivial⟩) 3000 81 [(sy 0)] (sy 2) rfl rfl rootDown_r0 w (fun _ _ h => nomatch h)
  have v0 : (((rootD n + 1) - 1) : Int) = rootD n := by
    omega
  have hv : ((iV (((rootD n + 1) - 1))) : Value) = (iV (rootD n)) := by rw [v0]
  rw [← hv]
  exact q
noncomputable def rootUp_e0 : List Ent := []
noncomputable def rootUp_c0 : List CEnt := [⟨95, [(iV 1048576), (.func (.func 97) #[] #[(.pointer (.some (.mk 0 0 .none)))])], [(0, (.cells [(sy 0)] 3 .none false))], (sy 1)⟩]
set_option maxRecDepth 1000000 in
theorem rootUp_r0 : ev Try.prog (env.sym rootUp_e0 rootUp_c0) 3000 (.call 82 [(sy 0)] Ev.start fun v _ => some v) = some (sy 1) := by kernel_rfl
set_option maxHeartbeats 8000000 in
set_option maxRecDepth 100000 in
theorem rootUp_any (n : Int) (h0 : 0 ≤ n) (h1 : n ≤ 1000000000000) (w : World)  : Calls Try.prog 82 #[(iV n)] w (fun en w' => en = .returned (iV (rootU n)) ∧ Below w.heap.size w w') := by
  have q := @calls_sym (Rho.of [(iV n), (iV ((rootU n)))] (fun _ => none)) Try.prog _ (@Env.Ok.sym (Rho.of [(iV n), (iV ((rootU n)))] (fun _ => none)) _ _ (@env_ok (Rho.of [(iV n), (iV ((rootU n)))] (fun _ => none))) rootUp_e0 rootUp_c0 trivial ⟨@cent_box (Rho.of [(iV n), (iV ((rootU n)))] (fun _ => none)) _ _ _ _ _ _ _ _ _ _ _ _ rfl ⟨Try.f95, (Try.f95.body).getD .skip, by kernel_rfl, by kernel_rfl⟩ rfl (fun B o arr w hB hv => srchUp_any B o arr _ n hv h0 h1 w hB), trivial⟩) 3000 82 [(sy 0)] (sy 1) rfl rfl rootUp_r0 w (fun _ _ h => nomatch h)
  have v0 : ((rootU n) : Int) = rootU n := by
    omega
  have hv : ((iV ((rootU n))) : Value) = (iV (rootU n)) := by rw [v0]
  rw [← hv]
  exact q
end Go.Proofs.Ytoaehigmpbhppaa.En
namespace Go.Proofs.Ytoaehigmpbhppaa.En
open Go Go.Ev Go.Proofs Go.RowKit
/-- The logarithm of a number, rounded down. -/
def lg (x : Int) : Int := (Nat.log2 x.toNat : Nat)
def t8 (x : Int) : Int := if x = 0 then 0 else lg x + 1
def fallZ (d : Int) : Int := 30 * lg (d / 1000 + 1)
theorem t8_lg {x : Int} (h : 0 < x) : t8 x = lg x + 1 := by unfold t8; rw [if_neg (by omega)]
theorem t8_bd (x : Int) (h : 0 ≤ x := by omega) (h2 : x < 65536 := by omega) : 0 ≤ t8 x ∧ t8 x ≤ 16 := by
  unfold t8
  split
  · omega
  · have : Nat.log2 x.toNat < 16 := (Nat.log2_lt (by omega)).2 (by omega)
    unfold lg; omega
theorem log2_div {m : Nat} (k : Nat) (h : 2 ^ k ≤ m) : Nat.log2 m = Nat.log2 (m / 2 ^ k) + k := by
  induction k generalizing m with
  | zero => simp
  | succ k ih =>
    have h1 : 2 ≤ m := by
      have : 2 ^ 1 ≤ 2 ^ (k + 1) := Nat.pow_le_pow_right (by decide) (by omega)
      omega
    have h2 : 2 ^ k ≤ m / 2 := by rw [Nat.le_div_iff_mul_le (by decide)]; rw [Nat.pow_succ] at h; omega
    rw [Nat.log2_def, if_pos h1, ih h2, Nat.div_div_eq_div_mul, Nat.mul_comm, ← Nat.pow_succ]
    simp only [Nat.succ_eq_add_one]
    omega
theorem t8_up {n : Int} (h : 256 ≤ n) (h2 : n < 65536) : t8 n = t8 (n / 256) + 8 := by
  unfold t8
  rw [if_neg (by omega), if_neg (by omega)]
  unfold lg
  have e : (n / 256).toNat = n.toNat / 2 ^ 8 := by omega
  rw [e, log2_div 8 (m := n.toNat) (by simp; omega)]
  omega
/-- The table of lengths of bytes. -/
noncomputable def len8 : Value := (strOf ((Try.f109.body).getD .skip)).getD undef
theorem tab_ok : (List.range 256).all (fun x => match peek Try.prog (Instr.index 9 len8 (.int .u8 (Int.ofNat x))) with
    | some (.int .u8 n) => decide (n = if x = 0 then 0 else (Nat.log2 x : Int) + 1)
    | _ => false) = true := by kernel_rfl
theorem k_tab {w : World} {x : Int} (h : 0 ≤ x) (h2 : x < 256) : KeyOk Try.prog w (.index 9) [len8, .int .u8 x] (.int .u8 (t8 x)) := by
  obtain ⟨m, rfl⟩ : ∃ m : Nat, x = m := ⟨x.toNat, by omega⟩
  have := List.all_eq_true.1 tab_ok m (List.mem_range.2 (by omega))
  show (Instr.index 9 len8 (.int .u8 (m : Int))).run Try.prog w = _
  split at this
  · rename_i n hn
    have e := of_decide_eq_true this
    have hv : n = t8 m := by
      rw [e]; unfold t8 lg
      by_cases q : m = 0
      · subst q; rfl
      · rw [if_neg q, if_neg (by omega)]; simp
    rw [← hv]
    exact peek_run _ _ _ hn w
  · cases this
noncomputable def len64_e0 : List Ent := [⟨(.bin .geq 74), [(sy 0), (.int .u64 4294967296)], (.bool true)⟩, ⟨(.bin .shr 74), [(sy 0), (.int .u64 32)], (sy 1)⟩, ⟨(.bin .geq 74), [(sy 1), (.int .u64 65536)], (.bool true)⟩, ⟨(.bin .shr 74), [(sy 1), (.int .u64 16)], (sy 2)⟩, ⟨(.bin .geq 74), [(sy 2), (.int .u64 256)], (.bool true)⟩, ⟨(.bin .shr 74), [(sy 2), (.int .u64 8)], (sy 3)⟩, ⟨(.conv 74 5), [(sy 3)], (sy 4)⟩, ⟨(.index 9), [len8, (sy 4)], (sy 5)⟩, ⟨(.conv 5 3), [(sy 5)], (sy 6)⟩, aB .add (iV 56) (sy 6) (sy 7)]
noncomputable def len64_c0 : List CEnt := []
set_option maxRecDepth 1000000 in
theorem len64_r0 : ev Try.prog (env.sym len64_e0 len64_c0) 3000 (.call 109 [(sy 0)] Ev.start fun v _ => some v) = some (sy 7) := by kernel_rfl
noncomputable def len64_e1 : List Ent := [⟨(.bin .geq 74), [(sy 0), (.int .u64 4294967296)], (.bool true)⟩, ⟨(.bin .shr 74), [(sy 0), (.int .u64 32)], (sy 1)⟩, ⟨(.bin .geq 74), [(sy 1), (.int .u64 65536)], (.bool true)⟩, ⟨(.bin .shr 74), [(sy 1), (.int .u64 16)], (sy 2)⟩, ⟨(.bin .geq 74), [(sy 2), (.int .u64 256)], (.bool false)⟩, ⟨(.conv 74 5), [(sy 2)], (sy 3)⟩, ⟨(.index 9), [len8, (sy 3)], (sy 4)⟩, ⟨(.conv 5 3), [(sy 4)], (sy 5)⟩, aB .add (iV 48) (sy 5) (sy 6)]
noncomputable def len64_c1 : List CEnt := []
set_option maxRecDepth 1000000 in
theorem len64_r1 : ev Try.prog (env.sym len64_e1 len64_c1) 3000 (.call 109 [(sy 0)] Ev.start fun v _ => some v) = some (sy 6) := by kernel_rfl
noncomputable def len64_e2 : List Ent := [⟨(.bin .geq 74), [(sy 0), (.int .u64 4294967296)], (.bool true)⟩, ⟨(.bin .shr 74), [(sy 0), (.int .u64 32)], (sy 1)⟩, ⟨(.bin .geq 74), [(sy 1), (.int .u64 65536)], (.bool false)⟩, ⟨(.bin .geq 74), [(sy 1), (.int .u64 256)], (.bool true)⟩, ⟨(.bin .shr 74), [(sy 1), (.int .u64 8)], (sy 2)⟩, ⟨(.conv 74 5), [(sy 2)], (sy 3)⟩, ⟨(.index 9), [len8, (sy 3)], (sy 4)⟩, ⟨(.conv 5 3), [(sy 4)], (sy 5)⟩, aB .add (iV 40) (sy 5) (sy 6)]
noncomputable def len64_c2 : List CEnt := []
set_option maxRecDepth 1000000 in
theorem len64_r2 : ev Try.prog (env.sym len64_e2 len64_c2) 3000 (.call 109 [(sy 0)] Ev.start fun v _ => some v) = some (sy 6) := by kernel_rfl
noncomputable def len64_e3 : List Ent := [⟨(.bin .geq 74), [(sy 0), (.int .u64 4294967296)], (.bool true)⟩, ⟨(.bin .shr 74), [(sy 0), (.int .u64 32)], (sy 1)⟩, ⟨(.bin .geq 74), [(sy 1), (.int .u64 65536)], (.bool false)⟩, ⟨(.bin .geq 74), [(sy 1), (.int .u64 256)], (.bool false)⟩, ⟨(.conv 74 5), [(sy 1)], (sy 2)⟩, ⟨(.index 9), [len8, (sy 2)], (sy 3)⟩, ⟨(.conv 5 3), [(sy 3)], (sy 4)⟩, aB .add (iV 32) (sy 4) (sy 5)]
noncomputable def len64_c3 : List CEnt := []
set_option maxRecDepth 1000000 in
theorem len64_r3 : ev Try.prog (env.sym len64_e3 len64_c3) 3000 (.call 109 [(sy 0)] Ev.start fun v _ => some v) = some (sy 5) := by kernel_rfl
noncomputable def len64_e4 : List Ent := [⟨(.bin .geq 74), [(sy 0), (.int .u64 4294967296)], (.bool false)⟩, ⟨(.bin .geq 74), [(sy 0), (.int .u64 65536)], (.bool true)⟩, ⟨(.bin .shr 74), [(sy 0), (.int .u64 16)], (sy 1)⟩, ⟨(.bin .geq 74), [(sy 1), (.int .u64 256)], (.bool true)⟩, ⟨(.bin .shr 74), [(sy 1), (.int .u64 8)], (sy 2)⟩, ⟨(.conv 74 5), [(sy 2)], (sy 3)⟩, ⟨(.index 9), [len8, (sy 3)], (sy 4)⟩, ⟨(.conv 5 3), [(sy 4)], (sy 5)⟩, aB .add (iV 24) (sy 5) (sy 6)]
noncomputable def len64_c4 : List CEnt := []
set_option maxRecDepth 1000000 in
theorem len64_r4 : ev Try.prog (env.sym len64_e4 len64_c4) 3000 (.call 109 [(sy 0)] Ev.start fun v _ => some v) = some (sy 6) := by kernel_rfl
noncomputable def len64_e5 : List Ent := [⟨(.bin .geq 74), [(sy 0), (.int .u64 4294967296)], (.bool false)⟩, ⟨(.bin .geq 74), [(sy 0), (.int .u64 65536)], (.bool true)⟩, ⟨(.bin .shr 74), [(sy 0), (.int .u64 16)], (sy 1)⟩, ⟨(.bin .geq 74), [(sy 1), (.int .u64 256)], (.bool false)⟩, ⟨(.conv 74 5), [(sy 1)], (sy 2)⟩, ⟨(.index 9), [len8, (sy 2)], (sy 3)⟩, ⟨(.conv 5 3), [(sy 3)], (sy 4)⟩, aB .add (iV 16) (sy 4) (sy 5)]
noncomputable def len64_c5 : List CEnt := []
set_option maxRecDepth 1000000 in
theorem len64_r5 : ev Try.prog (env.sym len64_e5 len64_c5) 3000 (.call 109 [(sy 0)] Ev.start fun v _ => some v) = some (sy 5) := by kernel_rfl
noncomputable def len64_e6 : List Ent := [⟨(.bin .geq 74), [(sy 0), (.int .u64 4294967296)], (.bool false)⟩, ⟨(.bin .geq 74), [(sy 0), (.int .u64 65536)], (.bool false)⟩, ⟨(.bin .geq 74), [(sy 0), (.int .u64 256)], (.bool true)⟩, ⟨(.bin .shr 74), [(sy 0), (.int .u64 8)], (sy 1)⟩, ⟨(.conv 74 5), [(sy 1)], (sy 2)⟩, ⟨(.index 9), [len8, (sy 2)], (sy 3)⟩, ⟨(.conv 5 3), [(sy 3)], (sy 4)⟩, aB .add (iV 8) (sy 4) (sy 5)]
noncomputable def len64_c6 : List CEnt := []
set_option maxRecDepth 1000000 in
theorem len64_r6 : ev Try.prog (env.sym len64_e6 len64_c6) 3000 (.call 109 [(sy 0)] Ev.start fun v _ => some v) = some (sy 5) := by kernel_rfl
noncomputable def len64_e7 : List Ent := [⟨(.bin .geq 74), [(sy 0), (.int .u64 4294967296)], (.bool false)⟩, ⟨(.bin .geq 74), [(sy 0), (.int .u64 65536)], (.bool false)⟩, ⟨(.bin .geq 74), [(sy 0), (.int .u64 256)], (.bool false)⟩, ⟨(.conv 74 5), [(sy 0)], (sy 1)⟩, ⟨(.index 9), [len8, (sy 1)], (sy 2)⟩, ⟨(.conv 5 3), [(sy 2)], (sy 3)⟩, aB .add (iV 0) (sy 3) (sy 4)]
noncomputable def len64_c7 : List CEnt := []
set_option maxRecDepth 1000000 in
theorem len64_r7 : ev Try.prog (env.sym len64_e7 len64_c7) 3000 (.call 109 [(sy 0)] Ev.start fun v _ => some v) = some (sy 4) := by kernel_rfl
set_option maxHeartbeats 8000000 in
set_option maxRecDepth 100000 in
theorem len64_any (n : Int) (h0 : 0 ≤ n) (h1 : n < 65536) (w : World)  : Calls Try.prog 109 #[(.int .u64 (n))] w (fun en w' => en = .returned (iV (t8 n)) ∧ Below w.heap.size w w') := by
  by_cases c0 : n ≥ 4294967296
  · by_cases c1 : (n / 4294967296) ≥ 65536
    · by_cases c2 : ((n / 4294967296) / 65536) ≥ 256
      · have q := @calls_sym (Rho.of [(.int .u64 (n)), (.int .u64 ((n / 4294967296))), (.int .u64 (((n / 4294967296) / 65536))), (.int .u64 ((((n / 4294967296) / 65536) / 256))), (.int .u8 ((((n / 4294967296) / 65536) / 256))), (.int .u8 ((t8 ((((n / 4294967296) / 65536) / 256))))), (iV ((t8 ((((n / 4294967296) / 65536) / 256))))), (iV ((56 + (t8 ((((n / 4294967296) / 65536) / 256))))))] (fun _ => none)) Try.prog _ (@Env.Ok.sym (Rho.of [(.int .u64 (n)), (.int .u64 ((n / 4294967296))), (.int .u64 (((n / 4294967296) / 65536))), (.int .u64 ((((n / 4294967296) / 65536) / 256))), (.int .u8 ((((n / 4294967296) / 65536) / 256))), (.int .u8 ((t8 ((((n / 4294967296) / 65536) / 256))))), (iV ((t8 ((((n / 4294967296) / 65536) / 256))))), (iV ((56 + (t8 ((((n / 4294967296) / 65536) / 256))))))] (fun _ => none)) _ _ (@env_ok (Rho.of [(.int .u64 (n)), (.int .u64 ((n / 4294967296))), (.int .u64 (((n / 4294967296) / 65536))), (.int .u64 ((((n / 4294967296) / 65536) / 256))), (.int .u8 ((((n / 4294967296) / 65536) / 256))), (.int .u8 ((t8 ((((n / 4294967296) / 65536) / 256))))), (iV ((t8 ((((n / 4294967296) / 65536) / 256))))), (iV ((56 + (t8 ((((n / 4294967296) / 65536) / 256))))))] (fun _ => none))) len64_e0 len64_c0 ⟨⟨rfl, rfl, fun w hm => (show KO w (.bin .geq 74) [(.int .u64 (n)), (.int .u64 4294967296)] (.bool true) from k_geq_t c0)⟩, ⟨rfl, rfl, fun w hm => (show KO w (.bin .shr 74) [(.int .u64 (n)), (.int .u64 32)] (.int .u64 ((n / 4294967296))) from k_shr (n := 32) (d := 4294967296) (by decide) (by decide))⟩, ⟨rfl, rfl, fun w hm => (show KO w (.bin .geq 74) [(.int .u64 ((n / 4294967296))), (.int .u64 65536)] (.bool true) from k_geq_t c1)⟩, ⟨rfl, rfl, fun w hm => (show KO w (.bin .shr 74) [(.int .u64 ((n / 4294967296))), (.int .u64 16)] (.int .u64 (((n / 4294967296) / 65536))) from k_shr (n := 16) (d := 65536) (by decide) (by decide))⟩, ⟨rfl, rfl, fun w hm => (show KO w (.bin .geq 74) [(.int .u64 (((n / 4294967296) / 65536))), (.int .u64 256)] (.bool true) from k_geq_t c2)⟩, ⟨rfl, rfl, fun w hm => (show KO w (.bin .shr 74) [(.int .u64 (((n / 4294967296) / 65536))), (.int .u64 8)] (.int .u64 ((((n / 4294967296) / 65536) / 256))) from k_shr (n := 8) (d := 256) (by decide) (by decide))⟩, ⟨rfl, rfl, fun w hm => (show KO w (.conv 74 5) [(.int .u64 ((((n / 4294967296) / 65536) / 256)))] (.int .u8 ((((n / 4294967296) / 65536) / 256))) from k_conv Try.underlying74 Try.underlying5 (wrapU8 (by first | omega | (have := t8_bd (n / 256); omega) | (have := t8_bd n; omega) | (have := t8_bd (n / 65536); omega))))⟩, ⟨rfl, rfl, fun w hm => (show KO w (.index 9) [len8, (.int .u8 ((((n / 4294967296) / 65536) / 256)))] (.int .u8 ((t8 ((((n / 4294967296) / 65536) / 256))))) from k_tab (by omega) (by omega))⟩, ⟨rfl, rfl, fun w hm => (show KO w (.conv 5 3) [(.int .u8 ((t8 ((((n / 4294967296) / 65536) / 256)))))] (iV ((t8 ((((n / 4294967296) / 65536) / 256))))) from k_conv Try.underlying5 Try.underlying3 (wrap64 (by first | omega | (have := t8_bd (n / 256); omega) | (have := t8_bd n; omega) | (have := t8_bd (n / 65536); omega))))⟩, ⟨rfl, rfl, fun w hm => (show KO w (.bin .add 3) [(iV 56), (iV ((t8 ((((n / 4294967296) / 65536) / 256)))))] (iV ((56 + (t8 ((((n / 4294967296) / 65536) / 256)))))) from k_add (wrap64 (by first | omega | (have := t8_bd (n / 256); omega) | (have := t8_bd n; omega) | (have := t8_bd (n / 65536); omega))))⟩, trivial⟩ trivial) 3000 109 [(sy 0)] (sy 7) rfl rfl len64_r0 w (fun _ _ h => nomatch h)
        have v0 : ((56 + (t8 ((((n / 4294967296) / 65536) / 256)))) : Int) = t8 n := by
          first | omega | (have := t8_up (n := n) (by omega) (by omega); omega)
        have hv : ((iV ((56 + (t8 ((((n / 4294967296) / 65536) / 256)))))) : Value) = (iV (t8 n)) := by rw [v0]
        rw [← hv]
        exact q
      · have q := @calls_sym (Rho.of [(.int .u64 (n)), (.int .u64 ((n / 4294967296))), (.int .u64 (((n / 4294967296) / 65536))), (.int .u8 (((n / 4294967296) / 65536))), (.int .u8 ((t8 (((n / 4294967296) / 65536))))), (iV ((t8 (((n / 4294967296) / 65536))))), (iV ((48 + (t8 (((n / 4294967296) / 65536))))))] (fun _ => none)) Try.prog _ (@Env.Ok.sym (Rho.of [(.int .u64 (n)), (.int .u64 ((n / 4294967296))), (.int .u64 (((n / 4294967296) / 65536))), (.int .u8 (((n / 4294967296) / 65536))), (.int .u8 ((t8 (((n / 4294967296) / 65536))))), (iV ((t8 (((n / 4294967296) / 65536))))), (iV ((48 + (t8 (((n / 4294967296) / 65536))))))] (fun _ => none)) _ _ (@env_ok (Rho.of [(.int .u64 (n)), (.int .u64 ((n / 4294967296))), (.int .u64 (((n / 4294967296) / 65536))), (.int .u8 (((n / 4294967296) / 65536))), (.int .u8 ((t8 (((n / 4294967296) / 65536))))), (iV ((t8 (((n / 4294967296) / 65536))))), (iV ((48 + (t8 (((n / 4294967296) / 65536))))))] (fun _ => none))) len64_e1 len64_c1 ⟨⟨rfl, rfl, fun w hm => (show KO w (.bin .geq 74) [(.int .u64 (n)), (.int .u64 4294967296)] (.bool true) from k_geq_t c0)⟩, ⟨rfl, rfl, fun w hm => (show KO w (.bin .shr 74) [(.int .u64 (n)), (.int .u64 32)] (.int .u64 ((n / 4294967296))) from k_shr (n := 32) (d := 4294967296) (by decide) (by decide))⟩, ⟨rfl, rfl, fun w hm => (show KO w (.bin .geq 74) [(.int .u64 ((n / 4294967296))), (.int .u64 65536)] (.bool true) from k_geq_t c1)⟩, ⟨rfl, rfl, fun w hm => (show KO w (.bin .shr 74) [(.int .u64 ((n / 4294967296))), (.int .u64 16)] (.int .u64 (((n / 4294967296) / 65536))) from k_shr (n := 16) (d := 65536) (by decide) (by decide))⟩, ⟨rfl, rfl, fun w hm => (show KO w (.bin .geq 74) [(.int .u64 (((n / 4294967296) / 65536))), (.int .u64 256)] (.bool false) from k_geq_f c2)⟩, ⟨rfl, rfl, fun w hm => (show KO w (.conv 74 5) [(.int .u64 (((n / 4294967296) / 65536)))] (.int .u8 (((n / 4294967296) / 65536))) from k_conv Try.underlying74 Try.underlying5 (wrapU8 (by first | omega | (have := t8_bd (n / 256); omega) | (have := t8_bd n; omega) | (have := t8_bd (n / 65536); omega))))⟩, ⟨rfl, rfl, fun w hm => (show KO w (.index 9) [len8, (.int .u8 (((n / 4294967296) / 65536)))] (.int .u8 ((t8 (((n / 4294967296) / 65536))))) from k_tab (by omega) (by omega))⟩, ⟨rfl, rfl, fun w hm => (show KO w (.conv 5 3) [(.int .u8 ((t8 (((n / 4294967296) / 65536)))))] (iV ((t8 (((n / 4294967296) / 65536))))) from k_conv Try.underlying5 Try.underlying3 (wrap64 (by first | omega | (have := t8_bd (n / 256); omega) | (have := t8_bd n; omega) | (have := t8_bd (n / 65536); omega))))⟩, ⟨rfl, rfl, fun w hm => (show KO w (.bin .add 3) [(iV 48), (iV ((t8 (((n / 4294967296) / 65536)))))] (iV ((48 + (t8 (((n / 4294967296) / 65536)))))) from k_add (wrap64 (by first | omega | (have := t8_bd (n / 256); omega) | (have := t8_bd n; omega) | (have := t8_bd (n / 65536); omega))))⟩, trivial⟩ trivial) 3000 109 [(sy 0)] (sy 6) rfl rfl len64_r1 w (fun _ _ h => nomatch h)
        have v0 : ((48 + (t8 (((n / 4294967296) / 65536)))) : Int) = t8 n := by
          first | omega | (have := t8_up (n := n) (by omega) (by omega); omega)
        have hv : ((iV ((48 + (t8 (((n / 4294967296) / 65536)))))) : Value) = (iV (t8 n)) := by rw [v0]
        rw [← hv]
        exact q
    · by_cases c2 : (n / 4294967296) ≥ 256
      · have q := @calls_sym (Rho.of [(.int .u64 (n)), (.int .u64 ((n / 4294967296))), (.int .u64 (((n / 4294967296) / 256))), (.int .u8 (((n / 4294967296) / 256))), (.int .u8 ((t8 (((n / 4294967296) / 256))))), (iV ((t8 (((n / 4294967296) / 256))))), (iV ((40 + (t8 (((n / 4294967296) / 256))))))] (fun _ => none)) Try.prog _ (@Env.Ok.sym (Rho.of [(.int .u64 (n)), (.int .u64 ((n / 4294967296))), (.int .u64 (((n / 4294967296) / 256))), (.int .u8 (((n / 4294967296) / 256))), (.int .u8 ((t8 (((n / 4294967296) / 256))))), (iV ((t8 (((n / 4294967296) / 256))))), (iV ((40 + (t8 (((n / 4294967296) / 256))))))] (fun _ => none)) _ _ (@env_ok (Rho.of [(.int .u64 (n)), (.int .u64 ((n / 4294967296))), (.int .u64 (((n / 4294967296) / 256))), (.int .u8 (((n / 4294967296) / 256))), (.int .u8 ((t8 (((n / 4294967296) / 256))))), (iV ((t8 (((n / 4294967296) / 256))))), (iV ((40 + (t8 (((n / 4294967296) / 256))))))] (fun _ => none))) len64_e2 len64_c2 ⟨⟨rfl, rfl, fun w hm => (show KO w (.bin .geq 74) [(.int .u64 (n)), (.int .u64 4294967296)] (.bool true) from k_geq_t c0)⟩, ⟨rfl, rfl, fun w hm => (show KO w (.bin .shr 74) [(.int .u64 (n)), (.int .u64 32)] (.int .u64 ((n / 4294967296))) from k_shr (n := 32) (d := 4294967296) (by decide) (by decide))⟩, ⟨rfl, rfl, fun w hm => (show KO w (.bin .geq 74) [(.int .u64 ((n / 4294967296))), (.int .u64 65536)] (.bool false) from k_geq_f c1)⟩, ⟨rfl, rfl, fun w hm => (show KO w (.bin .geq 74) [(.int .u64 ((n / 4294967296))), (.int .u64 256)] (.bool true) from k_geq_t c2)⟩, ⟨rfl, rfl, fun w hm => (show KO w (.bin .shr 74) [(.int .u64 ((n / 4294967296))), (.int .u64 8)] (.int .u64 (((n / 4294967296) / 256))) from k_shr (n := 8) (d := 256) (by decide) (by decide))⟩, ⟨rfl, rfl, fun w hm => (show KO w (.conv 74 5) [(.int .u64 (((n / 4294967296) / 256)))] (.int .u8 (((n / 4294967296) / 256))) from k_conv Try.underlying74 Try.underlying5 (wrapU8 (by first | omega | (have := t8_bd (n / 256); omega) | (have := t8_bd n; omega) | (have := t8_bd (n / 65536); omega))))⟩, ⟨rfl, rfl, fun w hm => (show KO w (.index 9) [len8, (.int .u8 (((n / 4294967296) / 256)))] (.int .u8 ((t8 (((n / 4294967296) / 256))))) from k_tab (by omega) (by omega))⟩, ⟨rfl, rfl, fun w hm => (show KO w (.conv 5 3) [(.int .u8 ((t8 (((n / 4294967296) / 256)))))] (iV ((t8 (((n / 4294967296) / 256))))) from k_conv Try.underlying5 Try.underlying3 (wrap64 (by first | omega | (have := t8_bd (n / 256); omega) | (have := t8_bd n; omega) | (have := t8_bd (n / 65536); omega))))⟩, ⟨rfl, rfl, fun w hm => (show KO w (.bin .add 3) [(iV 40), (iV ((t8 (((n / 4294967296) / 256)))))] (iV ((40 + (t8 (((n / 4294967296) / 256)))))) from k_add (wrap64 (by first | omega | (have := t8_bd (n / 256); omega) | (have := t8_bd n; omega) | (have := t8_bd (n / 65536); omega))))⟩, trivial⟩ trivial) 3000 109 [(sy 0)] (sy 6) rfl rfl len64_r2 w (fun _ _ h => nomatch h)
        have v0 : ((40 + (t8 (((n / 4294967296) / 256)))) : Int) = t8 n := by
          first | omega | (have := t8_up (n := n) (by omega) (by omega); omega)
        have hv : ((iV ((40 + (t8 (((n / 4294967296) / 256)))))) : Value) = (iV (t8 n)) := by rw [v0]
        rw [← hv]
        exact q
      · have q := @calls_sym (Rho.of [(.int .u64 (n)), (.int .u64 ((n / 4294967296))), (.int .u8 ((n / 4294967296))), (.int .u8 ((t8 ((n / 4294967296))))), (iV ((t8 ((n / 4294967296))))), (iV ((32 + (t8 ((n / 4294967296))))))] (fun _ => none)) Try.prog _ (@Env.Ok.sym (Rho.of [(.int .u64 (n)), (.int .u64 ((n / 4294967296))), (.int .u8 ((n / 4294967296))), (.int .u8 ((t8 ((n / 4294967296))))), (iV ((t8 ((n / 4294967296))))), (iV ((32 + (t8 ((n / 4294967296))))))] (fun _ => none)) _ _ (@env_ok (Rho.of [(.int .u64 (n)), (.int .u64 ((n / 4294967296))), (.int .u8 ((n / 4294967296))), (.int .u8 ((t8 ((n / 4294967296))))), (iV ((t8 ((n / 4294967296))))), (iV ((32 + (t8 ((n / 4294967296))))))] (fun _ => none))) len64_e3 len64_c3 ⟨⟨rfl, rfl, fun w hm => (show KO w (.bin .geq 74) [(.int .u64 (n)), (.int .u64 4294967296)] (.bool true) from k_geq_t c0)⟩, ⟨rfl, rfl, fun w hm => (show KO w (.bin .shr 74) [(.int .u64 (n)), (.int .u64 32)] (.int .u64 ((n / 4294967296))) from k_shr (n := 32) (d := 4294967296) (by decide) (by decide))⟩, ⟨rfl, rfl, fun w hm => (show KO w (.bin .geq 74) [(.int .u64 ((n / 4294967296))), (.int .u64 65536)] (.bool false) from k_geq_f c1)⟩, ⟨rfl, rfl, fun w hm => (show KO w (.bin .geq 74) [(.int .u64 ((n / 4294967296))), (.int .u64 256)] (.bool false) from k_geq_f c2)⟩, ⟨rfl, rfl, fun w hm => (show KO w (.conv 74 5) [(.int .u64 ((n / 4294967296)))] (.int .u8 ((n / 4294967296))) from k_conv Try.underlying74 Try.underlying5 (wrapU8 (by first | omega | (have := t8_bd (n / 256); omega) | (have := t8_bd n; omega) | (have := t8_bd (n / 65536); omega))))⟩, ⟨rfl, rfl, fun w hm => (show KO w (.index 9) [len8, (.int .u8 ((n / 4294967296)))] (.int .u8 ((t8 ((n / 4294967296))))) from k_tab (by omega) (by omega))⟩, ⟨rfl, rfl, fun w hm => (show KO w (.conv 5 3) [(.int .u8 ((t8 ((n / 4294967296)))))] (iV ((t8 ((n / 4294967296))))) from k_conv Try.underlying5 Try.underlying3 (wrap64 (by first | omega | (have := t8_bd (n / 256); omega) | (have := t8_bd n; omega) | (have := t8_bd (n / 65536); omega))))⟩, ⟨rfl, rfl, fun w hm => (show KO w (.bin .add 3) [(iV 32), (iV ((t8 ((n / 4294967296)))))] (iV ((32 + (t8 ((n / 4294967296)))))) from k_add (wrap64 (by first | omega | (have := t8_bd (n / 256); omega) | (have := t8_bd n; omega) | (have := t8_bd (n / 65536); omega))))⟩, trivial⟩ trivial) 3000 109 [(sy 0)] (sy 5) rfl rfl len64_r3 w (fun _ _ h => nomatch h)
        have v0 : ((32 + (t8 ((n / 4294967296)))) : Int) = t8 n := by
          first | omega | (have := t8_up (n := n) (by omega) (by omega); omega)
        have hv : ((iV ((32 + (t8 ((n / 4294967296)))))) : Value) = (iV (t8 n)) := by rw [v0]
        rw [← hv]
        exact q
  · by_cases c1 : n ≥ 65536
    · by_cases c2 : (n / 65536) ≥ 256
      · have q := @calls_sym (Rho.of [(.int .u64 (n)), (.int .u64 ((n / 65536))), (.int .u64 (((n / 65536) / 256))), (.int .u8 (((n / 65536) / 256))), (.int .u8 ((t8 (((n / 65536) / 256))))), (iV ((t8 (((n / 65536) / 256))))), (iV ((24 + (t8 (((n / 65536) / 256))))))] (fun _ => none)) Try.prog _ (@Env.Ok.sym (Rho.of [(.int .u64 (n)), (.int .u64 ((n / 65536))), (.int .u64 (((n / 65536) / 256))), (.int .u8 (((n / 65536) / 256))), (.int .u8 ((t8 (((n / 65536) / 256))))), (iV ((t8 (((n / 65536) / 256))))), (iV ((24 + (t8 (((n / 65536) / 256))))))] (fun _ => none)) _ _ (@env_ok (Rho.of [(.int .u64 (n)), (.int .u64 ((n / 65536))), (.int .u64 (((n / 65536) / 256))), (.int .u8 (((n / 65536) / 256))), (.int .u8 ((t8 (((n / 65536) / 256))))), (iV ((t8 (((n / 65536) / 256))))), (iV ((24 + (t8 (((n / 65536) / 256))))))] (fun _ => none))) len64_e4 len64_c4 ⟨⟨rfl, rfl, fun w hm => (show KO w (.bin .geq 74) [(.int .u64 (n)), (.int .u64 4294967296)] (.bool false) from k_geq_f c0)⟩, ⟨rfl, rfl, fun w hm => (show KO w (.bin .geq 74) [(.int .u64 (n)), (.int .u64 65536)] (.bool true) from k_geq_t c1)⟩, ⟨rfl, rfl, fun w hm => (show KO w (.bin .shr 74) [(.int .u64 (n)), (.int .u64 16)] (.int .u64 ((n / 65536))) from k_shr (n := 16) (d := 65536) (by decide) (by decide))⟩, ⟨rfl, rfl, fun w hm => (show KO w (.bin .geq 74) [(.int .u64 ((n / 65536))), (.int .u64 256)] (.bool true) from k_geq_t c2)⟩, ⟨rfl, rfl, fun w hm => (show KO w (.bin .shr 74) [(.int .u64 ((n / 65536))), (.int .u64 8)] (.int .u64 (((n / 65536) / 256))) from k_shr (n := 8) (d := 256) (by decide) (by decide))⟩, ⟨rfl, rfl, fun w hm => (show KO w (.conv 74 5) [(.int .u64 (((n / 65536) / 256)))] (.int .u8 (((n / 65536) / 256))) from k_conv Try.underlying74 Try.underlying5 (wrapU8 (by first | omega | (have := t8_bd (n / 256); omega) | (have := t8_bd n; omega) | (have := t8_bd (n / 65536); omega))))⟩, ⟨rfl, rfl, fun w hm => (show KO w (.index 9) [len8, (.int .u8 (((n / 65536) / 256)))] (.int .u8 ((t8 (((n / 65536) / 256))))) from k_tab (by omega) (by omega))⟩, ⟨rfl, rfl, fun w hm => (show KO w (.conv 5 3) [(.int .u8 ((t8 (((n / 65536) / 256)))))] (iV ((t8 (((n / 65536) / 256))))) from k_conv Try.underlying5 Try.underlying3 (wrap64 (by first | omega | (have := t8_bd (n / 256); omega) | (have := t8_bd n; omega) | (have := t8_bd (n / 65536); omega))))⟩, ⟨rfl, rfl, fun w hm => (show KO w (.bin .add 3) [(iV 24), (iV ((t8 (((n / 65536) / 256)))))] (iV ((24 + (t8 (((n / 65536) / 256)))))) from k_add (wrap64 (by first | omega | (have := t8_bd (n / 256); omega) | (have := t8_bd n; omega) | (have := t8_bd (n / 65536); omega))))⟩, trivial⟩ trivial) 3000 109 [(sy 0)] (sy 6) rfl rfl len64_r4 w (fun _ _ h => nomatch h)
        have v0 : ((24 + (t8 (((n / 65536) / 256)))) : Int) = t8 n := by
          first | omega | (have := t8_up (n := n) (by omega) (by omega); omega)
        have hv : ((iV ((24 + (t8 (((n / 65536) / 256)))))) : Value) = (iV (t8 n)) := by rw [v0]
        rw [← hv]
        exact q
      · have q := @calls_sym (Rho.of [(.int .u64 (n)), (.int .u64 ((n / 65536))), (.int .u8 ((n / 65536))), (.int .u8 ((t8 ((n / 65536))))), (iV ((t8 ((n / 65536))))), (iV ((16 + (t8 ((n / 65536))))))] (fun _ => none)) Try.prog _ (@Env.Ok.sym (Rho.of [(.int .u64 (n)), (.int .u64 ((n / 65536))), (.int .u8 ((n / 65536))), (.int .u8 ((t8 ((n / 65536))))), (iV ((t8 ((n / 65536))))), (iV ((16 + (t8 ((n / 65536))))))] (fun _ => none)) _ _ (@env_ok (Rho.of [(.int .u64 (n)), (.int .u64 ((n / 65536))), (.int .u8 ((n / 65536))), (.int .u8 ((t8 ((n / 65536))))), (iV ((t8 ((n / 65536))))), (iV ((16 + (t8 ((n / 65536))))))] (fun _ => none))) len64_e5 len64_c5 ⟨⟨rfl, rfl, fun w hm => (show KO w (.bin .geq 74) [(.int .u64 (n)), (.int .u64 4294967296)] (.bool false) from k_geq_f c0)⟩, ⟨rfl, rfl, fun w hm => (show KO w (.bin .geq 74) [(.int .u64 (n)), (.int .u64 65536)] (.bool true) from k_geq_t c1)⟩, ⟨rfl, rfl, fun w hm => (show KO w (.bin .shr 74) [(.int .u64 (n)), (.int .u64 16)] (.int .u64 ((n / 65536))) from k_shr (n := 16) (d := 65536) (by decide) (by decide))⟩, ⟨rfl, rfl, fun w hm => (show KO w (.bin .geq 74) [(.int .u64 ((n / 65536))), (.int .u64 256)] (.bool false) from k_geq_f c2)⟩, ⟨rfl, rfl, fun w hm => (show KO w (.conv 74 5) [(.int .u64 ((n / 65536)))] (.int .u8 ((n / 65536))) from k_conv Try.underlying74 Try.underlying5 (wrapU8 (by first | omega | (have := t8_bd (n / 256); omega) | (have := t8_bd n; omega) | (have := t8_bd (n / 65536); omega))))⟩, ⟨rfl, rfl, fun w hm => (show KO w (.index 9) [len8, (.int .u8 ((n / 65536)))] (.int .u8 ((t8 ((n / 65536))))) from k_tab (by omega) (by omega))⟩, ⟨rfl, rfl, fun w hm => (show KO w (.conv 5 3) [(.int .u8 ((t8 ((n / 65536)))))] (iV ((t8 ((n / 65536))))) from k_conv Try.underlying5 Try.underlying3 (wrap64 (by first | omega | (have := t8_bd (n / 256); omega) | (have := t8_bd n; omega) | (have := t8_bd (n / 65536); omega))))⟩, ⟨rfl, rfl, fun w hm => (show KO w (.bin .add 3) [(iV 16), (iV ((t8 ((n / 65536)))))] (iV ((16 + (t8 ((n / 65536)))))) from k_add (wrap64 (by first | omega | (have := t8_bd (n / 256); omega) | (have := t8_bd n; omega) | (have := t8_bd (n / 65536); omega))))⟩, trivial⟩ trivial) 3000 109 [(sy 0)] (sy 5) rfl rfl len64_r5 w (fun _ _ h => nomatch h)
        have v0 : ((16 + (t8 ((n / 65536)))) : Int) = t8 n := by
          first | omega | (have := t8_up (n := n) (by omega) (by omega); omega)
        have hv : ((iV ((16 + (t8 ((n / 65536)))))) : Value) = (iV (t8 n)) := by rw [v0]
        rw [← hv]
        exact q
    · by_cases c2 : n ≥ 256
      · have q := @calls_sym (Rho.of [(.int .u64 (n)), (.int .u64 ((n / 256))), (.int .u8 ((n / 256))), (.int .u8 ((t8 ((n / 256))))), (iV ((t8 ((n / 256))))), (iV ((8 + (t8 ((n / 256))))))] (fun _ => none)) Try.prog _ (@Env.Ok.sym (Rho.of [(.int .u64 (n)), (.int .u64 ((n / 256))), (.int .u8 ((n / 256))), (.int .u8 ((t8 ((n / 256))))), (iV ((t8 ((n / 256))))), (iV ((8 + (t8 ((n / 256))))))] (fun _ => none)) _ _ (@env_ok (Rho.of [(.int .u64 (n)), (.int .u64 ((n / 256))), (.int .u8 ((n / 256))), (.int .u8 ((t8 ((n / 256))))), (iV ((t8 ((n / 256))))), (iV ((8 + (t8 ((n / 256))))))] (fun _ => none))) len64_e6 len64_c6 ⟨⟨rfl, rfl, fun w hm => (show KO w (.bin .geq 74) [(.int .u64 (n)), (.int .u64 4294967296)] (.bool false) from k_geq_f c0)⟩, ⟨rfl, rfl, fun w hm => (show KO w (.bin .geq 74) [(.int .u64 (n)), (.int .u64 65536)] (.bool false) from k_geq_f c1)⟩, ⟨rfl, rfl, fun w hm => (show KO w (.bin .geq 74) [(.int .u64 (n)), (.int .u64 256)] (.bool true) from k_geq_t c2)⟩, ⟨rfl, rfl, fun w hm => (show KO w (.bin .shr 74) [(.int .u64 (n)), (.int .u64 8)] (.int .u64 ((n / 256))) from k_shr (n := 8) (d := 256) (by decide) (by decide))⟩, ⟨rfl, rfl, fun w hm => (show KO w (.conv 74 5) [(.int .u64 ((n / 256)))] (.int .u8 ((n / 256))) from k_conv Try.underlying74 Try.underlying5 (wrapU8 (by first | omega | (have := t8_bd (n / 256); omega) | (have := t8_bd n; omega) | (have := t8_bd (n / 65536); omega))))⟩, ⟨rfl, rfl, fun w hm => (show KO w (.index 9) [len8, (.int .u8 ((n / 256)))] (.int .u8 ((t8 ((n / 256))))) from k_tab (by omega) (by omega))⟩, ⟨rfl, rfl, fun w hm => (show KO w (.conv 5 3) [(.int .u8 ((t8 ((n / 256)))))] (iV ((t8 ((n / 256))))) from k_conv Try.underlying5 Try.underlying3 (wrap64 (by first | omega | (have := t8_bd (n / 256); omega) | (have := t8_bd n; omega) | (have := t8_bd (n / 65536); omega))))⟩, ⟨rfl, rfl, fun w hm => (show KO w (.bin .add 3) [(iV 8), (iV ((t8 ((n / 256)))))] (iV ((8 + (t8 ((n / 256)))))) from k_add (wrap64 (by first | omega | (have := t8_bd (n / 256); omega) | (have := t8_bd n; omega) | (have := t8_bd (n / 65536); omega))))⟩, trivial⟩ trivial) 3000 109 [(sy 0)] (sy 5) rfl rfl len64_r6 w (fun _ _ h => nomatch h)
        have v0 : ((8 + (t8 ((n / 256)))) : Int) = t8 n := by
          first | omega | (have := t8_up (n := n) (by omega) (by omega); omega)
        have hv : ((iV ((8 + (t8 ((n / 256)))))) : Value) = (iV (t8 n)) := by rw [v0]
        rw [← hv]
        exact q
      · have q := @calls_sym (Rho.of [(.int .u64 (n)), (.int .u8 (n)), (.int .u8 ((t8 (n)))), (iV ((t8 (n)))), (iV ((0 + (t8 (n)))))] (fun _ => none)) Try.prog _ (@Env.Ok.sym (Rho.of [(.int .u64 (n)), (.int .u8 (n)), (.int .u8 ((t8 (n)))), (iV ((t8 (n)))), (iV ((0 + (t8 (n)))))] (fun _ => none)) _ _ (@env_ok (Rho.of [(.int .u64 (n)), (.int .u8 (n)), (.int .u8 ((t8 (n)))), (iV ((t8 (n)))), (iV ((0 + (t8 (n)))))] (fun _ => none))) len64_e7 len64_c7 ⟨⟨rfl, rfl, fun w hm => (show KO w (.bin .geq 74) [(.int .u64 (n)), (.int .u64 4294967296)] (.bool false) from k_geq_f c0)⟩, ⟨rfl, rfl, fun w hm => (show KO w (.bin .geq 74) [(.int .u64 (n)), (.int .u64 65536)] (.bool false) from k_geq_f c1)⟩, ⟨rfl, rfl, fun w hm => (show KO w (.bin .geq 74) [(.int .u64 (n)), (.int .u64 256)] (.bool false) from k_geq_f c2)⟩, ⟨rfl, rfl, fun w hm => (show KO w (.conv 74 5) [(.int .u64 (n))] (.int .u8 (n)) from k_conv Try.underlying74 Try.underlying5 (wrapU8 (by first | omega | (have := t8_bd (n / 256); omega) | (have := t8_bd n; omega) | (have := t8_bd (n / 65536); omega))))⟩, ⟨rfl, rfl, fun w hm => (show KO w (.index 9) [len8, (.int .u8 (n))] (.int .u8 ((t8 (n)))) from k_tab (by omega) (by omega))⟩, ⟨rfl, rfl, fun w hm => (show KO w (.conv 5 3) [(.int .u8 ((t8 (n))))] (iV ((t8 (n)))) from k_conv Try.underlying5 Try.underlying3 (wrap64 (by first | omega | (have := t8_bd (n / 256); omega) | (have := t8_bd n; omega) | (have := t8_bd (n / 65536); omega))))⟩, ⟨rfl, rfl, fun w hm => (show KO w (.bin .add 3) [(iV 0), (iV ((t8 (n))))] (iV ((0 + (t8 (n))))) from k_add (wrap64 (by first | omega | (have := t8_bd (n / 256); omega) | (have := t8_bd n; omega) | (have := t8_bd (n / 65536); omega))))⟩, trivial⟩ trivial) 3000 109 [(sy 0)] (sy 4) rfl rfl len64_r7 w (fun _ _ h => nomatch h)
        have v0 : ((0 + (t8 (n))) : Int) = t8 n := by
          first | omega | (have := t8_up (n := n) (by omega) (by omega); omega)
        have hv : ((iV ((0 + (t8 (n))))) : Value) = (iV (t8 n)) := by rw [v0]
        rw [← hv]
        exact q
noncomputable def len_e0 : List Ent := []
noncomputable def len_c0 : List CEnt := [⟨109, [(sy 0)], [], (sy 1)⟩]
set_option maxRecDepth 1000000 in
theorem len_r0 : ev Try.prog (env.sym len_e0 len_c0) 3000 (.call 99 [(sy 0)] Ev.start fun v _ => some v) = some (sy 1) := by kernel_rfl
set_option maxHeartbeats 8000000 in
set_option maxRecDepth 100000 in
theorem len_any (n : Int) (h0 : 0 ≤ n) (h1 : n < 65536) (w : World)  : Calls Try.prog 99 #[(.int .u64 (n))] w (fun en w' => en = .returned (iV (t8 n)) ∧ Below w.heap.size w w') := by
  have q := @calls_sym (Rho.of [(.int .u64 (n)), (iV ((t8 n)))] (fun _ => none)) Try.prog _ (@Env.Ok.sym (Rho.of [(.int .u64 (n)), (iV ((t8 n)))] (fun _ => none)) _ _ (@env_ok (Rho.of [(.int .u64 (n)), (iV ((t8 n)))] (fun _ => none))) len_e0 len_c0 trivial ⟨(@CEntOk.of (Rho.of [(.int .u64 (n)), (iV ((t8 n)))] (fun _ => none)) Try.prog _ 109 _ _ #[(.int .u64 (n))] (iV ((t8 n))) rfl ⟨Try.f109, (Try.f109.body).getD .skip, by kernel_rfl, by kernel_rfl⟩ rfl rfl rfl (fun w hm => len64_any (n) (by first | omega | assumption) (by first | omega | assumption) w)), trivial⟩) 3000 99 [(sy 0)] (sy 1) rfl rfl len_r0 w (fun _ _ h => nomatch h)
  have v0 : ((t8 n) : Int) = t8 n := by
    omega
  have hv : ((iV ((t8 n))) : Value) = (iV (t8 n)) := by rw [v0]
  rw [← hv]
  exact q
noncomputable def fall_e0 : List Ent := [aB .quo (sy 0) (iV 1000) (sy 1), aB .add (sy 1) (iV 1) (sy 2), ⟨(.conv 3 151), [(sy 2)], (sy 3)⟩, aB .sub (sy 4) (iV 1) (sy 5), aB .mul (iV 30) (sy 5) (sy 6)]
noncomputable def fall_c0 : List CEnt := [⟨99, [(sy 3)], [], (sy 4)⟩]
set_option maxRecDepth 1000000 in
theorem fall_r0 : ev Try.prog (env.sym fall_e0 fall_c0) 3000 (.call 84 [(sy 0)] Ev.start fun v _ => some v) = some (sy 6) := by kernel_rfl
set_option maxHeartbeats 8000000 in
set_option maxRecDepth 100000 in
theorem fall_any (d : Int) (h0 : 0 ≤ d) (h1 : d ≤ 2000000) (w : World)  : Calls Try.prog 84 #[(iV d)] w (fun en w' => en = .returned (iV (fallZ d)) ∧ Below w.heap.size w w') := by
  have q := @calls_sym (Rho.of [(iV d), (iV ((d / 1000))), (iV (((d / 1000) + 1))), (.int .u64 (((d / 1000) + 1))), (iV ((t8 ((d / 1000) + 1)))), (iV (((t8 ((d / 1000) + 1)) - 1))), (iV ((30 * ((t8 ((d / 1000) + 1)) - 1))))] (fun _ => none)) Try.prog _ (@Env.Ok.sym (Rho.of [(iV d), (iV ((d / 1000))), (iV (((d / 1000) + 1))), (.int .u64 (((d / 1000) + 1))), (iV ((t8 ((d / 1000) + 1)))), (iV (((t8 ((d / 1000) + 1)) - 1))), (iV ((30 * ((t8 ((d / 1000) + 1)) - 1))))] (fun _ => none)) _ _ (@env_ok (Rho.of [(iV d), (iV ((d / 1000))), (iV (((d / 1000) + 1))), (.int .u64 (((d / 1000) + 1))), (iV ((t8 ((d / 1000) + 1)))), (iV (((t8 ((d / 1000) + 1)) - 1))), (iV ((30 * ((t8 ((d / 1000) + 1)) - 1))))] (fun _ => none))) fall_e0 fall_c0 ⟨⟨rfl, rfl, fun w hm => (show KO w (.bin .quo 3) [(iV d), (iV 1000)] (iV ((d / 1000))) from k_quo_nn (by first | omega | (have := t8_bd (d / 1000 + 1); omega)) (by first | omega | (have := t8_bd (d / 1000 + 1); omega)) (wrap64 (by first | omega | (have := t8_bd (d / 1000 + 1); omega))))⟩, ⟨rfl, rfl, fun w hm => (show KO w (.bin .add 3) [(iV ((d / 1000))), (iV 1)] (iV (((d / 1000) + 1))) from k_add (wrap64 (by first | omega | (have := t8_bd (d / 1000 + 1); omega))))⟩, ⟨rfl, rfl, fun w hm => (show KO w (.conv 3 151) [(iV (((d / 1000) + 1)))] (.int .u64 (((d / 1000) + 1))) from k_conv Try.underlying3 Try.underlying151 (wrapU64 (by first | omega | (have := t8_bd (d / 1000 + 1); omega))))⟩, ⟨rfl, rfl, fun w hm => (show KO w (.bin .sub 3) [(iV ((t8 ((d / 1000) + 1)))), (iV 1)] (iV (((t8 ((d / 1000) + 1)) - 1))) from k_sub (wrap64 (by first | omega | (have := t8_bd (d / 1000 + 1); omega))))⟩, ⟨rfl, rfl, fun w hm => (show KO w (.bin .mul 3) [(iV 30), (iV (((t8 ((d / 1000) + 1)) - 1)))] (iV ((30 * ((t8 ((d / 1000) + 1)) - 1)))) from k_mul (wrap64 (by first | omega | (have := t8_bd (d / 1000 + 1); omega))))⟩, trivial⟩ ⟨(@CEntOk.of (Rho.of [(iV d), (iV ((d / 1000))), (iV (((d / 1000) + 1))), (.int .u64 (((d / 1000) + 1))), (iV ((t8 ((d / 1000) + 1)))), (iV (((t8 ((d / 1000) + 1)) - 1))), (iV ((30 * ((t8 ((d / 1000) + 1)) - 1))))] (fun _ => none)) Try.prog _ 99 _ _ #[(.int .u64 (((d / 1000) + 1)))] (iV ((t8 ((d / 1000) + 1)))) rfl ⟨Try.f99, (Try.f99.body).getD .skip, by kernel_rfl, by kernel_rfl⟩ rfl rfl rfl (fun w hm => len_any (((d / 1000) + 1)) (by first | omega | (have := t8_bd (d / 1000 + 1); omega)) (by first | omega | (have := t8_bd (d / 1000 + 1); omega)) w)), trivial⟩) 3000 84 [(sy 0)] (sy 6) rfl rfl fall_r0 w (fun _ _ h => nomatch h)
  have v0 : ((30 * ((t8 ((d / 1000) + 1)) - 1)) : Int) = fallZ d := by
    unfold fallZ; rw [t8_lg (by omega)]; omega
  have hv : ((iV ((30 * ((t8 ((d / 1000) + 1)) - 1)))) : Value) = (iV (fallZ d)) := by rw [v0]
  rw [← hv]
  exact q
end Go.Proofs.Ytoaehigmpbhppaa.En
namespace Go.Proofs.Ytoaehigmpbhppaa.En
open Go Go.Ev Go.Proofs Go.RowKit
theorem sq21 {x : Int} (h : 0 ≤ x) (h2 : x ≤ 2000001) : 0 ≤ x * x ∧ x * x ≤ 5000000000000 := ⟨Int.mul_nonneg h h, by have := Int.mul_le_mul h2 h2 h (by decide : (0 : Int) ≤ 2000001); omega⟩
theorem lg_half {x : Int} (h : 2 ≤ x) : lg x = lg (x / 2) + 1 := by
  unfold lg
  have e : (x / 2).toNat = x.toNat / 2 := by omega
  rw [e, Nat.log2_def, if_pos (by omega)]
  omega
theorem lg_one : lg 1 = 0 := by decide
theorem lg_bd {x : Int} (h : 1 ≤ x) (h2 : x < 65536) : 0 ≤ lg x ∧ lg x < 16 := by
  have : Nat.log2 x.toNat < 16 := (Nat.log2_lt (by omega)).2 (by omega)
  unfold lg; omega
noncomputable def rrootL_fr : Fr := mkFr Try.f98 [(0, (sy 0)), (3, (sy 1)), (4, (sy 2))] []
noncomputable def rrootL_st : St := mkSt 0 []
theorem rrootL_wf : rrootL_st.Wf := mkSt_wf rfl
def rrootL_inv (n : Int) (x : Int × Int) : Prop := 0 ≤ x.1 ∧ x.1 ≤ x.2 ∧ x.2 ≤ 2000000 ∧ x.1 * x.1 ≤ n ∧ n < (x.2 + 1) * (x.2 + 1)
set_option maxRecDepth 1000000 in
theorem rrootL_id : agree [sy 0, sy 1, sy 2] [] rrootL_fr rrootL_st rrootL_fr rrootL_st = true := by kernel_rfl
noncomputable def rroot_e0 : List Ent := [cB .lss (sy 1) (sy 2) true, aB .add (sy 1) (sy 2) (sy 3), aB .add (sy 3) (iV 1) (sy 4), aB .quo (sy 4) (iV 2) (sy 5), aB .mul (sy 5) (sy 5) (sy 6), cB .leq (sy 6) (sy 0) true]
noncomputable def rroot_c0 : List CEnt := []
set_option maxRecDepth 1000000 in
theorem rrootL_r0 : ev Try.prog (env.sym rroot_e0 rroot_c0) 3000 (.code (inLoopC (inBlockC (headC (dropC 2 ((Try.f98.body).getD .skip))))) none rrootL_fr rrootL_st (stop .normal [(sy 0), (sy 5), (sy 2)] [] rrootL_fr rrootL_st)) = some () := by kernel_rfl
noncomputable def rroot_e1 : List Ent := [cB .lss (sy 1) (sy 2) true, aB .add (sy 1) (sy 2) (sy 3), aB .add (sy 3) (iV 1) (sy 4), aB .quo (sy 4) (iV 2) (sy 5), aB .mul (sy 5) (sy 5) (sy 6), cB .leq (sy 6) (sy 0) false, aB .sub (sy 5) (iV 1) (sy 7)]
noncomputable def rroot_c1 : List CEnt := []
set_option maxRecDepth 1000000 in
theorem rrootL_r1 : ev Try.prog (env.sym rroot_e1 rroot_c1) 3000 (.code (inLoopC (inBlockC (headC (dropC 2 ((Try.f98.body).getD .skip))))) none rrootL_fr rrootL_st (stop .normal [(sy 0), (sy 1), (sy 7)] [] rrootL_fr rrootL_st)) = some () := by kernel_rfl
noncomputable def rroot_e2 : List Ent := [cB .lss (sy 1) (sy 2) false]
noncomputable def rroot_c2 : List CEnt := []
set_option maxRecDepth 1000000 in
theorem rrootL_r2 : ev Try.prog (env.sym rroot_e2 rroot_c2) 3000 (.code (inLoopC (inBlockC (headC (dropC 2 ((Try.f98.body).getD .skip))))) none rrootL_fr rrootL_st (stop (.exit 0) [sy 0, sy 1, sy 2] [] rrootL_fr rrootL_st)) = some () := by kernel_rfl
set_option maxHeartbeats 8000000 in
set_option maxRecDepth 100000 in
theorem rrootL_loop (n : Int) (h0 : 0 ≤ n) {w0 : World} : ∀ (x : Int × Int) (a : Act) (w : World), (rrootL_inv n x ∧ @At (Rho.of [(iV n), (iV x.1), (iV x.2)] (fun _ => none)) w0 rrootL_fr rrootL_st a w) → (Code.loop (inLoopC (inBlockC (headC (dropC 2 ((Try.f98.body).getD .skip)))))).wpIn (FF none) 0 Try.prog (fun ex a' w' => (ex = .exit 0 ∧ ∃ x' : Int × Int, (rrootL_inv n x' ∧ x'.2 ≤ x'.1) ∧ @At (Rho.of [(iV n), (iV (x'.1)), (iV (x'.2))] (fun _ => none)) w0 rrootL_fr rrootL_st a' w')) a w := by
  refine loop_rounds (fun (x : Int × Int) a w => rrootL_inv n x ∧ @At (Rho.of [(iV n), (iV x.1), (iV x.2)] (fun _ => none)) w0 rrootL_fr rrootL_st a w) (fun x => (x.2 - x.1).toNat) ?_
  rintro ⟨lo, hi⟩ a w ⟨hinv, hat⟩
  have hinv' := hinv
  simp only [rrootL_inv] at hinv'
  obtain ⟨i0, i1, i2, i3, i4⟩ := hinv'
  by_cases c0 : lo < hi
  · by_cases c1 : ((((lo + hi) + 1) / 2) * (((lo + hi) + 1) / 2)) ≤ n
    · have hat1 : @At (Rho.of [(iV n), (iV lo), (iV hi), (iV ((lo + hi))), (iV (((lo + hi) + 1))), (iV ((((lo + hi) + 1) / 2))), (iV (((((lo + hi) + 1) / 2) * (((lo + hi) + 1) / 2))))] (fun _ => none)) w0 rrootL_fr rrootL_st a w := At.shift (ρ1 := (Rho.of [(iV n), (iV lo), (iV hi)] (fun _ => none))) (ρ2 := (Rho.of [(iV n), (iV lo), (iV hi), (iV ((lo + hi))), (iV (((lo + hi) + 1))), (iV ((((lo + hi) + 1) / 2))), (iV (((((lo + hi) + 1) / 2) * (((lo + hi) + 1) / 2))))] (fun _ => none))) (σ := [sy 0, sy 1, sy 2]) (π := []) ⟨rfl, rfl, rfl, rfl, rfl, rfl, trivial⟩ (fun _ _ h => h) rrootL_wf rrootL_id hat
      refine At.piece (ρ1 := (Rho.of [(iV n), (iV lo), (iV hi), (iV ((lo + hi))), (iV (((lo + hi) + 1))), (iV ((((lo + hi) + 1) / 2))), (iV (((((lo + hi) + 1) / 2) * (((lo + hi) + 1) / 2))))] (fun _ => none))) (ρ2 := (Rho.of [(iV n), (iV ((((lo + hi) + 1) / 2))), (iV hi)] (fun _ => none))) (@Env.Ok.sym (Rho.of [(iV n), (iV lo), (iV hi), (iV ((lo + hi))), (iV (((lo + hi) + 1))), (iV ((((lo + hi) + 1) / 2))), (iV (((((lo + hi) + 1) / 2) * (((lo + hi) + 1) / 2))))] (fun _ => none)) _ _ (@env_ok (Rho.of [(iV n), (iV lo), (iV hi), (iV ((lo + hi))), (iV (((lo + hi) + 1))), (iV ((((lo + hi) + 1) / 2))), (iV (((((lo + hi) + 1) / 2) * (((lo + hi) + 1) / 2))))] (fun _ => none))) rroot_e0 rroot_c0 ⟨⟨rfl, rfl, fun w hm => (show KO w (.bin .lss 3) [(iV lo), (iV hi)] (.bool true) from k_lss_t c0)⟩, ⟨rfl, rfl, fun w hm => (show KO w (.bin .add 3) [(iV lo), (iV hi)] (iV ((lo + hi))) from k_add (wrap64 (by first | omega | (have := sq21 (x := (lo + hi + 1) / 2) (by omega) (by omega); omega))))⟩, ⟨rfl, rfl, fun w hm => (show KO w (.bin .add 3) [(iV ((lo + hi))), (iV 1)] (iV (((lo + hi) + 1))) from k_add (wrap64 (by first | omega | (have := sq21 (x := (lo + hi + 1) / 2) (by omega) (by omega); omega))))⟩, ⟨rfl, rfl, fun w hm => (show KO w (.bin .quo 3) [(iV (((lo + hi) + 1))), (iV 2)] (iV ((((lo + hi) + 1) / 2))) from k_quo_nn (by first | omega | (have := sq21 (x := (lo + hi + 1) / 2) (by omega) (by omega); omega)) (by first | omega | (have := sq21 (x := (lo + hi + 1) / 2) (by omega) (by omega); omega)) (wrap64 (by first | omega | (have := sq21 (x := (lo + hi + 1) / 2) (by omega) (by omega); omega))))⟩, ⟨rfl, rfl, fun w hm => (show KO w (.bin .mul 3) [(iV ((((lo + hi) + 1) / 2))), (iV ((((lo + hi) + 1) / 2)))] (iV (((((lo + hi) + 1) / 2) * (((lo + hi) + 1) / 2)))) from k_mul (wrap64 (by have := sq21 (x := (((lo + hi) + 1) / 2)) (by omega) (by omega); omega)))⟩, ⟨rfl, rfl, fun w hm => (show KO w (.bin .leq 3) [(iV (((((lo + hi) + 1) / 2) * (((lo + hi) + 1) / 2)))), (iV n)] (.bool true) from k_leq_t c1)⟩, trivial⟩ trivial) rrootL_r0 ⟨rfl, rfl, rfl, rfl, rfl, rfl, trivial⟩ (fun _ _ h => h) rrootL_wf rrootL_wf hat1 (fun a' w' hat' => .inl ⟨rfl, ((((lo + hi) + 1) / 2), hi), ?_, ?_, hat'⟩)
      · show ((hi) - ((((lo + hi) + 1) / 2))).toNat < (hi - lo).toNat
        first | omega | (refine ⟨by omega, by omega, by omega, ?_, ?_⟩ <;> first | exact i3 | exact i4 | omega | (rw [show ((lo + hi + 1) / 2 - 1 + 1 : Int) = (lo + hi + 1) / 2 by omega]; omega))
      · show 0 ≤ ((((lo + hi) + 1) / 2)) ∧ ((((lo + hi) + 1) / 2)) ≤ (hi) ∧ (hi) ≤ 2000000 ∧ ((((lo + hi) + 1) / 2)) * ((((lo + hi) + 1) / 2)) ≤ n ∧ n < ((hi) + 1) * ((hi) + 1)
        first | omega | (refine ⟨by omega, by omega, by omega, ?_, ?_⟩ <;> first | exact i3 | exact i4 | omega | (rw [show ((lo + hi + 1) / 2 - 1 + 1 : Int) = (lo + hi + 1) / 2 by omega]; omega))
    · have hat1 : @At (Rho.of [(iV n), (iV lo), (iV hi), (iV ((lo + hi))), (iV (((lo + hi) + 1))), (iV ((((lo + hi) + 1) / 2))), (iV (((((lo + hi) + 1) / 2) * (((lo + hi) + 1) / 2)))), (iV (((((lo + hi) + 1) / 2) - 1)))] (fun _ => none)) w0 rrootL_fr rrootL_st a w := At.shift (ρ1 := (Rho.of [(iV n), (iV lo), (iV hi)] (fun _ => none))) (ρ2 := (Rho.of [(iV n), (iV lo), (iV hi), (iV ((lo + hi))), (iV (((lo + hi) + 1))), (iV ((((lo + hi) + 1) / 2))), (iV (((((lo + hi) + 1) / 2) * (((lo + hi) + 1) / 2)))), (iV (((((lo + hi) + 1) / 2) - 1)))] (fun _ => none))) (σ := [sy 0, sy 1, sy 2]) (π := []) ⟨rfl, rfl, rfl, rfl, rfl, rfl, trivial⟩ (fun _ _ h => h) rrootL_wf rrootL_id hat
      refine At.piece (ρ1 := (Rho.of [(iV n), (iV lo), (iV hi), (iV ((lo + hi))), (iV (((lo + hi) + 1))), (iV ((((lo + hi) + 1) / 2))), (iV (((((lo + hi) + 1) / 2) * (((lo + hi) + 1) / 2)))), (iV (((((lo + hi) + 1) / 2) - 1)))] (fun _ => none))) (ρ2 := (Rho.of [(iV n), (iV lo), (iV (((((lo + hi) + 1) / 2) - 1)))] (fun _ => none))) (@Env.Ok.sym (Rho.of [(iV n), (iV lo), (iV hi), (iV ((lo + hi))), (iV (((lo + hi) + 1))), (iV ((((lo + hi) + 1) / 2))), (iV (((((lo + hi) + 1) / 2) * (((lo + hi) + 1) / 2)))), (iV (((((lo + hi) + 1) / 2) - 1)))] (fun _ => none)) _ _ (@env_ok (Rho.of [(iV n), (iV lo), (iV hi), (iV ((lo + hi))), (iV (((lo + hi) + 1))), (iV ((((lo + hi) + 1) / 2))), (iV (((((lo + hi) + 1) / 2) * (((lo + hi) + 1) / 2)))), (iV (((((lo + hi) + 1) / 2) - 1)))] (fun _ => none))) rroot_e1 rroot_c1 ⟨⟨rfl, rfl, fun w hm => (show KO w (.bin .lss 3) [(iV lo), (iV hi)] (.bool true) from k_lss_t c0)⟩, ⟨rfl, rfl, fun w hm => (show KO w (.bin .add 3) [(iV lo), (iV hi)] (iV ((lo + hi))) from k_add (wrap64 (by first | omega | (have := sq21 (x := (lo + hi + 1) / 2) (by omega) (by omega); omega))))⟩, ⟨rfl, rfl, fun w hm => (show KO w (.bin .add 3) [(iV ((lo + hi))), (iV 1)] (iV (((lo + hi) + 1))) from k_add (wrap64 (by first | omega | (have := sq21 (x := (lo + hi + 1) / 2) (by omega) (by omega); omega))))⟩, ⟨rfl, rfl, fun w hm => (show KO w (.bin .quo 3) [(iV (((lo + hi) + 1))), (iV 2)] (iV ((((lo + hi) + 1) / 2))) from k_quo_nn (by first | omega | (have := sq21 (x := (lo + hi + 1) / 2) (by omega) (by omega); omega)) (by first | omega | (have := sq21 (x := (lo + hi + 1) / 2) (by omega) (by omega); omega)) (wrap64 (by first | omega | (have := sq21 (x := (lo + hi + 1) / 2) (by omega) (by omega); omega))))⟩, ⟨rfl, rfl, fun w hm => (show KO w (.bin .mul 3) [(iV ((((lo + hi) + 1) / 2))), (iV ((((lo + hi) + 1) / 2)))] (iV (((((lo + hi) + 1) / 2) * (((lo + hi) + 1) / 2)))) from k_mul (wrap64 (by have := sq21 (x := (((lo + hi) + 1) / 2)) (by omega) (by omega); omega)))⟩, ⟨rfl, rfl, fun w hm => (show KO w (.bin .leq 3) [(iV (((((lo + hi) + 1) / 2) * (((lo + hi) + 1) / 2)))), (iV n)] (.bool false) from k_leq_f c1)⟩, ⟨rfl, rfl, fun w hm => (show KO w (.bin .sub 3) [(iV ((((lo + hi) + 1) / 2))), (iV 1)] (iV (((((lo + hi) + 1) / 2) - 1))) from k_sub (wrap64 (by first | omega | (have := sq21 (x := (lo + hi + 1) / 2) (by omega) (by omega); omega))))⟩, trivial⟩ trivial) rrootL_r1 ⟨rfl, rfl, rfl, rfl, rfl, rfl, trivial⟩ (fun _ _ h => h) rrootL_wf rrootL_wf hat1 (fun a' w' hat' => .inl ⟨rfl, (lo, ((((lo + hi) + 1) / 2) - 1)), ?_, ?_, hat'⟩)
      · show ((((((lo + hi) + 1) / 2) - 1)) - (lo)).toNat < (hi - lo).toNat
        first | omega | (refine ⟨by omega, by omega, by omega, ?_, ?_⟩ <;> first | exact i3 | exact i4 | omega | (rw [show ((lo + hi + 1) / 2 - 1 + 1 : Int) = (lo + hi + 1) / 2 by omega]; omega))
      · show 0 ≤ (lo) ∧ (lo) ≤ (((((lo + hi) + 1) / 2) - 1)) ∧ (((((lo + hi) + 1) / 2) - 1)) ≤ 2000000 ∧ (lo) * (lo) ≤ n ∧ n < ((((((lo + hi) + 1) / 2) - 1)) + 1) * ((((((lo + hi) + 1) / 2) - 1)) + 1)
        first | omega | (refine ⟨by omega, by omega, by omega, ?_, ?_⟩ <;> first | exact i3 | exact i4 | omega | (rw [show ((lo + hi + 1) / 2 - 1 + 1 : Int) = (lo + hi + 1) / 2 by omega]; omega))
  · have hat1 : @At (Rho.of [(iV n), (iV lo), (iV hi)] (fun _ => none)) w0 rrootL_fr rrootL_st a w := At.shift (ρ1 := (Rho.of [(iV n), (iV lo), (iV hi)] (fun _ => none))) (ρ2 := (Rho.of [(iV n), (iV lo), (iV hi)] (fun _ => none))) (σ := [sy 0, sy 1, sy 2]) (π := []) ⟨rfl, rfl, rfl, rfl, rfl, rfl, trivial⟩ (fun _ _ h => h) rrootL_wf rrootL_id hat
    refine At.piece (ρ1 := (Rho.of [(iV n), (iV lo), (iV hi)] (fun _ => none))) (ρ2 := (Rho.of [(iV n), (iV lo), (iV hi)] (fun _ => none))) (@Env.Ok.sym (Rho.of [(iV n), (iV lo), (iV hi)] (fun _ => none)) _ _ (@env_ok (Rho.of [(iV n), (iV lo), (iV hi)] (fun _ => none))) rroot_e2 rroot_c2 ⟨⟨rfl, rfl, fun w hm => (show KO w (.bin .lss 3) [(iV lo), (iV hi)] (.bool false) from k_lss_f c0)⟩, trivial⟩ trivial) rrootL_r2 ⟨rfl, rfl, rfl, rfl, rfl, rfl, trivial⟩ (fun _ _ h => h) rrootL_wf rrootL_wf hat1 (fun a' w' hat' => .inr ⟨.inl ⟨0, rfl⟩, ⟨rfl, (lo, hi), ⟨hinv, ?_⟩, hat'⟩⟩)
    show hi ≤ lo
    first | omega | (refine ⟨by omega, by omega, by omega, ?_, ?_⟩ <;> first | exact i3 | exact i4 | omega | (rw [show ((lo + hi + 1) / 2 - 1 + 1 : Int) = (lo + hi + 1) / 2 by omega]; omega))
noncomputable def rroot_e3 : List Ent := []
noncomputable def rroot_c3 : List CEnt := []
set_option maxRecDepth 1000000 in
theorem rroot_pre : segA Try.prog (env.sym rroot_e3 rroot_c3) 3000 (takeC 2 ((Try.f98.body).getD .skip)) (frameOf Try.f98 [(sy 0)]) Ev.start (fun fr' s' => stop .normal [(sy 0), (iV 0), (iV 2000000)] [] rrootL_fr rrootL_st .normal fr' s') = some () := by kernel_rfl
set_option maxRecDepth 1000000 in
theorem rroot_cut : dropC 2 ((Try.f98.body).getD .skip) = .seq (.block 0 (.loop (inLoopC (inBlockC (headC (dropC 2 ((Try.f98.body).getD .skip))))))) (dropC 3 ((Try.f98.body).getD .skip)) := by kernel_rfl
noncomputable def rroot_e4 : List Ent := []
noncomputable def rroot_c4 : List CEnt := []
set_option maxRecDepth 1000000 in
theorem rroot_r4 : ev Try.prog (env.sym rroot_e4 rroot_c4) 3000 (.code (dropC 3 ((Try.f98.body).getD .skip)) none rrootL_fr rrootL_st (retK (env.sym rroot_e4 rroot_c4) Try.f98 fun v _ => cond (sameV 4 (sy 1) v) (some ()) none)) = some () := by kernel_rfl
set_option maxHeartbeats 8000000 in
set_option maxRecDepth 100000 in
theorem rroot_any (n : Int) (h0 : 0 ≤ n) (h1 : n ≤ 1000000000000) (w : World)  : Calls Try.prog 98 #[(iV n)] w (fun en w' => en = .returned (iV (rootD n)) ∧ Below w.heap.size w w') := by
  refine @calls_of_body (Rho.of [(iV n)] (fun _ => none)) Try.prog env (@env_ok (Rho.of [(iV n)] (fun _ => none))) 98 Try.f98 ((Try.f98.body).getD .skip) [(sy 0)] w _ (by kernel_rfl) (by kernel_rfl) (of_decide_eq_true (by kernel_rfl)) (of_decide_eq_true (by kernel_rfl)) rfl (fun _ _ h => nomatch h) (fun a hat => ?_)
  refine At.cut (ρ1 := (Rho.of [(iV n)] (fun _ => none))) (ρ2 := (Rho.of [(iV n), (iV 0), (iV 2000000)] (fun _ => none))) (σ := [(sy 0), (iV 0), (iV 2000000)]) (π := []) (@Env.Ok.sym (Rho.of [(iV n)] (fun _ => none)) _ _ (@env_ok (Rho.of [(iV n)] (fun _ => none))) rroot_e3 rroot_c3 trivial trivial) rroot_pre ⟨rfl, rfl, rfl, rfl, rfl, rfl, trivial⟩ (fun _ _ h => h) start_wf rrootL_wf hat (fun a1 w1 hat1 => ?_)
  rw [rroot_cut]
  refine sym_then (I := fun a' w' => ∃ x' : Int × Int, (rrootL_inv n x' ∧ x'.2 ≤ x'.1) ∧ @At (Rho.of [(iV n), (iV (x'.1)), (iV (x'.2))] (fun _ => none)) w rrootL_fr rrootL_st a' w') (sym_block (wpIn_mono (rrootL_loop n h0 (0, 2000000) a1 w1 ⟨?_, hat1⟩) ?_)) ?_
  · show 0 ≤ (0) ∧ (0) ≤ (2000000) ∧ (2000000) ≤ 2000000 ∧ (0) * (0) ≤ n ∧ n < ((2000000) + 1) * ((2000000) + 1)
    exact ⟨by decide, by decide, by decide, by omega, by omega⟩
  · rintro ex a' w' ⟨rfl, h⟩
    exact .inl ⟨rfl, .inl ⟨rfl, h⟩⟩
  · rintro a' w' ⟨⟨lo, hi⟩, ⟨hinv, hdone⟩, hat'⟩
    simp only [rrootL_inv] at hinv
    obtain ⟨i0, i1, i2, i3, i4⟩ := hinv
    simp only at hdone
    have hat1 : @At (Rho.of [(iV n), (iV lo), (iV hi)] (fun _ => none)) w rrootL_fr rrootL_st a' w' := At.shift (ρ1 := (Rho.of [(iV n), (iV lo), (iV hi)] (fun _ => none))) (ρ2 := (Rho.of [(iV n), (iV lo), (iV hi)] (fun _ => none))) (σ := [sy 0, sy 1, sy 2]) (π := []) ⟨rfl, rfl, rfl, rfl, rfl, rfl, trivial⟩ (fun _ _ h => h) rrootL_wf rrootL_id hat'
    refine @At.last (Rho.of [(iV n), (iV lo), (iV hi)] (fun _ => none)) Try.prog (env.sym rroot_e4 rroot_c4) (@Env.Ok.sym (Rho.of [(iV n), (iV lo), (iV hi)] (fun _ => none)) _ _ (@env_ok (Rho.of [(iV n), (iV lo), (iV hi)] (fun _ => none))) rroot_e4 rroot_c4 trivial trivial) w 3000 _ Try.f98 rrootL_fr rrootL_st (sy 1) _ rroot_r4 rfl rrootL_wf a' w' hat1 (fun w2 hb => ⟨?_, hb⟩)
    show Ending.returned (iV lo) = Ending.returned (iV (rootD n))
    have hres : ((iV lo) : Value) = (iV (rootD n)) := by
      have hji : hi = lo := by omega
      subst hji
      rw [rootD_eq i0 i3 i4]
    rw [hres]
noncomputable def rfallL_fr : Fr := mkFr Try.f85 [(3, (sy 2)), (4, (sy 1))] []
noncomputable def rfallL_st : St := mkSt 0 []
theorem rfallL_wf : rfallL_st.Wf := mkSt_wf rfl
def rfallL_inv (d : Int) (x : Int × Int) : Prop := 1 ≤ x.1 ∧ x.1 ≤ 2001 ∧ 0 ≤ x.2 ∧ x.2 + lg x.1 = lg (d / 1000 + 1)
set_option maxRecDepth 1000000 in
theorem rfallL_id : agree [sy 0, sy 1, sy 2] [] rfallL_fr rfallL_st rfallL_fr rfallL_st = true := by kernel_rfl
noncomputable def rfall_e0 : List Ent := [cB .gtr (sy 1) (iV 1) true, aB .add (sy 2) (iV 1) (sy 3), aB .quo (sy 1) (iV 2) (sy 4)]
noncomputable def rfall_c0 : List CEnt := []
set_option maxRecDepth 1000000 in
theorem rfallL_r0 : ev Try.prog (env.sym rfall_e0 rfall_c0) 3000 (.code (inLoopC (inBlockC (tailC (headC (dropC 2 ((Try.f85.body).getD .skip)))))) none rfallL_fr rfallL_st (stop .normal [(sy 0), (sy 4), (sy 3)] [] rfallL_fr rfallL_st)) = some () := by kernel_rfl
noncomputable def rfall_e1 : List Ent := [cB .gtr (sy 1) (iV 1) false]
noncomputable def rfall_c1 : List CEnt := []
set_option maxRecDepth 1000000 in
theorem rfallL_r1 : ev Try.prog (env.sym rfall_e1 rfall_c1) 3000 (.code (inLoopC (inBlockC (tailC (headC (dropC 2 ((Try.f85.body).getD .skip)))))) none rfallL_fr rfallL_st (stop (.exit 0) [sy 0, sy 1, sy 2] [] rfallL_fr rfallL_st)) = some () := by kernel_rfl
set_option maxHeartbeats 8000000 in
set_option maxRecDepth 100000 in
theorem rfallL_loop (d : Int) (h0 : 0 ≤ d) (h1 : d ≤ 2000000) {w0 : World} : ∀ (x : Int × Int) (a : Act) (w : World), (rfallL_inv d x ∧ @At (Rho.of [(iV d), (iV x.1), (iV x.2)] (fun _ => none)) w0 rfallL_fr rfallL_st a w) → (Code.loop (inLoopC (inBlockC (tailC (headC (dropC 2 ((Try.f85.body).getD .skip))))))).wpIn (FF none) 0 Try.prog (fun ex a' w' => (ex = .exit 0 ∧ ∃ x' : Int × Int, (rfallL_inv d x' ∧ x'.1 ≤ 1) ∧ @At (Rho.of [(iV d), (iV (x'.1)), (iV (x'.2))] (fun _ => none)) w0 rfallL_fr rfallL_st a' w')) a w := by
  refine loop_rounds (fun (x : Int × Int) a w => rfallL_inv d x ∧ @At (Rho.of [(iV d), (iV x.1), (iV x.2)] (fun _ => none)) w0 rfallL_fr rfallL_st a w) (fun x => x.1.toNat) ?_
  rintro ⟨m, k⟩ a w ⟨hinv, hat⟩
  have hinv' := hinv
  simp only [rfallL_inv] at hinv'
  obtain ⟨i0, i1, i2, i3⟩ := hinv'
  by_cases c0 : m > 1
  · have hat1 : @At (Rho.of [(iV d), (iV m), (iV k), (iV ((k + 1))), (iV ((m / 2)))] (fun _ => none)) w0 rfallL_fr rfallL_st a w := At.shift (ρ1 := (Rho.of [(iV d), (iV m), (iV k)] (fun _ => none))) (ρ2 := (Rho.of [(iV d), (iV m), (iV k), (iV ((k + 1))), (iV ((m / 2)))] (fun _ => none))) (σ := [sy 0, sy 1, sy 2]) (π := []) ⟨rfl, rfl, rfl, rfl, rfl, rfl, trivial⟩ (fun _ _ h => h) rfallL_wf rfallL_id hat
    refine At.piece (ρ1 := (Rho.of [(iV d), (iV m), (iV k), (iV ((k + 1))), (iV ((m / 2)))] (fun _ => none))) (ρ2 := (Rho.of [(iV d), (iV ((m / 2))), (iV ((k + 1)))] (fun _ => none))) (@Env.Ok.sym (Rho.of [(iV d), (iV m), (iV k), (iV ((k + 1))), (iV ((m / 2)))] (fun _ => none)) _ _ (@env_ok (Rho.of [(iV d), (iV m), (iV k), (iV ((k + 1))), (iV ((m / 2)))] (fun _ => none))) rfall_e0 rfall_c0 ⟨⟨rfl, rfl, fun w hm => (show KO w (.bin .gtr 3) [(iV m), (iV 1)] (.bool true) from k_gtr_t c0)⟩, ⟨rfl, rfl, fun w hm => (show KO w (.bin .add 3) [(iV k), (iV 1)] (iV ((k + 1))) from k_add (wrap64 (by first | omega | (have := lg_bd (x := m) (by omega) (by omega); have := lg_bd (x := d / 1000 + 1) (by omega) (by omega); omega))))⟩, ⟨rfl, rfl, fun w hm => (show KO w (.bin .quo 3) [(iV m), (iV 2)] (iV ((m / 2))) from k_quo_nn (by first | omega | (have := lg_bd (x := m) (by omega) (by omega); have := lg_bd (x := d / 1000 + 1) (by omega) (by omega); omega)) (by first | omega | (have := lg_bd (x := m) (by omega) (by omega); have := lg_bd (x := d / 1000 + 1) (by omega) (by omega); omega)) (wrap64 (by first | omega | (have := lg_bd (x := m) (by omega) (by omega); have := lg_bd (x := d / 1000 + 1) (by omega) (by omega); omega))))⟩, trivial⟩ trivial) rfallL_r0 ⟨rfl, rfl, rfl, rfl, rfl, rfl, trivial⟩ (fun _ _ h => h) rfallL_wf rfallL_wf hat1 (fun a' w' hat' => .inl ⟨rfl, ((m / 2), (k + 1)), ?_, ?_, hat'⟩)
    · show ((m / 2)).toNat < m.toNat
      first | omega | (have e := lg_half (x := m) (by omega); refine ⟨by omega, by omega, by omega, by omega⟩)
    · show 1 ≤ ((m / 2)) ∧ ((m / 2)) ≤ 2001 ∧ 0 ≤ ((k + 1)) ∧ ((k + 1)) + lg ((m / 2)) = lg (d / 1000 + 1)
      first | omega | (have e := lg_half (x := m) (by omega); refine ⟨by omega, by omega, by omega, by omega⟩)
  · have hat1 : @At (Rho.of [(iV d), (iV m), (iV k)] (fun _ => none)) w0 rfallL_fr rfallL_st a w := At.shift (ρ1 := (Rho.of [(iV d), (iV m), (iV k)] (fun _ => none))) (ρ2 := (Rho.of [(iV d), (iV m), (iV k)] (fun _ => none))) (σ := [sy 0, sy 1, sy 2]) (π := []) ⟨rfl, rfl, rfl, rfl, rfl, rfl, trivial⟩ (fun _ _ h => h) rfallL_wf rfallL_id hat
    refine At.piece (ρ1 := (Rho.of [(iV d), (iV m), (iV k)] (fun _ => none))) (ρ2 := (Rho.of [(iV d), (iV m), (iV k)] (fun _ => none))) (@Env.Ok.sym (Rho.of [(iV d), (iV m), (iV k)] (fun _ => none)) _ _ (@env_ok (Rho.of [(iV d), (iV m), (iV k)] (fun _ => none))) rfall_e1 rfall_c1 ⟨⟨rfl, rfl, fun w hm => (show KO w (.bin .gtr 3) [(iV m), (iV 1)] (.bool false) from k_gtr_f c0)⟩, trivial⟩ trivial) rfallL_r1 ⟨rfl, rfl, rfl, rfl, rfl, rfl, trivial⟩ (fun _ _ h => h) rfallL_wf rfallL_wf hat1 (fun a' w' hat' => .inr ⟨.inl ⟨0, rfl⟩, ⟨rfl, (m, k), ⟨hinv, ?_⟩, hat'⟩⟩)
    show m ≤ 1
    first | omega | (have e := lg_half (x := m) (by omega); refine ⟨by omega, by omega, by omega, by omega⟩)
noncomputable def rfall_e2 : List Ent := [aB .quo (sy 0) (iV 1000) (sy 1), aB .add (sy 1) (iV 1) (sy 2)]
noncomputable def rfall_c2 : List CEnt := []
set_option maxRecDepth 1000000 in
theorem rfall_pre : segA Try.prog (env.sym rfall_e2 rfall_c2) 3000 (takeC 2 ((Try.f85.body).getD .skip) ++ [headC (headC (dropC 2 ((Try.f85.body).getD .skip)))]) (frameOf Try.f85 [(sy 0)]) Ev.start (fun fr' s' => stop .normal [(sy 0), (sy 2), (iV 0)] [] rfallL_fr rfallL_st .normal fr' s') = some () := by kernel_rfl
set_option maxRecDepth 1000000 in
theorem rfall_cut : ((Try.f85.body).getD .skip) = seqs (takeC 2 ((Try.f85.body).getD .skip)) (.seq (.seq (headC (headC (dropC 2 ((Try.f85.body).getD .skip)))) (.block 0 (.loop (inLoopC (inBlockC (tailC (headC (dropC 2 ((Try.f85.body).getD .skip))))))))) (dropC 3 ((Try.f85.body).getD .skip))) := by kernel_rfl
noncomputable def rfall_e3 : List Ent := [aB .mul (iV 30) (sy 2) (sy 3)]
noncomputable def rfall_c3 : List CEnt := []
set_option maxRecDepth 1000000 in
theorem rfall_r3 : ev Try.prog (env.sym rfall_e3 rfall_c3) 3000 (.code (dropC 3 ((Try.f85.body).getD .skip)) none rfallL_fr rfallL_st (retK (env.sym rfall_e3 rfall_c3) Try.f85 fun v _ => cond (sameV 4 (sy 3) v) (some ()) none)) = some () := by kernel_rfl
set_option maxHeartbeats 8000000 in
set_option maxRecDepth 100000 in
theorem rfall_any (d : Int) (h0 : 0 ≤ d) (h1 : d ≤ 2000000) (w : World)  : Calls Try.prog 85 #[(iV d)] w (fun en w' => en = .returned (iV (fallZ d)) ∧ Below w.heap.size w w') := by
  refine @calls_of_body (Rho.of [(iV d), (iV ((d / 1000))), (iV (((d / 1000) + 1)))] (fun _ => none)) Try.prog env (@env_ok (Rho.of [(iV d), (iV ((d / 1000))), (iV (((d / 1000) + 1)))] (fun _ => none))) 85 Try.f85 ((Try.f85.body).getD .skip) [(sy 0)] w _ (by kernel_rfl) (by kernel_rfl) (of_decide_eq_true (by kernel_rfl)) (of_decide_eq_true (by kernel_rfl)) rfl (fun _ _ h => nomatch h) (fun a hat => ?_)
  rw [rfall_cut]
  refine At.segs2 (ρ1 := (Rho.of [(iV d), (iV ((d / 1000))), (iV (((d / 1000) + 1)))] (fun _ => none))) (ρ2 := (Rho.of [(iV d), (iV (((d / 1000) + 1))), (iV 0)] (fun _ => none))) (σ := [(sy 0), (sy 2), (iV 0)]) (π := []) (@Env.Ok.sym (Rho.of [(iV d), (iV ((d / 1000))), (iV (((d / 1000) + 1)))] (fun _ => none)) _ _ (@env_ok (Rho.of [(iV d), (iV ((d / 1000))), (iV (((d / 1000) + 1)))] (fun _ => none))) rfall_e2 rfall_c2 ⟨⟨rfl, rfl, fun w hm => (show KO w (.bin .quo 3) [(iV d), (iV 1000)] (iV ((d / 1000))) from k_quo_nn (by first | omega | (have := lg_bd (x := m) (by omega) (by omega); have := lg_bd (x := d / 1000 + 1) (by omega) (by omega); omega)) (by first | omega | (have := lg_bd (x := m) (by omega) (by omega); have := lg_bd (x := d / 1000 + 1) (by omega) (by omega); omega)) (wrap64 (by first | omega | (have := lg_bd (x := m) (by omega) (by omega); have := lg_bd (x := d / 1000 + 1) (by omega) (by omega); omega))))⟩, ⟨rfl, rfl, fun w hm => (show KO w (.bin .add 3) [(iV ((d / 1000))), (iV 1)] (iV (((d / 1000) + 1))) from k_add (wrap64 (by first | omega | (have := lg_bd (x := m) (by omega) (by omega); have := lg_bd (x := d / 1000 + 1) (by omega) (by omega); omega))))⟩, trivial⟩ trivial) ⟨rfl, rfl, rfl, rfl, rfl, rfl, trivial⟩ (fun _ _ h => h) rfallL_wf (fun a1 w1 hat1 => ?_) rfall_pre start_wf hat
  refine sym_fin (I := fun a' w' => ∃ x' : Int × Int, (rfallL_inv d x' ∧ x'.1 ≤ 1) ∧ @At (Rho.of [(iV d), (iV (x'.1)), (iV (x'.2))] (fun _ => none)) w rfallL_fr rfallL_st a' w') (sym_block (wpIn_mono (rfallL_loop d h0 h1 (((d / 1000) + 1), 0) a1 w1 ⟨?_, hat1⟩) ?_)) ?_
  · show 1 ≤ (((d / 1000) + 1)) ∧ (((d / 1000) + 1)) ≤ 2001 ∧ 0 ≤ (0) ∧ (0) + lg (((d / 1000) + 1)) = lg (d / 1000 + 1)
    exact ⟨by omega, by omega, by omega, by omega⟩
  · rintro ex a' w' ⟨rfl, h⟩
    exact .inl ⟨rfl, .inl ⟨rfl, h⟩⟩
  · rintro a' w' ⟨⟨m, k⟩, ⟨hinv, hdone⟩, hat'⟩
    simp only [rfallL_inv] at hinv
    obtain ⟨i0, i1, i2, i3⟩ := hinv
    simp only at hdone
    have hat1 : @At (Rho.of [(iV d), (iV m), (iV k), (iV ((30 * k)))] (fun _ => none)) w rfallL_fr rfallL_st a' w' := At.shift (ρ1 := (Rho.of [(iV d), (iV m), (iV k)] (fun _ => none))) (ρ2 := (Rho.of [(iV d), (iV m), (iV k), (iV ((30 * k)))] (fun _ => none))) (σ := [sy 0, sy 1, sy 2]) (π := []) ⟨rfl, rfl, rfl, rfl, rfl, rfl, trivial⟩ (fun _ _ h => h) rfallL_wf rfallL_id hat'
    refine @At.last (Rho.of [(iV d), (iV m), (iV k), (iV ((30 * k)))] (fun _ => none)) Try.prog (env.sym rfall_e3 rfall_c3) (@Env.Ok.sym (Rho.of [(iV d), (iV m), (iV k), (iV ((30 * k)))] (fun _ => none)) _ _ (@env_ok (Rho.of [(iV d), (iV m), (iV k), (iV ((30 * k)))] (fun _ => none))) rfall_e3 rfall_c3 ⟨⟨rfl, rfl, fun w hm => (show KO w (.bin .mul 3) [(iV 30), (iV k)] (iV ((30 * k))) from k_mul (wrap64 (by first | omega | (have := lg_bd (x := m) (by omega) (by omega); have := lg_bd (x := d / 1000 + 1) (by omega) (by omega); omega))))⟩, trivial⟩ trivial) w 3000 _ Try.f85 rfallL_fr rfallL_st (sy 3) _ rfall_r3 rfl rfallL_wf a' w' hat1 (fun w2 hb => ⟨?_, hb⟩)
    show Ending.returned (iV ((30 * k))) = Ending.returned (iV (fallZ d))
    have hres : ((iV ((30 * k))) : Value) = (iV (fallZ d)) := by
      have e : m = 1 := by omega
      subst e
      have e1 := lg_one
      have hz : 30 * k = fallZ d := by unfold fallZ; omega
      rw [hz]
    rw [hres]
end Go.Proofs.Ytoaehigmpbhppaa.En
namespace Go.Proofs.Ytoaehigmpbhppaa.En
open Go Go.Ev Go.Proofs Go.RowKit
set_option maxRecDepth 1000000
noncomputable section
def qcheck0 (x0 : Int) (x1 : Int) (x2 : Int) (x3 : Int) (x4 : Int) (x5 : Int) (x6 : Int) (x7 : Int) : Int := (if x0 ≥ 1 then (if x0 ≤ 24 then (if x1 ≥ 1 then (if x1 ≤ 24 then (if x2 ≥ 1 then (if x2 ≤ 10000 then (if x3 ≤ x4 then (if x3 ≥ 100 then (if x4 ≤ 20000 then (if x5 ≤ x6 then (if x5 ≥ 0 then (if x6 ≤ 700000 then (if x7 ≥ 0 then (if x7 ≤ 1000 then 0 else 3) else 3) else 3) else 3) else 3) else 3) else 3) else 3) else 3) else 3) else 3) else 3) else 3) else 3)
def f18b0 : Code := (Try.f18.body).getD .skip
def f18F0 : Fr := mkFr Try.f18 [(0, (ag 0 8))] []
def f18S1 : St := mkSt 0 []
theorem f18I2 : IdOk 8 0 0 f18F0 f18S1 := ⟨mkSt_wf rfl, by kernel_rfl⟩
def f18n3 : List Ent := cB .leq (sy 0) (iV 24) true :: cB .geq (sy 0) (iV 1) true :: []
def f18n4 : List Ent := cB .geq (sy 1) (iV 1) true :: f18n3
def f18n5 : List Ent := cB .leq (sy 1) (iV 24) true :: f18n4
def f18n6 : List Ent := cB .geq (sy 2) (iV 1) true :: f18n5
def f18n7 : List Ent := cB .leq (sy 2) (iV 10000) true :: f18n6
def f18n8 : List Ent := cB .leq (sy 3) (sy 4) true :: f18n7
def f18n9 : List Ent := cB .geq (sy 3) (iV 100) true :: f18n8
def f18n10 : List Ent := cB .leq (sy 4) (iV 20000) true :: f18n9
def f18n11 : List Ent := cB .leq (sy 5) (sy 6) true :: f18n10
def f18n12 : List Ent := cB .geq (sy 5) (iV 0) true :: f18n11
def f18n13 : List Ent := cB .leq (sy 6) (iV 700000) true :: f18n12
def f18n14 : List Ent := cB .geq (sy 7) (iV 0) true :: f18n13
def f18n15 : List Ent := cB .leq (sy 7) (iV 1000) true :: f18n14
def f18n16 : List Ent := cB .leq (sy 7) (iV 1000) false :: f18n14
def f18n17 : List Ent := cB .geq (sy 7) (iV 0) false :: f18n13
def f18n18 : List Ent := cB .leq (sy 6) (iV 700000) false :: f18n12
def f18n19 : List Ent := cB .geq (sy 5) (iV 0) false :: f18n11
def f18n20 : List Ent := cB .leq (sy 5) (sy 6) false :: f18n10
def f18n21 : List Ent := cB .leq (sy 4) (iV 20000) false :: f18n9
def f18n22 : List Ent := cB .geq (sy 3) (iV 100) false :: f18n8
def f18n23 : List Ent := cB .leq (sy 3) (sy 4) false :: f18n7
def f18n24 : List Ent := cB .leq (sy 2) (iV 10000) false :: f18n6
def f18n25 : List Ent := cB .geq (sy 2) (iV 1) false :: f18n5
def f18n26 : List Ent := cB .leq (sy 1) (iV 24) false :: f18n4
def f18n27 : List Ent := cB .geq (sy 1) (iV 1) false :: f18n3
def f18n28 : List Ent := cB .leq (sy 0) (iV 24) false :: cB .geq (sy 0) (iV 1) true :: []
def f18n29 : List Ent := cB .geq (sy 0) (iV 1) false :: []
theorem f18a0 : agreeL (ids 8) [] [] f18F0 f18S1 (frameOf Try.f18 [(ag 0 8)]) Ev.start = true := by kernel_rfl
theorem f18r0 : lE f18n15 [] [] [] f18b0 f18F0 f18S1 Try.f18 (endV (iV 0)) = some () := by kernel_rfl
theorem f18r1 : lE f18n16 [] [] [] f18b0 f18F0 f18S1 Try.f18 (endV (iV 3)) = some () := by kernel_rfl
theorem f18r2 : lE f18n17 [] [] [] f18b0 f18F0 f18S1 Try.f18 (endV (iV 3)) = some () := by kernel_rfl
theorem f18r3 : lE f18n18 [] [] [] f18b0 f18F0 f18S1 Try.f18 (endV (iV 3)) = some () := by kernel_rfl
theorem f18r4 : lE f18n19 [] [] [] f18b0 f18F0 f18S1 Try.f18 (endV (iV 3)) = some () := by kernel_rfl
theorem f18r5 : lE f18n20 [] [] [] f18b0 f18F0 f18S1 Try.f18 (endV (iV 3)) = some () := by kernel_rfl
theorem f18r6 : lE f18n21 [] [] [] f18b0 f18F0 f18S1 Try.f18 (endV (iV 3)) = some () := by kernel_rfl
theorem f18r7 : lE f18n22 [] [] [] f18b0 f18F0 f18S1 Try.f18 (endV (iV 3)) = some () := by kernel_rfl
theorem f18r8 : lE f18n23 [] [] [] f18b0 f18F0 f18S1 Try.f18 (endV (iV 3)) = some () := by kernel_rfl
theorem f18r9 : lE f18n24 [] [] [] f18b0 f18F0 f18S1 Try.f18 (endV (iV 3)) = some () := by kernel_rfl
theorem f18r10 : lE f18n25 [] [] [] f18b0 f18F0 f18S1 Try.f18 (endV (iV 3)) = some () := by kernel_rfl
theorem f18r11 : lE f18n26 [] [] [] f18b0 f18F0 f18S1 Try.f18 (endV (iV 3)) = some () := by kernel_rfl
theorem f18r12 : lE f18n27 [] [] [] f18b0 f18F0 f18S1 Try.f18 (endV (iV 3)) = some () := by kernel_rfl
theorem f18r13 : lE f18n28 [] [] [] f18b0 f18F0 f18S1 Try.f18 (endV (iV 3)) = some () := by kernel_rfl
theorem f18r14 : lE f18n29 [] [] [] f18b0 f18F0 f18S1 Try.f18 (endV (iV 3)) = some () := by kernel_rfl
set_option maxHeartbeats 8000000 in
theorem qcheckS_any (x0 : Int) (x1 : Int) (x2 : Int) (x3 : Int) (x4 : Int) (x5 : Int) (x6 : Int) (x7 : Int) (w0 : World)  : Calls Try.prog 18 #[(mV x0 x1 x2 x3 x4 x5 x6 x7)] w0 (fun en w' => en = .returned (iV (qcheck0 x0 x1 x2 x3 x4 x5 x6 x7)) ∧ Below w0.heap.size w0 w') := by
  let vb : List Value := [(iV x0), (iV x1), (iV x2), (iV x3), (iV x4), (iV x5), (iV x6), (iV x7)]
  let p0 : Rho := (RO w0 vb [])
  refine At.begin (ρ := p0) (c := f18b0) (@env_ok p0) f18I2 f18a0 (fun a w hat => ?_)
  by_cases c0 : x0 ≥ 1
  · by_cases c1 : x0 ≤ 24
    · by_cases c2 : x1 ≥ 1
      · by_cases c3 : x1 ≤ 24
        · by_cases c4 : x2 ≥ 1
          · by_cases c5 : x2 ≤ 10000
            · by_cases c6 : x3 ≤ x4
              · by_cases c7 : x3 ≥ 100
                · by_cases c8 : x4 ≤ 20000
                  · by_cases c9 : x5 ≤ x6
                    · by_cases c10 : x5 ≥ 0
                      · by_cases c11 : x6 ≤ 700000
                        · by_cases c12 : x7 ≥ 0
                          · by_cases c13 : x7 ≤ 1000
                            · refine At.lastsV (ρ1 := p0) f18r0 (@env_ok p0) ⟨enk (kleqt c13), enk (kgeqt c12), enk (kleqt c11), enk (kgeqt c10), enk (kleqt c9), enk (kleqt c8), enk (kgeqt c7), enk (kleqt c6), enk (kleqt c5), enk (kgeqt c4), enk (kleqt c3), enk (kgeqt c2), enk (kleqt c1), enk (kgeqt c0), trivial⟩ trivial trivial trivial f18I2 hat (fun w2 hb => ?_)
                              have v0 : (0 : Int) = qcheck0 x0 x1 x2 x3 x4 x5 x6 x7 := by
                                unfold qcheck0
                                repeat (first | rw [if_pos (by omega)] | rw [if_neg (by omega)])
                              exact ret1 v0 hb
                            refine At.lastsV (ρ1 := p0) f18r1 (@env_ok p0) ⟨enk (kleqf c13), enk (kgeqt c12), enk (kleqt c11), enk (kgeqt c10), enk (kleqt c9), enk (kleqt c8), enk (kgeqt c7), enk (kleqt c6), enk (kleqt c5), enk (kgeqt c4), enk (kleqt c3), enk (kgeqt c2), enk (kleqt c1), enk (kgeqt c0), trivial⟩ trivial trivial trivial f18I2 hat (fun w2 hb => ?_)
                            have v0 : (3 : Int) = qcheck0 x0 x1 x2 x3 x4 x5 x6 x7 := by
                              unfold qcheck0
                              repeat (first | rw [if_pos (by omega)] | rw [if_neg (by omega)])
                            exact ret1 v0 hb
                          refine At.lastsV (ρ1 := p0) f18r2 (@env_ok p0) ⟨enk (kgeqf c12), enk (kleqt c11), enk (kgeqt c10), enk (kleqt c9), enk (kleqt c8), enk (kgeqt c7), enk (kleqt c6), enk (kleqt c5), enk (kgeqt c4), enk (kleqt c3), enk (kgeqt c2), enk (kleqt c1), enk (kgeqt c0), trivial⟩ trivial trivial trivial f18I2 hat (fun w2 hb => ?_)
                          have v0 : (3 : Int) = qcheck0 x0 x1 x2 x3 x4 x5 x6 x7 := by
                            unfold qcheck0
                            repeat (first | rw [if_pos (by omega)] | rw [if_neg (by omega)])
                          exact ret1 v0 hb
                        refine At.lastsV (ρ1 := p0) f18r3 (@env_ok p0) ⟨enk (kleqf c11), enk (kgeqt c10), enk (kleqt c9), enk (kleqt c8), enk (kgeqt c7), enk (kleqt c6), enk (kleqt c5), enk (kgeqt c4), enk (kleqt c3), enk (kgeqt c2), enk (kleqt c1), enk (kgeqt c0), trivial⟩ trivial trivial trivial f18I2 hat (fun w2 hb => ?_)
                        have v0 : (3 : Int) = qcheck0 x0 x1 x2 x3 x4 x5 x6 x7 := by
                          unfold qcheck0
                          repeat (first | rw [if_pos (by omega)] | rw [if_neg (by omega)])
                        exact ret1 v0 hb
                      refine At.lastsV (ρ1 := p0) f18r4 (@env_ok p0) ⟨enk (kgeqf c10), enk (kleqt c9), enk (kleqt c8), enk (kgeqt c7), enk (kleqt c6), enk (kleqt c5), enk (kgeqt c4), enk (kleqt c3), enk (kgeqt c2), enk (kleqt c1), enk (kgeqt c0), trivial⟩ trivial trivial trivial f18I2 hat (fun w2 hb => ?_)
                      have v0 : (3 : Int) = qcheck0 x0 x1 x2 x3 x4 x5 x6 x7 := by
                        unfold qcheck0
                        repeat (first | rw [if_pos (by omega)] | rw [if_neg (by omega)])
                      exact ret1 v0 hb
                    refine At.lastsV (ρ1 := p0) f18r5 (@env_ok p0) ⟨enk (kleqf c9), enk (kleqt c8), enk (kgeqt c7), enk (kleqt c6), enk (kleqt c5), enk (kgeqt c4), enk (kleqt c3), enk (kgeqt c2), enk (kleqt c1), enk (kgeqt c0), trivial⟩ trivial trivial trivial f18I2 hat (fun w2 hb => ?_)
                    have v0 : (3 : Int) = qcheck0 x0 x1 x2 x3 x4 x5 x6 x7 := by
                      unfold qcheck0
                      repeat (first | rw [if_pos (by omega)] | rw [if_neg (by omega)])
                    exact ret1 v0 hb
                  refine At.lastsV (ρ1 := p0) f18r6 (@env_ok p0) ⟨enk (kleqf c8), enk (kgeqt c7), enk (kleqt c6), enk (kleqt c5), enk (kgeqt c4), enk (kleqt c3), enk (kgeqt c2), enk (kleqt c1), enk (kgeqt c0), trivial⟩ trivial trivial trivial f18I2 hat (fun w2 hb => ?_)
                  have v0 : (3 : Int) = qcheck0 x0 x1 x2 x3 x4 x5 x6 x7 := by
                    unfold qcheck0
                    repeat (first | rw [if_pos (by omega)] | rw [if_neg (by omega)])
                  exact ret1 v0 hb
                refine At.lastsV (ρ1 := p0) f18r7 (@env_ok p0) ⟨enk (kgeqf c7), enk (kleqt c6), enk (kleqt c5), enk (kgeqt c4), enk (kleqt c3), enk (kgeqt c2), enk (kleqt c1), enk (kgeqt c0), trivial⟩ trivial trivial trivial f18I2 hat (fun w2 hb => ?_)
                have v0 : (3 : Int) = qcheck0 x0 x1 x2 x3 x4 x5 x6 x7 := by
                  unfold qcheck0
                  repeat (first | rw [if_pos (by omega)] | rw [if_neg (by omega)])
                exact ret1 v0 hb
              refine At.lastsV (ρ1 := p0) f18r8 (@env_ok p0) ⟨enk (kleqf c6), enk (kleqt c5), enk (kgeqt c4), enk (kleqt c3), enk (kgeqt c2), enk (kleqt c1), enk (kgeqt c0), trivial⟩ trivial trivial trivial f18I2 hat (fun w2 hb => ?_)
              have v0 : (3 : Int) = qcheck0 x0 x1 x2 x3 x4 x5 x6 x7 := by
                unfold qcheck0
                repeat (first | rw [if_pos (by omega)] | rw [if_neg (by omega)])
              exact ret1 v0 hb
            refine At.lastsV (ρ1 := p0) f18r9 (@env_ok p0) ⟨enk (kleqf c5), enk (kgeqt c4), enk (kleqt c3), enk (kgeqt c2), enk (kleqt c1), enk (kgeqt c0), trivial⟩ trivial trivial trivial f18I2 hat (fun w2 hb => ?_)
            have v0 : (3 : Int) = qcheck0 x0 x1 x2 x3 x4 x5 x6 x7 := by
              unfold qcheck0
              repeat (first | rw [if_pos (by omega)] | rw [if_neg (by omega)])
            exact ret1 v0 hb
          refine At.lastsV (ρ1 := p0) f18r10 (@env_ok p0) ⟨enk (kgeqf c4), enk (kleqt c3), enk (kgeqt c2), enk (kleqt c1), enk (kgeqt c0), trivial⟩ trivial trivial trivial f18I2 hat (fun w2 hb => ?_)
          have v0 : (3 : Int) = qcheck0 x0 x1 x2 x3 x4 x5 x6 x7 := by
            unfold qcheck0
            repeat (first | rw [if_pos (by omega)] | rw [if_neg (by omega)])
          exact ret1 v0 hb
        refine At.lastsV (ρ1 := p0) f18r11 (@env_ok p0) ⟨enk (kleqf c3), enk (kgeqt c2), enk (kleqt c1), enk (kgeqt c0), trivial⟩ trivial trivial trivial f18I2 hat (fun w2 hb => ?_)
        have v0 : (3 : Int) = qcheck0 x0 x1 x2 x3 x4 x5 x6 x7 := by
          unfold qcheck0
          repeat (first | rw [if_pos (by omega)] | rw [if_neg (by omega)])
        exact ret1 v0 hb
      refine At.lastsV (ρ1 := p0) f18r12 (@env_ok p0) ⟨enk (kgeqf c2), enk (kleqt c1), enk (kgeqt c0), trivial⟩ trivial trivial trivial f18I2 hat (fun w2 hb => ?_)
      have v0 : (3 : Int) = qcheck0 x0 x1 x2 x3 x4 x5 x6 x7 := by
        unfold qcheck0
        repeat (first | rw [if_pos (by omega)] | rw [if_neg (by omega)])
      exact ret1 v0 hb
    refine At.lastsV (ρ1 := p0) f18r13 (@env_ok p0) ⟨enk (kleqf c1), enk (kgeqt c0), trivial⟩ trivial trivial trivial f18I2 hat (fun w2 hb => ?_)
    have v0 : (3 : Int) = qcheck0 x0 x1 x2 x3 x4 x5 x6 x7 := by
      unfold qcheck0
      repeat (first | rw [if_pos (by omega)] | rw [if_neg (by omega)])
    exact ret1 v0 hb
  refine At.lastsV (ρ1 := p0) f18r14 (@env_ok p0) ⟨enk (kgeqf c0), trivial⟩ trivial trivial trivial f18I2 hat (fun w2 hb => ?_)
  have v0 : (3 : Int) = qcheck0 x0 x1 x2 x3 x4 x5 x6 x7 := by
    unfold qcheck0
    repeat (first | rw [if_pos (by omega)] | rw [if_neg (by omega)])
  exact ret1 v0 hb
def f19b0 : Code := (Try.f19.body).getD .skip
def f19F0 : Fr := mkFr Try.f19 [(0, (ag 0 8))] []
def f19S1 : St := mkSt 0 []
theorem f19I2 : IdOk 8 0 0 f19F0 f19S1 := ⟨mkSt_wf rfl, by kernel_rfl⟩
def f19n3 : List Ent := cB .leq (sy 0) (iV 24) true :: cB .geq (sy 0) (iV 1) true :: []
def f19n4 : List Ent := cB .geq (sy 1) (iV 1) true :: f19n3
def f19n5 : List Ent := cB .leq (sy 1) (iV 24) true :: f19n4
def f19n6 : List Ent := cB .geq (sy 2) (iV 1) true :: f19n5
def f19n7 : List Ent := cB .leq (sy 2) (iV 10000) true :: f19n6
def f19n8 : List Ent := cB .leq (sy 3) (sy 4) true :: f19n7
def f19n9 : List Ent := cB .geq (sy 3) (iV 100) true :: f19n8
def f19n10 : List Ent := cB .leq (sy 4) (iV 20000) true :: f19n9
def f19n11 : List Ent := cB .leq (sy 5) (sy 6) true :: f19n10
def f19n12 : List Ent := cB .geq (sy 5) (iV 0) true :: f19n11
def f19n13 : List Ent := cB .leq (sy 6) (iV 700000) true :: f19n12
def f19n14 : List Ent := cB .geq (sy 7) (iV 0) true :: f19n13
def f19n15 : List Ent := cB .leq (sy 7) (iV 1000) true :: f19n14
def f19n16 : List Ent := cB .leq (sy 7) (iV 1000) false :: f19n14
def f19n17 : List Ent := cB .geq (sy 7) (iV 0) false :: f19n13
def f19n18 : List Ent := cB .leq (sy 6) (iV 700000) false :: f19n12
def f19n19 : List Ent := cB .geq (sy 5) (iV 0) false :: f19n11
def f19n20 : List Ent := cB .leq (sy 5) (sy 6) false :: f19n10
def f19n21 : List Ent := cB .leq (sy 4) (iV 20000) false :: f19n9
def f19n22 : List Ent := cB .geq (sy 3) (iV 100) false :: f19n8
def f19n23 : List Ent := cB .leq (sy 3) (sy 4) false :: f19n7
def f19n24 : List Ent := cB .leq (sy 2) (iV 10000) false :: f19n6
def f19n25 : List Ent := cB .geq (sy 2) (iV 1) false :: f19n5
def f19n26 : List Ent := cB .leq (sy 1) (iV 24) false :: f19n4
def f19n27 : List Ent := cB .geq (sy 1) (iV 1) false :: f19n3
def f19n28 : List Ent := cB .leq (sy 0) (iV 24) false :: cB .geq (sy 0) (iV 1) true :: []
def f19n29 : List Ent := cB .geq (sy 0) (iV 1) false :: []
theorem f19a0 : agreeL (ids 8) [] [] f19F0 f19S1 (frameOf Try.f19 [(ag 0 8)]) Ev.start = true := by kernel_rfl
theorem f19r0 : lE f19n15 [] [] [] f19b0 f19F0 f19S1 Try.f19 (endV (iV 0)) = some () := by kernel_rfl
theorem f19r1 : lE f19n16 [] [] [] f19b0 f19F0 f19S1 Try.f19 (endV (iV 3)) = some () := by kernel_rfl
theorem f19r2 : lE f19n17 [] [] [] f19b0 f19F0 f19S1 Try.f19 (endV (iV 3)) = some () := by kernel_rfl
theorem f19r3 : lE f19n18 [] [] [] f19b0 f19F0 f19S1 Try.f19 (endV (iV 3)) = some () := by kernel_rfl
theorem f19r4 : lE f19n19 [] [] [] f19b0 f19F0 f19S1 Try.f19 (endV (iV 3)) = some () := by kernel_rfl
theorem f19r5 : lE f19n20 [] [] [] f19b0 f19F0 f19S1 Try.f19 (endV (iV 3)) = some () := by kernel_rfl
theorem f19r6 : lE f19n21 [] [] [] f19b0 f19F0 f19S1 Try.f19 (endV (iV 3)) = some () := by kernel_rfl
theorem f19r7 : lE f19n22 [] [] [] f19b0 f19F0 f19S1 Try.f19 (endV (iV 3)) = some () := by kernel_rfl
theorem f19r8 : lE f19n23 [] [] [] f19b0 f19F0 f19S1 Try.f19 (endV (iV 3)) = some () := by kernel_rfl
theorem f19r9 : lE f19n24 [] [] [] f19b0 f19F0 f19S1 Try.f19 (endV (iV 3)) = some () := by kernel_rfl
theorem f19r10 : lE f19n25 [] [] [] f19b0 f19F0 f19S1 Try.f19 (endV (iV 3)) = some () := by kernel_rfl
theorem f19r11 : lE f19n26 [] [] [] f19b0 f19F0 f19S1 Try.f19 (endV (iV 3)) = some () := by kernel_rfl
theorem f19r12 : lE f19n27 [] [] [] f19b0 f19F0 f19S1 Try.f19 (endV (iV 3)) = some () := by kernel_rfl
theorem f19r13 : lE f19n28 [] [] [] f19b0 f19F0 f19S1 Try.f19 (endV (iV 3)) = some () := by kernel_rfl
theorem f19r14 : lE f19n29 [] [] [] f19b0 f19F0 f19S1 Try.f19 (endV (iV 3)) = some () := by kernel_rfl
set_option maxHeartbeats 8000000 in
theorem rcheckS_any (x0 : Int) (x1 : Int) (x2 : Int) (x3 : Int) (x4 : Int) (x5 : Int) (x6 : Int) (x7 : Int) (w0 : World)  : Calls Try.prog 19 #[(mV x0 x1 x2 x3 x4 x5 x6 x7)] w0 (fun en w' => en = .returned (iV (qcheck0 x0 x1 x2 x3 x4 x5 x6 x7)) ∧ Below w0.heap.size w0 w') := by
  let vb : List Value := [(iV x0), (iV x1), (iV x2), (iV x3), (iV x4), (iV x5), (iV x6), (iV x7)]
  let p0 : Rho := (RO w0 vb [])
  refine At.begin (ρ := p0) (c := f19b0) (@env_ok p0) f19I2 f19a0 (fun a w hat => ?_)
  by_cases c0 : x0 ≥ 1
  · by_cases c1 : x0 ≤ 24
    · by_cases c2 : x1 ≥ 1
      · by_cases c3 : x1 ≤ 24
        · by_cases c4 : x2 ≥ 1
          · by_cases c5 : x2 ≤ 10000
            · by_cases c6 : x3 ≤ x4
              · by_cases c7 : x3 ≥ 100
                · by_cases c8 : x4 ≤ 20000
                  · by_cases c9 : x5 ≤ x6
                    · by_cases c10 : x5 ≥ 0
                      · by_cases c11 : x6 ≤ 700000
                        · by_cases c12 : x7 ≥ 0
                          · by_cases c13 : x7 ≤ 1000
                            · refine At.lastsV (ρ1 := p0) f19r0 (@env_ok p0) ⟨enk (kleqt c13), enk (kgeqt c12), enk (kleqt c11), enk (kgeqt c10), enk (kleqt c9), enk (kleqt c8), enk (kgeqt c7), enk (kleqt c6), enk (kleqt c5), enk (kgeqt c4), enk (kleqt c3), enk (kgeqt c2), enk (kleqt c1), enk (kgeqt c0), trivial⟩ trivial trivial trivial f19I2 hat (fun w2 hb => ?_)
                              have v0 : (0 : Int) = qcheck0 x0 x1 x2 x3 x4 x5 x6 x7 := by
                                unfold qcheck0
                                repeat (first | rw [if_pos (by omega)] | rw [if_neg (by omega)])
                              exact ret1 v0 hb
                            refine At.lastsV (ρ1 := p0) f19r1 (@env_ok p0) ⟨enk (kleqf c13), enk (kgeqt c12), enk (kleqt c11), enk (kgeqt c10), enk (kleqt c9), enk (kleqt c8), enk (kgeqt c7), enk (kleqt c6), enk (kleqt c5), enk (kgeqt c4), enk (kleqt c3), enk (kgeqt c2), enk (kleqt c1), enk (kgeqt c0), trivial⟩ trivial trivial trivial f19I2 hat (fun w2 hb => ?_)
                            have v0 : (3 : Int) = qcheck0 x0 x1 x2 x3 x4 x5 x6 x7 := by
                              unfold qcheck0
                              repeat (first | rw [if_pos (by omega)] | rw [if_neg (by omega)])
                            exact ret1 v0 hb
                          refine At.lastsV (ρ1 := p0) f19r2 (@env_ok p0) ⟨enk (kgeqf c12), enk (kleqt c11), enk (kgeqt c10), enk (kleqt c9), enk (kleqt c8), enk (kgeqt c7), enk (kleqt c6), enk (kleqt c5), enk (kgeqt c4), enk (kleqt c3), enk (kgeqt c2), enk (kleqt c1), enk (kgeqt c0), trivial⟩ trivial trivial trivial f19I2 hat (fun w2 hb => ?_)
                          have v0 : (3 : Int) = qcheck0 x0 x1 x2 x3 x4 x5 x6 x7 := by
                            unfold qcheck0
                            repeat (first | rw [if_pos (by omega)] | rw [if_neg (by omega)])
                          exact ret1 v0 hb
                        refine At.lastsV (ρ1 := p0) f19r3 (@env_ok p0) ⟨enk (kleqf c11), enk (kgeqt c10), enk (kleqt c9), enk (kleqt c8), enk (kgeqt c7), enk (kleqt c6), enk (kleqt c5), enk (kgeqt c4), enk (kleqt c3), enk (kgeqt c2), enk (kleqt c1), enk (kgeqt c0), trivial⟩ trivial trivial trivial f19I2 hat (fun w2 hb => ?_)
                        have v0 : (3 : Int) = qcheck0 x0 x1 x2 x3 x4 x5 x6 x7 := by
                          unfold qcheck0
                          repeat (first | rw [if_pos (by omega)] | rw [if_neg (by omega)])
                        exact ret1 v0 hb
                      refine At.lastsV (ρ1 := p0) f19r4 (@env_ok p0) ⟨enk (kgeqf c10), enk (kleqt c9), enk (kleqt c8), enk (kgeqt c7), enk (kleqt c6), enk (kleqt c5), enk (kgeqt c4), enk (kleqt c3), enk (kgeqt c2), enk (kleqt c1), enk (kgeqt c0), trivial⟩ trivial trivial trivial f19I2 hat (fun w2 hb => ?_)
                      have v0 : (3 : Int) = qcheck0 x0 x1 x2 x3 x4 x5 x6 x7 := by
                        unfold qcheck0
                        repeat (first | rw [if_pos (by omega)] | rw [if_neg (by omega)])
                      exact ret1 v0 hb
                    refine At.lastsV (ρ1 := p0) f19r5 (@env_ok p0) ⟨enk (kleqf c9), enk (kleqt c8), enk (kgeqt c7), enk (kleqt c6), enk (kleqt c5), enk (kgeqt c4), enk (kleqt c3), enk (kgeqt c2), enk (kleqt c1), enk (kgeqt c0), trivial⟩ trivial trivial trivial f19I2 hat (fun w2 hb => ?_)
                    have v0 : (3 : Int) = qcheck0 x0 x1 x2 x3 x4 x5 x6 x7 := by
                      unfold qcheck0
                      repeat (first | rw [if_pos (by omega)] | rw [if_neg (by omega)])
                    exact ret1 v0 hb
                  refine At.lastsV (ρ1 := p0) f19r6 (@env_ok p0) ⟨enk (kleqf c8), enk (kgeqt c7), enk (kleqt c6), enk (kleqt c5), enk (kgeqt c4), enk (kleqt c3), enk (kgeqt c2), enk (kleqt c1), enk (kgeqt c0), trivial⟩ trivial trivial trivial f19I2 hat (fun w2 hb => ?_)
                  have v0 : (3 : Int) = qcheck0 x0 x1 x2 x3 x4 x5 x6 x7 := by
                    unfold qcheck0
                    repeat (first | rw [if_pos (by omega)] | rw [if_neg (by omega)])
                  exact ret1 v0 hb
                refine At.lastsV (ρ1 := p0) f19r7 (@env_ok p0) ⟨enk (kgeqf c7), enk (kleqt c6), enk (kleqt c5), enk (kgeqt c4), enk (kleqt c3), enk (kgeqt c2), enk (kleqt c1), enk (kgeqt c0), trivial⟩ trivial trivial trivial f19I2 hat (fun w2 hb => ?_)
                have v0 : (3 : Int) = qcheck0 x0 x1 x2 x3 x4 x5 x6 x7 := by
                  unfold qcheck0
                  repeat (first | rw [if_pos (by omega)] | rw [if_neg (by omega)])
                exact ret1 v0 hb
              refine At.lastsV (ρ1 := p0) f19r8 (@env_ok p0) ⟨enk (kleqf c6), enk (kleqt c5), enk (kgeqt c4), enk (kleqt c3), enk (kgeqt c2), enk (kleqt c1), enk (kgeqt c0), trivial⟩ trivial trivial trivial f19I2 hat (fun w2 hb => ?_)
              have v0 : (3 : Int) = qcheck0 x0 x1 x2 x3 x4 x5 x6 x7 := by
                unfold qcheck0
                repeat (first | rw [if_pos (by omega)] | rw [if_neg (by omega)])
              exact ret1 v0 hb
            refine At.lastsV (ρ1 := p0) f19r9 (@env_ok p0) ⟨enk (kleqf c5), enk (kgeqt c4), enk (kleqt c3), enk (kgeqt c2), enk (kleqt c1), enk (kgeqt c0), trivial⟩ trivial trivial trivial f19I2 hat (fun w2 hb => ?_)
            have v0 : (3 : Int) = qcheck0 x0 x1 x2 x3 x4 x5 x6 x7 := by
              unfold qcheck0
              repeat (first | rw [if_pos (by omega)] | rw [if_neg (by omega)])
            exact ret1 v0 hb
          refine At.lastsV (ρ1 := p0) f19r10 (@env_ok p0) ⟨enk (kgeqf c4), enk (kleqt c3), enk (kgeqt c2), enk (kleqt c1), enk (kgeqt c0), trivial⟩ trivial trivial trivial f19I2 hat (fun w2 hb => ?_)
          have v0 : (3 : Int) = qcheck0 x0 x1 x2 x3 x4 x5 x6 x7 := by
            unfold qcheck0
            repeat (first | rw [if_pos (by omega)] | rw [if_neg (by omega)])
          exact ret1 v0 hb
        refine At.lastsV (ρ1 := p0) f19r11 (@env_ok p0) ⟨enk (kleqf c3), enk (kgeqt c2), enk (kleqt c1), enk (kgeqt c0), trivial⟩ trivial trivial trivial f19I2 hat (fun w2 hb => ?_)
        have v0 : (3 : Int) = qcheck0 x0 x1 x2 x3 x4 x5 x6 x7 := by
          unfold qcheck0
          repeat (first | rw [if_pos (by omega)] | rw [if_neg (by omega)])
        exact ret1 v0 hb
      refine At.lastsV (ρ1 := p0) f19r12 (@env_ok p0) ⟨enk (kgeqf c2), enk (kleqt c1), enk (kgeqt c0), trivial⟩ trivial trivial trivial f19I2 hat (fun w2 hb => ?_)
      have v0 : (3 : Int) = qcheck0 x0 x1 x2 x3 x4 x5 x6 x7 := by
        unfold qcheck0
        repeat (first | rw [if_pos (by omega)] | rw [if_neg (by omega)])
      exact ret1 v0 hb
    refine At.lastsV (ρ1 := p0) f19r13 (@env_ok p0) ⟨enk (kleqf c1), enk (kgeqt c0), trivial⟩ trivial trivial trivial f19I2 hat (fun w2 hb => ?_)
    have v0 : (3 : Int) = qcheck0 x0 x1 x2 x3 x4 x5 x6 x7 := by
      unfold qcheck0
      repeat (first | rw [if_pos (by omega)] | rw [if_neg (by omega)])
    exact ret1 v0 hb
  refine At.lastsV (ρ1 := p0) f19r14 (@env_ok p0) ⟨enk (kgeqf c0), trivial⟩ trivial trivial trivial f19I2 hat (fun w2 hb => ?_)
  have v0 : (3 : Int) = qcheck0 x0 x1 x2 x3 x4 x5 x6 x7 := by
    unfold qcheck0
    repeat (first | rw [if_pos (by omega)] | rw [if_neg (by omega)])
  exact ret1 v0 hb
end
end Go.Proofs.Ytoaehigmpbhppaa.En

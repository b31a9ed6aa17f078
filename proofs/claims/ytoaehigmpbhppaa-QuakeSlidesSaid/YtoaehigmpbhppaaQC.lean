/-
  The specification: roots.
-/
import Derived.Test.YtoaehigmpbhppaaQB
set_option linter.unusedSimpArgs false
set_option linter.unusedVariables false
namespace Go.Proofs.Ytoaehigmpbhppaa.En
open Go Go.Ev Go.Proofs Go.RowKit

theorem sq21 {x : Int} (h : 0 ≤ x) (h2 : x ≤ 2000001) : 0 ≤ x * x ∧ x * x ≤ 5000000000000 := ⟨Int.mul_nonneg h h, by have := Int.mul_le_mul h2 h2 h (by decide : (0 : Int) ≤ 2000001); omega⟩
noncomputable def rrootL_fr : Fr := mkFr Try.f98 [(0, (.chan (.some 0))), (3, (.chan (.some 1))), (4, (.chan (.some 2)))] []
noncomputable def rrootL_st : St := mkSt 0 []
theorem rrootL_wf : rrootL_st.Wf := mkSt_wf rfl

def rrootL_inv (n : Int) (x : Int × Int) : Prop := 0 ≤ x.1 ∧ x.1 ≤ x.2 ∧ x.2 ≤ 2000000 ∧ x.1 * x.1 ≤ n ∧ n < (x.2 + 1) * (x.2 + 1)

set_option maxRecDepth 1000000 in
theorem rrootL_id : agree [sy 0, sy 1, sy 2] [] rrootL_fr rrootL_st rrootL_fr rrootL_st = true := by kernel_rfl

noncomputable def rroot_e0 : List Ent := [⟨(.bin .lss 3), [(sy 1), (sy 2)], (.bool true)⟩, ⟨(.bin .add 3), [(sy 1), (sy 2)], (sy 3)⟩, ⟨(.bin .add 3), [(sy 3), (.int .i64 1)], (sy 4)⟩, ⟨(.bin .quo 3), [(sy 4), (.int .i64 2)], (sy 5)⟩, ⟨(.bin .mul 3), [(sy 5), (sy 5)], (sy 6)⟩, ⟨(.bin .leq 3), [(sy 6), (sy 0)], (.bool true)⟩]
noncomputable def rroot_c0 : List CEnt := []

set_option maxRecDepth 1000000 in
theorem rrootL_r0 : ev Try.prog (env.sym rroot_e0 rroot_c0) 3000 (.code (inLoopC (inBlockC (headC (dropC 2 ((Try.f98.body).getD .skip))))) none rrootL_fr rrootL_st (stop .normal [(sy 0), (sy 5), (sy 2)] [] rrootL_fr rrootL_st)) = some () := by kernel_rfl

noncomputable def rroot_e1 : List Ent := [⟨(.bin .lss 3), [(sy 1), (sy 2)], (.bool true)⟩, ⟨(.bin .add 3), [(sy 1), (sy 2)], (sy 3)⟩, ⟨(.bin .add 3), [(sy 3), (.int .i64 1)], (sy 4)⟩, ⟨(.bin .quo 3), [(sy 4), (.int .i64 2)], (sy 5)⟩, ⟨(.bin .mul 3), [(sy 5), (sy 5)], (sy 6)⟩, ⟨(.bin .leq 3), [(sy 6), (sy 0)], (.bool false)⟩, ⟨(.bin .sub 3), [(sy 5), (.int .i64 1)], (sy 7)⟩]
noncomputable def rroot_c1 : List CEnt := []

set_option maxRecDepth 1000000 in
theorem rrootL_r1 : ev Try.prog (env.sym rroot_e1 rroot_c1) 3000 (.code (inLoopC (inBlockC (headC (dropC 2 ((Try.f98.body).getD .skip))))) none rrootL_fr rrootL_st (stop .normal [(sy 0), (sy 1), (sy 7)] [] rrootL_fr rrootL_st)) = some () := by kernel_rfl

noncomputable def rroot_e2 : List Ent := [⟨(.bin .lss 3), [(sy 1), (sy 2)], (.bool false)⟩]
noncomputable def rroot_c2 : List CEnt := []

set_option maxRecDepth 1000000 in
theorem rrootL_r2 : ev Try.prog (env.sym rroot_e2 rroot_c2) 3000 (.code (inLoopC (inBlockC (headC (dropC 2 ((Try.f98.body).getD .skip))))) none rrootL_fr rrootL_st (stop (.exit 0) [sy 0, sy 1, sy 2] [] rrootL_fr rrootL_st)) = some () := by kernel_rfl

set_option maxHeartbeats 8000000 in
set_option maxRecDepth 100000 in
theorem rrootL_loop (n : Int) (h0 : 0 ≤ n) {w0 : World} : ∀ (x : Int × Int) (a : Act) (w : World), (rrootL_inv n x ∧ @At (Rho.of [(.int .i64 (n)), (.int .i64 (x.1)), (.int .i64 (x.2))] (fun _ => none)) w0 rrootL_fr rrootL_st a w) → (Code.loop (inLoopC (inBlockC (headC (dropC 2 ((Try.f98.body).getD .skip)))))).wpIn (FF none) 0 Try.prog (fun ex a' w' => (ex = .exit 0 ∧ ∃ x' : Int × Int, (rrootL_inv n x' ∧ x'.2 ≤ x'.1) ∧ @At (Rho.of [(.int .i64 (n)), (.int .i64 (x'.1)), (.int .i64 (x'.2))] (fun _ => none)) w0 rrootL_fr rrootL_st a' w')) a w := by
  refine loop_rounds (fun (x : Int × Int) a w => rrootL_inv n x ∧ @At (Rho.of [(.int .i64 (n)), (.int .i64 (x.1)), (.int .i64 (x.2))] (fun _ => none)) w0 rrootL_fr rrootL_st a w) (fun x => (x.2 - x.1).toNat) ?_
  rintro ⟨lo, hi⟩ a w ⟨hinv, hat⟩
  have hinv' := hinv
  simp only [rrootL_inv] at hinv'
  obtain ⟨i0, i1, i2, i3, i4⟩ := hinv'
  by_cases c0 : lo < hi
  · by_cases c1 : ((((lo + hi) + 1) / 2) * (((lo + hi) + 1) / 2)) ≤ n
    · have hat1 : @At (Rho.of [(.int .i64 (n)), (.int .i64 (lo)), (.int .i64 (hi)), (.int .i64 ((lo + hi))), (.int .i64 (((lo + hi) + 1))), (.int .i64 ((((lo + hi) + 1) / 2))), (.int .i64 (((((lo + hi) + 1) / 2) * (((lo + hi) + 1) / 2))))] (fun _ => none)) w0 rrootL_fr rrootL_st a w := At.shift (ρ1 := (Rho.of [(.int .i64 (n)), (.int .i64 (lo)), (.int .i64 (hi))] (fun _ => none))) (ρ2 := (Rho.of [(.int .i64 (n)), (.int .i64 (lo)), (.int .i64 (hi)), (.int .i64 ((lo + hi))), (.int .i64 (((lo + hi) + 1))), (.int .i64 ((((lo + hi) + 1) / 2))), (.int .i64 (((((lo + hi) + 1) / 2) * (((lo + hi) + 1) / 2))))] (fun _ => none))) (σ := [sy 0, sy 1, sy 2]) (π := []) ⟨rfl, rfl, rfl, rfl, rfl, rfl, trivial⟩ (fun _ _ h => h) rrootL_wf rrootL_id hat
      refine At.piece (ρ1 := (Rho.of [(.int .i64 (n)), (.int .i64 (lo)), (.int .i64 (hi)), (.int .i64 ((lo + hi))), (.int .i64 (((lo + hi) + 1))), (.int .i64 ((((lo + hi) + 1) / 2))), (.int .i64 (((((lo + hi) + 1) / 2) * (((lo + hi) + 1) / 2))))] (fun _ => none))) (ρ2 := (Rho.of [(.int .i64 (n)), (.int .i64 ((((lo + hi) + 1) / 2))), (.int .i64 (hi))] (fun _ => none))) (@Env.Ok.sym (Rho.of [(.int .i64 (n)), (.int .i64 (lo)), (.int .i64 (hi)), (.int .i64 ((lo + hi))), (.int .i64 (((lo + hi) + 1))), (.int .i64 ((((lo + hi) + 1) / 2))), (.int .i64 (((((lo + hi) + 1) / 2) * (((lo + hi) + 1) / 2))))] (fun _ => none)) _ _ (@env_ok (Rho.of [(.int .i64 (n)), (.int .i64 (lo)), (.int .i64 (hi)), (.int .i64 ((lo + hi))), (.int .i64 (((lo + hi) + 1))), (.int .i64 ((((lo + hi) + 1) / 2))), (.int .i64 (((((lo + hi) + 1) / 2) * (((lo + hi) + 1) / 2))))] (fun _ => none))) rroot_e0 rroot_c0 ⟨⟨rfl, rfl, fun w hm => (show KeyOk Try.prog w (.bin .lss 3) [(.int .i64 (lo)), (.int .i64 (hi))] (.bool true) from k_lss_t c0)⟩, ⟨rfl, rfl, fun w hm => (show KeyOk Try.prog w (.bin .add 3) [(.int .i64 (lo)), (.int .i64 (hi))] (.int .i64 ((lo + hi))) from k_add (wrap64 (by first | omega | (have := sq21 (x := (lo + hi + 1) / 2) (by omega) (by omega); omega))))⟩, ⟨rfl, rfl, fun w hm => (show KeyOk Try.prog w (.bin .add 3) [(.int .i64 ((lo + hi))), (.int .i64 1)] (.int .i64 (((lo + hi) + 1))) from k_add (wrap64 (by first | omega | (have := sq21 (x := (lo + hi + 1) / 2) (by omega) (by omega); omega))))⟩, ⟨rfl, rfl, fun w hm => (show KeyOk Try.prog w (.bin .quo 3) [(.int .i64 (((lo + hi) + 1))), (.int .i64 2)] (.int .i64 ((((lo + hi) + 1) / 2))) from k_quo_nn (by first | omega | (have := sq21 (x := (lo + hi + 1) / 2) (by omega) (by omega); omega)) (by first | omega | (have := sq21 (x := (lo + hi + 1) / 2) (by omega) (by omega); omega)) (wrap64 (by first | omega | (have := sq21 (x := (lo + hi + 1) / 2) (by omega) (by omega); omega))))⟩, ⟨rfl, rfl, fun w hm => (show KeyOk Try.prog w (.bin .mul 3) [(.int .i64 ((((lo + hi) + 1) / 2))), (.int .i64 ((((lo + hi) + 1) / 2)))] (.int .i64 (((((lo + hi) + 1) / 2) * (((lo + hi) + 1) / 2)))) from k_mul (wrap64 (by have := sq21 (x := (((lo + hi) + 1) / 2)) (by omega) (by omega); omega)))⟩, ⟨rfl, rfl, fun w hm => (show KeyOk Try.prog w (.bin .leq 3) [(.int .i64 (((((lo + hi) + 1) / 2) * (((lo + hi) + 1) / 2)))), (.int .i64 (n))] (.bool true) from k_leq_t c1)⟩, trivial⟩ trivial) rrootL_r0 ⟨rfl, rfl, rfl, rfl, rfl, rfl, trivial⟩ (fun _ _ h => h) rrootL_wf rrootL_wf hat1 (fun a' w' hat' => .inl ⟨rfl, ((((lo + hi) + 1) / 2), hi), ?_, ?_, hat'⟩)
      · show ((hi) - ((((lo + hi) + 1) / 2))).toNat < (hi - lo).toNat
        first | omega | (refine ⟨by omega, by omega, by omega, ?_, ?_⟩ <;> first | exact i3 | exact i4 | omega | (rw [show ((lo + hi + 1) / 2 - 1 + 1 : Int) = (lo + hi + 1) / 2 by omega]; omega))
      · show 0 ≤ ((((lo + hi) + 1) / 2)) ∧ ((((lo + hi) + 1) / 2)) ≤ (hi) ∧ (hi) ≤ 2000000 ∧ ((((lo + hi) + 1) / 2)) * ((((lo + hi) + 1) / 2)) ≤ n ∧ n < ((hi) + 1) * ((hi) + 1)
        first | omega | (refine ⟨by omega, by omega, by omega, ?_, ?_⟩ <;> first | exact i3 | exact i4 | omega | (rw [show ((lo + hi + 1) / 2 - 1 + 1 : Int) = (lo + hi + 1) / 2 by omega]; omega))
    · have hat1 : @At (Rho.of [(.int .i64 (n)), (.int .i64 (lo)), (.int .i64 (hi)), (.int .i64 ((lo + hi))), (.int .i64 (((lo + hi) + 1))), (.int .i64 ((((lo + hi) + 1) / 2))), (.int .i64 (((((lo + hi) + 1) / 2) * (((lo + hi) + 1) / 2)))), (.int .i64 (((((lo + hi) + 1) / 2) - 1)))] (fun _ => none)) w0 rrootL_fr rrootL_st a w := At.shift (ρ1 := (Rho.of [(.int .i64 (n)), (.int .i64 (lo)), (.int .i64 (hi))] (fun _ => none))) (ρ2 := (Rho.of [(.int .i64 (n)), (.int .i64 (lo)), (.int .i64 (hi)), (.int .i64 ((lo + hi))), (.int .i64 (((lo + hi) + 1))), (.int .i64 ((((lo + hi) + 1) / 2))), (.int .i64 (((((lo + hi) + 1) / 2) * (((lo + hi) + 1) / 2)))), (.int .i64 (((((lo + hi) + 1) / 2) - 1)))] (fun _ => none))) (σ := [sy 0, sy 1, sy 2]) (π := []) ⟨rfl, rfl, rfl, rfl, rfl, rfl, trivial⟩ (fun _ _ h => h) rrootL_wf rrootL_id hat
      refine At.piece (ρ1 := (Rho.of [(.int .i64 (n)), (.int .i64 (lo)), (.int .i64 (hi)), (.int .i64 ((lo + hi))), (.int .i64 (((lo + hi) + 1))), (.int .i64 ((((lo + hi) + 1) / 2))), (.int .i64 (((((lo + hi) + 1) / 2) * (((lo + hi) + 1) / 2)))), (.int .i64 (((((lo + hi) + 1) / 2) - 1)))] (fun _ => none))) (ρ2 := (Rho.of [(.int .i64 (n)), (.int .i64 (lo)), (.int .i64 (((((lo + hi) + 1) / 2) - 1)))] (fun _ => none))) (@Env.Ok.sym (Rho.of [(.int .i64 (n)), (.int .i64 (lo)), (.int .i64 (hi)), (.int .i64 ((lo + hi))), (.int .i64 (((lo + hi) + 1))), (.int .i64 ((((lo + hi) + 1) / 2))), (.int .i64 (((((lo + hi) + 1) / 2) * (((lo + hi) + 1) / 2)))), (.int .i64 (((((lo + hi) + 1) / 2) - 1)))] (fun _ => none)) _ _ (@env_ok (Rho.of [(.int .i64 (n)), (.int .i64 (lo)), (.int .i64 (hi)), (.int .i64 ((lo + hi))), (.int .i64 (((lo + hi) + 1))), (.int .i64 ((((lo + hi) + 1) / 2))), (.int .i64 (((((lo + hi) + 1) / 2) * (((lo + hi) + 1) / 2)))), (.int .i64 (((((lo + hi) + 1) / 2) - 1)))] (fun _ => none))) rroot_e1 rroot_c1 ⟨⟨rfl, rfl, fun w hm => (show KeyOk Try.prog w (.bin .lss 3) [(.int .i64 (lo)), (.int .i64 (hi))] (.bool true) from k_lss_t c0)⟩, ⟨rfl, rfl, fun w hm => (show KeyOk Try.prog w (.bin .add 3) [(.int .i64 (lo)), (.int .i64 (hi))] (.int .i64 ((lo + hi))) from k_add (wrap64 (by first | omega | (have := sq21 (x := (lo + hi + 1) / 2) (by omega) (by omega); omega))))⟩, ⟨rfl, rfl, fun w hm => (show KeyOk Try.prog w (.bin .add 3) [(.int .i64 ((lo + hi))), (.int .i64 1)] (.int .i64 (((lo + hi) + 1))) from k_add (wrap64 (by first | omega | (have := sq21 (x := (lo + hi + 1) / 2) (by omega) (by omega); omega))))⟩, ⟨rfl, rfl, fun w hm => (show KeyOk Try.prog w (.bin .quo 3) [(.int .i64 (((lo + hi) + 1))), (.int .i64 2)] (.int .i64 ((((lo + hi) + 1) / 2))) from k_quo_nn (by first | omega | (have := sq21 (x := (lo + hi + 1) / 2) (by omega) (by omega); omega)) (by first | omega | (have := sq21 (x := (lo + hi + 1) / 2) (by omega) (by omega); omega)) (wrap64 (by first | omega | (have := sq21 (x := (lo + hi + 1) / 2) (by omega) (by omega); omega))))⟩, ⟨rfl, rfl, fun w hm => (show KeyOk Try.prog w (.bin .mul 3) [(.int .i64 ((((lo + hi) + 1) / 2))), (.int .i64 ((((lo + hi) + 1) / 2)))] (.int .i64 (((((lo + hi) + 1) / 2) * (((lo + hi) + 1) / 2)))) from k_mul (wrap64 (by have := sq21 (x := (((lo + hi) + 1) / 2)) (by omega) (by omega); omega)))⟩, ⟨rfl, rfl, fun w hm => (show KeyOk Try.prog w (.bin .leq 3) [(.int .i64 (((((lo + hi) + 1) / 2) * (((lo + hi) + 1) / 2)))), (.int .i64 (n))] (.bool false) from k_leq_f c1)⟩, ⟨rfl, rfl, fun w hm => (show KeyOk Try.prog w (.bin .sub 3) [(.int .i64 ((((lo + hi) + 1) / 2))), (.int .i64 1)] (.int .i64 (((((lo + hi) + 1) / 2) - 1))) from k_sub (wrap64 (by first | omega | (have := sq21 (x := (lo + hi + 1) / 2) (by omega) (by omega); omega))))⟩, trivial⟩ trivial) rrootL_r1 ⟨rfl, rfl, rfl, rfl, rfl, rfl, trivial⟩ (fun _ _ h => h) rrootL_wf rrootL_wf hat1 (fun a' w' hat' => .inl ⟨rfl, (lo, ((((lo + hi) + 1) / 2) - 1)), ?_, ?_, hat'⟩)
      · show ((((((lo + hi) + 1) / 2) - 1)) - (lo)).toNat < (hi - lo).toNat
        first | omega | (refine ⟨by omega, by omega, by omega, ?_, ?_⟩ <;> first | exact i3 | exact i4 | omega | (rw [show ((lo + hi + 1) / 2 - 1 + 1 : Int) = (lo + hi + 1) / 2 by omega]; omega))
      · show 0 ≤ (lo) ∧ (lo) ≤ (((((lo + hi) + 1) / 2) - 1)) ∧ (((((lo + hi) + 1) / 2) - 1)) ≤ 2000000 ∧ (lo) * (lo) ≤ n ∧ n < ((((((lo + hi) + 1) / 2) - 1)) + 1) * ((((((lo + hi) + 1) / 2) - 1)) + 1)
        first | omega | (refine ⟨by omega, by omega, by omega, ?_, ?_⟩ <;> first | exact i3 | exact i4 | omega | (rw [show ((lo + hi + 1) / 2 - 1 + 1 : Int) = (lo + hi + 1) / 2 by omega]; omega))
  · have hat1 : @At (Rho.of [(.int .i64 (n)), (.int .i64 (lo)), (.int .i64 (hi))] (fun _ => none)) w0 rrootL_fr rrootL_st a w := At.shift (ρ1 := (Rho.of [(.int .i64 (n)), (.int .i64 (lo)), (.int .i64 (hi))] (fun _ => none))) (ρ2 := (Rho.of [(.int .i64 (n)), (.int .i64 (lo)), (.int .i64 (hi))] (fun _ => none))) (σ := [sy 0, sy 1, sy 2]) (π := []) ⟨rfl, rfl, rfl, rfl, rfl, rfl, trivial⟩ (fun _ _ h => h) rrootL_wf rrootL_id hat
    refine At.piece (ρ1 := (Rho.of [(.int .i64 (n)), (.int .i64 (lo)), (.int .i64 (hi))] (fun _ => none))) (ρ2 := (Rho.of [(.int .i64 (n)), (.int .i64 (lo)), (.int .i64 (hi))] (fun _ => none))) (@Env.Ok.sym (Rho.of [(.int .i64 (n)), (.int .i64 (lo)), (.int .i64 (hi))] (fun _ => none)) _ _ (@env_ok (Rho.of [(.int .i64 (n)), (.int .i64 (lo)), (.int .i64 (hi))] (fun _ => none))) rroot_e2 rroot_c2 ⟨⟨rfl, rfl, fun w hm => (show KeyOk Try.prog w (.bin .lss 3) [(.int .i64 (lo)), (.int .i64 (hi))] (.bool false) from k_lss_f c0)⟩, trivial⟩ trivial) rrootL_r2 ⟨rfl, rfl, rfl, rfl, rfl, rfl, trivial⟩ (fun _ _ h => h) rrootL_wf rrootL_wf hat1 (fun a' w' hat' => .inr ⟨.inl ⟨0, rfl⟩, ⟨rfl, (lo, hi), ⟨hinv, ?_⟩, hat'⟩⟩)
    show hi ≤ lo
    first | omega | (refine ⟨by omega, by omega, by omega, ?_, ?_⟩ <;> first | exact i3 | exact i4 | omega | (rw [show ((lo + hi + 1) / 2 - 1 + 1 : Int) = (lo + hi + 1) / 2 by omega]; omega))

noncomputable def rroot_e3 : List Ent := []
noncomputable def rroot_c3 : List CEnt := []

set_option maxRecDepth 1000000 in
theorem rroot_pre : segA Try.prog (env.sym rroot_e3 rroot_c3) 3000 (takeC 2 ((Try.f98.body).getD .skip)) (frameOf Try.f98 [(sy 0)]) Ev.start (fun fr' s' => stop .normal [(sy 0), (.int .i64 0), (.int .i64 2000000)] [] rrootL_fr rrootL_st .normal fr' s') = some () := by kernel_rfl

set_option maxRecDepth 1000000 in
theorem rroot_cut : dropC 2 ((Try.f98.body).getD .skip) = .seq (.block 0 (.loop (inLoopC (inBlockC (headC (dropC 2 ((Try.f98.body).getD .skip))))))) (dropC 3 ((Try.f98.body).getD .skip)) := by kernel_rfl

noncomputable def rroot_e4 : List Ent := []
noncomputable def rroot_c4 : List CEnt := []

set_option maxRecDepth 1000000 in
theorem rroot_r4 : ev Try.prog (env.sym rroot_e4 rroot_c4) 3000 (.code (dropC 3 ((Try.f98.body).getD .skip)) none rrootL_fr rrootL_st (retK (env.sym rroot_e4 rroot_c4) Try.f98 fun v _ => cond (sameV 4 (sy 1) v) (some ()) none)) = some () := by kernel_rfl

set_option maxHeartbeats 8000000 in
set_option maxRecDepth 100000 in
theorem rroot_any (n : Int) (h0 : 0 ≤ n) (h1 : n ≤ 1000000000000) (w : World)  : Calls Try.prog 98 #[(.int .i64 (n))] w (fun en w' => en = .returned (.int .i64 (rootD n)) ∧ Below w.heap.size w w') := by
  refine @calls_of_body (Rho.of [(.int .i64 (n))] (fun _ => none)) Try.prog env (@env_ok (Rho.of [(.int .i64 (n))] (fun _ => none))) 98 Try.f98 ((Try.f98.body).getD .skip) [(sy 0)] w _ (by kernel_rfl) (by kernel_rfl) (of_decide_eq_true (by kernel_rfl)) (of_decide_eq_true (by kernel_rfl)) rfl (fun _ _ h => nomatch h) (fun a hat => ?_)
  refine At.cut (ρ1 := (Rho.of [(.int .i64 (n))] (fun _ => none))) (ρ2 := (Rho.of [(.int .i64 (n)), (.int .i64 (0)), (.int .i64 (2000000))] (fun _ => none))) (σ := [(sy 0), (.int .i64 0), (.int .i64 2000000)]) (π := []) (@Env.Ok.sym (Rho.of [(.int .i64 (n))] (fun _ => none)) _ _ (@env_ok (Rho.of [(.int .i64 (n))] (fun _ => none))) rroot_e3 rroot_c3 trivial trivial) rroot_pre ⟨rfl, rfl, rfl, rfl, rfl, rfl, trivial⟩ (fun _ _ h => h) start_wf rrootL_wf hat (fun a1 w1 hat1 => ?_)
  rw [rroot_cut]
  refine sym_then (I := fun a' w' => ∃ x' : Int × Int, (rrootL_inv n x' ∧ x'.2 ≤ x'.1) ∧ @At (Rho.of [(.int .i64 (n)), (.int .i64 (x'.1)), (.int .i64 (x'.2))] (fun _ => none)) w rrootL_fr rrootL_st a' w') (sym_block (wpIn_mono (rrootL_loop n h0 (0, 2000000) a1 w1 ⟨?_, hat1⟩) ?_)) ?_
  · show 0 ≤ (0) ∧ (0) ≤ (2000000) ∧ (2000000) ≤ 2000000 ∧ (0) * (0) ≤ n ∧ n < ((2000000) + 1) * ((2000000) + 1)
    exact ⟨by decide, by decide, by decide, by omega, by omega⟩
  · rintro ex a' w' ⟨rfl, h⟩
    exact .inl ⟨rfl, .inl ⟨rfl, h⟩⟩
  · rintro a' w' ⟨⟨lo, hi⟩, ⟨hinv, hdone⟩, hat'⟩
    simp only [rrootL_inv] at hinv
    obtain ⟨i0, i1, i2, i3, i4⟩ := hinv
    simp only at hdone
    have hat1 : @At (Rho.of [(.int .i64 (n)), (.int .i64 (lo)), (.int .i64 (hi))] (fun _ => none)) w rrootL_fr rrootL_st a' w' := At.shift (ρ1 := (Rho.of [(.int .i64 (n)), (.int .i64 (lo)), (.int .i64 (hi))] (fun _ => none))) (ρ2 := (Rho.of [(.int .i64 (n)), (.int .i64 (lo)), (.int .i64 (hi))] (fun _ => none))) (σ := [sy 0, sy 1, sy 2]) (π := []) ⟨rfl, rfl, rfl, rfl, rfl, rfl, trivial⟩ (fun _ _ h => h) rrootL_wf rrootL_id hat'
    refine @At.last (Rho.of [(.int .i64 (n)), (.int .i64 (lo)), (.int .i64 (hi))] (fun _ => none)) Try.prog (env.sym rroot_e4 rroot_c4) (@Env.Ok.sym (Rho.of [(.int .i64 (n)), (.int .i64 (lo)), (.int .i64 (hi))] (fun _ => none)) _ _ (@env_ok (Rho.of [(.int .i64 (n)), (.int .i64 (lo)), (.int .i64 (hi))] (fun _ => none))) rroot_e4 rroot_c4 trivial trivial) w 3000 _ Try.f98 rrootL_fr rrootL_st (sy 1) _ rroot_r4 rfl rrootL_wf a' w' hat1 (fun w2 hb => ⟨?_, hb⟩)
    show Ending.returned (.int .i64 (lo)) = Ending.returned (.int .i64 (rootD n))
    have hres : ((.int .i64 (lo)) : Value) = (.int .i64 (rootD n)) := by
      have hji : hi = lo := by omega
      subst hji
      rw [rootD_eq i0 i3 i4]
    rw [hres]

end Go.Proofs.Ytoaehigmpbhppaa.En

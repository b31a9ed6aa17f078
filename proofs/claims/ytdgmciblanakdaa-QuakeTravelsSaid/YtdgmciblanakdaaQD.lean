/-
  The specification: roots and falls.
-/
import Derived.Test.YtdgmciblanakdaaQC
set_option linter.unusedSimpArgs false
set_option linter.unusedVariables false
namespace Go.Proofs.Ytdgmciblanakdaa.En
open Go Go.Ev Go.Proofs Go.RowKit

theorem sq21 {x : Int} (h : 0 ≤ x) (h2 : x ≤ 2000001) : 0 ≤ x * x ∧ x * x ≤ 5000000000000 := ⟨Int.mul_nonneg h h, by have := Int.mul_le_mul h2 h2 h (by decide : (0 : Int) ≤ 2000001); omega⟩
theorem lg_half {x : Int} (h : 2 ≤ x) : lg x = lg (x / 2) + 1 := by
  unfold lg
  have e : (x / 2).toNat = x.toNat / 2 := by omega
  rw [e, Nat.log2_def, if_pos (by omega)]
  omega
theorem lg_one : lg 1 = 0 := by decide
theorem lg_bd {x : Int} (h : 1 ≤ x) (h2 : x < 65536) : 0 ≤ lg x ∧ lg x < 16 := by
  have : Nat.log2 x.toNat < 16 := (Nat.log2_lt (by omega)).2 (by omega)
  unfold lg; omega
noncomputable def rrootL_fr : Fr := mkFr Try.f98 [(0, (.chan (.some 0))), (3, (.chan (.some 1))), (4, (.chan (.some 2)))] []
noncomputable def rrootL_st : St := mkSt 0 []
theorem rrootL_wf : rrootL_st.Wf := mkSt_wf rfl

def rrootL_inv (n : Int) (x : Int × Int) : Prop := 0 ≤ x.1 ∧ x.1 ≤ x.2 ∧ x.2 ≤ 2000000 ∧ x.1 * x.1 ≤ n ∧ n < (x.2 + 1) * (x.2 + 1)

set_option maxRecDepth 1000000 in
theorem rrootL_id : agree [.chan (some 0), .chan (some 1), .chan (some 2)] [] rrootL_fr rrootL_st rrootL_fr rrootL_st = true := by kernel_rfl

noncomputable def rroot_e0 : List Ent := [⟨(.bin .lss 3), [(.chan (some 1)), (.chan (some 2))], (.bool true)⟩, ⟨(.bin .add 3), [(.chan (some 1)), (.chan (some 2))], (.chan (some 3))⟩, ⟨(.bin .add 3), [(.chan (some 3)), (.int .i64 1)], (.chan (some 4))⟩, ⟨(.bin .quo 3), [(.chan (some 4)), (.int .i64 2)], (.chan (some 5))⟩, ⟨(.bin .mul 3), [(.chan (some 5)), (.chan (some 5))], (.chan (some 6))⟩, ⟨(.bin .leq 3), [(.chan (some 6)), (.chan (some 0))], (.bool true)⟩]
noncomputable def rroot_c0 : List CEnt := []

set_option maxRecDepth 1000000 in
theorem rrootL_r0 : ev Try.prog (env.sym rroot_e0 rroot_c0) 3000 (.code (inLoopC (inBlockC (headC (dropC 2 ((Try.f98.body).getD .skip))))) none rrootL_fr rrootL_st (stop .normal [(.chan (some 0)), (.chan (some 5)), (.chan (some 2))] [] rrootL_fr rrootL_st)) = some () := by kernel_rfl

noncomputable def rroot_e1 : List Ent := [⟨(.bin .lss 3), [(.chan (some 1)), (.chan (some 2))], (.bool true)⟩, ⟨(.bin .add 3), [(.chan (some 1)), (.chan (some 2))], (.chan (some 3))⟩, ⟨(.bin .add 3), [(.chan (some 3)), (.int .i64 1)], (.chan (some 4))⟩, ⟨(.bin .quo 3), [(.chan (some 4)), (.int .i64 2)], (.chan (some 5))⟩, ⟨(.bin .mul 3), [(.chan (some 5)), (.chan (some 5))], (.chan (some 6))⟩, ⟨(.bin .leq 3), [(.chan (some 6)), (.chan (some 0))], (.bool false)⟩, ⟨(.bin .sub 3), [(.chan (some 5)), (.int .i64 1)], (.chan (some 7))⟩]
noncomputable def rroot_c1 : List CEnt := []

set_option maxRecDepth 1000000 in
theorem rrootL_r1 : ev Try.prog (env.sym rroot_e1 rroot_c1) 3000 (.code (inLoopC (inBlockC (headC (dropC 2 ((Try.f98.body).getD .skip))))) none rrootL_fr rrootL_st (stop .normal [(.chan (some 0)), (.chan (some 1)), (.chan (some 7))] [] rrootL_fr rrootL_st)) = some () := by kernel_rfl

noncomputable def rroot_e2 : List Ent := [⟨(.bin .lss 3), [(.chan (some 1)), (.chan (some 2))], (.bool false)⟩]
noncomputable def rroot_c2 : List CEnt := []

set_option maxRecDepth 1000000 in
theorem rrootL_r2 : ev Try.prog (env.sym rroot_e2 rroot_c2) 3000 (.code (inLoopC (inBlockC (headC (dropC 2 ((Try.f98.body).getD .skip))))) none rrootL_fr rrootL_st (stop (.exit 0) [.chan (some 0), .chan (some 1), .chan (some 2)] [] rrootL_fr rrootL_st)) = some () := by kernel_rfl

set_option maxHeartbeats 8000000 in
set_option maxRecDepth 100000 in
theorem rrootL_loop (n : Int) (h0 : 0 ≤ n) {w0 : World} : ∀ (x : Int × Int) (a : Act) (w : World), (rrootL_inv n x ∧ @At (Rho.of [(.int .i64 (n)), (.int .i64 (x.1)), (.int .i64 (x.2))] (fun _ => none)) w0 rrootL_fr rrootL_st a w) → (Code.loop (inLoopC (inBlockC (headC (dropC 2 ((Try.f98.body).getD .skip)))))).wpIn (FF none) 0 Try.prog (fun ex a' w' => (ex = .exit 0 ∧ ∃ x' : Int × Int, (rrootL_inv n x' ∧ x'.2 ≤ x'.1) ∧ @At (Rho.of [(.int .i64 (n)), (.int .i64 (x'.1)), (.int .i64 (x'.2))] (fun _ => none)) w0 rrootL_fr rrootL_st a' w')) a w := by
  refine loop_rounds (fun (x : Int × Int) a w => rrootL_inv n x ∧ @At (Rho.of [(.int .i64 (n)), (.int .i64 (x.1)), (.int .i64 (x.2))] (fun _ => none)) w0 rrootL_fr rrootL_st a w) (fun x => (x.2 - x.1).toNat) ?_
  rintro ⟨lo, hi⟩ a w ⟨hinv, hat⟩
  have hinv' := hinv
  simp only [rrootL_inv] at hinv'
  obtain ⟨i0, i1, i2, i3, i4⟩ := hinv'
  by_cases c0 : lo < hi
  · by_cases c1 : ((((lo + hi) + 1) / 2) * (((lo + hi) + 1) / 2)) ≤ n
    · have hat1 : @At (Rho.of [(.int .i64 (n)), (.int .i64 (lo)), (.int .i64 (hi)), (.int .i64 ((lo + hi))), (.int .i64 (((lo + hi) + 1))), (.int .i64 ((((lo + hi) + 1) / 2))), (.int .i64 (((((lo + hi) + 1) / 2) * (((lo + hi) + 1) / 2))))] (fun _ => none)) w0 rrootL_fr rrootL_st a w := At.shift (ρ1 := (Rho.of [(.int .i64 (n)), (.int .i64 (lo)), (.int .i64 (hi))] (fun _ => none))) (ρ2 := (Rho.of [(.int .i64 (n)), (.int .i64 (lo)), (.int .i64 (hi)), (.int .i64 ((lo + hi))), (.int .i64 (((lo + hi) + 1))), (.int .i64 ((((lo + hi) + 1) / 2))), (.int .i64 (((((lo + hi) + 1) / 2) * (((lo + hi) + 1) / 2))))] (fun _ => none))) (σ := [.chan (some 0), .chan (some 1), .chan (some 2)]) (π := []) ⟨rfl, rfl, rfl, rfl, rfl, rfl, trivial⟩ (fun _ _ h => h) rrootL_wf rrootL_id hat
      refine At.piece (ρ1 := (Rho.of [(.int .i64 (n)), (.int .i64 (lo)), (.int .i64 (hi)), (.int .i64 ((lo + hi))), (.int .i64 (((lo + hi) + 1))), (.int .i64 ((((lo + hi) + 1) / 2))), (.int .i64 (((((lo + hi) + 1) / 2) * (((lo + hi) + 1) / 2))))] (fun _ => none))) (ρ2 := (Rho.of [(.int .i64 (n)), (.int .i64 ((((lo + hi) + 1) / 2))), (.int .i64 (hi))] (fun _ => none))) (@Env.Ok.sym (Rho.of [(.int .i64 (n)), (.int .i64 (lo)), (.int .i64 (hi)), (.int .i64 ((lo + hi))), (.int .i64 (((lo + hi) + 1))), (.int .i64 ((((lo + hi) + 1) / 2))), (.int .i64 (((((lo + hi) + 1) / 2) * (((lo + hi) + 1) / 2))))] (fun _ => none)) _ _ (@env_ok (Rho.of [(.int .i64 (n)), (.int .i64 (lo)), (.int .i64 (hi)), (.int .i64 ((lo + hi))), (.int .i64 (((lo + hi) + 1))), (.int .i64 ((((lo + hi) + 1) / 2))), (.int .i64 (((((lo + hi) + 1) / 2) * (((lo + hi) + 1) / 2))))] (fun _ => none))) rroot_e0 rroot_c0 ⟨⟨rfl, rfl, fun w hm => (show KeyOk Try.prog w (.bin .lss 3) [(.int .i64 (lo)), (.int .i64 (hi))] (.bool true) from k_lss_t c0)⟩, ⟨rfl, rfl, fun w hm => (show KeyOk Try.prog w (.bin .add 3) [(.int .i64 (lo)), (.int .i64 (hi))] (.int .i64 ((lo + hi))) from k_add (wrap64 (by first | omega | (have := sq21 (x := (lo + hi + 1) / 2) (by omega) (by omega); omega))))⟩, ⟨rfl, rfl, fun w hm => (show KeyOk Try.prog w (.bin .add 3) [(.int .i64 ((lo + hi))), (.int .i64 1)] (.int .i64 (((lo + hi) + 1))) from k_add (wrap64 (by first | omega | (have := sq21 (x := (lo + hi + 1) / 2) (by omega) (by omega); omega))))⟩, ⟨rfl, rfl, fun w hm => (show KeyOk Try.prog w (.bin .quo 3) [(.int .i64 (((lo + hi) + 1))), (.int .i64 2)] (.int .i64 ((((lo + hi) + 1) / 2))) from k_quo_nn (by first | omega | (have := sq21 (x := (lo + hi + 1) / 2) (by omega) (by omega); omega)) (by first | omega | (have := sq21 (x := (lo + hi + 1) / 2) (by omega) (by omega); omega)) (wrap64 (by first | omega | (have := sq21 (x := (lo + hi + 1) / 2) (by omega) (by omega); omega))))⟩, ⟨rfl, rfl, fun w hm => (show KeyOk Try.prog w (.bin .mul 3) [(.int .i64 ((((lo + hi) + 1) / 2))), (.int .i64 ((((lo + hi) + 1) / 2)))] (.int .i64 (((((lo + hi) + 1) / 2) * (((lo + hi) + 1) / 2)))) from k_mul (wrap64 (by have := sq21 (x := (((lo + hi) + 1) / 2)) (by omega) (by omega); omega)))⟩, ⟨rfl, rfl, fun w hm => (show KeyOk Try.prog w (.bin .leq 3) [(.int .i64 (((((lo + hi) + 1) / 2) * (((lo + hi) + 1) / 2)))), (.int .i64 (n))] (.bool true) from k_leq_t c1)⟩, trivial⟩ trivial) rrootL_r0 ⟨rfl, rfl, rfl, rfl, rfl, rfl, trivial⟩ (fun _ _ h => h) rrootL_wf rrootL_wf hat1 (fun a' w' hat' => .inl ⟨rfl, ((((lo + hi) + 1) / 2), hi), ?_, ?_, hat'⟩)
      · show ((hi) - ((((lo + hi) + 1) / 2))).toNat < (hi - lo).toNat
        first | omega | (refine ⟨by omega, by omega, by omega, ?_, ?_⟩ <;> first | exact i3 | exact i4 | omega | (rw [show ((lo + hi + 1) / 2 - 1 + 1 : Int) = (lo + hi + 1) / 2 by omega]; omega))
      · show 0 ≤ ((((lo + hi) + 1) / 2)) ∧ ((((lo + hi) + 1) / 2)) ≤ (hi) ∧ (hi) ≤ 2000000 ∧ ((((lo + hi) + 1) / 2)) * ((((lo + hi) + 1) / 2)) ≤ n ∧ n < ((hi) + 1) * ((hi) + 1)
        first | omega | (refine ⟨by omega, by omega, by omega, ?_, ?_⟩ <;> first | exact i3 | exact i4 | omega | (rw [show ((lo + hi + 1) / 2 - 1 + 1 : Int) = (lo + hi + 1) / 2 by omega]; omega))
    · have hat1 : @At (Rho.of [(.int .i64 (n)), (.int .i64 (lo)), (.int .i64 (hi)), (.int .i64 ((lo + hi))), (.int .i64 (((lo + hi) + 1))), (.int .i64 ((((lo + hi) + 1) / 2))), (.int .i64 (((((lo + hi) + 1) / 2) * (((lo + hi) + 1) / 2)))), (.int .i64 (((((lo + hi) + 1) / 2) - 1)))] (fun _ => none)) w0 rrootL_fr rrootL_st a w := At.shift (ρ1 := (Rho.of [(.int .i64 (n)), (.int .i64 (lo)), (.int .i64 (hi))] (fun _ => none))) (ρ2 := (Rho.of [(.int .i64 (n)), (.int .i64 (lo)), (.int .i64 (hi)), (.int .i64 ((lo + hi))), (.int .i64 (((lo + hi) + 1))), (.int .i64 ((((lo + hi) + 1) / 2))), (.int .i64 (((((lo + hi) + 1) / 2) * (((lo + hi) + 1) / 2)))), (.int .i64 (((((lo + hi) + 1) / 2) - 1)))] (fun _ => none))) (σ := [.chan (some 0), .chan (some 1), .chan (some 2)]) (π := []) ⟨rfl, rfl, rfl, rfl, rfl, rfl, trivial⟩ (fun _ _ h => h) rrootL_wf rrootL_id hat
      refine At.piece (ρ1 := (Rho.of [(.int .i64 (n)), (.int .i64 (lo)), (.int .i64 (hi)), (.int .i64 ((lo + hi))), (.int .i64 (((lo + hi) + 1))), (.int .i64 ((((lo + hi) + 1) / 2))), (.int .i64 (((((lo + hi) + 1) / 2) * (((lo + hi) + 1) / 2)))), (.int .i64 (((((lo + hi) + 1) / 2) - 1)))] (fun _ => none))) (ρ2 := (Rho.of [(.int .i64 (n)), (.int .i64 (lo)), (.int .i64 (((((lo + hi) + 1) / 2) - 1)))] (fun _ => none))) (@Env.Ok.sym (Rho.of [(.int .i64 (n)), (.int .i64 (lo)), (.int .i64 (hi)), (.int .i64 ((lo + hi))), (.int .i64 (((lo + hi) + 1))), (.int .i64 ((((lo + hi) + 1) / 2))), (.int .i64 (((((lo + hi) + 1) / 2) * (((lo + hi) + 1) / 2)))), (.int .i64 (((((lo + hi) + 1) / 2) - 1)))] (fun _ => none)) _ _ (@env_ok (Rho.of [(.int .i64 (n)), (.int .i64 (lo)), (.int .i64 (hi)), (.int .i64 ((lo + hi))), (.int .i64 (((lo + hi) + 1))), (.int .i64 ((((lo + hi) + 1) / 2))), (.int .i64 (((((lo + hi) + 1) / 2) * (((lo + hi) + 1) / 2)))), (.int .i64 (((((lo + hi) + 1) / 2) - 1)))] (fun _ => none))) rroot_e1 rroot_c1 ⟨⟨rfl, rfl, fun w hm => (show KeyOk Try.prog w (.bin .lss 3) [(.int .i64 (lo)), (.int .i64 (hi))] (.bool true) from k_lss_t c0)⟩, ⟨rfl, rfl, fun w hm => (show KeyOk Try.prog w (.bin .add 3) [(.int .i64 (lo)), (.int .i64 (hi))] (.int .i64 ((lo + hi))) from k_add (wrap64 (by first | omega | (have := sq21 (x := (lo + hi + 1) / 2) (by omega) (by omega); omega))))⟩, ⟨rfl, rfl, fun w hm => (show KeyOk Try.prog w (.bin .add 3) [(.int .i64 ((lo + hi))), (.int .i64 1)] (.int .i64 (((lo + hi) + 1))) from k_add (wrap64 (by first | omega | (have := sq21 (x := (lo + hi + 1) / 2) (by omega) (by omega); omega))))⟩, ⟨rfl, rfl, fun w hm => (show KeyOk Try.prog w (.bin .quo 3) [(.int .i64 (((lo + hi) + 1))), (.int .i64 2)] (.int .i64 ((((lo + hi) + 1) / 2))) from k_quo_nn (by first | omega | (have := sq21 (x := (lo + hi + 1) / 2) (by omega) (by omega); omega)) (by first | omega | (have := sq21 (x := (lo + hi + 1) / 2) (by omega) (by omega); omega)) (wrap64 (by first | omega | (have := sq21 (x := (lo + hi + 1) / 2) (by omega) (by omega); omega))))⟩, ⟨rfl, rfl, fun w hm => (show KeyOk Try.prog w (.bin .mul 3) [(.int .i64 ((((lo + hi) + 1) / 2))), (.int .i64 ((((lo + hi) + 1) / 2)))] (.int .i64 (((((lo + hi) + 1) / 2) * (((lo + hi) + 1) / 2)))) from k_mul (wrap64 (by have := sq21 (x := (((lo + hi) + 1) / 2)) (by omega) (by omega); omega)))⟩, ⟨rfl, rfl, fun w hm => (show KeyOk Try.prog w (.bin .leq 3) [(.int .i64 (((((lo + hi) + 1) / 2) * (((lo + hi) + 1) / 2)))), (.int .i64 (n))] (.bool false) from k_leq_f c1)⟩, ⟨rfl, rfl, fun w hm => (show KeyOk Try.prog w (.bin .sub 3) [(.int .i64 ((((lo + hi) + 1) / 2))), (.int .i64 1)] (.int .i64 (((((lo + hi) + 1) / 2) - 1))) from k_sub (wrap64 (by first | omega | (have := sq21 (x := (lo + hi + 1) / 2) (by omega) (by omega); omega))))⟩, trivial⟩ trivial) rrootL_r1 ⟨rfl, rfl, rfl, rfl, rfl, rfl, trivial⟩ (fun _ _ h => h) rrootL_wf rrootL_wf hat1 (fun a' w' hat' => .inl ⟨rfl, (lo, ((((lo + hi) + 1) / 2) - 1)), ?_, ?_, hat'⟩)
      · show ((((((lo + hi) + 1) / 2) - 1)) - (lo)).toNat < (hi - lo).toNat
        first | omega | (refine ⟨by omega, by omega, by omega, ?_, ?_⟩ <;> first | exact i3 | exact i4 | omega | (rw [show ((lo + hi + 1) / 2 - 1 + 1 : Int) = (lo + hi + 1) / 2 by omega]; omega))
      · show 0 ≤ (lo) ∧ (lo) ≤ (((((lo + hi) + 1) / 2) - 1)) ∧ (((((lo + hi) + 1) / 2) - 1)) ≤ 2000000 ∧ (lo) * (lo) ≤ n ∧ n < ((((((lo + hi) + 1) / 2) - 1)) + 1) * ((((((lo + hi) + 1) / 2) - 1)) + 1)
        first | omega | (refine ⟨by omega, by omega, by omega, ?_, ?_⟩ <;> first | exact i3 | exact i4 | omega | (rw [show ((lo + hi + 1) / 2 - 1 + 1 : Int) = (lo + hi + 1) / 2 by omega]; omega))
  · have hat1 : @At (Rho.of [(.int .i64 (n)), (.int .i64 (lo)), (.int .i64 (hi))] (fun _ => none)) w0 rrootL_fr rrootL_st a w := At.shift (ρ1 := (Rho.of [(.int .i64 (n)), (.int .i64 (lo)), (.int .i64 (hi))] (fun _ => none))) (ρ2 := (Rho.of [(.int .i64 (n)), (.int .i64 (lo)), (.int .i64 (hi))] (fun _ => none))) (σ := [.chan (some 0), .chan (some 1), .chan (some 2)]) (π := []) ⟨rfl, rfl, rfl, rfl, rfl, rfl, trivial⟩ (fun _ _ h => h) rrootL_wf rrootL_id hat
    refine At.piece (ρ1 := (Rho.of [(.int .i64 (n)), (.int .i64 (lo)), (.int .i64 (hi))] (fun _ => none))) (ρ2 := (Rho.of [(.int .i64 (n)), (.int .i64 (lo)), (.int .i64 (hi))] (fun _ => none))) (@Env.Ok.sym (Rho.of [(.int .i64 (n)), (.int .i64 (lo)), (.int .i64 (hi))] (fun _ => none)) _ _ (@env_ok (Rho.of [(.int .i64 (n)), (.int .i64 (lo)), (.int .i64 (hi))] (fun _ => none))) rroot_e2 rroot_c2 ⟨⟨rfl, rfl, fun w hm => (show KeyOk Try.prog w (.bin .lss 3) [(.int .i64 (lo)), (.int .i64 (hi))] (.bool false) from k_lss_f c0)⟩, trivial⟩ trivial) rrootL_r2 ⟨rfl, rfl, rfl, rfl, rfl, rfl, trivial⟩ (fun _ _ h => h) rrootL_wf rrootL_wf hat1 (fun a' w' hat' => .inr ⟨.inl ⟨0, rfl⟩, ⟨rfl, (lo, hi), ⟨hinv, ?_⟩, hat'⟩⟩)
    show hi ≤ lo
    first | omega | (refine ⟨by omega, by omega, by omega, ?_, ?_⟩ <;> first | exact i3 | exact i4 | omega | (rw [show ((lo + hi + 1) / 2 - 1 + 1 : Int) = (lo + hi + 1) / 2 by omega]; omega))

noncomputable def rroot_e3 : List Ent := []
noncomputable def rroot_c3 : List CEnt := []

set_option maxRecDepth 1000000 in
theorem rroot_pre : segA Try.prog (env.sym rroot_e3 rroot_c3) 3000 (takeC 2 ((Try.f98.body).getD .skip)) (frameOf Try.f98 [(.chan (some 0))]) Ev.start (fun fr' s' => stop .normal [(.chan (some 0)), (.int .i64 0), (.int .i64 2000000)] [] rrootL_fr rrootL_st .normal fr' s') = some () := by kernel_rfl

set_option maxRecDepth 1000000 in
theorem rroot_cut : dropC 2 ((Try.f98.body).getD .skip) = .seq (.block 0 (.loop (inLoopC (inBlockC (headC (dropC 2 ((Try.f98.body).getD .skip))))))) (dropC 3 ((Try.f98.body).getD .skip)) := by kernel_rfl

noncomputable def rroot_e4 : List Ent := []
noncomputable def rroot_c4 : List CEnt := []

set_option maxRecDepth 1000000 in
theorem rroot_r4 : ev Try.prog (env.sym rroot_e4 rroot_c4) 3000 (.code (dropC 3 ((Try.f98.body).getD .skip)) none rrootL_fr rrootL_st (retK (env.sym rroot_e4 rroot_c4) Try.f98 fun v _ => cond (sameV 4 (.chan (some 1)) v) (some ()) none)) = some () := by kernel_rfl

set_option maxHeartbeats 8000000 in
set_option maxRecDepth 100000 in
theorem rroot_any (n : Int) (h0 : 0 ≤ n) (h1 : n ≤ 1000000000000) (w : World)  : Calls Try.prog 98 #[(.int .i64 (n))] w (fun en w' => en = .returned (.int .i64 (rootD n)) ∧ Below w.heap.size w w') := by
  refine @calls_of_body (Rho.of [(.int .i64 (n))] (fun _ => none)) Try.prog env (@env_ok (Rho.of [(.int .i64 (n))] (fun _ => none))) 98 Try.f98 ((Try.f98.body).getD .skip) [(.chan (some 0))] w _ (by kernel_rfl) (by kernel_rfl) (of_decide_eq_true (by kernel_rfl)) (of_decide_eq_true (by kernel_rfl)) rfl (fun _ _ h => nomatch h) (fun a hat => ?_)
  refine At.cut (ρ1 := (Rho.of [(.int .i64 (n))] (fun _ => none))) (ρ2 := (Rho.of [(.int .i64 (n)), (.int .i64 (0)), (.int .i64 (2000000))] (fun _ => none))) (σ := [(.chan (some 0)), (.int .i64 0), (.int .i64 2000000)]) (π := []) (@Env.Ok.sym (Rho.of [(.int .i64 (n))] (fun _ => none)) _ _ (@env_ok (Rho.of [(.int .i64 (n))] (fun _ => none))) rroot_e3 rroot_c3 trivial trivial) rroot_pre ⟨rfl, rfl, rfl, rfl, rfl, rfl, trivial⟩ (fun _ _ h => h) start_wf rrootL_wf hat (fun a1 w1 hat1 => ?_)
  rw [rroot_cut]
  refine sym_then (I := fun a' w' => ∃ x' : Int × Int, (rrootL_inv n x' ∧ x'.2 ≤ x'.1) ∧ @At (Rho.of [(.int .i64 (n)), (.int .i64 (x'.1)), (.int .i64 (x'.2))] (fun _ => none)) w rrootL_fr rrootL_st a' w') (sym_block (wpIn_mono (rrootL_loop n h0 (0, 2000000) a1 w1 ⟨?_, hat1⟩) ?_)) ?_
  · show 0 ≤ (0) ∧ (0) ≤ (2000000) ∧ (2000000) ≤ 2000000 ∧ (0) * (0) ≤ n ∧ n < ((2000000) + 1) * ((2000000) + 1)
    exact ⟨by decide, by decide, by decide, by omega, by omega⟩
  · rintro ex a' w' ⟨rfl, h⟩
    exact .inl ⟨rfl, rfl, h⟩
  · rintro a' w' ⟨⟨lo, hi⟩, ⟨hinv, hdone⟩, hat'⟩
    simp only [rrootL_inv] at hinv
    obtain ⟨i0, i1, i2, i3, i4⟩ := hinv
    simp only at hdone
    have hat1 : @At (Rho.of [(.int .i64 (n)), (.int .i64 (lo)), (.int .i64 (hi))] (fun _ => none)) w rrootL_fr rrootL_st a' w' := At.shift (ρ1 := (Rho.of [(.int .i64 (n)), (.int .i64 (lo)), (.int .i64 (hi))] (fun _ => none))) (ρ2 := (Rho.of [(.int .i64 (n)), (.int .i64 (lo)), (.int .i64 (hi))] (fun _ => none))) (σ := [.chan (some 0), .chan (some 1), .chan (some 2)]) (π := []) ⟨rfl, rfl, rfl, rfl, rfl, rfl, trivial⟩ (fun _ _ h => h) rrootL_wf rrootL_id hat'
    refine @At.last (Rho.of [(.int .i64 (n)), (.int .i64 (lo)), (.int .i64 (hi))] (fun _ => none)) Try.prog (env.sym rroot_e4 rroot_c4) (@Env.Ok.sym (Rho.of [(.int .i64 (n)), (.int .i64 (lo)), (.int .i64 (hi))] (fun _ => none)) _ _ (@env_ok (Rho.of [(.int .i64 (n)), (.int .i64 (lo)), (.int .i64 (hi))] (fun _ => none))) rroot_e4 rroot_c4 trivial trivial) w 3000 _ Try.f98 rrootL_fr rrootL_st (.chan (some 1)) _ rroot_r4 rfl rrootL_wf a' w' hat1 (fun w2 hb => ⟨?_, hb⟩)
    show Ending.returned (.int .i64 (lo)) = Ending.returned (.int .i64 (rootD n))
    have hres : ((.int .i64 (lo)) : Value) = (.int .i64 (rootD n)) := by
      have hji : hi = lo := by omega
      subst hji
      rw [rootD_eq i0 i3 i4]
    rw [hres]

noncomputable def rfallL_fr : Fr := mkFr Try.f85 [(3, (.chan (.some 2))), (4, (.chan (.some 1)))] []
noncomputable def rfallL_st : St := mkSt 0 []
theorem rfallL_wf : rfallL_st.Wf := mkSt_wf rfl

def rfallL_inv (d : Int) (x : Int × Int) : Prop := 1 ≤ x.1 ∧ x.1 ≤ 2001 ∧ 0 ≤ x.2 ∧ x.2 + lg x.1 = lg (d / 1000 + 1)

set_option maxRecDepth 1000000 in
theorem rfallL_id : agree [.chan (some 0), .chan (some 1), .chan (some 2)] [] rfallL_fr rfallL_st rfallL_fr rfallL_st = true := by kernel_rfl

noncomputable def rfall_e0 : List Ent := [⟨(.bin .gtr 3), [(.chan (some 1)), (.int .i64 1)], (.bool true)⟩, ⟨(.bin .add 3), [(.chan (some 2)), (.int .i64 1)], (.chan (some 3))⟩, ⟨(.bin .quo 3), [(.chan (some 1)), (.int .i64 2)], (.chan (some 4))⟩]
noncomputable def rfall_c0 : List CEnt := []

set_option maxRecDepth 1000000 in
theorem rfallL_r0 : ev Try.prog (env.sym rfall_e0 rfall_c0) 3000 (.code (inLoopC (inBlockC (tailC (headC (dropC 2 ((Try.f85.body).getD .skip)))))) none rfallL_fr rfallL_st (stop .normal [(.chan (some 0)), (.chan (some 4)), (.chan (some 3))] [] rfallL_fr rfallL_st)) = some () := by kernel_rfl

noncomputable def rfall_e1 : List Ent := [⟨(.bin .gtr 3), [(.chan (some 1)), (.int .i64 1)], (.bool false)⟩]
noncomputable def rfall_c1 : List CEnt := []

set_option maxRecDepth 1000000 in
theorem rfallL_r1 : ev Try.prog (env.sym rfall_e1 rfall_c1) 3000 (.code (inLoopC (inBlockC (tailC (headC (dropC 2 ((Try.f85.body).getD .skip)))))) none rfallL_fr rfallL_st (stop (.exit 0) [.chan (some 0), .chan (some 1), .chan (some 2)] [] rfallL_fr rfallL_st)) = some () := by kernel_rfl

set_option maxHeartbeats 8000000 in
set_option maxRecDepth 100000 in
theorem rfallL_loop (d : Int) (h0 : 0 ≤ d) (h1 : d ≤ 2000000) {w0 : World} : ∀ (x : Int × Int) (a : Act) (w : World), (rfallL_inv d x ∧ @At (Rho.of [(.int .i64 (d)), (.int .i64 (x.1)), (.int .i64 (x.2))] (fun _ => none)) w0 rfallL_fr rfallL_st a w) → (Code.loop (inLoopC (inBlockC (tailC (headC (dropC 2 ((Try.f85.body).getD .skip))))))).wpIn (FF none) 0 Try.prog (fun ex a' w' => (ex = .exit 0 ∧ ∃ x' : Int × Int, (rfallL_inv d x' ∧ x'.1 ≤ 1) ∧ @At (Rho.of [(.int .i64 (d)), (.int .i64 (x'.1)), (.int .i64 (x'.2))] (fun _ => none)) w0 rfallL_fr rfallL_st a' w')) a w := by
  refine loop_rounds (fun (x : Int × Int) a w => rfallL_inv d x ∧ @At (Rho.of [(.int .i64 (d)), (.int .i64 (x.1)), (.int .i64 (x.2))] (fun _ => none)) w0 rfallL_fr rfallL_st a w) (fun x => x.1.toNat) ?_
  rintro ⟨m, k⟩ a w ⟨hinv, hat⟩
  have hinv' := hinv
  simp only [rfallL_inv] at hinv'
  obtain ⟨i0, i1, i2, i3⟩ := hinv'
  by_cases c0 : m > 1
  · have hat1 : @At (Rho.of [(.int .i64 (d)), (.int .i64 (m)), (.int .i64 (k)), (.int .i64 ((k + 1))), (.int .i64 ((m / 2)))] (fun _ => none)) w0 rfallL_fr rfallL_st a w := At.shift (ρ1 := (Rho.of [(.int .i64 (d)), (.int .i64 (m)), (.int .i64 (k))] (fun _ => none))) (ρ2 := (Rho.of [(.int .i64 (d)), (.int .i64 (m)), (.int .i64 (k)), (.int .i64 ((k + 1))), (.int .i64 ((m / 2)))] (fun _ => none))) (σ := [.chan (some 0), .chan (some 1), .chan (some 2)]) (π := []) ⟨rfl, rfl, rfl, rfl, rfl, rfl, trivial⟩ (fun _ _ h => h) rfallL_wf rfallL_id hat
    refine At.piece (ρ1 := (Rho.of [(.int .i64 (d)), (.int .i64 (m)), (.int .i64 (k)), (.int .i64 ((k + 1))), (.int .i64 ((m / 2)))] (fun _ => none))) (ρ2 := (Rho.of [(.int .i64 (d)), (.int .i64 ((m / 2))), (.int .i64 ((k + 1)))] (fun _ => none))) (@Env.Ok.sym (Rho.of [(.int .i64 (d)), (.int .i64 (m)), (.int .i64 (k)), (.int .i64 ((k + 1))), (.int .i64 ((m / 2)))] (fun _ => none)) _ _ (@env_ok (Rho.of [(.int .i64 (d)), (.int .i64 (m)), (.int .i64 (k)), (.int .i64 ((k + 1))), (.int .i64 ((m / 2)))] (fun _ => none))) rfall_e0 rfall_c0 ⟨⟨rfl, rfl, fun w hm => (show KeyOk Try.prog w (.bin .gtr 3) [(.int .i64 (m)), (.int .i64 1)] (.bool true) from k_gtr_t c0)⟩, ⟨rfl, rfl, fun w hm => (show KeyOk Try.prog w (.bin .add 3) [(.int .i64 (k)), (.int .i64 1)] (.int .i64 ((k + 1))) from k_add (wrap64 (by first | omega | (have := lg_bd (x := m) (by omega) (by omega); have := lg_bd (x := d / 1000 + 1) (by omega) (by omega); omega))))⟩, ⟨rfl, rfl, fun w hm => (show KeyOk Try.prog w (.bin .quo 3) [(.int .i64 (m)), (.int .i64 2)] (.int .i64 ((m / 2))) from k_quo_nn (by first | omega | (have := lg_bd (x := m) (by omega) (by omega); have := lg_bd (x := d / 1000 + 1) (by omega) (by omega); omega)) (by first | omega | (have := lg_bd (x := m) (by omega) (by omega); have := lg_bd (x := d / 1000 + 1) (by omega) (by omega); omega)) (wrap64 (by first | omega | (have := lg_bd (x := m) (by omega) (by omega); have := lg_bd (x := d / 1000 + 1) (by omega) (by omega); omega))))⟩, trivial⟩ trivial) rfallL_r0 ⟨rfl, rfl, rfl, rfl, rfl, rfl, trivial⟩ (fun _ _ h => h) rfallL_wf rfallL_wf hat1 (fun a' w' hat' => .inl ⟨rfl, ((m / 2), (k + 1)), ?_, ?_, hat'⟩)
    · show ((m / 2)).toNat < m.toNat
      first | omega | (have e := lg_half (x := m) (by omega); refine ⟨by omega, by omega, by omega, by omega⟩)
    · show 1 ≤ ((m / 2)) ∧ ((m / 2)) ≤ 2001 ∧ 0 ≤ ((k + 1)) ∧ ((k + 1)) + lg ((m / 2)) = lg (d / 1000 + 1)
      first | omega | (have e := lg_half (x := m) (by omega); refine ⟨by omega, by omega, by omega, by omega⟩)
  · have hat1 : @At (Rho.of [(.int .i64 (d)), (.int .i64 (m)), (.int .i64 (k))] (fun _ => none)) w0 rfallL_fr rfallL_st a w := At.shift (ρ1 := (Rho.of [(.int .i64 (d)), (.int .i64 (m)), (.int .i64 (k))] (fun _ => none))) (ρ2 := (Rho.of [(.int .i64 (d)), (.int .i64 (m)), (.int .i64 (k))] (fun _ => none))) (σ := [.chan (some 0), .chan (some 1), .chan (some 2)]) (π := []) ⟨rfl, rfl, rfl, rfl, rfl, rfl, trivial⟩ (fun _ _ h => h) rfallL_wf rfallL_id hat
    refine At.piece (ρ1 := (Rho.of [(.int .i64 (d)), (.int .i64 (m)), (.int .i64 (k))] (fun _ => none))) (ρ2 := (Rho.of [(.int .i64 (d)), (.int .i64 (m)), (.int .i64 (k))] (fun _ => none))) (@Env.Ok.sym (Rho.of [(.int .i64 (d)), (.int .i64 (m)), (.int .i64 (k))] (fun _ => none)) _ _ (@env_ok (Rho.of [(.int .i64 (d)), (.int .i64 (m)), (.int .i64 (k))] (fun _ => none))) rfall_e1 rfall_c1 ⟨⟨rfl, rfl, fun w hm => (show KeyOk Try.prog w (.bin .gtr 3) [(.int .i64 (m)), (.int .i64 1)] (.bool false) from k_gtr_f c0)⟩, trivial⟩ trivial) rfallL_r1 ⟨rfl, rfl, rfl, rfl, rfl, rfl, trivial⟩ (fun _ _ h => h) rfallL_wf rfallL_wf hat1 (fun a' w' hat' => .inr ⟨.inl ⟨0, rfl⟩, ⟨rfl, (m, k), ⟨hinv, ?_⟩, hat'⟩⟩)
    show m ≤ 1
    first | omega | (have e := lg_half (x := m) (by omega); refine ⟨by omega, by omega, by omega, by omega⟩)

noncomputable def rfall_e2 : List Ent := [⟨(.bin .quo 3), [(.chan (some 0)), (.int .i64 1000)], (.chan (some 1))⟩, ⟨(.bin .add 3), [(.chan (some 1)), (.int .i64 1)], (.chan (some 2))⟩]
noncomputable def rfall_c2 : List CEnt := []

set_option maxRecDepth 1000000 in
theorem rfall_pre : segA Try.prog (env.sym rfall_e2 rfall_c2) 3000 (takeC 2 ((Try.f85.body).getD .skip) ++ [headC (headC (dropC 2 ((Try.f85.body).getD .skip)))]) (frameOf Try.f85 [(.chan (some 0))]) Ev.start (fun fr' s' => stop .normal [(.chan (some 0)), (.chan (some 2)), (.int .i64 0)] [] rfallL_fr rfallL_st .normal fr' s') = some () := by kernel_rfl

set_option maxRecDepth 1000000 in
theorem rfall_cut : ((Try.f85.body).getD .skip) = seqs (takeC 2 ((Try.f85.body).getD .skip)) (.seq (.seq (headC (headC (dropC 2 ((Try.f85.body).getD .skip)))) (.block 0 (.loop (inLoopC (inBlockC (tailC (headC (dropC 2 ((Try.f85.body).getD .skip))))))))) (dropC 3 ((Try.f85.body).getD .skip))) := by kernel_rfl

noncomputable def rfall_e3 : List Ent := [⟨(.bin .mul 3), [(.int .i64 30), (.chan (some 2))], (.chan (some 3))⟩]
noncomputable def rfall_c3 : List CEnt := []

set_option maxRecDepth 1000000 in
theorem rfall_r3 : ev Try.prog (env.sym rfall_e3 rfall_c3) 3000 (.code (dropC 3 ((Try.f85.body).getD .skip)) none rfallL_fr rfallL_st (retK (env.sym rfall_e3 rfall_c3) Try.f85 fun v _ => cond (sameV 4 (.chan (some 3)) v) (some ()) none)) = some () := by kernel_rfl

set_option maxHeartbeats 8000000 in
set_option maxRecDepth 100000 in
theorem rfall_any (d : Int) (h0 : 0 ≤ d) (h1 : d ≤ 2000000) (w : World)  : Calls Try.prog 85 #[(.int .i64 (d))] w (fun en w' => en = .returned (.int .i64 (fallZ d)) ∧ Below w.heap.size w w') := by
  refine @calls_of_body (Rho.of [(.int .i64 (d)), (.int .i64 ((d / 1000))), (.int .i64 (((d / 1000) + 1)))] (fun _ => none)) Try.prog env (@env_ok (Rho.of [(.int .i64 (d)), (.int .i64 ((d / 1000))), (.int .i64 (((d / 1000) + 1)))] (fun _ => none))) 85 Try.f85 ((Try.f85.body).getD .skip) [(.chan (some 0))] w _ (by kernel_rfl) (by kernel_rfl) (of_decide_eq_true (by kernel_rfl)) (of_decide_eq_true (by kernel_rfl)) rfl (fun _ _ h => nomatch h) (fun a hat => ?_)
  rw [rfall_cut]
  refine At.segs2 (ρ1 := (Rho.of [(.int .i64 (d)), (.int .i64 ((d / 1000))), (.int .i64 (((d / 1000) + 1)))] (fun _ => none))) (ρ2 := (Rho.of [(.int .i64 (d)), (.int .i64 (((d / 1000) + 1))), (.int .i64 (0))] (fun _ => none))) (σ := [(.chan (some 0)), (.chan (some 2)), (.int .i64 0)]) (π := []) (@Env.Ok.sym (Rho.of [(.int .i64 (d)), (.int .i64 ((d / 1000))), (.int .i64 (((d / 1000) + 1)))] (fun _ => none)) _ _ (@env_ok (Rho.of [(.int .i64 (d)), (.int .i64 ((d / 1000))), (.int .i64 (((d / 1000) + 1)))] (fun _ => none))) rfall_e2 rfall_c2 ⟨⟨rfl, rfl, fun w hm => (show KeyOk Try.prog w (.bin .quo 3) [(.int .i64 (d)), (.int .i64 1000)] (.int .i64 ((d / 1000))) from k_quo_nn (by first | omega | (have := lg_bd (x := m) (by omega) (by omega); have := lg_bd (x := d / 1000 + 1) (by omega) (by omega); omega)) (by first | omega | (have := lg_bd (x := m) (by omega) (by omega); have := lg_bd (x := d / 1000 + 1) (by omega) (by omega); omega)) (wrap64 (by first | omega | (have := lg_bd (x := m) (by omega) (by omega); have := lg_bd (x := d / 1000 + 1) (by omega) (by omega); omega))))⟩, ⟨rfl, rfl, fun w hm => (show KeyOk Try.prog w (.bin .add 3) [(.int .i64 ((d / 1000))), (.int .i64 1)] (.int .i64 (((d / 1000) + 1))) from k_add (wrap64 (by first | omega | (have := lg_bd (x := m) (by omega) (by omega); have := lg_bd (x := d / 1000 + 1) (by omega) (by omega); omega))))⟩, trivial⟩ trivial) ⟨rfl, rfl, rfl, rfl, rfl, rfl, trivial⟩ (fun _ _ h => h) rfallL_wf (fun a1 w1 hat1 => ?_) rfall_pre start_wf hat
  refine sym_fin (I := fun a' w' => ∃ x' : Int × Int, (rfallL_inv d x' ∧ x'.1 ≤ 1) ∧ @At (Rho.of [(.int .i64 (d)), (.int .i64 (x'.1)), (.int .i64 (x'.2))] (fun _ => none)) w rfallL_fr rfallL_st a' w') (sym_block (wpIn_mono (rfallL_loop d h0 h1 (((d / 1000) + 1), 0) a1 w1 ⟨?_, hat1⟩) ?_)) ?_
  · show 1 ≤ (((d / 1000) + 1)) ∧ (((d / 1000) + 1)) ≤ 2001 ∧ 0 ≤ (0) ∧ (0) + lg (((d / 1000) + 1)) = lg (d / 1000 + 1)
    exact ⟨by omega, by omega, by omega, by omega⟩
  · rintro ex a' w' ⟨rfl, h⟩
    exact .inl ⟨rfl, rfl, h⟩
  · rintro a' w' ⟨⟨m, k⟩, ⟨hinv, hdone⟩, hat'⟩
    simp only [rfallL_inv] at hinv
    obtain ⟨i0, i1, i2, i3⟩ := hinv
    simp only at hdone
    have hat1 : @At (Rho.of [(.int .i64 (d)), (.int .i64 (m)), (.int .i64 (k)), (.int .i64 ((30 * k)))] (fun _ => none)) w rfallL_fr rfallL_st a' w' := At.shift (ρ1 := (Rho.of [(.int .i64 (d)), (.int .i64 (m)), (.int .i64 (k))] (fun _ => none))) (ρ2 := (Rho.of [(.int .i64 (d)), (.int .i64 (m)), (.int .i64 (k)), (.int .i64 ((30 * k)))] (fun _ => none))) (σ := [.chan (some 0), .chan (some 1), .chan (some 2)]) (π := []) ⟨rfl, rfl, rfl, rfl, rfl, rfl, trivial⟩ (fun _ _ h => h) rfallL_wf rfallL_id hat'
    refine @At.last (Rho.of [(.int .i64 (d)), (.int .i64 (m)), (.int .i64 (k)), (.int .i64 ((30 * k)))] (fun _ => none)) Try.prog (env.sym rfall_e3 rfall_c3) (@Env.Ok.sym (Rho.of [(.int .i64 (d)), (.int .i64 (m)), (.int .i64 (k)), (.int .i64 ((30 * k)))] (fun _ => none)) _ _ (@env_ok (Rho.of [(.int .i64 (d)), (.int .i64 (m)), (.int .i64 (k)), (.int .i64 ((30 * k)))] (fun _ => none))) rfall_e3 rfall_c3 ⟨⟨rfl, rfl, fun w hm => (show KeyOk Try.prog w (.bin .mul 3) [(.int .i64 30), (.int .i64 (k))] (.int .i64 ((30 * k))) from k_mul (wrap64 (by first | omega | (have := lg_bd (x := m) (by omega) (by omega); have := lg_bd (x := d / 1000 + 1) (by omega) (by omega); omega))))⟩, trivial⟩ trivial) w 3000 _ Try.f85 rfallL_fr rfallL_st (.chan (some 3)) _ rfall_r3 rfl rfallL_wf a' w' hat1 (fun w2 hb => ⟨?_, hb⟩)
    show Ending.returned (.int .i64 ((30 * k))) = Ending.returned (.int .i64 (fallZ d))
    have hres : ((.int .i64 ((30 * k))) : Value) = (.int .i64 (fallZ d)) := by
      have e : m = 1 := by omega
      subst e
      have e1 := lg_one
      have hz : 30 * k = fallZ d := by unfold fallZ; omega
      rw [hz]
    rw [hres]
end Go.Proofs.Ytdgmciblanakdaa.En

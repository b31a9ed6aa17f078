/-
  Layer 3, the reference: its smallest functions.
-/
import Derived.Test.YtdhcdgfpkjdihaaDoorRows
import Derived.Test.YtdhcdgfpkjdihaaDoorVA3c
import Derived.Test.YtdhcdgfpkjdihaaDoorVA3d
import Derived.Test.YtdhcdgfpkjdihaaDoorVBa
set_option linter.unusedSimpArgs false
set_option linter.unusedVariables false
namespace Go.Proofs.YtdhcdgfpkjdihaaDoor.Sg
open Go.RowKit
theorem rwithin_any (n a b : Int) (w : World) :
 Calls Tryd.prog 64 #[.int .i64 n, .int .i64 a, .int .i64 b] w fun e w' => e = .returned (.bool (decide (a ≤ n ∧ n ≤ b))) ∧ w = w' := by
 by_cases h1 : a ≤ n
 all_goals by_cases h2 : n ≤ b
 all_goals
  go_enter Tryd.func64, Tryd.ntmps64
  go_wp2
  go_ret
  exact ⟨by simp [h1, h2], rfl⟩
theorem rspan_any (a b lo hi : Int) (w : World) :
 Calls Tryd.prog 67 #[.agg #[.int .i64 a, .int .i64 b], .int .i64 lo, .int .i64 hi] w fun e w' => e = .returned (.bool (spOk lo hi (a, b))) ∧ Below w.heap.size w w' := by
 by_cases h1 : a ≤ b
 all_goals by_cases h2 : lo ≤ a
 all_goals by_cases h3 : b ≤ hi
 all_goals
  go_enter Tryd.func67, Tryd.ntmps67
  go_wp2
  go_ret
  exact ⟨by simp [spOk, h1, h2, h3], (by repeat (first | exact Below.refl _ _ | assumption | refine Below.drew ?_ | refine Below.drewN' ?_ _ | (refine Below.alloc ?_ (by simp <;> omega) _) | (refine Below.setCell ?_ (by simp <;> omega) _)))⟩
theorem rdown_any (a b : Int) (w : World) (hb : 0 < b) (hb2 : b ≤ 9223372036854775807) (ha : -9223372036854775807 ≤ a ∧ a ≤ 9223372036854775807) :
 Calls Tryd.prog 116 #[.int .i64 a, .int .i64 b] w fun e w' => e = .returned (.int .i64 (a / b)) ∧ w = w' := by
 obtain ⟨k1, k2, -, -⟩ := go_quo (a := a) hb
 have l1 := Int.tmod_lt_of_pos a hb
 have l2 := Int.lt_tmod_of_pos a hb
 have e := Int.mul_tdiv_add_tmod a b
 have q := quo_abs (b := b) (M := 9223372036854775807) (a := a) (by omega)
 have hb0 : ¬ b = 0 := by omega
 have hb1 : ¬ b = -1 := by omega
 rw [Int.mul_comm] at e
 have hw : -9223372036854775807 ≤ a.tdiv b * b ∧ a.tdiv b * b ≤ 9223372036854775807 := by
  by_cases h0 : 0 ≤ a
  · have := Int.tmod_nonneg b h0
    have := Int.mul_nonneg (Int.tdiv_nonneg h0 (show 0 ≤ b by omega)) (show 0 ≤ b by omega)
    omega
  · have h1 : a.tmod b ≤ 0 := by
     have h2 := Int.tmod_nonneg b (show 0 ≤ -a by omega)
     rw [Int.neg_tmod] at h2
     omega
    have h2 : 0 ≤ -(a.tdiv b * b) := by
     have := Int.mul_nonneg (Int.tdiv_nonneg (show 0 ≤ -a by omega) (show 0 ≤ b by omega)) (show 0 ≤ b by omega)
     rwa [Int.neg_tdiv, Int.neg_mul] at this
    omega
 by_cases h : a.tmod b < 0
 · have k := k1 h
   have h2 : a < a.tdiv b * b := by omega
   have q2 : -9223372036854775808 ≤ a.tdiv b - 1 := by omega
   rw [k]
   clear k1 k2 k e h
   have e1 : IntKind.i64.wrap (a.tdiv b * b) = a.tdiv b * b := IntWalk.i64_in _ (by omega)
   go_enter Tryd.func116, Tryd.ntmps116
   go_wp2
   go_ret
   exact ⟨rfl, rfl⟩
 · have k := k2 h
   have h2 : a.tdiv b * b ≤ a := by omega
   rw [k]
   clear k1 k2 k e h
   have e1 : IntKind.i64.wrap (a.tdiv b * b) = a.tdiv b * b := IntWalk.i64_in _ (by omega)
   go_enter Tryd.func116, Tryd.ntmps116
   go_wp2
   go_ret
   exact ⟨rfl, rfl⟩
theorem rup_any (a b : Int) (w : World) (hb : 0 < b) (hb2 : b ≤ 9223372036854775807) (ha : -9223372036854775807 ≤ a ∧ a ≤ 9223372036854775807) :
 Calls Tryd.prog 117 #[.int .i64 a, .int .i64 b] w fun e w' => e = .returned (.int .i64 (upQ a b)) ∧ w = w' := by
 have q := dn_rng (a := -a) hb
 have h1 : -9223372036854775807 ≤ -a / b ∧ -a / b ≤ 9223372036854775807 := by
  have e : -a / b = (-a).tdiv b ∨ -a / b = (-a).tdiv b - 1 := by
   obtain ⟨k1, k2, -, -⟩ := go_quo (a := -a) hb
   by_cases h : (-a).tmod b < 0
   · exact Or.inr (k1 h)
   · exact Or.inl (k2 h)
  have q2 := quo_abs (b := b) (M := 9223372036854775807) (a := -a) (by omega)
  refine ⟨?_, by omega⟩
  rcases Int.lt_or_le (-a / b) (-9223372036854775807) with g | g
  · have := Int.mul_le_mul_of_nonneg_right (show -a / b + 1 ≤ -9223372036854775807 by omega) (show 0 ≤ b by omega)
    rw [Int.add_mul] at this
    omega
  · exact g
 go_enter Tryd.func117, Tryd.ntmps117
 go_wp2_with fail
 refine (rdown_any _ _ _ hb hb2 (by omega)).mono ?_
 rintro e w1 ⟨rfl, rfl⟩
 generalize hz : -a / b = z at *
 go_wp2
 go_ret
 exact ⟨ret_int (by unfold upQ; rw [hz]), rfl⟩
theorem rleast_any (a b : Int) (w : World) (hb : -9000000000000000000 ≤ b ∧ b ≤ 9000000000000000000) :
 Calls Tryd.prog 99 #[.agg #[.int .i64 a, .int .i64 b]] w fun e w' => e = .returned (.int .i64 (nearZ (a, b))) ∧ Below w.heap.size w w' := by
 go_enter Tryd.func99, Tryd.ntmps99
 go_wp2
 all_goals
  go_ret
  exact ⟨ret_int (by unfold nearZ; simp; omega), (by repeat (first | exact Below.refl _ _ | assumption | refine Below.drew ?_ | refine Below.drewN' ?_ _ | (refine Below.alloc ?_ (by simp <;> omega) _) | (refine Below.setCell ?_ (by simp <;> omega) _)))⟩
theorem rgreatest_any (a b : Int) (w : World) (ha : -9000000000000000000 ≤ a ∧ a ≤ 9000000000000000000) :
 Calls Tryd.prog 100 #[.agg #[.int .i64 a, .int .i64 b]] w fun e w' => e = .returned (.int .i64 (farZ (a, b))) ∧ Below w.heap.size w w' := by
 go_enter Tryd.func100, Tryd.ntmps100
 go_wp2
 all_goals
  go_ret
  exact ⟨ret_int (by unfold farZ; simp; omega), (by repeat (first | exact Below.refl _ _ | assumption | refine Below.drew ?_ | refine Below.drewN' ?_ _ | (refine Below.alloc ?_ (by simp <;> omega) _) | (refine Below.setCell ?_ (by simp <;> omega) _)))⟩
theorem rminus_any (a b : Int) (w : World) (h1 : -9000000000000000000 ≤ a ∧ a ≤ 9000000000000000000) (h2 : -9000000000000000000 ≤ b ∧ b ≤ 9000000000000000000) :
 Calls Tryd.prog 103 #[.agg #[.int .i64 a, .int .i64 b]] w fun e w' => e = .returned (.agg #[.int .i64 (-b), .int .i64 (-a)]) ∧ Below w.heap.size w w' := by
 go_enter Tryd.func103, Tryd.ntmps103
 go_wp2
 refine bodyPost_ret (v := .agg #[.int .i64 (-b), .int .i64 (-a)]) (by simp [results, Tryd.results103, go_sem]) rfl ⟨rfl, ?_⟩
 exact (by repeat (first | exact Below.refl _ _ | assumption | refine Below.drew ?_ | refine Below.drewN' ?_ _ | (refine Below.alloc ?_ (by simp <;> omega) _) | (refine Below.setCell ?_ (by simp <;> omega) _)))
end Go.Proofs.YtdhcdgfpkjdihaaDoor.Sg

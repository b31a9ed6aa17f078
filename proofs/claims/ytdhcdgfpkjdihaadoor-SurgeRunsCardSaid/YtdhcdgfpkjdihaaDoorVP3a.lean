/-
  Layer 3, the program: its smallest functions.
-/
import Derived.Test.YtdhcdgfpkjdihaaDoorRows
import Derived.Test.YtdhcdgfpkjdihaaDoorVA3c
import Derived.Test.YtdhcdgfpkjdihaaDoorVA3d
import Derived.Test.YtdhcdgfpkjdihaaDoorVBa
set_option linter.unusedSimpArgs false
set_option linter.unusedVariables false
namespace Go.Proofs.YtdhcdgfpkjdihaaDoor.Sg
open Go.RowKit
theorem within_any (n a b : Int) (w : World) :
 Calls Tryd.prog 69 #[.int .i64 n, .int .i64 a, .int .i64 b] w fun e w' => e = .returned (.bool (decide (a ≤ n ∧ n ≤ b))) ∧ w = w' := by
 by_cases h1 : a ≤ n
 all_goals by_cases h2 : n ≤ b
 all_goals
  go_enter Tryd.func69, Tryd.ntmps69
  go_wp2
  go_ret
  exact ⟨by simp [h1, h2], rfl⟩
theorem isSpan_any3 (a b lo hi : Int) (w : World) :
 Calls Tryd.prog 66 #[.agg #[.int .i64 a, .int .i64 b], .int .i64 lo, .int .i64 hi] w fun e w' => e = .returned (.bool (spOk lo hi (a, b))) ∧ Below w.heap.size w w' := by
 by_cases h1 : a ≤ b
 all_goals by_cases h2 : lo ≤ a
 all_goals by_cases h3 : b ≤ hi
 all_goals
  go_enter Tryd.func66, Tryd.ntmps66
  go_wp2
  go_ret
  exact ⟨by simp [spOk, h1, h2, h3], (by repeat (first | exact Below.refl _ _ | assumption | refine Below.drew ?_ | refine Below.drewN' ?_ _ | (refine Below.alloc ?_ (by simp <;> omega) _) | (refine Below.setCell ?_ (by simp <;> omega) _)))⟩
theorem isSpeed_any (a b : Int) (w : World) :
 Calls Tryd.prog 68 #[.agg #[.int .i64 a, .int .i64 b]] w fun e w' => e = .returned (.bool (spOk 0 10000 (a, b))) ∧ Below w.heap.size w w' := by
 go_enter Tryd.func68, Tryd.ntmps68
 go_wp2_with (go_at_call 66; refine (isSpan_any3 _ _ _ _ _).mono ?_; rintro e w' ⟨rfl, hb⟩)
 go_ret
 exact ⟨rfl, ((Below.refl _ w).alloc (Nat.le_refl _) _).trans (hb.mono (by simp))⟩
theorem isDir_any (d : Int) (w : World) :
 Calls Tryd.prog 57 #[.int .i64 d] w fun e w' => e = .returned (.bool (decide (0 ≤ d ∧ d ≤ 7))) ∧ w = w' := by
 go_enter Tryd.func57, Tryd.ntmps57
 go_wp2_with (go_at_call 69; refine (within_any _ _ _ _).mono ?_; rintro e w' ⟨rfl, rfl⟩)
 go_ret
 exact ⟨by simp, rfl⟩
theorem opp_any (d : Nat) (hd : d < 8) (w : World) :
 Calls Tryd.prog 111 #[.int .i64 d] w fun e w' => e = .returned (.int .i64 (oppZ d : Nat)) ∧ w = w' := by
 have e : ((d : Int) + 4).tmod 8 = ((oppZ d : Nat) : Int) := by rw [Int.tmod_eq_emod_of_nonneg (by omega)]; unfold oppZ; omega
 go_enter Tryd.func111, Tryd.ntmps111
 go_wp2
 go_ret
 exact ⟨by first | rfl | rw [e], rfl⟩
theorem exactly_any (a : Int) (w : World) :
 Calls Tryd.prog 91 #[.int .i64 a] w fun e w' => e = .returned (.agg #[.int .i64 a, .int .i64 a]) ∧ Below w.heap.size w w' := by
 go_enter Tryd.func91, Tryd.ntmps91
 go_wp2
 refine bodyPost_ret (v := .agg #[.int .i64 a, .int .i64 a]) (by simp [results, Tryd.results91, go_sem]) rfl ⟨rfl, ?_⟩
 exact (by repeat (first | exact Below.refl _ _ | assumption | refine Below.drew ?_ | refine Below.drewN' ?_ _ | (refine Below.alloc ?_ (by simp <;> omega) _) | (refine Below.setCell ?_ (by simp <;> omega) _)))
theorem across_any (d : Nat) (hd : d < 8) (w : World) :
 Calls Tryd.prog 132 #[.int .i64 d] w fun e w' => e = .returned (.agg #[.int .i64 (nLo d), .int .i64 (nHi d)]) ∧ Below w.heap.size w w' := by
 have e : (d : Int).tmod 2 = ((d % 2 : Nat) : Int) := by rw [Int.tmod_eq_emod_of_nonneg (by omega)]; omega
 by_cases h : d % 2 = 0
 · have h1 : nLo d = 100 := by unfold nLo; rw [if_pos h]
   have h2 : nHi d = 100 := by unfold nHi; rw [if_pos h]
   rw [h1, h2]
   rw [h] at e
   clear h1 h2 h
   go_enter Tryd.func132, Tryd.ntmps132
   go_wp2_with fail
   refine (exactly_any _ _).mono ?_
   rintro e V1 ⟨rfl, hb⟩
   have k := (Blk.new' w 108 #[.int .i64 0, .int .i64 0] rfl).below hb (by simp)
   obtain ⟨c0, c1, f0, f1⟩ := span_parts k
   have hz := ((Below.refl _ w).alloc (Nat.le_refl _) _).trans (hb.mono (by simp))
   clear hb
   go_wp2
   have hR := fun x y => span_res2 k x y
   refine bodyPost_ret (v := .agg #[.int .i64 100, .int .i64 100]) (by simp [results, Tryd.results132, go_sem, hR]) rfl ⟨rfl, ?_⟩
   exact (hz.setCell (Nat.le_refl _) _).setCell (Nat.le_refl _) _
 · have h1 : nLo d = 141 := by unfold nLo; rw [if_neg h]
   have h2 : nHi d = 142 := by unfold nHi; rw [if_neg h]
   have h3 : d % 2 = 1 := by omega
   rw [h1, h2]
   rw [h3] at e
   clear h1 h2 h h3
   go_enter Tryd.func132, Tryd.ntmps132
   go_wp2
   refine bodyPost_ret (v := .agg #[.int .i64 141, .int .i64 142]) (by simp [results, Tryd.results132, go_sem]) rfl ⟨rfl, ?_⟩
   exact (by repeat (first | exact Below.refl _ _ | assumption | refine Below.drew ?_ | refine Below.drewN' ?_ _ | (refine Below.alloc ?_ (by simp <;> omega) _) | (refine Below.setCell ?_ (by simp <;> omega) _)))
theorem plus_any (a b c d : Int) (w : World) (h1 : -9000000000000000000 ≤ a + c ∧ a + c ≤ 9000000000000000000) (h2 : -9000000000000000000 ≤ b + d ∧ b + d ≤ 9000000000000000000) :
 Calls Tryd.prog 114 #[.agg #[.int .i64 a, .int .i64 b], .agg #[.int .i64 c, .int .i64 d]] w fun e w' => e = .returned (.agg #[.int .i64 (a + c), .int .i64 (b + d)]) ∧ Below w.heap.size w w' := by
 go_enter Tryd.func114, Tryd.ntmps114
 go_wp2
 refine bodyPost_ret (v := .agg #[.int .i64 (a + c), .int .i64 (b + d)]) (by simp [results, Tryd.results114, go_sem]) rfl ⟨rfl, ?_⟩
 exact (by repeat (first | exact Below.refl _ _ | assumption | refine Below.drew ?_ | refine Below.drewN' ?_ _ | (refine Below.alloc ?_ (by simp <;> omega) _) | (refine Below.setCell ?_ (by simp <;> omega) _)))
theorem minus_any (a b c d : Int) (w : World) (h1 : -9000000000000000000 ≤ a - d ∧ a - d ≤ 9000000000000000000) (h2 : -9000000000000000000 ≤ b - c ∧ b - c ≤ 9000000000000000000) :
 Calls Tryd.prog 92 #[.agg #[.int .i64 a, .int .i64 b], .agg #[.int .i64 c, .int .i64 d]] w fun e w' => e = .returned (.agg #[.int .i64 (a - d), .int .i64 (b - c)]) ∧ Below w.heap.size w w' := by
 go_enter Tryd.func92, Tryd.ntmps92
 go_wp2
 refine bodyPost_ret (v := .agg #[.int .i64 (a - d), .int .i64 (b - c)]) (by simp [results, Tryd.results92, go_sem]) rfl ⟨rfl, ?_⟩
 exact (by repeat (first | exact Below.refl _ _ | assumption | refine Below.drew ?_ | refine Below.drewN' ?_ _ | (refine Below.alloc ?_ (by simp <;> omega) _) | (refine Below.setCell ?_ (by simp <;> omega) _)))
theorem has_any (a b n : Int) (w : World) :
 Calls Tryd.prog 126 #[.agg #[.int .i64 a, .int .i64 b], .int .i64 n] w fun e w' => e = .returned (.bool (decide (a ≤ n ∧ n ≤ b))) ∧ Below w.heap.size w w' := by
 by_cases h1 : a ≤ n
 all_goals by_cases h2 : n ≤ b
 all_goals
  go_enter Tryd.func126, Tryd.ntmps126
  go_wp2
  go_ret
  exact ⟨by simp [h1, h2], (by repeat (first | exact Below.refl _ _ | assumption | refine Below.drew ?_ | refine Below.drewN' ?_ _ | (refine Below.alloc ?_ (by simp <;> omega) _) | (refine Below.setCell ?_ (by simp <;> omega) _)))⟩
theorem nearest_any (a b : Int) (w : World) (hb : -9000000000000000000 ≤ b ∧ b ≤ 9000000000000000000) :
 Calls Tryd.prog 122 #[.agg #[.int .i64 a, .int .i64 b]] w fun e w' => e = .returned (.int .i64 (nearZ (a, b))) ∧ Below w.heap.size w w' := by
 go_enter Tryd.func122, Tryd.ntmps122
 go_wp2
 all_goals
  go_ret
  exact ⟨ret_int (by unfold nearZ; simp; omega), (by repeat (first | exact Below.refl _ _ | assumption | refine Below.drew ?_ | refine Below.drewN' ?_ _ | (refine Below.alloc ?_ (by simp <;> omega) _) | (refine Below.setCell ?_ (by simp <;> omega) _)))⟩
theorem farthest_any (a b : Int) (w : World) (ha : -9000000000000000000 ≤ a ∧ a ≤ 9000000000000000000) :
 Calls Tryd.prog 124 #[.agg #[.int .i64 a, .int .i64 b]] w fun e w' => e = .returned (.int .i64 (farZ (a, b))) ∧ Below w.heap.size w w' := by
 go_enter Tryd.func124, Tryd.ntmps124
 go_wp2
 all_goals
  go_ret
  exact ⟨ret_int (by unfold farZ; simp; omega), (by repeat (first | exact Below.refl _ _ | assumption | refine Below.drew ?_ | refine Below.drewN' ?_ _ | (refine Below.alloc ?_ (by simp <;> omega) _) | (refine Below.setCell ?_ (by simp <;> omega) _)))⟩
theorem down_any (a b : Int) (w : World) (hb : 0 < b) (hb2 : b ≤ 9223372036854775807) (ha : -9223372036854775808 ≤ a ∧ a ≤ 9223372036854775807) :
 Calls Tryd.prog 80 #[.int .i64 a, .int .i64 b] w fun e w' => e = .returned (.int .i64 (a / b)) ∧ w = w' := by
 obtain ⟨k1, k2, -, -⟩ := go_quo (a := a) hb
 have l1 := Int.tmod_lt_of_pos a hb
 have l2 := Int.lt_tmod_of_pos a hb
 have e := Int.mul_tdiv_add_tmod a b
 have q := quo_abs (b := b) (M := 9223372036854775808) (a := a) (by omega)
 have hb0 : ¬ b = 0 := by omega
 have hb1 : ¬ b = -1 := by omega
 by_cases h : a.tmod b < 0
 · have k := k1 h
   have qq : -9223372036854775808 < a.tdiv b := by
    rcases Int.lt_or_le (-9223372036854775808) (a.tdiv b) with g | g
    · exact g
    · have e2 : a.tdiv b = -9223372036854775808 := by omega
      rw [e2] at e
      have : b = 1 ∨ 2 ≤ b := by omega
      rcases this with rfl | h2
      · simp at h
      · omega
   have k3 : a / b = a.tdiv b - 1 := k
   rw [k3]
   clear k1 k2 k k3 e
   go_enter Tryd.func80, Tryd.ntmps80
   go_wp2
   go_ret
   exact ⟨rfl, rfl⟩
 · have k := k2 h
   rw [k]
   clear k1 k2 k e
   have h' : 0 ≤ a.tmod b := by omega
   go_enter Tryd.func80, Tryd.ntmps80
   go_wp2
   go_ret
   exact ⟨rfl, rfl⟩
theorem up_any (a b : Int) (w : World) (hb : 0 < b) (hb2 : b ≤ 9223372036854775807) (ha : -9223372036854775808 ≤ a ∧ a ≤ 9223372036854775807) :
 Calls Tryd.prog 81 #[.int .i64 a, .int .i64 b] w fun e w' => e = .returned (.int .i64 (upQ a b)) ∧ w = w' := by
 obtain ⟨-, -, k1, k2⟩ := go_quo (a := a) hb
 have l1 := Int.tmod_lt_of_pos a hb
 have l2 := Int.lt_tmod_of_pos a hb
 have e := Int.mul_tdiv_add_tmod a b
 have q := quo_abs (b := b) (M := 9223372036854775808) (a := a) (by omega)
 have hb0 : ¬ b = 0 := by omega
 have hb1 : ¬ b = -1 := by omega
 by_cases h : 0 < a.tmod b
 · have k := k1 h
   have qq : a.tdiv b < 9223372036854775807 := by
    rcases Int.lt_or_le (a.tdiv b) 9223372036854775807 with g | g
    · exact g
    · have : b = 1 ∨ 2 ≤ b := by omega
      rcases this with rfl | h2
      · simp at h
      · have := Int.mul_le_mul h2 g (by omega) (by omega)
        omega
   rw [k]
   clear k1 k2 k e
   go_enter Tryd.func81, Tryd.ntmps81
   go_wp2
   go_ret
   exact ⟨rfl, rfl⟩
 · have k := k2 h
   rw [k]
   clear k1 k2 k e
   have h' : a.tmod b ≤ 0 := by omega
   go_enter Tryd.func81, Tryd.ntmps81
   go_wp2
   go_ret
   exact ⟨rfl, rfl⟩
end Go.Proofs.YtdhcdgfpkjdihaaDoor.Sg

/-
  The specification: distances.
-/
import Derived.Test.YtoaehigmpbhppaaQD
set_option linter.unusedSimpArgs false
set_option linter.unusedVariables false
namespace Go.Proofs.Ytoaehigmpbhppaa.En
open Go Go.Ev Go.Proofs Go.RowKit

def Hid (p : Prop) : Prop := p
theorem absmax {a b : Int} : max (a - b) (b - a) = max (a - b) (-(a - b)) := by omega
theorem mul_iv {a b A B C : Int} (h1 : -A ≤ a) (h2 : a ≤ A) (h3 : -B ≤ b) (h4 : b ≤ B) (hC : A * B = C := by rfl) : -C ≤ a * b ∧ a * b ≤ C := by
  have n : a.natAbs * b.natAbs ≤ A.natAbs * B.natAbs := Nat.mul_le_mul (by omega) (by omega)
  have e : ((a * b).natAbs : Int) = a.natAbs * b.natAbs := by rw [Int.natAbs_mul]; simp
  have e2 : ((A.natAbs * B.natAbs : Nat) : Int) = A * B := by
    rw [Int.natCast_mul, Int.natAbs_of_nonneg (by omega), Int.natAbs_of_nonneg (by omega)]
  have : ((a * b).natAbs : Int) ≤ C := by rw [e, ← hC, ← e2]; exact_mod_cast n
  omega
theorem div_iv {a b A B C : Int} (h1 : 0 ≤ a) (h2 : a ≤ A) (h3 : B ≤ b) (hB : 0 < B := by decide) (hC : A / B = C := by rfl) : 0 ≤ a / b ∧ a / b ≤ C := by
  refine ⟨Int.ediv_nonneg h1 (by omega), ?_⟩
  rw [← hC]
  refine Int.le_trans (Int.ediv_le_ediv (by omega) h2) ?_
  have hA : 0 ≤ A := by omega
  have q := Int.ediv_mul_le A (b := b) (by omega)
  refine (Int.le_ediv_iff_mul_le hB).2 ?_
  have h5 : 0 ≤ A / b := Int.ediv_nonneg hA (by omega)
  have h6 : A / b * B ≤ A / b * b := Int.mul_le_mul_of_nonneg_left h3 h5
  omega
theorem mod_iv {a b B : Int} (h1 : 1 ≤ b) (h2 : b ≤ B) : 0 ≤ a % b ∧ a % b ≤ B - 1 := by
  have := Int.emod_nonneg a (by omega : b ≠ 0)
  have := Int.emod_lt_of_pos a (by omega : 0 < b)
  omega
noncomputable def rdist_e0 : List Ent := [⟨(.bin .rem 3), [(sy 8), (sy 0)], (sy 10)⟩, ⟨(.bin .rem 3), [(sy 9), (sy 0)], (sy 11)⟩, ⟨(.bin .sub 3), [(sy 10), (sy 11)], (sy 12)⟩, ⟨(.bin .quo 3), [(sy 8), (sy 0)], (sy 13)⟩, ⟨(.bin .quo 3), [(sy 9), (sy 0)], (sy 14)⟩, ⟨(.bin .sub 3), [(sy 13), (sy 14)], (sy 15)⟩, ⟨(.un .neg), [(sy 12)], (sy 16)⟩, ⟨(.bi 2 [3, 3]), [(sy 12), (sy 16)], (sy 17)⟩, ⟨(.un .neg), [(sy 15)], (sy 18)⟩, ⟨(.bi 2 [3, 3]), [(sy 15), (sy 18)], (sy 19)⟩, ⟨(.bin .sub 3), [(sy 17), (.int .i64 1)], (sy 20)⟩, ⟨(.bi 2 [3, 3]), [(.int .i64 0), (sy 20)], (sy 21)⟩, ⟨(.bin .mul 3), [(sy 21), (sy 2)], (sy 22)⟩, ⟨(.bin .sub 3), [(sy 19), (.int .i64 1)], (sy 23)⟩, ⟨(.bi 2 [3, 3]), [(.int .i64 0), (sy 23)], (sy 24)⟩, ⟨(.bin .mul 3), [(sy 24), (sy 2)], (sy 25)⟩, ⟨(.bin .add 3), [(sy 17), (.int .i64 1)], (sy 26)⟩, ⟨(.bin .mul 3), [(sy 26), (sy 2)], (sy 27)⟩, ⟨(.bin .add 3), [(sy 19), (.int .i64 1)], (sy 28)⟩, ⟨(.bin .mul 3), [(sy 28), (sy 2)], (sy 29)⟩, ⟨(.bin .mul 3), [(sy 27), (sy 27)], (sy 30)⟩, ⟨(.bin .mul 3), [(sy 29), (sy 29)], (sy 31)⟩, ⟨(.bin .add 3), [(sy 30), (sy 31)], (sy 32)⟩, ⟨(.bin .mul 3), [(sy 6), (sy 6)], (sy 33)⟩, ⟨(.bin .add 3), [(sy 32), (sy 33)], (sy 34)⟩, ⟨(.bin .mul 3), [(sy 35), (sy 35)], (sy 36)⟩, ⟨(.bin .lss 3), [(sy 36), (sy 34)], (.bool true)⟩, ⟨(.bin .add 3), [(sy 35), (.int .i64 1)], (sy 37)⟩, ⟨(.bin .mul 3), [(sy 22), (sy 22)], (sy 38)⟩, ⟨(.bin .mul 3), [(sy 25), (sy 25)], (sy 39)⟩, ⟨(.bin .add 3), [(sy 38), (sy 39)], (sy 40)⟩, ⟨(.bin .mul 3), [(sy 5), (sy 5)], (sy 41)⟩, ⟨(.bin .add 3), [(sy 40), (sy 41)], (sy 42)⟩]
noncomputable def rdist_c0 : List CEnt := [⟨98, [(sy 34)], [], (sy 35)⟩, ⟨98, [(sy 42)], [], (sy 43)⟩]
set_option maxRecDepth 1000000 in
theorem rdist_r0 : ev Try.prog (env.sym rdist_e0 rdist_c0) 3000 (.call 83 [(.agg #[(sy 0), (sy 1), (sy 2), (sy 3), (sy 4), (sy 5), (sy 6), (sy 7)]), (sy 8), (sy 9)] Ev.start fun v _ => some v) = some (.agg #[(sy 43), (sy 37)]) := by kernel_rfl
noncomputable def rdist_e1 : List Ent := [⟨(.bin .rem 3), [(sy 8), (sy 0)], (sy 10)⟩, ⟨(.bin .rem 3), [(sy 9), (sy 0)], (sy 11)⟩, ⟨(.bin .sub 3), [(sy 10), (sy 11)], (sy 12)⟩, ⟨(.bin .quo 3), [(sy 8), (sy 0)], (sy 13)⟩, ⟨(.bin .quo 3), [(sy 9), (sy 0)], (sy 14)⟩, ⟨(.bin .sub 3), [(sy 13), (sy 14)], (sy 15)⟩, ⟨(.un .neg), [(sy 12)], (sy 16)⟩, ⟨(.bi 2 [3, 3]), [(sy 12), (sy 16)], (sy 17)⟩, ⟨(.un .neg), [(sy 15)], (sy 18)⟩, ⟨(.bi 2 [3, 3]), [(sy 15), (sy 18)], (sy 19)⟩, ⟨(.bin .sub 3), [(sy 17), (.int .i64 1)], (sy 20)⟩, ⟨(.bi 2 [3, 3]), [(.int .i64 0), (sy 20)], (sy 21)⟩, ⟨(.bin .mul 3), [(sy 21), (sy 2)], (sy 22)⟩, ⟨(.bin .sub 3), [(sy 19), (.int .i64 1)], (sy 23)⟩, ⟨(.bi 2 [3, 3]), [(.int .i64 0), (sy 23)], (sy 24)⟩, ⟨(.bin .mul 3), [(sy 24), (sy 2)], (sy 25)⟩, ⟨(.bin .add 3), [(sy 17), (.int .i64 1)], (sy 26)⟩, ⟨(.bin .mul 3), [(sy 26), (sy 2)], (sy 27)⟩, ⟨(.bin .add 3), [(sy 19), (.int .i64 1)], (sy 28)⟩, ⟨(.bin .mul 3), [(sy 28), (sy 2)], (sy 29)⟩, ⟨(.bin .mul 3), [(sy 27), (sy 27)], (sy 30)⟩, ⟨(.bin .mul 3), [(sy 29), (sy 29)], (sy 31)⟩, ⟨(.bin .add 3), [(sy 30), (sy 31)], (sy 32)⟩, ⟨(.bin .mul 3), [(sy 6), (sy 6)], (sy 33)⟩, ⟨(.bin .add 3), [(sy 32), (sy 33)], (sy 34)⟩, ⟨(.bin .mul 3), [(sy 35), (sy 35)], (sy 36)⟩, ⟨(.bin .lss 3), [(sy 36), (sy 34)], (.bool false)⟩, ⟨(.bin .mul 3), [(sy 22), (sy 22)], (sy 37)⟩, ⟨(.bin .mul 3), [(sy 25), (sy 25)], (sy 38)⟩, ⟨(.bin .add 3), [(sy 37), (sy 38)], (sy 39)⟩, ⟨(.bin .mul 3), [(sy 5), (sy 5)], (sy 40)⟩, ⟨(.bin .add 3), [(sy 39), (sy 40)], (sy 41)⟩]
noncomputable def rdist_c1 : List CEnt := [⟨98, [(sy 34)], [], (sy 35)⟩, ⟨98, [(sy 41)], [], (sy 42)⟩]
set_option maxRecDepth 1000000 in
theorem rdist_r1 : ev Try.prog (env.sym rdist_e1 rdist_c1) 3000 (.call 83 [(.agg #[(sy 0), (sy 1), (sy 2), (sy 3), (sy 4), (sy 5), (sy 6), (sy 7)]), (sy 8), (sy 9)] Ev.start fun v _ => some v) = some (.agg #[(sy 42), (sy 35)]) := by kernel_rfl
set_option maxHeartbeats 8000000 in
set_option maxRecDepth 100000 in
theorem rdist_any (x0 : Int) (x1 : Int) (x2 : Int) (x3 : Int) (x4 : Int) (x5 : Int) (x6 : Int) (x7 : Int) (x8 : Int) (x9 : Int) (v0 : 1 ≤ x0 ∧ x0 ≤ 24) (v1 : 1 ≤ x1 ∧ x1 ≤ 24) (v2 : 1 ≤ x2 ∧ x2 ≤ 10000) (v3 : 100 ≤ x3 ∧ x3 ≤ x4 ∧ x4 ≤ 20000) (v5 : 0 ≤ x5 ∧ x5 ≤ x6 ∧ x6 ≤ 700000) (v7 : 0 ≤ x7 ∧ x7 ≤ 1000) (h8 : 0 ≤ x8 ∧ x8 < x0 * x1) (h9 : 0 ≤ x9 ∧ x9 < x0 * x1) (w : World)  : Calls Try.prog 83 #[(.agg #[(.int .i64 (x0)), (.int .i64 (x1)), (.int .i64 (x2)), (.int .i64 (x3)), (.int .i64 (x4)), (.int .i64 (x5)), (.int .i64 (x6)), (.int .i64 (x7))]), (.int .i64 (x8)), (.int .i64 (x9))] w (fun en w' => en = .returned (.agg #[(.int .i64 (dist0 x0 x1 x2 x3 x4 x5 x6 x7 x8 x9)), (.int .i64 (dist1 x0 x1 x2 x3 x4 x5 x6 x7 x8 x9))]) ∧ Below w.heap.size w w') := by
  have hx : x0 * x1 ≤ 576 := (mul_bd (A := 24) (B := 24) (C := 576) (by omega) (by omega) (by omega) (by omega)).2
  obtain ⟨y10, hy10⟩ : ∃ y : Int, y = (x8 % x0) := ⟨_, rfl⟩
  have b10 : 0 ≤ y10 ∧ y10 ≤ 23 := by rw [hy10]; exact mod_iv (B := 24) (by omega) (by omega)
  replace hy10 : Hid (y10 = (x8 % x0)) := hy10
  obtain ⟨y11, hy11⟩ : ∃ y : Int, y = (x9 % x0) := ⟨_, rfl⟩
  have b11 : 0 ≤ y11 ∧ y11 ≤ 23 := by rw [hy11]; exact mod_iv (B := 24) (by omega) (by omega)
  replace hy11 : Hid (y11 = (x9 % x0)) := hy11
  obtain ⟨y12, hy12⟩ : ∃ y : Int, y = (y10 - y11) := ⟨_, rfl⟩
  have b12 : (-23) ≤ y12 ∧ y12 ≤ 23 := by rw [hy12]; omega
  replace hy12 : Hid (y12 = (y10 - y11)) := hy12
  obtain ⟨y13, hy13⟩ : ∃ y : Int, y = (x8 / x0) := ⟨_, rfl⟩
  have b13 : 0 ≤ y13 ∧ y13 ≤ 23 := by rw [hy13]; have := row_bd (a := x8) (x := x0) (y := x1) (by omega) (by omega) (by omega) (by omega); omega
  replace hy13 : Hid (y13 = (x8 / x0)) := hy13
  obtain ⟨y14, hy14⟩ : ∃ y : Int, y = (x9 / x0) := ⟨_, rfl⟩
  have b14 : 0 ≤ y14 ∧ y14 ≤ 23 := by rw [hy14]; have := row_bd (a := x9) (x := x0) (y := x1) (by omega) (by omega) (by omega) (by omega); omega
  replace hy14 : Hid (y14 = (x9 / x0)) := hy14
  obtain ⟨y15, hy15⟩ : ∃ y : Int, y = (y13 - y14) := ⟨_, rfl⟩
  have b15 : (-23) ≤ y15 ∧ y15 ≤ 23 := by rw [hy15]; omega
  replace hy15 : Hid (y15 = (y13 - y14)) := hy15
  obtain ⟨y16, hy16⟩ : ∃ y : Int, y = (-y12) := ⟨_, rfl⟩
  have b16 : (-23) ≤ y16 ∧ y16 ≤ 23 := by rw [hy16]; omega
  replace hy16 : Hid (y16 = (-y12)) := hy16
  obtain ⟨y17, hy17⟩ : ∃ y : Int, y = (max y12 y16) := ⟨_, rfl⟩
  have b17 : 0 ≤ y17 ∧ y17 ≤ 23 := by rw [hy17]; have e := hy16; unfold Hid at e; omega
  replace hy17 : Hid (y17 = (max y12 y16)) := hy17
  obtain ⟨y18, hy18⟩ : ∃ y : Int, y = (-y15) := ⟨_, rfl⟩
  have b18 : (-23) ≤ y18 ∧ y18 ≤ 23 := by rw [hy18]; omega
  replace hy18 : Hid (y18 = (-y15)) := hy18
  obtain ⟨y19, hy19⟩ : ∃ y : Int, y = (max y15 y18) := ⟨_, rfl⟩
  have b19 : 0 ≤ y19 ∧ y19 ≤ 23 := by rw [hy19]; have e := hy18; unfold Hid at e; omega
  replace hy19 : Hid (y19 = (max y15 y18)) := hy19
  obtain ⟨y20, hy20⟩ : ∃ y : Int, y = (y17 - 1) := ⟨_, rfl⟩
  have b20 : (-1) ≤ y20 ∧ y20 ≤ 22 := by rw [hy20]; omega
  replace hy20 : Hid (y20 = (y17 - 1)) := hy20
  obtain ⟨y21, hy21⟩ : ∃ y : Int, y = (max 0 y20) := ⟨_, rfl⟩
  have b21 : 0 ≤ y21 ∧ y21 ≤ 22 := by rw [hy21]; omega
  replace hy21 : Hid (y21 = (max 0 y20)) := hy21
  obtain ⟨y22, hy22⟩ : ∃ y : Int, y = (y21 * x2) := ⟨_, rfl⟩
  have b22 : 0 ≤ y22 ∧ y22 ≤ 220000 := by rw [hy22]; exact mul_bd (A := 22) (B := 10000) (C := 220000) (by omega) (by omega) (by omega) (by omega)
  replace hy22 : Hid (y22 = (y21 * x2)) := hy22
  obtain ⟨y23, hy23⟩ : ∃ y : Int, y = (y19 - 1) := ⟨_, rfl⟩
  have b23 : (-1) ≤ y23 ∧ y23 ≤ 22 := by rw [hy23]; omega
  replace hy23 : Hid (y23 = (y19 - 1)) := hy23
  obtain ⟨y24, hy24⟩ : ∃ y : Int, y = (max 0 y23) := ⟨_, rfl⟩
  have b24 : 0 ≤ y24 ∧ y24 ≤ 22 := by rw [hy24]; omega
  replace hy24 : Hid (y24 = (max 0 y23)) := hy24
  obtain ⟨y25, hy25⟩ : ∃ y : Int, y = (y24 * x2) := ⟨_, rfl⟩
  have b25 : 0 ≤ y25 ∧ y25 ≤ 220000 := by rw [hy25]; exact mul_bd (A := 22) (B := 10000) (C := 220000) (by omega) (by omega) (by omega) (by omega)
  replace hy25 : Hid (y25 = (y24 * x2)) := hy25
  obtain ⟨y26, hy26⟩ : ∃ y : Int, y = (y17 + 1) := ⟨_, rfl⟩
  have b26 : 1 ≤ y26 ∧ y26 ≤ 24 := by rw [hy26]; omega
  replace hy26 : Hid (y26 = (y17 + 1)) := hy26
  obtain ⟨y27, hy27⟩ : ∃ y : Int, y = (y26 * x2) := ⟨_, rfl⟩
  have b27 : 0 ≤ y27 ∧ y27 ≤ 240000 := by rw [hy27]; exact mul_bd (A := 24) (B := 10000) (C := 240000) (by omega) (by omega) (by omega) (by omega)
  replace hy27 : Hid (y27 = (y26 * x2)) := hy27
  obtain ⟨y28, hy28⟩ : ∃ y : Int, y = (y19 + 1) := ⟨_, rfl⟩
  have b28 : 1 ≤ y28 ∧ y28 ≤ 24 := by rw [hy28]; omega
  replace hy28 : Hid (y28 = (y19 + 1)) := hy28
  obtain ⟨y29, hy29⟩ : ∃ y : Int, y = (y28 * x2) := ⟨_, rfl⟩
  have b29 : 0 ≤ y29 ∧ y29 ≤ 240000 := by rw [hy29]; exact mul_bd (A := 24) (B := 10000) (C := 240000) (by omega) (by omega) (by omega) (by omega)
  replace hy29 : Hid (y29 = (y28 * x2)) := hy29
  obtain ⟨y30, hy30⟩ : ∃ y : Int, y = (y27 * y27) := ⟨_, rfl⟩
  have b30 : 0 ≤ y30 ∧ y30 ≤ 57600000000 := by rw [hy30]; exact mul_bd (A := 240000) (B := 240000) (C := 57600000000) (by omega) (by omega) (by omega) (by omega)
  replace hy30 : Hid (y30 = (y27 * y27)) := hy30
  obtain ⟨y31, hy31⟩ : ∃ y : Int, y = (y29 * y29) := ⟨_, rfl⟩
  have b31 : 0 ≤ y31 ∧ y31 ≤ 57600000000 := by rw [hy31]; exact mul_bd (A := 240000) (B := 240000) (C := 57600000000) (by omega) (by omega) (by omega) (by omega)
  replace hy31 : Hid (y31 = (y29 * y29)) := hy31
  obtain ⟨y32, hy32⟩ : ∃ y : Int, y = (y30 + y31) := ⟨_, rfl⟩
  have b32 : 0 ≤ y32 ∧ y32 ≤ 115200000000 := by rw [hy32]; omega
  replace hy32 : Hid (y32 = (y30 + y31)) := hy32
  obtain ⟨y33, hy33⟩ : ∃ y : Int, y = (x6 * x6) := ⟨_, rfl⟩
  have b33 : 0 ≤ y33 ∧ y33 ≤ 490000000000 := by rw [hy33]; exact mul_bd (A := 700000) (B := 700000) (C := 490000000000) (by omega) (by omega) (by omega) (by omega)
  replace hy33 : Hid (y33 = (x6 * x6)) := hy33
  obtain ⟨y34, hy34⟩ : ∃ y : Int, y = (y32 + y33) := ⟨_, rfl⟩
  have b34 : 0 ≤ y34 ∧ y34 ≤ 605200000000 := by rw [hy34]; omega
  replace hy34 : Hid (y34 = (y32 + y33)) := hy34
  have b35 : 0 ≤ (rootD y34) ∧ (rootD y34) ≤ 1048575 := by have := rootD_bd (n := y34) (by omega) (by omega); omega
  obtain ⟨y36, hy36⟩ : ∃ y : Int, y = ((rootD y34) * (rootD y34)) := ⟨_, rfl⟩
  have b36 : 0 ≤ y36 ∧ y36 ≤ 1099509530625 := by rw [hy36]; exact mul_bd (A := 1048575) (B := 1048575) (C := 1099509530625) (by omega) (by omega) (by omega) (by omega)
  replace hy36 : Hid (y36 = ((rootD y34) * (rootD y34))) := hy36
  by_cases c0 : y36 < y34
  · obtain ⟨y37, hy37⟩ : ∃ y : Int, y = ((rootD y34) + 1) := ⟨_, rfl⟩
    have b37 : 1 ≤ y37 ∧ y37 ≤ 1048576 := by rw [hy37]; omega
    replace hy37 : Hid (y37 = ((rootD y34) + 1)) := hy37
    obtain ⟨y38, hy38⟩ : ∃ y : Int, y = (y22 * y22) := ⟨_, rfl⟩
    have b38 : 0 ≤ y38 ∧ y38 ≤ 48400000000 := by rw [hy38]; exact mul_bd (A := 220000) (B := 220000) (C := 48400000000) (by omega) (by omega) (by omega) (by omega)
    replace hy38 : Hid (y38 = (y22 * y22)) := hy38
    obtain ⟨y39, hy39⟩ : ∃ y : Int, y = (y25 * y25) := ⟨_, rfl⟩
    have b39 : 0 ≤ y39 ∧ y39 ≤ 48400000000 := by rw [hy39]; exact mul_bd (A := 220000) (B := 220000) (C := 48400000000) (by omega) (by omega) (by omega) (by omega)
    replace hy39 : Hid (y39 = (y25 * y25)) := hy39
    obtain ⟨y40, hy40⟩ : ∃ y : Int, y = (y38 + y39) := ⟨_, rfl⟩
    have b40 : 0 ≤ y40 ∧ y40 ≤ 96800000000 := by rw [hy40]; omega
    replace hy40 : Hid (y40 = (y38 + y39)) := hy40
    obtain ⟨y41, hy41⟩ : ∃ y : Int, y = (x5 * x5) := ⟨_, rfl⟩
    have b41 : 0 ≤ y41 ∧ y41 ≤ 490000000000 := by rw [hy41]; exact mul_bd (A := 700000) (B := 700000) (C := 490000000000) (by omega) (by omega) (by omega) (by omega)
    replace hy41 : Hid (y41 = (x5 * x5)) := hy41
    obtain ⟨y42, hy42⟩ : ∃ y : Int, y = (y40 + y41) := ⟨_, rfl⟩
    have b42 : 0 ≤ y42 ∧ y42 ≤ 586800000000 := by rw [hy42]; omega
    replace hy42 : Hid (y42 = (y40 + y41)) := hy42
    have b43 : 0 ≤ (rootD y42) ∧ (rootD y42) ≤ 1048575 := by have := rootD_bd (n := y42) (by omega) (by omega); omega
    have q := @calls_sym (Rho.of [(.int .i64 (x0)), (.int .i64 (x1)), (.int .i64 (x2)), (.int .i64 (x3)), (.int .i64 (x4)), (.int .i64 (x5)), (.int .i64 (x6)), (.int .i64 (x7)), (.int .i64 (x8)), (.int .i64 (x9)), (.int .i64 (y10)), (.int .i64 (y11)), (.int .i64 (y12)), (.int .i64 (y13)), (.int .i64 (y14)), (.int .i64 (y15)), (.int .i64 (y16)), (.int .i64 (y17)), (.int .i64 (y18)), (.int .i64 (y19)), (.int .i64 (y20)), (.int .i64 (y21)), (.int .i64 (y22)), (.int .i64 (y23)), (.int .i64 (y24)), (.int .i64 (y25)), (.int .i64 (y26)), (.int .i64 (y27)), (.int .i64 (y28)), (.int .i64 (y29)), (.int .i64 (y30)), (.int .i64 (y31)), (.int .i64 (y32)), (.int .i64 (y33)), (.int .i64 (y34)), (.int .i64 ((rootD y34))), (.int .i64 (y36)), (.int .i64 (y37)), (.int .i64 (y38)), (.int .i64 (y39)), (.int .i64 (y40)), (.int .i64 (y41)), (.int .i64 (y42)), (.int .i64 ((rootD y42)))] (fun _ => none)) Try.prog _ (@Env.Ok.sym (Rho.of [(.int .i64 (x0)), (.int .i64 (x1)), (.int .i64 (x2)), (.int .i64 (x3)), (.int .i64 (x4)), (.int .i64 (x5)), (.int .i64 (x6)), (.int .i64 (x7)), (.int .i64 (x8)), (.int .i64 (x9)), (.int .i64 (y10)), (.int .i64 (y11)), (.int .i64 (y12)), (.int .i64 (y13)), (.int .i64 (y14)), (.int .i64 (y15)), (.int .i64 (y16)), (.int .i64 (y17)), (.int .i64 (y18)), (.int .i64 (y19)), (.int .i64 (y20)), (.int .i64 (y21)), (.int .i64 (y22)), (.int .i64 (y23)), (.int .i64 (y24)), (.int .i64 (y25)), (.int .i64 (y26)), (.int .i64 (y27)), (.int .i64 (y28)), (.int .i64 (y29)), (.int .i64 (y30)), (.int .i64 (y31)), (.int .i64 (y32)), (.int .i64 (y33)), (.int .i64 (y34)), (.int .i64 ((rootD y34))), (.int .i64 (y36)), (.int .i64 (y37)), (.int .i64 (y38)), (.int .i64 (y39)), (.int .i64 (y40)), (.int .i64 (y41)), (.int .i64 (y42)), (.int .i64 ((rootD y42)))] (fun _ => none)) _ _ (@env_ok (Rho.of [(.int .i64 (x0)), (.int .i64 (x1)), (.int .i64 (x2)), (.int .i64 (x3)), (.int .i64 (x4)), (.int .i64 (x5)), (.int .i64 (x6)), (.int .i64 (x7)), (.int .i64 (x8)), (.int .i64 (x9)), (.int .i64 (y10)), (.int .i64 (y11)), (.int .i64 (y12)), (.int .i64 (y13)), (.int .i64 (y14)), (.int .i64 (y15)), (.int .i64 (y16)), (.int .i64 (y17)), (.int .i64 (y18)), (.int .i64 (y19)), (.int .i64 (y20)), (.int .i64 (y21)), (.int .i64 (y22)), (.int .i64 (y23)), (.int .i64 (y24)), (.int .i64 (y25)), (.int .i64 (y26)), (.int .i64 (y27)), (.int .i64 (y28)), (.int .i64 (y29)), (.int .i64 (y30)), (.int .i64 (y31)), (.int .i64 (y32)), (.int .i64 (y33)), (.int .i64 (y34)), (.int .i64 ((rootD y34))), (.int .i64 (y36)), (.int .i64 (y37)), (.int .i64 (y38)), (.int .i64 (y39)), (.int .i64 (y40)), (.int .i64 (y41)), (.int .i64 (y42)), (.int .i64 ((rootD y42)))] (fun _ => none))) rdist_e0 rdist_c0 ⟨⟨rfl, rfl, fun w hm => (show KeyOk Try.prog w (.bin .rem 3) [(.int .i64 (x8)), (.int .i64 (x0))] (.int .i64 (y10)) from key_eq (e := (x8 % x0)) hy10 (have ey : y10 = (x8 % x0) := hy10; k_rem_nn (by omega) (by omega)))⟩, ⟨rfl, rfl, fun w hm => (show KeyOk Try.prog w (.bin .rem 3) [(.int .i64 (x9)), (.int .i64 (x0))] (.int .i64 (y11)) from key_eq (e := (x9 % x0)) hy11 (have ey : y11 = (x9 % x0) := hy11; k_rem_nn (by omega) (by omega)))⟩, ⟨rfl, rfl, fun w hm => (show KeyOk Try.prog w (.bin .sub 3) [(.int .i64 (y10)), (.int .i64 (y11))] (.int .i64 (y12)) from key_eq (e := (y10 - y11)) hy12 (have ey : y12 = (y10 - y11) := hy12; k_sub (wrap64 (by omega))))⟩, ⟨rfl, rfl, fun w hm => (show KeyOk Try.prog w (.bin .quo 3) [(.int .i64 (x8)), (.int .i64 (x0))] (.int .i64 (y13)) from key_eq (e := (x8 / x0)) hy13 (have ey : y13 = (x8 / x0) := hy13; k_quo_nn (by omega) (by omega) (wrap64 (by omega))))⟩, ⟨rfl, rfl, fun w hm => (show KeyOk Try.prog w (.bin .quo 3) [(.int .i64 (x9)), (.int .i64 (x0))] (.int .i64 (y14)) from key_eq (e := (x9 / x0)) hy14 (have ey : y14 = (x9 / x0) := hy14; k_quo_nn (by omega) (by omega) (wrap64 (by omega))))⟩, ⟨rfl, rfl, fun w hm => (show KeyOk Try.prog w (.bin .sub 3) [(.int .i64 (y13)), (.int .i64 (y14))] (.int .i64 (y15)) from key_eq (e := (y13 - y14)) hy15 (have ey : y15 = (y13 - y14) := hy15; k_sub (wrap64 (by omega))))⟩, ⟨rfl, rfl, fun w hm => (show KeyOk Try.prog w (.un .neg) [(.int .i64 (y12))] (.int .i64 (y16)) from key_eq (e := (-y12)) hy16 (have ey : y16 = (-y12) := hy16; k_neg (wrap64 (by omega))))⟩, ⟨rfl, rfl, fun w hm => (show KeyOk Try.prog w (.bi 2 [3, 3]) [(.int .i64 (y12)), (.int .i64 (y16))] (.int .i64 (y17)) from key_eq (e := (max y12 y16)) hy17 (have ey : y17 = (max y12 y16) := hy17; k_max))⟩, ⟨rfl, rfl, fun w hm => (show KeyOk Try.prog w (.un .neg) [(.int .i64 (y15))] (.int .i64 (y18)) from key_eq (e := (-y15)) hy18 (have ey : y18 = (-y15) := hy18; k_neg (wrap64 (by omega))))⟩, ⟨rfl, rfl, fun w hm => (show KeyOk Try.prog w (.bi 2 [3, 3]) [(.int .i64 (y15)), (.int .i64 (y18))] (.int .i64 (y19)) from key_eq (e := (max y15 y18)) hy19 (have ey : y19 = (max y15 y18) := hy19; k_max))⟩, ⟨rfl, rfl, fun w hm => (show KeyOk Try.prog w (.bin .sub 3) [(.int .i64 (y17)), (.int .i64 1)] (.int .i64 (y20)) from key_eq (e := (y17 - 1)) hy20 (have ey : y20 = (y17 - 1) := hy20; k_sub (wrap64 (by omega))))⟩, ⟨rfl, rfl, fun w hm => (show KeyOk Try.prog w (.bi 2 [3, 3]) [(.int .i64 0), (.int .i64 (y20))] (.int .i64 (y21)) from key_eq (e := (max 0 y20)) hy21 (have ey : y21 = (max 0 y20) := hy21; k_max))⟩, ⟨rfl, rfl, fun w hm => (show KeyOk Try.prog w (.bin .mul 3) [(.int .i64 (y21)), (.int .i64 (x2))] (.int .i64 (y22)) from key_eq (e := (y21 * x2)) hy22 (have ey : y22 = (y21 * x2) := hy22; k_mul (wrap64 (by omega))))⟩, ⟨rfl, rfl, fun w hm => (show KeyOk Try.prog w (.bin .sub 3) [(.int .i64 (y19)), (.int .i64 1)] (.int .i64 (y23)) from key_eq (e := (y19 - 1)) hy23 (have ey : y23 = (y19 - 1) := hy23; k_sub (wrap64 (by omega))))⟩, ⟨rfl, rfl, fun w hm => (show KeyOk Try.prog w (.bi 2 [3, 3]) [(.int .i64 0), (.int .i64 (y23))] (.int .i64 (y24)) from key_eq (e := (max 0 y23)) hy24 (have ey : y24 = (max 0 y23) := hy24; k_max))⟩, ⟨rfl, rfl, fun w hm => (show KeyOk Try.prog w (.bin .mul 3) [(.int .i64 (y24)), (.int .i64 (x2))] (.int .i64 (y25)) from key_eq (e := (y24 * x2)) hy25 (have ey : y25 = (y24 * x2) := hy25; k_mul (wrap64 (by omega))))⟩, ⟨rfl, rfl, fun w hm => (show KeyOk Try.prog w (.bin .add 3) [(.int .i64 (y17)), (.int .i64 1)] (.int .i64 (y26)) from key_eq (e := (y17 + 1)) hy26 (have ey : y26 = (y17 + 1) := hy26; k_add (wrap64 (by omega))))⟩, ⟨rfl, rfl, fun w hm => (show KeyOk Try.prog w (.bin .mul 3) [(.int .i64 (y26)), (.int .i64 (x2))] (.int .i64 (y27)) from key_eq (e := (y26 * x2)) hy27 (have ey : y27 = (y26 * x2) := hy27; k_mul (wrap64 (by omega))))⟩, ⟨rfl, rfl, fun w hm => (show KeyOk Try.prog w (.bin .add 3) [(.int .i64 (y19)), (.int .i64 1)] (.int .i64 (y28)) from key_eq (e := (y19 + 1)) hy28 (have ey : y28 = (y19 + 1) := hy28; k_add (wrap64 (by omega))))⟩, ⟨rfl, rfl, fun w hm => (show KeyOk Try.prog w (.bin .mul 3) [(.int .i64 (y28)), (.int .i64 (x2))] (.int .i64 (y29)) from key_eq (e := (y28 * x2)) hy29 (have ey : y29 = (y28 * x2) := hy29; k_mul (wrap64 (by omega))))⟩, ⟨rfl, rfl, fun w hm => (show KeyOk Try.prog w (.bin .mul 3) [(.int .i64 (y27)), (.int .i64 (y27))] (.int .i64 (y30)) from key_eq (e := (y27 * y27)) hy30 (have ey : y30 = (y27 * y27) := hy30; k_mul (wrap64 (by omega))))⟩, ⟨rfl, rfl, fun w hm => (show KeyOk Try.prog w (.bin .mul 3) [(.int .i64 (y29)), (.int .i64 (y29))] (.int .i64 (y31)) from key_eq (e := (y29 * y29)) hy31 (have ey : y31 = (y29 * y29) := hy31; k_mul (wrap64 (by omega))))⟩, ⟨rfl, rfl, fun w hm => (show KeyOk Try.prog w (.bin .add 3) [(.int .i64 (y30)), (.int .i64 (y31))] (.int .i64 (y32)) from key_eq (e := (y30 + y31)) hy32 (have ey : y32 = (y30 + y31) := hy32; k_add (wrap64 (by omega))))⟩, ⟨rfl, rfl, fun w hm => (show KeyOk Try.prog w (.bin .mul 3) [(.int .i64 (x6)), (.int .i64 (x6))] (.int .i64 (y33)) from key_eq (e := (x6 * x6)) hy33 (have ey : y33 = (x6 * x6) := hy33; k_mul (wrap64 (by omega))))⟩, ⟨rfl, rfl, fun w hm => (show KeyOk Try.prog w (.bin .add 3) [(.int .i64 (y32)), (.int .i64 (y33))] (.int .i64 (y34)) from key_eq (e := (y32 + y33)) hy34 (have ey : y34 = (y32 + y33) := hy34; k_add (wrap64 (by omega))))⟩, ⟨rfl, rfl, fun w hm => (show KeyOk Try.prog w (.bin .mul 3) [(.int .i64 ((rootD y34))), (.int .i64 ((rootD y34)))] (.int .i64 (y36)) from key_eq (e := ((rootD y34) * (rootD y34))) hy36 (have ey : y36 = ((rootD y34) * (rootD y34)) := hy36; k_mul (wrap64 (by omega))))⟩, ⟨rfl, rfl, fun w hm => (show KeyOk Try.prog w (.bin .lss 3) [(.int .i64 (y36)), (.int .i64 (y34))] (.bool true) from k_lss_t c0)⟩, ⟨rfl, rfl, fun w hm => (show KeyOk Try.prog w (.bin .add 3) [(.int .i64 ((rootD y34))), (.int .i64 1)] (.int .i64 (y37)) from key_eq (e := ((rootD y34) + 1)) hy37 (have ey : y37 = ((rootD y34) + 1) := hy37; k_add (wrap64 (by omega))))⟩, ⟨rfl, rfl, fun w hm => (show KeyOk Try.prog w (.bin .mul 3) [(.int .i64 (y22)), (.int .i64 (y22))] (.int .i64 (y38)) from key_eq (e := (y22 * y22)) hy38 (have ey : y38 = (y22 * y22) := hy38; k_mul (wrap64 (by omega))))⟩, ⟨rfl, rfl, fun w hm => (show KeyOk Try.prog w (.bin .mul 3) [(.int .i64 (y25)), (.int .i64 (y25))] (.int .i64 (y39)) from key_eq (e := (y25 * y25)) hy39 (have ey : y39 = (y25 * y25) := hy39; k_mul (wrap64 (by omega))))⟩, ⟨rfl, rfl, fun w hm => (show KeyOk Try.prog w (.bin .add 3) [(.int .i64 (y38)), (.int .i64 (y39))] (.int .i64 (y40)) from key_eq (e := (y38 + y39)) hy40 (have ey : y40 = (y38 + y39) := hy40; k_add (wrap64 (by omega))))⟩, ⟨rfl, rfl, fun w hm => (show KeyOk Try.prog w (.bin .mul 3) [(.int .i64 (x5)), (.int .i64 (x5))] (.int .i64 (y41)) from key_eq (e := (x5 * x5)) hy41 (have ey : y41 = (x5 * x5) := hy41; k_mul (wrap64 (by omega))))⟩, ⟨rfl, rfl, fun w hm => (show KeyOk Try.prog w (.bin .add 3) [(.int .i64 (y40)), (.int .i64 (y41))] (.int .i64 (y42)) from key_eq (e := (y40 + y41)) hy42 (have ey : y42 = (y40 + y41) := hy42; k_add (wrap64 (by omega))))⟩, trivial⟩ ⟨(@CEntOk.of (Rho.of [(.int .i64 (x0)), (.int .i64 (x1)), (.int .i64 (x2)), (.int .i64 (x3)), (.int .i64 (x4)), (.int .i64 (x5)), (.int .i64 (x6)), (.int .i64 (x7)), (.int .i64 (x8)), (.int .i64 (x9)), (.int .i64 (y10)), (.int .i64 (y11)), (.int .i64 (y12)), (.int .i64 (y13)), (.int .i64 (y14)), (.int .i64 (y15)), (.int .i64 (y16)), (.int .i64 (y17)), (.int .i64 (y18)), (.int .i64 (y19)), (.int .i64 (y20)), (.int .i64 (y21)), (.int .i64 (y22)), (.int .i64 (y23)), (.int .i64 (y24)), (.int .i64 (y25)), (.int .i64 (y26)), (.int .i64 (y27)), (.int .i64 (y28)), (.int .i64 (y29)), (.int .i64 (y30)), (.int .i64 (y31)), (.int .i64 (y32)), (.int .i64 (y33)), (.int .i64 (y34)), (.int .i64 ((rootD y34))), (.int .i64 (y36)), (.int .i64 (y37)), (.int .i64 (y38)), (.int .i64 (y39)), (.int .i64 (y40)), (.int .i64 (y41)), (.int .i64 (y42)), (.int .i64 ((rootD y42)))] (fun _ => none)) Try.prog _ 98 _ _ #[(.int .i64 (y34))] (.int .i64 ((rootD y34))) rfl ⟨Try.f98, (Try.f98.body).getD .skip, by kernel_rfl, by kernel_rfl⟩ rfl rfl rfl (fun w hm => rroot_any (y34) (by omega) (by omega) w)), (@CEntOk.of (Rho.of [(.int .i64 (x0)), (.int .i64 (x1)), (.int .i64 (x2)), (.int .i64 (x3)), (.int .i64 (x4)), (.int .i64 (x5)), (.int .i64 (x6)), (.int .i64 (x7)), (.int .i64 (x8)), (.int .i64 (x9)), (.int .i64 (y10)), (.int .i64 (y11)), (.int .i64 (y12)), (.int .i64 (y13)), (.int .i64 (y14)), (.int .i64 (y15)), (.int .i64 (y16)), (.int .i64 (y17)), (.int .i64 (y18)), (.int .i64 (y19)), (.int .i64 (y20)), (.int .i64 (y21)), (.int .i64 (y22)), (.int .i64 (y23)), (.int .i64 (y24)), (.int .i64 (y25)), (.int .i64 (y26)), (.int .i64 (y27)), (.int .i64 (y28)), (.int .i64 (y29)), (.int .i64 (y30)), (.int .i64 (y31)), (.int .i64 (y32)), (.int .i64 (y33)), (.int .i64 (y34)), (.int .i64 ((rootD y34))), (.int .i64 (y36)), (.int .i64 (y37)), (.int .i64 (y38)), (.int .i64 (y39)), (.int .i64 (y40)), (.int .i64 (y41)), (.int .i64 (y42)), (.int .i64 ((rootD y42)))] (fun _ => none)) Try.prog _ 98 _ _ #[(.int .i64 (y42))] (.int .i64 ((rootD y42))) rfl ⟨Try.f98, (Try.f98.body).getD .skip, by kernel_rfl, by kernel_rfl⟩ rfl rfl rfl (fun w hm => rroot_any (y42) (by omega) (by omega) w)), trivial⟩) 3000 83 [(.agg #[(sy 0), (sy 1), (sy 2), (sy 3), (sy 4), (sy 5), (sy 6), (sy 7)]), (sy 8), (sy 9)] (.agg #[(sy 43), (sy 37)]) rfl rfl rdist_r0 w (fun _ _ h => nomatch h)
    have v0 : ((rootD y42) : Int) = dist0 x0 x1 x2 x3 x4 x5 x6 x7 x8 x9 := by
      have e10 : y10 = (x8 % x0) := hy10
      have e11 : y11 = (x9 % x0) := hy11
      have e12 : y12 = (y10 - y11) := hy12
      have e13 : y13 = (x8 / x0) := hy13
      have e14 : y14 = (x9 / x0) := hy14
      have e15 : y15 = (y13 - y14) := hy15
      have e16 : y16 = (-y12) := hy16
      have e17 : y17 = (max y12 y16) := hy17
      have e18 : y18 = (-y15) := hy18
      have e19 : y19 = (max y15 y18) := hy19
      have e20 : y20 = (y17 - 1) := hy20
      have e21 : y21 = (max 0 y20) := hy21
      have e22 : y22 = (y21 * x2) := hy22
      have e23 : y23 = (y19 - 1) := hy23
      have e24 : y24 = (max 0 y23) := hy24
      have e25 : y25 = (y24 * x2) := hy25
      have e26 : y26 = (y17 + 1) := hy26
      have e27 : y27 = (y26 * x2) := hy27
      have e28 : y28 = (y19 + 1) := hy28
      have e29 : y29 = (y28 * x2) := hy29
      have e30 : y30 = (y27 * y27) := hy30
      have e31 : y31 = (y29 * y29) := hy31
      have e32 : y32 = (y30 + y31) := hy32
      have e33 : y33 = (x6 * x6) := hy33
      have e34 : y34 = (y32 + y33) := hy34
      have e36 : y36 = ((rootD y34) * (rootD y34)) := hy36
      have e37 : y37 = ((rootD y34) + 1) := hy37
      have e38 : y38 = (y22 * y22) := hy38
      have e39 : y39 = (y25 * y25) := hy39
      have e40 : y40 = (y38 + y39) := hy40
      have e41 : y41 = (x5 * x5) := hy41
      have e42 : y42 = (y40 + y41) := hy42
      have q8 : apart0 x0 x1 x2 x3 x4 x5 x6 x7 (x8 % x0) (x9 % x0) = max 0 (max (x8 % x0 - x9 % x0) (-(x8 % x0 - x9 % x0)) - 1) * x2 := by unfold apart0; rw [absmax, Int.max_comm]
      have q9 : apart1 x0 x1 x2 x3 x4 x5 x6 x7 (x8 % x0) (x9 % x0) = (max (x8 % x0 - x9 % x0) (-(x8 % x0 - x9 % x0)) + 1) * x2 := by unfold apart1; rw [absmax]
      have t8 : apart0 x0 x1 x2 x3 x4 x5 x6 x7 (x8 / x0) (x9 / x0) = max 0 (max (x8 / x0 - x9 / x0) (-(x8 / x0 - x9 / x0)) - 1) * x2 := by unfold apart0; rw [absmax, Int.max_comm]
      have t9 : apart1 x0 x1 x2 x3 x4 x5 x6 x7 (x8 / x0) (x9 / x0) = (max (x8 / x0 - x9 / x0) (-(x8 / x0 - x9 / x0)) + 1) * x2 := by unfold apart1; rw [absmax]
      have f34 : (max (x8 % x0 - x9 % x0) (-(x8 % x0 - x9 % x0)) + 1) * x2 * ((max (x8 % x0 - x9 % x0) (-(x8 % x0 - x9 % x0)) + 1) * x2) + (max (x8 / x0 - x9 / x0) (-(x8 / x0 - x9 / x0)) + 1) * x2 * ((max (x8 / x0 - x9 / x0) (-(x8 / x0 - x9 / x0)) + 1) * x2) + x6 * x6 = y34 := by simp only [e10, e11, e12, e13, e14, e15, e16, e17, e18, e19, e20, e21, e22, e23, e24, e25, e26, e27, e28, e29, e30, e31, e32, e33, e34, e36, e37, e38, e39, e40, e41, e42]
      first | (unfold dist0; rw [q8, t8]; simp only [e10, e11, e12, e13, e14, e15, e16, e17, e18, e19, e20, e21, e22, e23, e24, e25, e26, e27, e28, e29, e30, e31, e32, e33, e34, e36, e37, e38, e39, e40, e41, e42]; done) | (unfold dist1; rw [q9, t9, f34, root_up (by omega) (by omega) (by rw [e36] at c0; exact c0)]; omega) | (unfold dist1; rw [q9, t9, f34, root_same (by omega) (by omega) (by rw [e36] at c0; exact c0)])
    have v1 : (y37 : Int) = dist1 x0 x1 x2 x3 x4 x5 x6 x7 x8 x9 := by
      have e10 : y10 = (x8 % x0) := hy10
      have e11 : y11 = (x9 % x0) := hy11
      have e12 : y12 = (y10 - y11) := hy12
      have e13 : y13 = (x8 / x0) := hy13
      have e14 : y14 = (x9 / x0) := hy14
      have e15 : y15 = (y13 - y14) := hy15
      have e16 : y16 = (-y12) := hy16
      have e17 : y17 = (max y12 y16) := hy17
      have e18 : y18 = (-y15) := hy18
      have e19 : y19 = (max y15 y18) := hy19
      have e20 : y20 = (y17 - 1) := hy20
      have e21 : y21 = (max 0 y20) := hy21
      have e22 : y22 = (y21 * x2) := hy22
      have e23 : y23 = (y19 - 1) := hy23
      have e24 : y24 = (max 0 y23) := hy24
      have e25 : y25 = (y24 * x2) := hy25
      have e26 : y26 = (y17 + 1) := hy26
      have e27 : y27 = (y26 * x2) := hy27
      have e28 : y28 = (y19 + 1) := hy28
      have e29 : y29 = (y28 * x2) := hy29
      have e30 : y30 = (y27 * y27) := hy30
      have e31 : y31 = (y29 * y29) := hy31
      have e32 : y32 = (y30 + y31) := hy32
      have e33 : y33 = (x6 * x6) := hy33
      have e34 : y34 = (y32 + y33) := hy34
      have e36 : y36 = ((rootD y34) * (rootD y34)) := hy36
      have e37 : y37 = ((rootD y34) + 1) := hy37
      have e38 : y38 = (y22 * y22) := hy38
      have e39 : y39 = (y25 * y25) := hy39
      have e40 : y40 = (y38 + y39) := hy40
      have e41 : y41 = (x5 * x5) := hy41
      have e42 : y42 = (y40 + y41) := hy42
      have q8 : apart0 x0 x1 x2 x3 x4 x5 x6 x7 (x8 % x0) (x9 % x0) = max 0 (max (x8 % x0 - x9 % x0) (-(x8 % x0 - x9 % x0)) - 1) * x2 := by unfold apart0; rw [absmax, Int.max_comm]
      have q9 : apart1 x0 x1 x2 x3 x4 x5 x6 x7 (x8 % x0) (x9 % x0) = (max (x8 % x0 - x9 % x0) (-(x8 % x0 - x9 % x0)) + 1) * x2 := by unfold apart1; rw [absmax]
      have t8 : apart0 x0 x1 x2 x3 x4 x5 x6 x7 (x8 / x0) (x9 / x0) = max 0 (max (x8 / x0 - x9 / x0) (-(x8 / x0 - x9 / x0)) - 1) * x2 := by unfold apart0; rw [absmax, Int.max_comm]
      have t9 : apart1 x0 x1 x2 x3 x4 x5 x6 x7 (x8 / x0) (x9 / x0) = (max (x8 / x0 - x9 / x0) (-(x8 / x0 - x9 / x0)) + 1) * x2 := by unfold apart1; rw [absmax]
      have f34 : (max (x8 % x0 - x9 % x0) (-(x8 % x0 - x9 % x0)) + 1) * x2 * ((max (x8 % x0 - x9 % x0) (-(x8 % x0 - x9 % x0)) + 1) * x2) + (max (x8 / x0 - x9 / x0) (-(x8 / x0 - x9 / x0)) + 1) * x2 * ((max (x8 / x0 - x9 / x0) (-(x8 / x0 - x9 / x0)) + 1) * x2) + x6 * x6 = y34 := by simp only [e10, e11, e12, e13, e14, e15, e16, e17, e18, e19, e20, e21, e22, e23, e24, e25, e26, e27, e28, e29, e30, e31, e32, e33, e34, e36, e37, e38, e39, e40, e41, e42]
      first | (unfold dist0; rw [q8, t8]; simp only [e10, e11, e12, e13, e14, e15, e16, e17, e18, e19, e20, e21, e22, e23, e24, e25, e26, e27, e28, e29, e30, e31, e32, e33, e34, e36, e37, e38, e39, e40, e41, e42]; done) | (unfold dist1; rw [q9, t9, f34, root_up (by omega) (by omega) (by rw [e36] at c0; exact c0)]; omega) | (unfold dist1; rw [q9, t9, f34, root_same (by omega) (by omega) (by rw [e36] at c0; exact c0)])
    have hv : ((.agg #[(.int .i64 ((rootD y42))), (.int .i64 (y37))]) : Value) = (.agg #[(.int .i64 (dist0 x0 x1 x2 x3 x4 x5 x6 x7 x8 x9)), (.int .i64 (dist1 x0 x1 x2 x3 x4 x5 x6 x7 x8 x9))]) := by rw [v0, v1]
    rw [← hv]
    exact q
  · obtain ⟨y37, hy37⟩ : ∃ y : Int, y = (y22 * y22) := ⟨_, rfl⟩
    have b37 : 0 ≤ y37 ∧ y37 ≤ 48400000000 := by rw [hy37]; exact mul_bd (A := 220000) (B := 220000) (C := 48400000000) (by omega) (by omega) (by omega) (by omega)
    replace hy37 : Hid (y37 = (y22 * y22)) := hy37
    obtain ⟨y38, hy38⟩ : ∃ y : Int, y = (y25 * y25) := ⟨_, rfl⟩
    have b38 : 0 ≤ y38 ∧ y38 ≤ 48400000000 := by rw [hy38]; exact mul_bd (A := 220000) (B := 220000) (C := 48400000000) (by omega) (by omega) (by omega) (by omega)
    replace hy38 : Hid (y38 = (y25 * y25)) := hy38
    obtain ⟨y39, hy39⟩ : ∃ y : Int, y = (y37 + y38) := ⟨_, rfl⟩
    have b39 : 0 ≤ y39 ∧ y39 ≤ 96800000000 := by rw [hy39]; omega
    replace hy39 : Hid (y39 = (y37 + y38)) := hy39
    obtain ⟨y40, hy40⟩ : ∃ y : Int, y = (x5 * x5) := ⟨_, rfl⟩
    have b40 : 0 ≤ y40 ∧ y40 ≤ 490000000000 := by rw [hy40]; exact mul_bd (A := 700000) (B := 700000) (C := 490000000000) (by omega) (by omega) (by omega) (by omega)
    replace hy40 : Hid (y40 = (x5 * x5)) := hy40
    obtain ⟨y41, hy41⟩ : ∃ y : Int, y = (y39 + y40) := ⟨_, rfl⟩
    have b41 : 0 ≤ y41 ∧ y41 ≤ 586800000000 := by rw [hy41]; omega
    replace hy41 : Hid (y41 = (y39 + y40)) := hy41
    have b42 : 0 ≤ (rootD y41) ∧ (rootD y41) ≤ 1048575 := by have := rootD_bd (n := y41) (by omega) (by omega); omega
    have q := @calls_sym (Rho.of [(.int .i64 (x0)), (.int .i64 (x1)), (.int .i64 (x2)), (.int .i64 (x3)), (.int .i64 (x4)), (.int .i64 (x5)), (.int .i64 (x6)), (.int .i64 (x7)), (.int .i64 (x8)), (.int .i64 (x9)), (.int .i64 (y10)), (.int .i64 (y11)), (.int .i64 (y12)), (.int .i64 (y13)), (.int .i64 (y14)), (.int .i64 (y15)), (.int .i64 (y16)), (.int .i64 (y17)), (.int .i64 (y18)), (.int .i64 (y19)), (.int .i64 (y20)), (.int .i64 (y21)), (.int .i64 (y22)), (.int .i64 (y23)), (.int .i64 (y24)), (.int .i64 (y25)), (.int .i64 (y26)), (.int .i64 (y27)), (.int .i64 (y28)), (.int .i64 (y29)), (.int .i64 (y30)), (.int .i64 (y31)), (.int .i64 (y32)), (.int .i64 (y33)), (.int .i64 (y34)), (.int .i64 ((rootD y34))), (.int .i64 (y36)), (.int .i64 (y37)), (.int .i64 (y38)), (.int .i64 (y39)), (.int .i64 (y40)), (.int .i64 (y41)), (.int .i64 ((rootD y41)))] (fun _ => none)) Try.prog _ (@Env.Ok.sym (Rho.of [(.int .i64 (x0)), (.int .i64 (x1)), (.int .i64 (x2)), (.int .i64 (x3)), (.int .i64 (x4)), (.int .i64 (x5)), (.int .i64 (x6)), (.int .i64 (x7)), (.int .i64 (x8)), (.int .i64 (x9)), (.int .i64 (y10)), (.int .i64 (y11)), (.int .i64 (y12)), (.int .i64 (y13)), (.int .i64 (y14)), (.int .i64 (y15)), (.int .i64 (y16)), (.int .i64 (y17)), (.int .i64 (y18)), (.int .i64 (y19)), (.int .i64 (y20)), (.int .i64 (y21)), (.int .i64 (y22)), (.int .i64 (y23)), (.int .i64 (y24)), (.int .i64 (y25)), (.int .i64 (y26)), (.int .i64 (y27)), (.int .i64 (y28)), (.int .i64 (y29)), (.int .i64 (y30)), (.int .i64 (y31)), (.int .i64 (y32)), (.int .i64 (y33)), (.int .i64 (y34)), (.int .i64 ((rootD y34))), (.int .i64 (y36)), (.int .i64 (y37)), (.int .i64 (y38)), (.int .i64 (y39)), (.int .i64 (y40)), (.int .i64 (y41)), (.int .i64 ((rootD y41)))] (fun _ => none)) _ _ (@env_ok (Rho.of [(.int .i64 (x0)), (.int .i64 (x1)), (.int .i64 (x2)), (.int .i64 (x3)), (.int .i64 (x4)), (.int .i64 (x5)), (.int .i64 (x6)), (.int .i64 (x7)), (.int .i64 (x8)), (.int .i64 (x9)), (.int .i64 (y10)), (.int .i64 (y11)), (.int .i64 (y12)), (.int .i64 (y13)), (.int .i64 (y14)), (.int .i64 (y15)), (.int .i64 (y16)), (.int .i64 (y17)), (.int .i64 (y18)), (.int .i64 (y19)), (.int .i64 (y20)), (.int .i64 (y21)), (.int .i64 (y22)), (.int .i64 (y23)), (.int .i64 (y24)), (.int .i64 (y25)), (.int .i64 (y26)), (.int .i64 (y27)), (.int .i64 (y28)), (.int .i64 (y29)), (.int .i64 (y30)), (.int .i64 (y31)), (.int .i64 (y32)), (.int .i64 (y33)), (.int .i64 (y34)), (.int .i64 ((rootD y34))), (.int .i64 (y36)), (.int .i64 (y37)), (.int .i64 (y38)), (.int .i64 (y39)), (.int .i64 (y40)), (.int .i64 (y41)), (.int .i64 ((rootD y41)))] (fun _ => none))) rdist_e1 rdist_c1 ⟨⟨rfl, rfl, fun w hm => (show KeyOk Try.prog w (.bin .rem 3) [(.int .i64 (x8)), (.int .i64 (x0))] (.int .i64 (y10)) from key_eq (e := (x8 % x0)) hy10 (have ey : y10 = (x8 % x0) := hy10; k_rem_nn (by omega) (by omega)))⟩, ⟨rfl, rfl, fun w hm => (show KeyOk Try.prog w (.bin .rem 3) [(.int .i64 (x9)), (.int .i64 (x0))] (.int .i64 (y11)) from key_eq (e := (x9 % x0)) hy11 (have ey : y11 = (x9 % x0) := hy11; k_rem_nn (by omega) (by omega)))⟩, ⟨rfl, rfl, fun w hm => (show KeyOk Try.prog w (.bin .sub 3) [(.int .i64 (y10)), (.int .i64 (y11))] (.int .i64 (y12)) from key_eq (e := (y10 - y11)) hy12 (have ey : y12 = (y10 - y11) := hy12; k_sub (wrap64 (by omega))))⟩, ⟨rfl, rfl, fun w hm => (show KeyOk Try.prog w (.bin .quo 3) [(.int .i64 (x8)), (.int .i64 (x0))] (.int .i64 (y13)) from key_eq (e := (x8 / x0)) hy13 (have ey : y13 = (x8 / x0) := hy13; k_quo_nn (by omega) (by omega) (wrap64 (by omega))))⟩, ⟨rfl, rfl, fun w hm => (show KeyOk Try.prog w (.bin .quo 3) [(.int .i64 (x9)), (.int .i64 (x0))] (.int .i64 (y14)) from key_eq (e := (x9 / x0)) hy14 (have ey : y14 = (x9 / x0) := hy14; k_quo_nn (by omega) (by omega) (wrap64 (by omega))))⟩, ⟨rfl, rfl, fun w hm => (show KeyOk Try.prog w (.bin .sub 3) [(.int .i64 (y13)), (.int .i64 (y14))] (.int .i64 (y15)) from key_eq (e := (y13 - y14)) hy15 (have ey : y15 = (y13 - y14) := hy15; k_sub (wrap64 (by omega))))⟩, ⟨rfl, rfl, fun w hm => (show KeyOk Try.prog w (.un .neg) [(.int .i64 (y12))] (.int .i64 (y16)) from key_eq (e := (-y12)) hy16 (have ey : y16 = (-y12) := hy16; k_neg (wrap64 (by omega))))⟩, ⟨rfl, rfl, fun w hm => (show KeyOk Try.prog w (.bi 2 [3, 3]) [(.int .i64 (y12)), (.int .i64 (y16))] (.int .i64 (y17)) from key_eq (e := (max y12 y16)) hy17 (have ey : y17 = (max y12 y16) := hy17; k_max))⟩, ⟨rfl, rfl, fun w hm => (show KeyOk Try.prog w (.un .neg) [(.int .i64 (y15))] (.int .i64 (y18)) from key_eq (e := (-y15)) hy18 (have ey : y18 = (-y15) := hy18; k_neg (wrap64 (by omega))))⟩, ⟨rfl, rfl, fun w hm => (show KeyOk Try.prog w (.bi 2 [3, 3]) [(.int .i64 (y15)), (.int .i64 (y18))] (.int .i64 (y19)) from key_eq (e := (max y15 y18)) hy19 (have ey : y19 = (max y15 y18) := hy19; k_max))⟩, ⟨rfl, rfl, fun w hm => (show KeyOk Try.prog w (.bin .sub 3) [(.int .i64 (y17)), (.int .i64 1)] (.int .i64 (y20)) from key_eq (e := (y17 - 1)) hy20 (have ey : y20 = (y17 - 1) := hy20; k_sub (wrap64 (by omega))))⟩, ⟨rfl, rfl, fun w hm => (show KeyOk Try.prog w (.bi 2 [3, 3]) [(.int .i64 0), (.int .i64 (y20))] (.int .i64 (y21)) from key_eq (e := (max 0 y20)) hy21 (have ey : y21 = (max 0 y20) := hy21; k_max))⟩, ⟨rfl, rfl, fun w hm => (show KeyOk Try.prog w (.bin .mul 3) [(.int .i64 (y21)), (.int .i64 (x2))] (.int .i64 (y22)) from key_eq (e := (y21 * x2)) hy22 (have ey : y22 = (y21 * x2) := hy22; k_mul (wrap64 (by omega))))⟩, ⟨rfl, rfl, fun w hm => (show KeyOk Try.prog w (.bin .sub 3) [(.int .i64 (y19)), (.int .i64 1)] (.int .i64 (y23)) from key_eq (e := (y19 - 1)) hy23 (have ey : y23 = (y19 - 1) := hy23; k_sub (wrap64 (by omega))))⟩, ⟨rfl, rfl, fun w hm => (show KeyOk Try.prog w (.bi 2 [3, 3]) [(.int .i64 0), (.int .i64 (y23))] (.int .i64 (y24)) from key_eq (e := (max 0 y23)) hy24 (have ey : y24 = (max 0 y23) := hy24; k_max))⟩, ⟨rfl, rfl, fun w hm => (show KeyOk Try.prog w (.bin .mul 3) [(.int .i64 (y24)), (.int .i64 (x2))] (.int .i64 (y25)) from key_eq (e := (y24 * x2)) hy25 (have ey : y25 = (y24 * x2) := hy25; k_mul (wrap64 (by omega))))⟩, ⟨rfl, rfl, fun w hm => (show KeyOk Try.prog w (.bin .add 3) [(.int .i64 (y17)), (.int .i64 1)] (.int .i64 (y26)) from key_eq (e := (y17 + 1)) hy26 (have ey : y26 = (y17 + 1) := hy26; k_add (wrap64 (by omega))))⟩, ⟨rfl, rfl, fun w hm => (show KeyOk Try.prog w (.bin .mul 3) [(.int .i64 (y26)), (.int .i64 (x2))] (.int .i64 (y27)) from key_eq (e := (y26 * x2)) hy27 (have ey : y27 = (y26 * x2) := hy27; k_mul (wrap64 (by omega))))⟩, ⟨rfl, rfl, fun w hm => (show KeyOk Try.prog w (.bin .add 3) [(.int .i64 (y19)), (.int .i64 1)] (.int .i64 (y28)) from key_eq (e := (y19 + 1)) hy28 (have ey : y28 = (y19 + 1) := hy28; k_add (wrap64 (by omega))))⟩, ⟨rfl, rfl, fun w hm => (show KeyOk Try.prog w (.bin .mul 3) [(.int .i64 (y28)), (.int .i64 (x2))] (.int .i64 (y29)) from key_eq (e := (y28 * x2)) hy29 (have ey : y29 = (y28 * x2) := hy29; k_mul (wrap64 (by omega))))⟩, ⟨rfl, rfl, fun w hm => (show KeyOk Try.prog w (.bin .mul 3) [(.int .i64 (y27)), (.int .i64 (y27))] (.int .i64 (y30)) from key_eq (e := (y27 * y27)) hy30 (have ey : y30 = (y27 * y27) := hy30; k_mul (wrap64 (by omega))))⟩, ⟨rfl, rfl, fun w hm => (show KeyOk Try.prog w (.bin .mul 3) [(.int .i64 (y29)), (.int .i64 (y29))] (.int .i64 (y31)) from key_eq (e := (y29 * y29)) hy31 (have ey : y31 = (y29 * y29) := hy31; k_mul (wrap64 (by omega))))⟩, ⟨rfl, rfl, fun w hm => (show KeyOk Try.prog w (.bin .add 3) [(.int .i64 (y30)), (.int .i64 (y31))] (.int .i64 (y32)) from key_eq (e := (y30 + y31)) hy32 (have ey : y32 = (y30 + y31) := hy32; k_add (wrap64 (by omega))))⟩, ⟨rfl, rfl, fun w hm => (show KeyOk Try.prog w (.bin .mul 3) [(.int .i64 (x6)), (.int .i64 (x6))] (.int .i64 (y33)) from key_eq (e := (x6 * x6)) hy33 (have ey : y33 = (x6 * x6) := hy33; k_mul (wrap64 (by omega))))⟩, ⟨rfl, rfl, fun w hm => (show KeyOk Try.prog w (.bin .add 3) [(.int .i64 (y32)), (.int .i64 (y33))] (.int .i64 (y34)) from key_eq (e := (y32 + y33)) hy34 (have ey : y34 = (y32 + y33) := hy34; k_add (wrap64 (by omega))))⟩, ⟨rfl, rfl, fun w hm => (show KeyOk Try.prog w (.bin .mul 3) [(.int .i64 ((rootD y34))), (.int .i64 ((rootD y34)))] (.int .i64 (y36)) from key_eq (e := ((rootD y34) * (rootD y34))) hy36 (have ey : y36 = ((rootD y34) * (rootD y34)) := hy36; k_mul (wrap64 (by omega))))⟩, ⟨rfl, rfl, fun w hm => (show KeyOk Try.prog w (.bin .lss 3) [(.int .i64 (y36)), (.int .i64 (y34))] (.bool false) from k_lss_f c0)⟩, ⟨rfl, rfl, fun w hm => (show KeyOk Try.prog w (.bin .mul 3) [(.int .i64 (y22)), (.int .i64 (y22))] (.int .i64 (y37)) from key_eq (e := (y22 * y22)) hy37 (have ey : y37 = (y22 * y22) := hy37; k_mul (wrap64 (by omega))))⟩, ⟨rfl, rfl, fun w hm => (show KeyOk Try.prog w (.bin .mul 3) [(.int .i64 (y25)), (.int .i64 (y25))] (.int .i64 (y38)) from key_eq (e := (y25 * y25)) hy38 (have ey : y38 = (y25 * y25) := hy38; k_mul (wrap64 (by omega))))⟩, ⟨rfl, rfl, fun w hm => (show KeyOk Try.prog w (.bin .add 3) [(.int .i64 (y37)), (.int .i64 (y38))] (.int .i64 (y39)) from key_eq (e := (y37 + y38)) hy39 (have ey : y39 = (y37 + y38) := hy39; k_add (wrap64 (by omega))))⟩, ⟨rfl, rfl, fun w hm => (show KeyOk Try.prog w (.bin .mul 3) [(.int .i64 (x5)), (.int .i64 (x5))] (.int .i64 (y40)) from key_eq (e := (x5 * x5)) hy40 (have ey : y40 = (x5 * x5) := hy40; k_mul (wrap64 (by omega))))⟩, ⟨rfl, rfl, fun w hm => (show KeyOk Try.prog w (.bin .add 3) [(.int .i64 (y39)), (.int .i64 (y40))] (.int .i64 (y41)) from key_eq (e := (y39 + y40)) hy41 (have ey : y41 = (y39 + y40) := hy41; k_add (wrap64 (by omega))))⟩, trivial⟩ ⟨(@CEntOk.of (Rho.of [(.int .i64 (x0)), (.int .i64 (x1)), (.int .i64 (x2)), (.int .i64 (x3)), (.int .i64 (x4)), (.int .i64 (x5)), (.int .i64 (x6)), (.int .i64 (x7)), (.int .i64 (x8)), (.int .i64 (x9)), (.int .i64 (y10)), (.int .i64 (y11)), (.int .i64 (y12)), (.int .i64 (y13)), (.int .i64 (y14)), (.int .i64 (y15)), (.int .i64 (y16)), (.int .i64 (y17)), (.int .i64 (y18)), (.int .i64 (y19)), (.int .i64 (y20)), (.int .i64 (y21)), (.int .i64 (y22)), (.int .i64 (y23)), (.int .i64 (y24)), (.int .i64 (y25)), (.int .i64 (y26)), (.int .i64 (y27)), (.int .i64 (y28)), (.int .i64 (y29)), (.int .i64 (y30)), (.int .i64 (y31)), (.int .i64 (y32)), (.int .i64 (y33)), (.int .i64 (y34)), (.int .i64 ((rootD y34))), (.int .i64 (y36)), (.int .i64 (y37)), (.int .i64 (y38)), (.int .i64 (y39)), (.int .i64 (y40)), (.int .i64 (y41)), (.int .i64 ((rootD y41)))] (fun _ => none)) Try.prog _ 98 _ _ #[(.int .i64 (y34))] (.int .i64 ((rootD y34))) rfl ⟨Try.f98, (Try.f98.body).getD .skip, by kernel_rfl, by kernel_rfl⟩ rfl rfl rfl (fun w hm => rroot_any (y34) (by omega) (by omega) w)), (@CEntOk.of (Rho.of [(.int .i64 (x0)), (.int .i64 (x1)), (.int .i64 (x2)), (.int .i64 (x3)), (.int .i64 (x4)), (.int .i64 (x5)), (.int .i64 (x6)), (.int .i64 (x7)), (.int .i64 (x8)), (.int .i64 (x9)), (.int .i64 (y10)), (.int .i64 (y11)), (.int .i64 (y12)), (.int .i64 (y13)), (.int .i64 (y14)), (.int .i64 (y15)), (.int .i64 (y16)), (.int .i64 (y17)), (.int .i64 (y18)), (.int .i64 (y19)), (.int .i64 (y20)), (.int .i64 (y21)), (.int .i64 (y22)), (.int .i64 (y23)), (.int .i64 (y24)), (.int .i64 (y25)), (.int .i64 (y26)), (.int .i64 (y27)), (.int .i64 (y28)), (.int .i64 (y29)), (.int .i64 (y30)), (.int .i64 (y31)), (.int .i64 (y32)), (.int .i64 (y33)), (.int .i64 (y34)), (.int .i64 ((rootD y34))), (.int .i64 (y36)), (.int .i64 (y37)), (.int .i64 (y38)), (.int .i64 (y39)), (.int .i64 (y40)), (.int .i64 (y41)), (.int .i64 ((rootD y41)))] (fun _ => none)) Try.prog _ 98 _ _ #[(.int .i64 (y41))] (.int .i64 ((rootD y41))) rfl ⟨Try.f98, (Try.f98.body).getD .skip, by kernel_rfl, by kernel_rfl⟩ rfl rfl rfl (fun w hm => rroot_any (y41) (by omega) (by omega) w)), trivial⟩) 3000 83 [(.agg #[(sy 0), (sy 1), (sy 2), (sy 3), (sy 4), (sy 5), (sy 6), (sy 7)]), (sy 8), (sy 9)] (.agg #[(sy 42), (sy 35)]) rfl rfl rdist_r1 w (fun _ _ h => nomatch h)
    have v0 : ((rootD y41) : Int) = dist0 x0 x1 x2 x3 x4 x5 x6 x7 x8 x9 := by
      have e10 : y10 = (x8 % x0) := hy10
      have e11 : y11 = (x9 % x0) := hy11
      have e12 : y12 = (y10 - y11) := hy12
      have e13 : y13 = (x8 / x0) := hy13
      have e14 : y14 = (x9 / x0) := hy14
      have e15 : y15 = (y13 - y14) := hy15
      have e16 : y16 = (-y12) := hy16
      have e17 : y17 = (max y12 y16) := hy17
      have e18 : y18 = (-y15) := hy18
      have e19 : y19 = (max y15 y18) := hy19
      have e20 : y20 = (y17 - 1) := hy20
      have e21 : y21 = (max 0 y20) := hy21
      have e22 : y22 = (y21 * x2) := hy22
      have e23 : y23 = (y19 - 1) := hy23
      have e24 : y24 = (max 0 y23) := hy24
      have e25 : y25 = (y24 * x2) := hy25
      have e26 : y26 = (y17 + 1) := hy26
      have e27 : y27 = (y26 * x2) := hy27
      have e28 : y28 = (y19 + 1) := hy28
      have e29 : y29 = (y28 * x2) := hy29
      have e30 : y30 = (y27 * y27) := hy30
      have e31 : y31 = (y29 * y29) := hy31
      have e32 : y32 = (y30 + y31) := hy32
      have e33 : y33 = (x6 * x6) := hy33
      have e34 : y34 = (y32 + y33) := hy34
      have e36 : y36 = ((rootD y34) * (rootD y34)) := hy36
      have e37 : y37 = (y22 * y22) := hy37
      have e38 : y38 = (y25 * y25) := hy38
      have e39 : y39 = (y37 + y38) := hy39
      have e40 : y40 = (x5 * x5) := hy40
      have e41 : y41 = (y39 + y40) := hy41
      have q8 : apart0 x0 x1 x2 x3 x4 x5 x6 x7 (x8 % x0) (x9 % x0) = max 0 (max (x8 % x0 - x9 % x0) (-(x8 % x0 - x9 % x0)) - 1) * x2 := by unfold apart0; rw [absmax, Int.max_comm]
      have q9 : apart1 x0 x1 x2 x3 x4 x5 x6 x7 (x8 % x0) (x9 % x0) = (max (x8 % x0 - x9 % x0) (-(x8 % x0 - x9 % x0)) + 1) * x2 := by unfold apart1; rw [absmax]
      have t8 : apart0 x0 x1 x2 x3 x4 x5 x6 x7 (x8 / x0) (x9 / x0) = max 0 (max (x8 / x0 - x9 / x0) (-(x8 / x0 - x9 / x0)) - 1) * x2 := by unfold apart0; rw [absmax, Int.max_comm]
      have t9 : apart1 x0 x1 x2 x3 x4 x5 x6 x7 (x8 / x0) (x9 / x0) = (max (x8 / x0 - x9 / x0) (-(x8 / x0 - x9 / x0)) + 1) * x2 := by unfold apart1; rw [absmax]
      have f34 : (max (x8 % x0 - x9 % x0) (-(x8 % x0 - x9 % x0)) + 1) * x2 * ((max (x8 % x0 - x9 % x0) (-(x8 % x0 - x9 % x0)) + 1) * x2) + (max (x8 / x0 - x9 / x0) (-(x8 / x0 - x9 / x0)) + 1) * x2 * ((max (x8 / x0 - x9 / x0) (-(x8 / x0 - x9 / x0)) + 1) * x2) + x6 * x6 = y34 := by simp only [e10, e11, e12, e13, e14, e15, e16, e17, e18, e19, e20, e21, e22, e23, e24, e25, e26, e27, e28, e29, e30, e31, e32, e33, e34, e36, e37, e38, e39, e40, e41]
      first | (unfold dist0; rw [q8, t8]; simp only [e10, e11, e12, e13, e14, e15, e16, e17, e18, e19, e20, e21, e22, e23, e24, e25, e26, e27, e28, e29, e30, e31, e32, e33, e34, e36, e37, e38, e39, e40, e41]; done) | (unfold dist1; rw [q9, t9, f34, root_up (by omega) (by omega) (by rw [e36] at c0; exact c0)]; omega) | (unfold dist1; rw [q9, t9, f34, root_same (by omega) (by omega) (by rw [e36] at c0; exact c0)])
    have v1 : ((rootD y34) : Int) = dist1 x0 x1 x2 x3 x4 x5 x6 x7 x8 x9 := by
      have e10 : y10 = (x8 % x0) := hy10
      have e11 : y11 = (x9 % x0) := hy11
      have e12 : y12 = (y10 - y11) := hy12
      have e13 : y13 = (x8 / x0) := hy13
      have e14 : y14 = (x9 / x0) := hy14
      have e15 : y15 = (y13 - y14) := hy15
      have e16 : y16 = (-y12) := hy16
      have e17 : y17 = (max y12 y16) := hy17
      have e18 : y18 = (-y15) := hy18
      have e19 : y19 = (max y15 y18) := hy19
      have e20 : y20 = (y17 - 1) := hy20
      have e21 : y21 = (max 0 y20) := hy21
      have e22 : y22 = (y21 * x2) := hy22
      have e23 : y23 = (y19 - 1) := hy23
      have e24 : y24 = (max 0 y23) := hy24
      have e25 : y25 = (y24 * x2) := hy25
      have e26 : y26 = (y17 + 1) := hy26
      have e27 : y27 = (y26 * x2) := hy27
      have e28 : y28 = (y19 + 1) := hy28
      have e29 : y29 = (y28 * x2) := hy29
      have e30 : y30 = (y27 * y27) := hy30
      have e31 : y31 = (y29 * y29) := hy31
      have e32 : y32 = (y30 + y31) := hy32
      have e33 : y33 = (x6 * x6) := hy33
      have e34 : y34 = (y32 + y33) := hy34
      have e36 : y36 = ((rootD y34) * (rootD y34)) := hy36
      have e37 : y37 = (y22 * y22) := hy37
      have e38 : y38 = (y25 * y25) := hy38
      have e39 : y39 = (y37 + y38) := hy39
      have e40 : y40 = (x5 * x5) := hy40
      have e41 : y41 = (y39 + y40) := hy41
      have q8 : apart0 x0 x1 x2 x3 x4 x5 x6 x7 (x8 % x0) (x9 % x0) = max 0 (max (x8 % x0 - x9 % x0) (-(x8 % x0 - x9 % x0)) - 1) * x2 := by unfold apart0; rw [absmax, Int.max_comm]
      have q9 : apart1 x0 x1 x2 x3 x4 x5 x6 x7 (x8 % x0) (x9 % x0) = (max (x8 % x0 - x9 % x0) (-(x8 % x0 - x9 % x0)) + 1) * x2 := by unfold apart1; rw [absmax]
      have t8 : apart0 x0 x1 x2 x3 x4 x5 x6 x7 (x8 / x0) (x9 / x0) = max 0 (max (x8 / x0 - x9 / x0) (-(x8 / x0 - x9 / x0)) - 1) * x2 := by unfold apart0; rw [absmax, Int.max_comm]
      have t9 : apart1 x0 x1 x2 x3 x4 x5 x6 x7 (x8 / x0) (x9 / x0) = (max (x8 / x0 - x9 / x0) (-(x8 / x0 - x9 / x0)) + 1) * x2 := by unfold apart1; rw [absmax]
      have f34 : (max (x8 % x0 - x9 % x0) (-(x8 % x0 - x9 % x0)) + 1) * x2 * ((max (x8 % x0 - x9 % x0) (-(x8 % x0 - x9 % x0)) + 1) * x2) + (max (x8 / x0 - x9 / x0) (-(x8 / x0 - x9 / x0)) + 1) * x2 * ((max (x8 / x0 - x9 / x0) (-(x8 / x0 - x9 / x0)) + 1) * x2) + x6 * x6 = y34 := by simp only [e10, e11, e12, e13, e14, e15, e16, e17, e18, e19, e20, e21, e22, e23, e24, e25, e26, e27, e28, e29, e30, e31, e32, e33, e34, e36, e37, e38, e39, e40, e41]
      first | (unfold dist0; rw [q8, t8]; simp only [e10, e11, e12, e13, e14, e15, e16, e17, e18, e19, e20, e21, e22, e23, e24, e25, e26, e27, e28, e29, e30, e31, e32, e33, e34, e36, e37, e38, e39, e40, e41]; done) | (unfold dist1; rw [q9, t9, f34, root_up (by omega) (by omega) (by rw [e36] at c0; exact c0)]; omega) | (unfold dist1; rw [q9, t9, f34, root_same (by omega) (by omega) (by rw [e36] at c0; exact c0)])
    have hv : ((.agg #[(.int .i64 ((rootD y41))), (.int .i64 ((rootD y34)))]) : Value) = (.agg #[(.int .i64 (dist0 x0 x1 x2 x3 x4 x5 x6 x7 x8 x9)), (.int .i64 (dist1 x0 x1 x2 x3 x4 x5 x6 x7 x8 x9))]) := by rw [v0, v1]
    rw [← hv]
    exact q
end Go.Proofs.Ytoaehigmpbhppaa.En

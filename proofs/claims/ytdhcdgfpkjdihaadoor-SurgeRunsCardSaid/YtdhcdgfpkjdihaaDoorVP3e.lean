/-
  Layer 3, the program: speeds of storms, directions of vectors.
-/
import Derived.Test.YtdhcdgfpkjdihaaDoorVP3d
set_option linter.unusedSimpArgs false
set_option linter.unusedVariables false
namespace Go.Proofs.YtdhcdgfpkjdihaaDoor.Sg
open Go.RowKit
def Z4v : Oper := ⟨some 5, .fieldAddr 108 (.tmp 2) 0, 0, "storm.go:87", #[], none⟩
def Z4w : Oper := ⟨some 6, .fieldAddr 26 (.tmp 5) 1, 0, "storm.go:87", #[⟨0, .data⟩], none⟩
def Z4x : Oper := ⟨some 7, .load 3 (.tmp 6), 3, "storm.go:87", #[⟨1, .data⟩], none⟩
def Z4y : Oper := ⟨some 8, .binOp BinOp.gtr 3 (.tmp 7) (.const (Value.int IntKind.i64 0)) 3, 4, "storm.go:87", #[⟨2, .data⟩], none⟩
def Z4z : Oper := ⟨some 9, .move (.tmp 8), 4, "storm.go:87", #[⟨3, .data⟩], none⟩
def Z50 : Oper := ⟨some 10, .load 108 (.tmp 3), 108, "storm.go:87", #[⟨4, .guard⟩], some (4, true)⟩
def Z51 : Oper := ⟨some 11, .call { callee := Callee.value (.func 122), args := #[.tmp 10], argTypes := #[108] }, 3, "storm.go:87", #[⟨5, .data⟩, ⟨4, .chain⟩, ⟨4, .guard⟩], some (4, true)⟩
def Z52 : Oper := ⟨some 12, .binOp BinOp.mul 3 (.const (Value.int IntKind.i64 12)) (.tmp 11) 3, 3, "storm.go:87", #[⟨6, .data⟩, ⟨4, .guard⟩], some (4, true)⟩
def Z53 : Oper := ⟨some 13, .fieldAddr 108 (.tmp 2) 0, 0, "storm.go:87", #[⟨4, .guard⟩], some (4, true)⟩
def Z54 : Oper := ⟨some 14, .fieldAddr 26 (.tmp 13) 1, 0, "storm.go:87", #[⟨8, .data⟩, ⟨4, .guard⟩], some (4, true)⟩
def Z55 : Oper := ⟨some 15, .load 3 (.tmp 14), 3, "storm.go:87", #[⟨9, .data⟩, ⟨4, .guard⟩], some (4, true)⟩
def Z56 : Oper := ⟨some 16, .binOp BinOp.mul 3 (.const (Value.int IntKind.i64 5)) (.tmp 15) 3, 3, "storm.go:87", #[⟨10, .data⟩, ⟨4, .guard⟩], some (4, true)⟩
def Z57 : Oper := ⟨some 17, .binOp BinOp.leq 3 (.tmp 12) (.tmp 16) 3, 4, "storm.go:87", #[⟨7, .data⟩, ⟨11, .data⟩, ⟨4, .guard⟩], some (4, true)⟩
def Z58 : Oper := ⟨some 18, .pick (.tmp 9) (.tmp 17) (.const (Value.bool false)), 4, "storm.go:87", #[⟨4, .data⟩, ⟨12, .data⟩], none⟩
def Z59 : Oper := ⟨some 4, .assign (.tmp 18), 4, "storm.go:87", #[⟨13, .data⟩, ⟨6, .chain⟩, ⟨0, .phase⟩, ⟨1, .phase⟩, ⟨2, .phase⟩, ⟨3, .phase⟩, ⟨4, .phase⟩, ⟨5, .phase⟩, ⟨6, .phase⟩, ⟨7, .phase⟩, ⟨8, .phase⟩, ⟨9, .phase⟩, ⟨10, .phase⟩, ⟨11, .phase⟩, ⟨12, .phase⟩, ⟨13, .phase⟩], none⟩
def Z5a : Oper := ⟨some 7, .load 70 (.tmp 2), 70, "storm.go:43", #[], none⟩
def Z5b : Oper := ⟨some 8, .fieldAddr 70 (.tmp 2) 3, 0, "storm.go:43", #[], none⟩
def Z5c : Oper := ⟨some 9, .fieldAddr 26 (.tmp 8) 0, 0, "storm.go:43", #[⟨1, .data⟩], none⟩
def Z5d : Oper := ⟨some 10, .load 3 (.tmp 9), 3, "storm.go:43", #[⟨2, .data⟩], none⟩
def Z5e : Oper := ⟨some 11, .fieldAddr 108 (.tmp 3) 0, 0, "storm.go:43", #[], none⟩
def Z5f : Oper := ⟨some 12, .fieldAddr 26 (.tmp 11) 0, 0, "storm.go:43", #[⟨4, .data⟩], none⟩
def Z5g : Oper := ⟨some 13, .load 3 (.tmp 12), 3, "storm.go:43", #[⟨5, .data⟩], none⟩
def Z5h : Oper := ⟨some 14, .call { callee := Callee.value (.func 125), args := #[.tmp 7, .tmp 10, .tmp 13, .func 80], argTypes := #[70, 3, 3, 131] }, 3, "storm.go:43", #[⟨0, .data⟩, ⟨3, .data⟩, ⟨6, .data⟩], none⟩
def Z5i : Oper := ⟨some 15, .load 70 (.tmp 2), 70, "storm.go:43", #[], none⟩
def Z5j : Oper := ⟨some 16, .fieldAddr 70 (.tmp 2) 3, 0, "storm.go:43", #[], none⟩
def Z5k : Oper := ⟨some 17, .fieldAddr 26 (.tmp 16) 0, 0, "storm.go:43", #[⟨9, .data⟩], none⟩
def Z5l : Oper := ⟨some 18, .load 3 (.tmp 17), 3, "storm.go:43", #[⟨10, .data⟩], none⟩
def Z5m : Oper := ⟨some 19, .fieldAddr 108 (.tmp 3) 0, 0, "storm.go:43", #[], none⟩
def Z5n : Oper := ⟨some 20, .fieldAddr 26 (.tmp 19) 1, 0, "storm.go:43", #[⟨12, .data⟩], none⟩
def Z5o : Oper := ⟨some 21, .load 3 (.tmp 20), 3, "storm.go:43", #[⟨13, .data⟩], none⟩
def Z5p : Oper := ⟨some 22, .call { callee := Callee.value (.func 125), args := #[.tmp 15, .tmp 18, .tmp 21, .func 80], argTypes := #[70, 3, 3, 131] }, 3, "storm.go:43", #[⟨8, .data⟩, ⟨11, .data⟩, ⟨14, .data⟩, ⟨7, .chain⟩], none⟩
def Z5q : Oper := ⟨some 23, .call { callee := Callee.builtin Builtin.min, args := #[.tmp 14, .tmp 22], argTypes := #[3, 3] }, 3, "storm.go:43", #[⟨7, .data⟩, ⟨15, .data⟩], none⟩
def Z5r : Oper := ⟨some 5, .assign (.tmp 23), 3, "storm.go:43", #[⟨16, .data⟩, ⟨15, .chain⟩, ⟨0, .phase⟩, ⟨1, .phase⟩, ⟨2, .phase⟩, ⟨3, .phase⟩, ⟨4, .phase⟩, ⟨5, .phase⟩, ⟨6, .phase⟩, ⟨7, .phase⟩, ⟨8, .phase⟩, ⟨9, .phase⟩, ⟨10, .phase⟩, ⟨11, .phase⟩, ⟨12, .phase⟩, ⟨13, .phase⟩, ⟨14, .phase⟩, ⟨15, .phase⟩, ⟨16, .phase⟩], none⟩
def Z5s : Oper := ⟨some 32, .load 70 (.tmp 2), 70, "storm.go:46", #[], none⟩
def Z5t : Oper := ⟨some 33, .fieldAddr 70 (.tmp 2) 3, 0, "storm.go:46", #[], none⟩
def Z5u : Oper := ⟨some 34, .fieldAddr 26 (.tmp 33) 1, 0, "storm.go:46", #[⟨1, .data⟩], none⟩
def Z5v : Oper := ⟨some 35, .load 3 (.tmp 34), 3, "storm.go:46", #[⟨2, .data⟩], none⟩
def Z5w : Oper := ⟨some 36, .fieldAddr 108 (.tmp 3) 0, 0, "storm.go:46", #[], none⟩
def Z5x : Oper := ⟨some 37, .fieldAddr 26 (.tmp 36) 0, 0, "storm.go:46", #[⟨4, .data⟩], none⟩
def Z5y : Oper := ⟨some 38, .load 3 (.tmp 37), 3, "storm.go:46", #[⟨5, .data⟩], none⟩
def Z5z : Oper := ⟨some 39, .call { callee := Callee.value (.func 125), args := #[.tmp 32, .tmp 35, .tmp 38, .func 81], argTypes := #[70, 3, 3, 131] }, 3, "storm.go:46", #[⟨0, .data⟩, ⟨3, .data⟩, ⟨6, .data⟩], none⟩
def Z60 : Oper := ⟨some 40, .load 70 (.tmp 2), 70, "storm.go:46", #[], none⟩
def Z61 : Oper := ⟨some 41, .fieldAddr 70 (.tmp 2) 3, 0, "storm.go:46", #[], none⟩
def Z62 : Oper := ⟨some 42, .fieldAddr 26 (.tmp 41) 1, 0, "storm.go:46", #[⟨9, .data⟩], none⟩
def Z63 : Oper := ⟨some 43, .load 3 (.tmp 42), 3, "storm.go:46", #[⟨10, .data⟩], none⟩
def Z64 : Oper := ⟨some 44, .fieldAddr 108 (.tmp 3) 0, 0, "storm.go:46", #[], none⟩
def Z65 : Oper := ⟨some 45, .fieldAddr 26 (.tmp 44) 1, 0, "storm.go:46", #[⟨12, .data⟩], none⟩
def Z66 : Oper := ⟨some 46, .load 3 (.tmp 45), 3, "storm.go:46", #[⟨13, .data⟩], none⟩
def Z67 : Oper := ⟨some 47, .call { callee := Callee.value (.func 125), args := #[.tmp 40, .tmp 43, .tmp 46, .func 81], argTypes := #[70, 3, 3, 131] }, 3, "storm.go:46", #[⟨8, .data⟩, ⟨11, .data⟩, ⟨14, .data⟩, ⟨7, .chain⟩], none⟩
def Z68 : Oper := ⟨some 48, .call { callee := Callee.builtin Builtin.max, args := #[.tmp 39, .tmp 47], argTypes := #[3, 3] }, 3, "storm.go:46", #[⟨7, .data⟩, ⟨15, .data⟩], none⟩
def Z69 : Oper := ⟨some 6, .assign (.tmp 48), 3, "storm.go:46", #[⟨16, .data⟩, ⟨15, .chain⟩, ⟨0, .phase⟩, ⟨1, .phase⟩, ⟨2, .phase⟩, ⟨3, .phase⟩, ⟨4, .phase⟩, ⟨5, .phase⟩, ⟨6, .phase⟩, ⟨7, .phase⟩, ⟨8, .phase⟩, ⟨9, .phase⟩, ⟨10, .phase⟩, ⟨11, .phase⟩, ⟨12, .phase⟩, ⟨13, .phase⟩, ⟨14, .phase⟩, ⟨15, .phase⟩, ⟨16, .phase⟩], none⟩
set_option maxRecDepth 100000 in
set_option maxHeartbeats 1000000 in
theorem speedDn_any (x1 x2 y1 y2 r m1 m2 p1 p2 : Int) (M q : Int) (w : World) (hr : 1 ≤ r ∧ r ≤ 1000000) (hM : 0 ≤ M ∧ M ≤ 10000) (hq : 0 ≤ q ∧ q ≤ 1000000000) :
 Calls Tryd.prog 125 #[.agg #[.int .i64 (x1), .int .i64 (x2), .int .i64 (y1), .int .i64 (y2), .int .i64 (r), .int .i64 (m1), .int .i64 (m2), .int .i64 (p1), .int .i64 (p2)], .int .i64 M, .int .i64 q, .func (.func 80) #[] #[]] w fun e w' => e = .returned (.int .i64 (vLo r M q)) ∧ Below w.heap.size w w' := by
 have k1 : 0 ≤ M * q ∧ M * q ≤ 10000 * 1000000000 := ⟨Int.mul_nonneg (by omega) (by omega), Int.mul_le_mul (by omega) (by omega) (by omega) (by omega)⟩
 have k2 : 0 ≤ M * r ∧ M * r ≤ 10000 * 1000000 := ⟨Int.mul_nonneg (by omega) (by omega), Int.mul_le_mul (by omega) (by omega) (by omega) (by omega)⟩
 have wr0 : IntKind.i64.wrap (M * q) = M * q := IntWalk.i64_in _ (by omega)
 have wr1 : IntKind.i64.wrap (M * r) = M * r := IntWalk.i64_in _ (by omega)
 by_cases h : q ≤ r
 ·
  have hv : vLo r M q = M * q / r := by unfold vLo topZ botZ; rw [if_pos h, if_pos h]
  rw [hv]
  obtain ⟨P, hP⟩ : ∃ z, M * q / r = z := ⟨_, rfl⟩
  rw [hP]
  have HP := Lib.hid hP
  clear hP hv
  go_enter Tryd.func125, Tryd.ntmps125
  go_upto_region 1 with (fail)
  obtain ⟨Va1, hV⟩ : ∃ V, w.alloc (.cells #[.int .i64 (x1), .int .i64 (x2), .int .i64 (y1), .int .i64 (y2), .int .i64 (r), .int .i64 (m1), .int .i64 (m2), .int .i64 (p1), .int .i64 (p2)] 70) = V := ⟨_, rfl⟩
  have Kb1 : Hid (Blk Va1 (w.heap.size) 70 #[.int .i64 (x1), .int .i64 (x2), .int .i64 (y1), .int .i64 (y2), .int .i64 (r), .int .i64 (m1), .int .i64 (m2), .int .i64 (p1), .int .i64 (p2)]) := by rw [← hV]; exact Blk.new' _ _ _ (by simp)
  have GHB : Hid (Below w.heap.size w Va1) := by rw [← hV]; exact (by repeat (first | exact Below.refl _ _ | assumption | refine Below.drew ?_ | refine Below.drewN' ?_ _ | (refine Below.alloc ?_ (by simp <;> omega) _) | (refine Below.setCell ?_ (by simp <;> omega) _)))
  have HZ : Hid (Below w.heap.size w Va1) := GHB
  rw [hV]
  clear hV HZ
  have HB := GHB
  clear GHB
  obtain ⟨b1, hqb1⟩ : ∃ b, w.heap.size = b := ⟨_, rfl⟩
  have gb1 : w.heap.size ≤ b1 := by omega
  have HN : Hid (w.heap.size = b1) := hqb1
  rw [hqb1] at Kb1 ⊢
  clear hqb1
  have Hb1 := Kb1
  clear Kb1
  have cb10 := kcl0 Hb1
  have cb11 := kcl1 Hb1
  have cb12 := kcl2 Hb1
  have cb13 := kcl3 Hb1
  have cb14 := kcl4 Hb1
  have cb15 := kcl5 Hb1
  have cb16 := kcl6 Hb1
  have cb17 := kcl7 Hb1
  have cb18 := kcl8 Hb1
  go_wp2_with fail
  refine (down_any (M * q) r _ (by omega) (by omega) (by omega)).mono ?_
  rintro e Va2 ⟨rfl, hw⟩
  obtain rfl := hw
  rw [HP.out]
  clear cb10 cb11 cb12 cb13 cb14 cb15 cb16 cb17 cb18
  go_wp2
  go_ret
  exact ⟨rfl, HB.out⟩
 ·
  have hv : vLo r M q = M * r / q := by unfold vLo topZ botZ; rw [if_neg h, if_neg h]
  rw [hv]
  obtain ⟨P, hP⟩ : ∃ z, M * r / q = z := ⟨_, rfl⟩
  rw [hP]
  have HP := Lib.hid hP
  clear hP hv
  go_enter Tryd.func125, Tryd.ntmps125
  go_upto_region 1 with (fail)
  obtain ⟨Va1, hV⟩ : ∃ V, w.alloc (.cells #[.int .i64 (x1), .int .i64 (x2), .int .i64 (y1), .int .i64 (y2), .int .i64 (r), .int .i64 (m1), .int .i64 (m2), .int .i64 (p1), .int .i64 (p2)] 70) = V := ⟨_, rfl⟩
  have Kb1 : Hid (Blk Va1 (w.heap.size) 70 #[.int .i64 (x1), .int .i64 (x2), .int .i64 (y1), .int .i64 (y2), .int .i64 (r), .int .i64 (m1), .int .i64 (m2), .int .i64 (p1), .int .i64 (p2)]) := by rw [← hV]; exact Blk.new' _ _ _ (by simp)
  have GHB : Hid (Below w.heap.size w Va1) := by rw [← hV]; exact (by repeat (first | exact Below.refl _ _ | assumption | refine Below.drew ?_ | refine Below.drewN' ?_ _ | (refine Below.alloc ?_ (by simp <;> omega) _) | (refine Below.setCell ?_ (by simp <;> omega) _)))
  have HZ : Hid (Below w.heap.size w Va1) := GHB
  rw [hV]
  clear hV HZ
  have HB := GHB
  clear GHB
  obtain ⟨b1, hqb1⟩ : ∃ b, w.heap.size = b := ⟨_, rfl⟩
  have gb1 : w.heap.size ≤ b1 := by omega
  have HN : Hid (w.heap.size = b1) := hqb1
  rw [hqb1] at Kb1 ⊢
  clear hqb1
  have Hb1 := Kb1
  clear Kb1
  have cb10 := kcl0 Hb1
  have cb11 := kcl1 Hb1
  have cb12 := kcl2 Hb1
  have cb13 := kcl3 Hb1
  have cb14 := kcl4 Hb1
  have cb15 := kcl5 Hb1
  have cb16 := kcl6 Hb1
  have cb17 := kcl7 Hb1
  have cb18 := kcl8 Hb1
  go_wp2_with fail
  refine (down_any (M * r) q _ (by omega) (by omega) (by omega)).mono ?_
  rintro e Va2 ⟨rfl, hw⟩
  obtain rfl := hw
  rw [HP.out]
  clear cb10 cb11 cb12 cb13 cb14 cb15 cb16 cb17 cb18
  go_wp2
  go_ret
  exact ⟨rfl, HB.out⟩
set_option maxRecDepth 100000 in
set_option maxHeartbeats 1000000 in
theorem speedUp_any (x1 x2 y1 y2 r m1 m2 p1 p2 : Int) (M q : Int) (w : World) (hr : 1 ≤ r ∧ r ≤ 1000000) (hM : 0 ≤ M ∧ M ≤ 10000) (hq : 0 ≤ q ∧ q ≤ 1000000000) :
 Calls Tryd.prog 125 #[.agg #[.int .i64 (x1), .int .i64 (x2), .int .i64 (y1), .int .i64 (y2), .int .i64 (r), .int .i64 (m1), .int .i64 (m2), .int .i64 (p1), .int .i64 (p2)], .int .i64 M, .int .i64 q, .func (.func 81) #[] #[]] w fun e w' => e = .returned (.int .i64 (vHi r M q)) ∧ Below w.heap.size w w' := by
 have k1 : 0 ≤ M * q ∧ M * q ≤ 10000 * 1000000000 := ⟨Int.mul_nonneg (by omega) (by omega), Int.mul_le_mul (by omega) (by omega) (by omega) (by omega)⟩
 have k2 : 0 ≤ M * r ∧ M * r ≤ 10000 * 1000000 := ⟨Int.mul_nonneg (by omega) (by omega), Int.mul_le_mul (by omega) (by omega) (by omega) (by omega)⟩
 have wr0 : IntKind.i64.wrap (M * q) = M * q := IntWalk.i64_in _ (by omega)
 have wr1 : IntKind.i64.wrap (M * r) = M * r := IntWalk.i64_in _ (by omega)
 by_cases h : q ≤ r
 ·
  have hv : vHi r M q = upQ (M * q) r := by unfold vHi topZ botZ; rw [if_pos h, if_pos h]
  rw [hv]
  obtain ⟨P, hP⟩ : ∃ z, upQ (M * q) r = z := ⟨_, rfl⟩
  rw [hP]
  have HP := Lib.hid hP
  clear hP hv
  go_enter Tryd.func125, Tryd.ntmps125
  go_upto_region 1 with (fail)
  obtain ⟨Va1, hV⟩ : ∃ V, w.alloc (.cells #[.int .i64 (x1), .int .i64 (x2), .int .i64 (y1), .int .i64 (y2), .int .i64 (r), .int .i64 (m1), .int .i64 (m2), .int .i64 (p1), .int .i64 (p2)] 70) = V := ⟨_, rfl⟩
  have Kb1 : Hid (Blk Va1 (w.heap.size) 70 #[.int .i64 (x1), .int .i64 (x2), .int .i64 (y1), .int .i64 (y2), .int .i64 (r), .int .i64 (m1), .int .i64 (m2), .int .i64 (p1), .int .i64 (p2)]) := by rw [← hV]; exact Blk.new' _ _ _ (by simp)
  have GHB : Hid (Below w.heap.size w Va1) := by rw [← hV]; exact (by repeat (first | exact Below.refl _ _ | assumption | refine Below.drew ?_ | refine Below.drewN' ?_ _ | (refine Below.alloc ?_ (by simp <;> omega) _) | (refine Below.setCell ?_ (by simp <;> omega) _)))
  have HZ : Hid (Below w.heap.size w Va1) := GHB
  rw [hV]
  clear hV HZ
  have HB := GHB
  clear GHB
  obtain ⟨b1, hqb1⟩ : ∃ b, w.heap.size = b := ⟨_, rfl⟩
  have gb1 : w.heap.size ≤ b1 := by omega
  have HN : Hid (w.heap.size = b1) := hqb1
  rw [hqb1] at Kb1 ⊢
  clear hqb1
  have Hb1 := Kb1
  clear Kb1
  have cb10 := kcl0 Hb1
  have cb11 := kcl1 Hb1
  have cb12 := kcl2 Hb1
  have cb13 := kcl3 Hb1
  have cb14 := kcl4 Hb1
  have cb15 := kcl5 Hb1
  have cb16 := kcl6 Hb1
  have cb17 := kcl7 Hb1
  have cb18 := kcl8 Hb1
  go_wp2_with fail
  refine (up_any (M * q) r _ (by omega) (by omega) (by omega)).mono ?_
  rintro e Va2 ⟨rfl, hw⟩
  obtain rfl := hw
  rw [HP.out]
  clear cb10 cb11 cb12 cb13 cb14 cb15 cb16 cb17 cb18
  go_wp2
  go_ret
  exact ⟨rfl, HB.out⟩
 ·
  have hv : vHi r M q = upQ (M * r) q := by unfold vHi topZ botZ; rw [if_neg h, if_neg h]
  rw [hv]
  obtain ⟨P, hP⟩ : ∃ z, upQ (M * r) q = z := ⟨_, rfl⟩
  rw [hP]
  have HP := Lib.hid hP
  clear hP hv
  go_enter Tryd.func125, Tryd.ntmps125
  go_upto_region 1 with (fail)
  obtain ⟨Va1, hV⟩ : ∃ V, w.alloc (.cells #[.int .i64 (x1), .int .i64 (x2), .int .i64 (y1), .int .i64 (y2), .int .i64 (r), .int .i64 (m1), .int .i64 (m2), .int .i64 (p1), .int .i64 (p2)] 70) = V := ⟨_, rfl⟩
  have Kb1 : Hid (Blk Va1 (w.heap.size) 70 #[.int .i64 (x1), .int .i64 (x2), .int .i64 (y1), .int .i64 (y2), .int .i64 (r), .int .i64 (m1), .int .i64 (m2), .int .i64 (p1), .int .i64 (p2)]) := by rw [← hV]; exact Blk.new' _ _ _ (by simp)
  have GHB : Hid (Below w.heap.size w Va1) := by rw [← hV]; exact (by repeat (first | exact Below.refl _ _ | assumption | refine Below.drew ?_ | refine Below.drewN' ?_ _ | (refine Below.alloc ?_ (by simp <;> omega) _) | (refine Below.setCell ?_ (by simp <;> omega) _)))
  have HZ : Hid (Below w.heap.size w Va1) := GHB
  rw [hV]
  clear hV HZ
  have HB := GHB
  clear GHB
  obtain ⟨b1, hqb1⟩ : ∃ b, w.heap.size = b := ⟨_, rfl⟩
  have gb1 : w.heap.size ≤ b1 := by omega
  have HN : Hid (w.heap.size = b1) := hqb1
  rw [hqb1] at Kb1 ⊢
  clear hqb1
  have Hb1 := Kb1
  clear Kb1
  have cb10 := kcl0 Hb1
  have cb11 := kcl1 Hb1
  have cb12 := kcl2 Hb1
  have cb13 := kcl3 Hb1
  have cb14 := kcl4 Hb1
  have cb15 := kcl5 Hb1
  have cb16 := kcl6 Hb1
  have cb17 := kcl7 Hb1
  have cb18 := kcl8 Hb1
  go_wp2_with fail
  refine (up_any (M * r) q _ (by omega) (by omega) (by omega)).mono ?_
  rintro e Va2 ⟨rfl, hw⟩
  obtain rfl := hw
  rw [HP.out]
  clear cb10 cb11 cb12 cb13 cb14 cb15 cb16 cb17 cb18
  go_wp2
  go_ret
  exact ⟨rfl, HB.out⟩
set_option maxRecDepth 100000 in
set_option maxHeartbeats 1000000 in
theorem lows_any (x1 x2 y1 y2 r m1 m2 p1 p2 : Int) (q1 q2 : Int) (w : World) :
 Calls Tryd.prog 97 #[.agg #[.int .i64 (x1), .int .i64 (x2), .int .i64 (y1), .int .i64 (y2), .int .i64 (r), .int .i64 (m1), .int .i64 (m2), .int .i64 (p1), .int .i64 (p2)], .agg #[.int .i64 q1, .int .i64 q2]] w fun e w' => e = .returned (.agg #[.int .i64 (lowZ ⟨(x1, x2), (y1, y2), r, (m1, m2), (p1, p2)⟩ (q1, q2)).1, .int .i64 (lowZ ⟨(x1, x2), (y1, y2), r, (m1, m2), (p1, p2)⟩ (q1, q2)).2]) ∧ Below w.heap.size w w' := by
 by_cases h : r < q2
 ·
  have hv : lowZ ⟨(x1, x2), (y1, y2), r, (m1, m2), (p1, p2)⟩ (q1, q2) = (0, p2) := if_pos h
  rw [hv]
  clear hv
  go_enter Tryd.func97, Tryd.ntmps97
  go_upto_region 1 with (fail)
  obtain ⟨Va1, hV⟩ : ∃ V, ((w.alloc (.cells #[.int .i64 (x1), .int .i64 (x2), .int .i64 (y1), .int .i64 (y2), .int .i64 (r), .int .i64 (m1), .int .i64 (m2), .int .i64 (p1), .int .i64 (p2)] 70)).alloc (.cells #[.int .i64 (q1), .int .i64 (q2)] 108)).alloc (.cells #[.int .i64 (0), .int .i64 (0)] 26) = V := ⟨_, rfl⟩
  have Kb1 : Hid (Blk Va1 (w.heap.size) 70 #[.int .i64 (x1), .int .i64 (x2), .int .i64 (y1), .int .i64 (y2), .int .i64 (r), .int .i64 (m1), .int .i64 (m2), .int .i64 (p1), .int .i64 (p2)]) := by rw [← hV]; exact ((Blk.new' _ _ _ (by simp)).alloc _).alloc _
  have Kb2 : Hid (Blk Va1 (w.heap.size + 1) 108 #[.int .i64 (q1), .int .i64 (q2)]) := by rw [← hV]; exact (Blk.new' _ _ _ (by simp)).alloc _
  have Kb3 : Hid (Blk Va1 (w.heap.size + 1 + 1) 26 #[.int .i64 (0), .int .i64 (0)]) := by rw [← hV]; exact Blk.new' _ _ _ (by simp)
  have GHB : Hid (Below w.heap.size w Va1) := by rw [← hV]; exact (by repeat (first | exact Below.refl _ _ | assumption | refine Below.drew ?_ | refine Below.drewN' ?_ _ | (refine Below.alloc ?_ (by simp <;> omega) _) | (refine Below.setCell ?_ (by simp <;> omega) _)))
  have HZ : Hid (Below w.heap.size w Va1) := GHB
  rw [hV]
  clear hV HZ
  have HB := GHB
  clear GHB
  obtain ⟨b3, hqb3⟩ : ∃ b, w.heap.size + 1 + 1 = b := ⟨_, rfl⟩
  obtain ⟨b2, hqb2⟩ : ∃ b, w.heap.size + 1 = b := ⟨_, rfl⟩
  obtain ⟨b1, hqb1⟩ : ∃ b, w.heap.size = b := ⟨_, rfl⟩
  have gb1 : w.heap.size ≤ b1 := by omega
  have gb2 : w.heap.size ≤ b2 := by omega
  have nb2b1 : ¬ b2 = b1 := by omega
  have nb1b2 : ¬ b1 = b2 := by omega
  have gb3 : w.heap.size ≤ b3 := by omega
  have nb3b1 : ¬ b3 = b1 := by omega
  have nb1b3 : ¬ b1 = b3 := by omega
  have nb3b2 : ¬ b3 = b2 := by omega
  have nb2b3 : ¬ b2 = b3 := by omega
  rw [hqb3] at Kb3 ⊢
  clear hqb3
  rw [hqb2] at Kb2 ⊢
  clear hqb2
  have HN : Hid (w.heap.size = b1) := hqb1
  rw [hqb1] at Kb1 ⊢
  clear hqb1
  have Hb1 := Kb1
  clear Kb1
  have Hb2 := Kb2
  clear Kb2
  have Hb3 := Kb3
  clear Kb3
  have cb10 := kcl0 Hb1
  have cb11 := kcl1 Hb1
  have cb12 := kcl2 Hb1
  have cb13 := kcl3 Hb1
  have cb14 := kcl4 Hb1
  have cb15 := kcl5 Hb1
  have cb16 := kcl6 Hb1
  have cb17 := kcl7 Hb1
  have cb18 := kcl8 Hb1
  have cb20 := kcl0 Hb2
  have cb21 := kcl1 Hb2
  have cb30 := kcl0 Hb3
  have cb31 := kcl1 Hb3
  have zb30 : Va1.frozen? ⟨b3, 0, none⟩ = false := Hb3.out.frozen 0
  have zb31 : Va1.frozen? ⟨b3, 1, none⟩ = false := Hb3.out.frozen 1
  go_wp2
  have hR := fun x y => span_res2 Hb3.out x y
  refine bodyPost_ret (v := .agg #[.int .i64 (0), .int .i64 p2]) (by simp [results, Tryd.results97, go_sem, hR]) rfl ⟨rfl, ?_⟩
  exact (HB.out.setCell (p := ⟨b3, 0, none⟩) gb3 _).setCell (p := ⟨b3, 1, none⟩) (by exact gb3) _
 ·
  have hv : lowZ ⟨(x1, x2), (y1, y2), r, (m1, m2), (p1, p2)⟩ (q1, q2) = (p1, p2) := if_neg h
  rw [hv]
  clear hv
  go_enter Tryd.func97, Tryd.ntmps97
  go_upto_region 1 with (fail)
  obtain ⟨Va1, hV⟩ : ∃ V, ((w.alloc (.cells #[.int .i64 (x1), .int .i64 (x2), .int .i64 (y1), .int .i64 (y2), .int .i64 (r), .int .i64 (m1), .int .i64 (m2), .int .i64 (p1), .int .i64 (p2)] 70)).alloc (.cells #[.int .i64 (q1), .int .i64 (q2)] 108)).alloc (.cells #[.int .i64 (0), .int .i64 (0)] 26) = V := ⟨_, rfl⟩
  have Kb1 : Hid (Blk Va1 (w.heap.size) 70 #[.int .i64 (x1), .int .i64 (x2), .int .i64 (y1), .int .i64 (y2), .int .i64 (r), .int .i64 (m1), .int .i64 (m2), .int .i64 (p1), .int .i64 (p2)]) := by rw [← hV]; exact ((Blk.new' _ _ _ (by simp)).alloc _).alloc _
  have Kb2 : Hid (Blk Va1 (w.heap.size + 1) 108 #[.int .i64 (q1), .int .i64 (q2)]) := by rw [← hV]; exact (Blk.new' _ _ _ (by simp)).alloc _
  have Kb3 : Hid (Blk Va1 (w.heap.size + 1 + 1) 26 #[.int .i64 (0), .int .i64 (0)]) := by rw [← hV]; exact Blk.new' _ _ _ (by simp)
  have GHB : Hid (Below w.heap.size w Va1) := by rw [← hV]; exact (by repeat (first | exact Below.refl _ _ | assumption | refine Below.drew ?_ | refine Below.drewN' ?_ _ | (refine Below.alloc ?_ (by simp <;> omega) _) | (refine Below.setCell ?_ (by simp <;> omega) _)))
  have HZ : Hid (Below w.heap.size w Va1) := GHB
  rw [hV]
  clear hV HZ
  have HB := GHB
  clear GHB
  obtain ⟨b3, hqb3⟩ : ∃ b, w.heap.size + 1 + 1 = b := ⟨_, rfl⟩
  obtain ⟨b2, hqb2⟩ : ∃ b, w.heap.size + 1 = b := ⟨_, rfl⟩
  obtain ⟨b1, hqb1⟩ : ∃ b, w.heap.size = b := ⟨_, rfl⟩
  have gb1 : w.heap.size ≤ b1 := by omega
  have gb2 : w.heap.size ≤ b2 := by omega
  have nb2b1 : ¬ b2 = b1 := by omega
  have nb1b2 : ¬ b1 = b2 := by omega
  have gb3 : w.heap.size ≤ b3 := by omega
  have nb3b1 : ¬ b3 = b1 := by omega
  have nb1b3 : ¬ b1 = b3 := by omega
  have nb3b2 : ¬ b3 = b2 := by omega
  have nb2b3 : ¬ b2 = b3 := by omega
  rw [hqb3] at Kb3 ⊢
  clear hqb3
  rw [hqb2] at Kb2 ⊢
  clear hqb2
  have HN : Hid (w.heap.size = b1) := hqb1
  rw [hqb1] at Kb1 ⊢
  clear hqb1
  have Hb1 := Kb1
  clear Kb1
  have Hb2 := Kb2
  clear Kb2
  have Hb3 := Kb3
  clear Kb3
  have cb10 := kcl0 Hb1
  have cb11 := kcl1 Hb1
  have cb12 := kcl2 Hb1
  have cb13 := kcl3 Hb1
  have cb14 := kcl4 Hb1
  have cb15 := kcl5 Hb1
  have cb16 := kcl6 Hb1
  have cb17 := kcl7 Hb1
  have cb18 := kcl8 Hb1
  have cb20 := kcl0 Hb2
  have cb21 := kcl1 Hb2
  have cb30 := kcl0 Hb3
  have cb31 := kcl1 Hb3
  have zb30 : Va1.frozen? ⟨b3, 0, none⟩ = false := Hb3.out.frozen 0
  have zb31 : Va1.frozen? ⟨b3, 1, none⟩ = false := Hb3.out.frozen 1
  go_wp2
  have hR := fun x y => span_res2 Hb3.out x y
  refine bodyPost_ret (v := .agg #[.int .i64 (p1), .int .i64 p2]) (by simp [results, Tryd.results97, go_sem, hR]) rfl ⟨rfl, ?_⟩
  exact (HB.out.setCell (p := ⟨b3, 0, none⟩) gb3 _).setCell (p := ⟨b3, 1, none⟩) (by exact gb3) _
set_option maxRecDepth 100000 in
set_option maxHeartbeats 1000000 in
theorem straight_any (p1 p2 q1 q2 : Int) (w : World) (hp : -1000000000 ≤ p1 ∧ p2 ≤ 1000000000) (hq : (-1000000000 ≤ q1 ∧ q1 ≤ 1000000000) ∧ (-1000000000 ≤ q2 ∧ q2 ≤ 1000000000)) :
 Calls Tryd.prog 127 #[.agg #[.int .i64 p1, .int .i64 p2], .agg #[.int .i64 q1, .int .i64 q2]] w fun e w' => e = .returned (.bool (strB (p1, p2) (q1, q2))) ∧ Below w.heap.size w w' := by
 by_cases h : 0 < p2
 ·
  have hn : 0 ≤ nearZ (q1, q2) ∧ nearZ (q1, q2) ≤ 1000000000 := by unfold nearZ; simp only; omega
  obtain ⟨N, hN⟩ : ∃ z, nearZ (q1, q2) = z := ⟨_, rfl⟩
  have hv : strB (p1, p2) (q1, q2) = decide (12 * N ≤ 5 * p2) := by unfold strB; rw [hN]; simp [h]
  rw [hv]
  rw [hN] at hn
  have HNE := Lib.hid hN
  clear hN hv
  have wr0 : IntKind.i64.wrap (12 * N) = 12 * N := IntWalk.i64_in _ (by omega)
  have wr1 : IntKind.i64.wrap (5 * p2) = 5 * p2 := IntWalk.i64_in _ (by omega)
  go_enter Tryd.func127, Tryd.ntmps127
  go_upto_region 1 with (fail)
  obtain ⟨Va1, hV⟩ : ∃ V, (w.alloc (.cells #[.int .i64 (p1), .int .i64 (p2)] 108)).alloc (.cells #[.int .i64 (q1), .int .i64 (q2)] 108) = V := ⟨_, rfl⟩
  have Kb1 : Hid (Blk Va1 (w.heap.size) 108 #[.int .i64 (p1), .int .i64 (p2)]) := by rw [← hV]; exact (Blk.new' _ _ _ (by simp)).alloc _
  have Kb2 : Hid (Blk Va1 (w.heap.size + 1) 108 #[.int .i64 (q1), .int .i64 (q2)]) := by rw [← hV]; exact Blk.new' _ _ _ (by simp)
  have GHB : Hid (Below w.heap.size w Va1) := by rw [← hV]; exact (by repeat (first | exact Below.refl _ _ | assumption | refine Below.drew ?_ | refine Below.drewN' ?_ _ | (refine Below.alloc ?_ (by simp <;> omega) _) | (refine Below.setCell ?_ (by simp <;> omega) _)))
  have HZ : Hid (Below w.heap.size w Va1) := GHB
  rw [hV]
  clear hV HZ
  have HB := GHB
  clear GHB
  obtain ⟨b2, hqb2⟩ : ∃ b, w.heap.size + 1 = b := ⟨_, rfl⟩
  obtain ⟨b1, hqb1⟩ : ∃ b, w.heap.size = b := ⟨_, rfl⟩
  have gb1 : w.heap.size ≤ b1 := by omega
  have gb2 : w.heap.size ≤ b2 := by omega
  have nb2b1 : ¬ b2 = b1 := by omega
  have nb1b2 : ¬ b1 = b2 := by omega
  rw [hqb2] at Kb2 ⊢
  clear hqb2
  have HN : Hid (w.heap.size = b1) := hqb1
  rw [hqb1] at Kb1 ⊢
  clear hqb1
  have Hb1 := Kb1
  clear Kb1
  have Hb2 := Kb2
  clear Kb2
  go_upto_region 1 with (fail)
  have HSV : Hid (∀ U, Below Va1.heap.size Va1 U → U.cell? ⟨b1, 0, none⟩ = some (.int .i64 (p1)) ∧ U.cell? ⟨b1, 1, none⟩ = some (.int .i64 (p2)) ∧ U.cell? ⟨b2, 0, none⟩ = some (.int .i64 (q1)) ∧ U.cell? ⟨b2, 1, none⟩ = some (.int .i64 (q2))) := fun U hU => by
   have kb1 := Hb1.out.below hU Hb1.out.lt
   have kb2 := Hb2.out.below hU Hb2.out.lt
   exact ⟨kb1.cell 0, kb1.cell 1, kb2.cell 0, kb2.cell 1⟩
  have k0 := HSV.out _ (Below.drew (Below.refl Va1.heap.size Va1))
  refine wp_region_noPanic ?_
  refine wp_region_held_drew (S := (fun w' => w'.cell? ⟨b1, 0, none⟩ = some (.int .i64 (p1)) ∧ w'.cell? ⟨b1, 1, none⟩ = some (.int .i64 (p2)) ∧ w'.cell? ⟨b2, 0, none⟩ = some (.int .i64 (q1)) ∧ w'.cell? ⟨b2, 1, none⟩ = some (.int .i64 (q2)))) (by kernel_rfl) ?_ (fun hHeld => ?_)
  · (try dsimp only); (exact k0)
  refine tH 0 Z4v ?_ ?_ ?_
  rotate_left
  · ((intro w hSw; delta Z4v; (try dsimp only at hSw); go_simp) <;> with_reducible rfl)
  try simp only [Z4v, ksz]
  refine tH 1 Z4w ?_ ?_ ?_
  rotate_left
  · ((intro w hSw; delta Z4w; (try dsimp only at hSw); go_simp) <;> with_reducible rfl)
  try simp only [Z4w, ksz]
  refine tH 2 Z4x ?_ ?_ ?_
  rotate_left
  · ((intro w hSw; delta Z4x; (try dsimp only at hSw); go_simp) <;> with_reducible rfl)
  try simp only [Z4x, ksz]
  refine tH 3 Z4y ?_ ?_ ?_
  rotate_left
  · ((intro w hSw; delta Z4y; (try dsimp only at hSw); go_simp) <;> with_reducible rfl)
  try simp only [Z4y, ksz]
  refine tH 4 Z4z ?_ ?_ ?_
  rotate_left
  · ((intro w hSw; delta Z4z; (try dsimp only at hSw); go_simp) <;> with_reducible rfl)
  try simp only [Z4z, ksz]
  refine tH 5 Z50 ?_ ?_ ?_
  rotate_left
  · ((intro w hSw; delta Z50; (try dsimp only at hSw); go_simp) <;> with_reducible rfl)
  try simp only [Z50, ksz]
  refine tH 8 Z53 ?_ ?_ ?_
  rotate_left
  · ((intro w hSw; delta Z53; (try dsimp only at hSw); go_simp) <;> with_reducible rfl)
  try simp only [Z53, ksz]
  refine tH 9 Z54 ?_ ?_ ?_
  rotate_left
  · ((intro w hSw; delta Z54; (try dsimp only at hSw); go_simp) <;> with_reducible rfl)
  try simp only [Z54, ksz]
  refine tH 10 Z55 ?_ ?_ ?_
  rotate_left
  · ((intro w hSw; delta Z55; (try dsimp only at hSw); go_simp) <;> with_reducible rfl)
  try simp only [Z55, ksz]
  refine tH 11 Z56 ?_ ?_ ?_
  rotate_left
  · ((intro w hSw; delta Z56; (try dsimp only at hSw); go_simp) <;> with_reducible rfl)
  try simp only [Z56, ksz]
  obtain ⟨W0, hW0⟩ : ∃ V, Va1.drew = V := ⟨_, rfl⟩; rw [hW0] at hHeld ⊢; have HB0 : Hid (Below Va1.heap.size Va1 W0) := (by rw [← hW0]; exact Below.drew (Below.refl _ _)); clear hW0
  refine wpAnyH_ready (rs := [6]) (by kernel_rfl) (by simp) ?_
  refine AllReadyH.cons (o := Z51) rfl (fun K hK => ?_) AllReadyH.nil
  delta Z51
  go_simp
  (refine (nearest_any q1 q2 _ (by omega)).mono ?_; rintro e W1 ⟨rfl, hb⟩; have HB1 := Lib.hid (HB0.out.trans (hb.mono HB0.out.size)); clear hb; rw [HNE.out])
  refine hK.out _ _ ?_ (fun hHeld => ?_)
  · (try dsimp only); (exact HSV.out _ HB1.out)
  clear hK K
  try simp only [Z51, ksz]
  refine tH 7 Z52 ?_ ?_ ?_
  rotate_left
  · ((intro w hSw; delta Z52; (try dsimp only at hSw); go_simp) <;> with_reducible rfl)
  try simp only [Z52, ksz]
  refine tH 12 Z57 ?_ ?_ ?_
  rotate_left
  · ((intro w hSw; delta Z57; (try dsimp only at hSw); go_simp) <;> with_reducible rfl)
  try simp only [Z57, ksz]
  refine tH 13 Z58 ?_ ?_ ?_
  rotate_left
  · ((intro w hSw; delta Z58; (try dsimp only at hSw); go_simp) <;> with_reducible rfl)
  try simp only [Z58, ksz]
  refine tH 14 Z59 ?_ ?_ ?_
  rotate_left
  · ((intro w hSw; delta Z59; (try dsimp only at hSw); go_simp) <;> with_reducible rfl)
  try simp only [Z59, ksz]
  refine wpAnyH_done (by kernel_rfl) ?_ _
  refine NoPanic.normal ?_
  clear HSV k0
  clear hHeld HB0
  obtain ⟨Va2, hVU⟩ : ∃ V, W1 = V := ⟨_, rfl⟩
  rw [hVU] at HB1 ⊢
  have HZ := HB1
  clear HB1 hVU
  replace Hb1 := kbl Hb1 HZ
  replace Hb2 := kbl Hb2 HZ
  replace HB := ktr' HB HZ
  clear HZ
  go_wp2
  go_ret
  exact ⟨rfl, HB.out⟩
 ·
  have hv : strB (p1, p2) (q1, q2) = false := by unfold strB; simp [h]
  rw [hv]
  clear hv
  go_enter Tryd.func127, Tryd.ntmps127
  go_upto_region 1 with (fail)
  obtain ⟨Va1, hV⟩ : ∃ V, (w.alloc (.cells #[.int .i64 (p1), .int .i64 (p2)] 108)).alloc (.cells #[.int .i64 (q1), .int .i64 (q2)] 108) = V := ⟨_, rfl⟩
  have Kb1 : Hid (Blk Va1 (w.heap.size) 108 #[.int .i64 (p1), .int .i64 (p2)]) := by rw [← hV]; exact (Blk.new' _ _ _ (by simp)).alloc _
  have Kb2 : Hid (Blk Va1 (w.heap.size + 1) 108 #[.int .i64 (q1), .int .i64 (q2)]) := by rw [← hV]; exact Blk.new' _ _ _ (by simp)
  have GHB : Hid (Below w.heap.size w Va1) := by rw [← hV]; exact (by repeat (first | exact Below.refl _ _ | assumption | refine Below.drew ?_ | refine Below.drewN' ?_ _ | (refine Below.alloc ?_ (by simp <;> omega) _) | (refine Below.setCell ?_ (by simp <;> omega) _)))
  have HZ : Hid (Below w.heap.size w Va1) := GHB
  rw [hV]
  clear hV HZ
  have HB := GHB
  clear GHB
  obtain ⟨b2, hqb2⟩ : ∃ b, w.heap.size + 1 = b := ⟨_, rfl⟩
  obtain ⟨b1, hqb1⟩ : ∃ b, w.heap.size = b := ⟨_, rfl⟩
  have gb1 : w.heap.size ≤ b1 := by omega
  have gb2 : w.heap.size ≤ b2 := by omega
  have nb2b1 : ¬ b2 = b1 := by omega
  have nb1b2 : ¬ b1 = b2 := by omega
  rw [hqb2] at Kb2 ⊢
  clear hqb2
  have HN : Hid (w.heap.size = b1) := hqb1
  rw [hqb1] at Kb1 ⊢
  clear hqb1
  have Hb1 := Kb1
  clear Kb1
  have Hb2 := Kb2
  clear Kb2
  go_upto_region 1 with (fail)
  have HSV : Hid (∀ U, Below Va1.heap.size Va1 U → U.cell? ⟨b1, 0, none⟩ = some (.int .i64 (p1)) ∧ U.cell? ⟨b1, 1, none⟩ = some (.int .i64 (p2)) ∧ U.cell? ⟨b2, 0, none⟩ = some (.int .i64 (q1)) ∧ U.cell? ⟨b2, 1, none⟩ = some (.int .i64 (q2))) := fun U hU => by
   have kb1 := Hb1.out.below hU Hb1.out.lt
   have kb2 := Hb2.out.below hU Hb2.out.lt
   exact ⟨kb1.cell 0, kb1.cell 1, kb2.cell 0, kb2.cell 1⟩
  have k0 := HSV.out _ (Below.drew (Below.refl Va1.heap.size Va1))
  refine wp_region_noPanic ?_
  refine wp_region_held_drew (S := (fun w' => w'.cell? ⟨b1, 0, none⟩ = some (.int .i64 (p1)) ∧ w'.cell? ⟨b1, 1, none⟩ = some (.int .i64 (p2)) ∧ w'.cell? ⟨b2, 0, none⟩ = some (.int .i64 (q1)) ∧ w'.cell? ⟨b2, 1, none⟩ = some (.int .i64 (q2)))) (by kernel_rfl) ?_ (fun hHeld => ?_)
  · (try dsimp only); (exact k0)
  refine tH 0 Z4v ?_ ?_ ?_
  rotate_left
  · ((intro w hSw; delta Z4v; (try dsimp only at hSw); go_simp) <;> with_reducible rfl)
  try simp only [Z4v, ksz]
  refine tH 1 Z4w ?_ ?_ ?_
  rotate_left
  · ((intro w hSw; delta Z4w; (try dsimp only at hSw); go_simp) <;> with_reducible rfl)
  try simp only [Z4w, ksz]
  refine tH 2 Z4x ?_ ?_ ?_
  rotate_left
  · ((intro w hSw; delta Z4x; (try dsimp only at hSw); go_simp) <;> with_reducible rfl)
  try simp only [Z4x, ksz]
  refine tH 3 Z4y ?_ ?_ ?_
  rotate_left
  · ((intro w hSw; delta Z4y; (try dsimp only at hSw); go_simp) <;> with_reducible rfl)
  try simp only [Z4y, ksz]
  refine tH 4 Z4z ?_ ?_ ?_
  rotate_left
  · ((intro w hSw; delta Z4z; (try dsimp only at hSw); go_simp) <;> with_reducible rfl)
  try simp only [Z4z, ksz]
  refine wpAnyH_take (i := 5) (oi := Z50) (v := undef) rfl (by kernel_rfl) (by kernel_rfl) (by kernel_rfl) (fun _ _ _ h => h) (Or.inr ⟨by rfl, rfl⟩) (by assumption) ?_
  try simp only [Z50, ksz]
  refine wpAnyH_take (i := 8) (oi := Z53) (v := undef) rfl (by kernel_rfl) (by kernel_rfl) (by kernel_rfl) (fun _ _ _ h => h) (Or.inr ⟨by rfl, rfl⟩) (by assumption) ?_
  try simp only [Z53, ksz]
  refine wpAnyH_take (i := 6) (oi := Z51) (v := undef) rfl (by kernel_rfl) (by kernel_rfl) (by kernel_rfl) (fun _ _ _ h => h) (Or.inr ⟨by rfl, rfl⟩) (by assumption) ?_
  try simp only [Z51, ksz]
  refine wpAnyH_take (i := 9) (oi := Z54) (v := undef) rfl (by kernel_rfl) (by kernel_rfl) (by kernel_rfl) (fun _ _ _ h => h) (Or.inr ⟨by rfl, rfl⟩) (by assumption) ?_
  try simp only [Z54, ksz]
  refine wpAnyH_take (i := 7) (oi := Z52) (v := undef) rfl (by kernel_rfl) (by kernel_rfl) (by kernel_rfl) (fun _ _ _ h => h) (Or.inr ⟨by rfl, rfl⟩) (by assumption) ?_
  try simp only [Z52, ksz]
  refine wpAnyH_take (i := 10) (oi := Z55) (v := undef) rfl (by kernel_rfl) (by kernel_rfl) (by kernel_rfl) (fun _ _ _ h => h) (Or.inr ⟨by rfl, rfl⟩) (by assumption) ?_
  try simp only [Z55, ksz]
  refine wpAnyH_take (i := 11) (oi := Z56) (v := undef) rfl (by kernel_rfl) (by kernel_rfl) (by kernel_rfl) (fun _ _ _ h => h) (Or.inr ⟨by rfl, rfl⟩) (by assumption) ?_
  try simp only [Z56, ksz]
  refine wpAnyH_take (i := 12) (oi := Z57) (v := undef) rfl (by kernel_rfl) (by kernel_rfl) (by kernel_rfl) (fun _ _ _ h => h) (Or.inr ⟨by rfl, rfl⟩) (by assumption) ?_
  try simp only [Z57, ksz]
  refine tH 13 Z58 ?_ ?_ ?_
  rotate_left
  · ((intro w hSw; delta Z58; (try dsimp only at hSw); go_simp) <;> with_reducible rfl)
  try simp only [Z58, ksz]
  refine tH 14 Z59 ?_ ?_ ?_
  rotate_left
  · ((intro w hSw; delta Z59; (try dsimp only at hSw); go_simp) <;> with_reducible rfl)
  try simp only [Z59, ksz]
  obtain ⟨W0, hW0⟩ : ∃ V, Va1.drew = V := ⟨_, rfl⟩; rw [hW0] at hHeld ⊢; have HB0 : Hid (Below Va1.heap.size Va1 W0) := (by rw [← hW0]; exact Below.drew (Below.refl _ _)); clear hW0
  refine wpAnyH_done (by kernel_rfl) ?_ _
  refine NoPanic.normal ?_
  clear HSV k0
  clear hHeld
  obtain ⟨Va2, hVU⟩ : ∃ V, W0 = V := ⟨_, rfl⟩
  rw [hVU] at HB0 ⊢
  have HZ := HB0
  clear HB0 hVU
  replace Hb1 := kbl Hb1 HZ
  replace Hb2 := kbl Hb2 HZ
  replace HB := ktr' HB HZ
  clear HZ
  go_wp2
  go_ret
  exact ⟨rfl, HB.out⟩
set_option maxRecDepth 100000 in
set_option maxHeartbeats 4000000 in
theorem aslant_any (p1 p2 q1 q2 : Int) (w : World) (hp : (-1000000000 ≤ p1 ∧ p1 ≤ 1000000000) ∧ (-1000000000 ≤ p2 ∧ p2 ≤ 1000000000)) (hq : (-1000000000 ≤ q1 ∧ q1 ≤ 1000000000) ∧ (-1000000000 ≤ q2 ∧ q2 ≤ 1000000000)) :
 Calls Tryd.prog 128 #[.agg #[.int .i64 p1, .int .i64 p2], .agg #[.int .i64 q1, .int .i64 q2]] w fun e w' => e = .returned (.bool (slaB (p1, p2) (q1, q2))) ∧ Below w.heap.size w w' := by
 by_cases h1 : 0 < p2
 rotate_left
 · go_enter Tryd.func128, Tryd.ntmps128
   go_wp2
   go_ret
   exact ⟨ret_bool (by simp [slaB]; omega), (by repeat (first | exact Below.refl _ _ | assumption | refine Below.drew ?_ | refine Below.drewN' ?_ _ | (refine Below.alloc ?_ (by simp <;> omega) _) | (refine Below.setCell ?_ (by simp <;> omega) _)))⟩
 by_cases h2 : 0 < q2
 rotate_left
 · go_enter Tryd.func128, Tryd.ntmps128
   go_wp2
   go_ret
   exact ⟨ret_bool (by simp [slaB]; omega), (by repeat (first | exact Below.refl _ _ | assumption | refine Below.drew ?_ | refine Below.drewN' ?_ _ | (refine Below.alloc ?_ (by simp <;> omega) _) | (refine Below.setCell ?_ (by simp <;> omega) _)))⟩
 by_cases h3 : p1 < 1
 all_goals by_cases h4 : q1 < 1
 all_goals by_cases h5 : 5 * max p1 1 ≤ 12 * q2
 all_goals first
 | (exfalso; omega)
 |
  have e3 : max p1 1 = if p1 < 1 then 1 else p1 := by split <;> omega
  have e4 : max q1 1 = if q1 < 1 then 1 else q1 := by split <;> omega
  simp only [h3, h4, if_true, if_false] at e3 e4
  have hv := Lib.hid (show slaB (p1, p2) (q1, q2) = (decide (5 * max p1 1 ≤ 12 * q2) && decide (5 * max q1 1 ≤ 12 * p2)) by unfold slaB; simp [h1, h2])
  rw [e3] at h5
  have E3 := Lib.hid e3
  have E4 := Lib.hid e4
  clear e3 e4
  go_enter Tryd.func128, Tryd.ntmps128
  go_wp2
  all_goals
   go_ret
   exact ⟨ret_bool (by rw [hv.out, E3.out, E4.out]; first | (simp [h5]; done) | (simp [h5]; omega)), (by repeat (first | exact Below.refl _ _ | assumption | refine Below.drew ?_ | refine Below.drewN' ?_ _ | (refine Below.alloc ?_ (by simp <;> omega) _) | (refine Below.setCell ?_ (by simp <;> omega) _)))⟩
set_option maxRecDepth 100000 in
set_option maxHeartbeats 4000000 in
theorem speeds_any (x1 x2 y1 y2 r m1 m2 p1 p2 : Int) (q1 q2 : Int) (w : World) (hr : 1 ≤ r ∧ r ≤ 1000000) (hm : 0 ≤ m1 ∧ m1 ≤ m2 ∧ m2 ≤ 10000) (hq : 0 ≤ q1 ∧ q1 ≤ q2 ∧ q2 ≤ 1000000000) :
 Calls Tryd.prog 94 #[.agg #[.int .i64 (x1), .int .i64 (x2), .int .i64 (y1), .int .i64 (y2), .int .i64 (r), .int .i64 (m1), .int .i64 (m2), .int .i64 (p1), .int .i64 (p2)], .agg #[.int .i64 q1, .int .i64 q2]] w fun e w' => e = .returned (.agg #[.int .i64 (speedZ ⟨(x1, x2), (y1, y2), r, (m1, m2), (p1, p2)⟩ (q1, q2)).1, .int .i64 (speedZ ⟨(x1, x2), (y1, y2), r, (m1, m2), (p1, p2)⟩ (q1, q2)).2]) ∧ Below w.heap.size w w' := by
 have hn : 0 ≤ q1 := hq.1
 have l1 := v_rng (R := r) (M := m1) (q := q1) hr.1 hm.1 (by omega)
 have l2 := v_rng (R := r) (M := m1) (q := q2) hr.1 hm.1 (by omega)
 have l3 := v_rng (R := r) (M := m2) (q := q1) hr.1 (by omega) (by omega)
 have l4 := v_rng (R := r) (M := m2) (q := q2) hr.1 (by omega) (by omega)
 unfold speedZ
 simp only
 obtain ⟨A1, hA1⟩ : ∃ z, vLo r m1 q1 = z := ⟨_, rfl⟩
 obtain ⟨A2, hA2⟩ : ∃ z, vLo r m1 q2 = z := ⟨_, rfl⟩
 obtain ⟨A3, hA3⟩ : ∃ z, vHi r m2 q1 = z := ⟨_, rfl⟩
 obtain ⟨A4, hA4⟩ : ∃ z, vHi r m2 q2 = z := ⟨_, rfl⟩
 rw [hA1, hA2, hA3, hA4]
 have HA1 := Lib.hid hA1
 have HA2 := Lib.hid hA2
 have HA3 := Lib.hid hA3
 have HA4 := Lib.hid hA4
 clear hA1 hA2 hA3 hA4 l1 l2 l3 l4
 have hq1 := hq.2.1
 have hq2 := hq.2.2
 have hm1 := hm.1
 have hm2 := hm.2.1
 have hm3 := hm.2.2
 clear hq hm
 have e1 : min A1 A2 = if A2 < A1 then A2 else A1 := by split <;> omega
 have e2 : max A3 A4 = if A3 < A4 then A4 else A3 := by split <;> omega
 rw [e1, e2]
 clear e1 e2
 obtain ⟨L, hL⟩ : ∃ z, (if A2 < A1 then A2 else A1) = z := ⟨_, rfl⟩
 obtain ⟨H, hH⟩ : ∃ z, (if A3 < A4 then A4 else A3) = z := ⟨_, rfl⟩
 rw [hL, hH]
 by_cases h : q1 ≤ r ∧ r ≤ q2
 ·
  rw [if_pos h]
  have hd : decide (q1 ≤ r ∧ r ≤ q2) = true := decide_eq_true h
  have HD := Lib.hid hd
  clear hd h
  go_enter Tryd.func94, Tryd.ntmps94
  go_upto_region 1 with (fail)
  obtain ⟨Va1, hV⟩ : ∃ V, ((w.alloc (.cells #[.int .i64 (x1), .int .i64 (x2), .int .i64 (y1), .int .i64 (y2), .int .i64 (r), .int .i64 (m1), .int .i64 (m2), .int .i64 (p1), .int .i64 (p2)] 70)).alloc (.cells #[.int .i64 (q1), .int .i64 (q2)] 108)).alloc (.cells #[.int .i64 (0), .int .i64 (0)] 108) = V := ⟨_, rfl⟩
  have Kb1 : Hid (Blk Va1 (w.heap.size) 70 #[.int .i64 (x1), .int .i64 (x2), .int .i64 (y1), .int .i64 (y2), .int .i64 (r), .int .i64 (m1), .int .i64 (m2), .int .i64 (p1), .int .i64 (p2)]) := by rw [← hV]; exact ((Blk.new' _ _ _ (by simp)).alloc _).alloc _
  have Kb2 : Hid (Blk Va1 (w.heap.size + 1) 108 #[.int .i64 (q1), .int .i64 (q2)]) := by rw [← hV]; exact (Blk.new' _ _ _ (by simp)).alloc _
  have Kb3 : Hid (Blk Va1 (w.heap.size + 1 + 1) 108 #[.int .i64 (0), .int .i64 (0)]) := by rw [← hV]; exact Blk.new' _ _ _ (by simp)
  have GHB : Hid (Below w.heap.size w Va1) := by rw [← hV]; exact (by repeat (first | exact Below.refl _ _ | assumption | refine Below.drew ?_ | refine Below.drewN' ?_ _ | (refine Below.alloc ?_ (by simp <;> omega) _) | (refine Below.setCell ?_ (by simp <;> omega) _)))
  have HZ : Hid (Below w.heap.size w Va1) := GHB
  rw [hV]
  clear hV HZ
  have HB := GHB
  clear GHB
  obtain ⟨b3, hqb3⟩ : ∃ b, w.heap.size + 1 + 1 = b := ⟨_, rfl⟩
  obtain ⟨b2, hqb2⟩ : ∃ b, w.heap.size + 1 = b := ⟨_, rfl⟩
  obtain ⟨b1, hqb1⟩ : ∃ b, w.heap.size = b := ⟨_, rfl⟩
  have gb1 : w.heap.size ≤ b1 := by omega
  have gb2 : w.heap.size ≤ b2 := by omega
  have nb2b1 : ¬ b2 = b1 := by omega
  have nb1b2 : ¬ b1 = b2 := by omega
  have gb3 : w.heap.size ≤ b3 := by omega
  have nb3b1 : ¬ b3 = b1 := by omega
  have nb1b3 : ¬ b1 = b3 := by omega
  have nb3b2 : ¬ b3 = b2 := by omega
  have nb2b3 : ¬ b2 = b3 := by omega
  rw [hqb3] at Kb3 ⊢
  clear hqb3
  rw [hqb2] at Kb2 ⊢
  clear hqb2
  have HN : Hid (w.heap.size = b1) := hqb1
  rw [hqb1] at Kb1 ⊢
  clear hqb1
  have Hb1 := Kb1
  clear Kb1
  have Hb2 := Kb2
  clear Kb2
  have Hb3 := Kb3
  clear Kb3
  have HSV : Hid (∀ U, Below Va1.heap.size Va1 U → U.cell? ⟨b1, 0, none⟩ = some (.int .i64 (x1)) ∧ U.cell? ⟨b1, 1, none⟩ = some (.int .i64 (x2)) ∧ U.cell? ⟨b1, 2, none⟩ = some (.int .i64 (y1)) ∧ U.cell? ⟨b1, 3, none⟩ = some (.int .i64 (y2)) ∧ U.cell? ⟨b1, 4, none⟩ = some (.int .i64 (r)) ∧ U.cell? ⟨b1, 5, none⟩ = some (.int .i64 (m1)) ∧ U.cell? ⟨b1, 6, none⟩ = some (.int .i64 (m2)) ∧ U.cell? ⟨b1, 7, none⟩ = some (.int .i64 (p1)) ∧ U.cell? ⟨b1, 8, none⟩ = some (.int .i64 (p2)) ∧ U.cell? ⟨b2, 0, none⟩ = some (.int .i64 (q1)) ∧ U.cell? ⟨b2, 1, none⟩ = some (.int .i64 (q2))) := fun U hU => by
   have kb1 := Hb1.out.below hU Hb1.out.lt
   have kb2 := Hb2.out.below hU Hb2.out.lt
   exact ⟨kb1.cell 0, kb1.cell 1, kb1.cell 2, kb1.cell 3, kb1.cell 4, kb1.cell 5, kb1.cell 6, kb1.cell 7, kb1.cell 8, kb2.cell 0, kb2.cell 1⟩
  have k0 := HSV.out _ (Below.drew (Below.refl Va1.heap.size Va1))
  refine wp_region_noPanic ?_
  refine wp_region_held_drew (S := (fun w' => w'.cell? ⟨b1, 0, none⟩ = some (.int .i64 (x1)) ∧ w'.cell? ⟨b1, 1, none⟩ = some (.int .i64 (x2)) ∧ w'.cell? ⟨b1, 2, none⟩ = some (.int .i64 (y1)) ∧ w'.cell? ⟨b1, 3, none⟩ = some (.int .i64 (y2)) ∧ w'.cell? ⟨b1, 4, none⟩ = some (.int .i64 (r)) ∧ w'.cell? ⟨b1, 5, none⟩ = some (.int .i64 (m1)) ∧ w'.cell? ⟨b1, 6, none⟩ = some (.int .i64 (m2)) ∧ w'.cell? ⟨b1, 7, none⟩ = some (.int .i64 (p1)) ∧ w'.cell? ⟨b1, 8, none⟩ = some (.int .i64 (p2)) ∧ w'.cell? ⟨b2, 0, none⟩ = some (.int .i64 (q1)) ∧ w'.cell? ⟨b2, 1, none⟩ = some (.int .i64 (q2)))) (by kernel_rfl) ?_ (fun hHeld => ?_)
  · (try dsimp only); (exact k0)
  refine tH 0 Z5a ?_ ?_ ?_
  rotate_left
  · ((intro w hSw; delta Z5a; (try dsimp only at hSw); go_simp) <;> with_reducible rfl)
  try simp only [Z5a, ksz]
  refine tH 1 Z5b ?_ ?_ ?_
  rotate_left
  · ((intro w hSw; delta Z5b; (try dsimp only at hSw); go_simp) <;> with_reducible rfl)
  try simp only [Z5b, ksz]
  refine tH 4 Z5e ?_ ?_ ?_
  rotate_left
  · ((intro w hSw; delta Z5e; (try dsimp only at hSw); go_simp) <;> with_reducible rfl)
  try simp only [Z5e, ksz]
  refine tH 8 Z5i ?_ ?_ ?_
  rotate_left
  · ((intro w hSw; delta Z5i; (try dsimp only at hSw); go_simp) <;> with_reducible rfl)
  try simp only [Z5i, ksz]
  refine tH 9 Z5j ?_ ?_ ?_
  rotate_left
  · ((intro w hSw; delta Z5j; (try dsimp only at hSw); go_simp) <;> with_reducible rfl)
  try simp only [Z5j, ksz]
  refine tH 12 Z5m ?_ ?_ ?_
  rotate_left
  · ((intro w hSw; delta Z5m; (try dsimp only at hSw); go_simp) <;> with_reducible rfl)
  try simp only [Z5m, ksz]
  refine tH 2 Z5c ?_ ?_ ?_
  rotate_left
  · ((intro w hSw; delta Z5c; (try dsimp only at hSw); go_simp) <;> with_reducible rfl)
  try simp only [Z5c, ksz]
  refine tH 5 Z5f ?_ ?_ ?_
  rotate_left
  · ((intro w hSw; delta Z5f; (try dsimp only at hSw); go_simp) <;> with_reducible rfl)
  try simp only [Z5f, ksz]
  refine tH 10 Z5k ?_ ?_ ?_
  rotate_left
  · ((intro w hSw; delta Z5k; (try dsimp only at hSw); go_simp) <;> with_reducible rfl)
  try simp only [Z5k, ksz]
  refine tH 13 Z5n ?_ ?_ ?_
  rotate_left
  · ((intro w hSw; delta Z5n; (try dsimp only at hSw); go_simp) <;> with_reducible rfl)
  try simp only [Z5n, ksz]
  refine tH 3 Z5d ?_ ?_ ?_
  rotate_left
  · ((intro w hSw; delta Z5d; (try dsimp only at hSw); go_simp) <;> with_reducible rfl)
  try simp only [Z5d, ksz]
  refine tH 6 Z5g ?_ ?_ ?_
  rotate_left
  · ((intro w hSw; delta Z5g; (try dsimp only at hSw); go_simp) <;> with_reducible rfl)
  try simp only [Z5g, ksz]
  refine tH 11 Z5l ?_ ?_ ?_
  rotate_left
  · ((intro w hSw; delta Z5l; (try dsimp only at hSw); go_simp) <;> with_reducible rfl)
  try simp only [Z5l, ksz]
  refine tH 14 Z5o ?_ ?_ ?_
  rotate_left
  · ((intro w hSw; delta Z5o; (try dsimp only at hSw); go_simp) <;> with_reducible rfl)
  try simp only [Z5o, ksz]
  obtain ⟨W0, hW0⟩ : ∃ V, Va1.drew = V := ⟨_, rfl⟩; rw [hW0] at hHeld ⊢; have HB0 : Hid (Below Va1.heap.size Va1 W0) := (by rw [← hW0]; exact Below.drew (Below.refl _ _)); clear hW0
  refine wpAnyH_ready (rs := [7]) (by kernel_rfl) (by simp) ?_
  refine AllReadyH.cons (o := Z5h) rfl (fun K hK => ?_) AllReadyH.nil
  delta Z5h
  go_simp
  (refine (speedDn_any x1 x2 y1 y2 r m1 m2 p1 p2 m1 q1 _ (by omega) (by omega) (by omega)).mono ?_; rintro e W1 ⟨rfl, hb⟩; have HB1 := Lib.hid (HB0.out.trans (hb.mono HB0.out.size)); clear hb; rw [HA1.out])
  refine hK.out _ _ ?_ (fun hHeld => ?_)
  · (try dsimp only); (exact HSV.out _ HB1.out)
  clear hK K
  try simp only [Z5h, ksz]
  refine wpAnyH_ready (rs := [15]) (by kernel_rfl) (by simp) ?_
  refine AllReadyH.cons (o := Z5p) rfl (fun K hK => ?_) AllReadyH.nil
  delta Z5p
  go_simp
  (refine (speedDn_any x1 x2 y1 y2 r m1 m2 p1 p2 m1 q2 _ (by omega) (by omega) (by omega)).mono ?_; rintro e W2 ⟨rfl, hb⟩; have HB2 := Lib.hid (HB1.out.trans (hb.mono HB1.out.size)); clear hb; rw [HA2.out])
  refine hK.out _ _ ?_ (fun hHeld => ?_)
  · (try dsimp only); (exact HSV.out _ HB2.out)
  clear hK K
  try simp only [Z5p, ksz]
  refine wpAnyH_ready (rs := [16]) (by kernel_rfl) (by simp) ?_
  refine AllReadyH.cons (o := Z5q) rfl (fun K hK => ?_) AllReadyH.nil
  delta Z5q
  go_simp
  refine hK.out _ _ ?_ (fun hHeld => ?_)
  · (try dsimp only); (exact HSV.out _ HB2.out)
  clear hK K
  try simp only [Z5q, ksz]
  refine tH 17 Z5r ?_ ?_ ?_
  rotate_left
  · ((intro w hSw; delta Z5r; (try dsimp only at hSw); go_simp) <;> with_reducible rfl)
  try simp only [Z5r, ksz]
  refine wpAnyH_done (by kernel_rfl) ?_ _
  refine NoPanic.normal ?_
  clear HSV k0
  clear hHeld HB0 HB1
  obtain ⟨Va2, hVU⟩ : ∃ V, W2 = V := ⟨_, rfl⟩
  rw [hVU] at HB2 ⊢
  have HZ := HB2
  clear HB2 hVU
  replace Hb1 := kbl Hb1 HZ
  replace Hb2 := kbl Hb2 HZ
  replace Hb3 := kbl Hb3 HZ
  replace HB := ktr' HB HZ
  clear HZ
  have cb10 := kcl0 Hb1
  have cb11 := kcl1 Hb1
  have cb12 := kcl2 Hb1
  have cb13 := kcl3 Hb1
  have cb14 := kcl4 Hb1
  have cb15 := kcl5 Hb1
  have cb16 := kcl6 Hb1
  have cb17 := kcl7 Hb1
  have cb18 := kcl8 Hb1
  have cb20 := kcl0 Hb2
  have cb21 := kcl1 Hb2
  go_wp2_with fail
  refine (has_any q1 q2 r _).mono ?_
  rintro e Va3 ⟨rfl, hb⟩
  have HZ := Lib.hid hb
  clear hb
  rw [HD.out]
  clear cb10 cb11 cb12 cb13 cb14 cb15 cb16 cb17 cb18 cb20 cb21
  replace Hb1 := kbl Hb1 HZ
  replace Hb2 := kbl Hb2 HZ
  replace Hb3 := kbl Hb3 HZ
  replace HB := ktr' HB HZ
  clear HZ
  have cb10 := kcl0 Hb1
  have cb11 := kcl1 Hb1
  have cb12 := kcl2 Hb1
  have cb13 := kcl3 Hb1
  have cb14 := kcl4 Hb1
  have cb15 := kcl5 Hb1
  have cb16 := kcl6 Hb1
  have cb17 := kcl7 Hb1
  have cb18 := kcl8 Hb1
  have cb30 := kcl0 Hb3
  have cb31 := kcl1 Hb3
  have zb30 : Va3.frozen? ⟨b3, 0, none⟩ = false := Hb3.out.frozen 0
  have zb31 : Va3.frozen? ⟨b3, 1, none⟩ = false := Hb3.out.frozen 1
  go_wp2
  have hR := fun x y => span_res2 Hb3.out x y
  refine bodyPost_ret (v := .agg #[.int .i64 L, .int .i64 m2]) (by simp [results, Tryd.results94, go_sem, hR]) rfl ⟨rfl, ?_⟩
  exact (HB.out.setCell (p := ⟨b3, 0, none⟩) gb3 _).setCell (p := ⟨b3, 1, none⟩) (by exact gb3) _
 ·
  rw [if_neg h]
  have hd : decide (q1 ≤ r ∧ r ≤ q2) = false := decide_eq_false h
  have HD := Lib.hid hd
  clear hd h
  go_enter Tryd.func94, Tryd.ntmps94
  go_upto_region 1 with (fail)
  obtain ⟨Va1, hV⟩ : ∃ V, ((w.alloc (.cells #[.int .i64 (x1), .int .i64 (x2), .int .i64 (y1), .int .i64 (y2), .int .i64 (r), .int .i64 (m1), .int .i64 (m2), .int .i64 (p1), .int .i64 (p2)] 70)).alloc (.cells #[.int .i64 (q1), .int .i64 (q2)] 108)).alloc (.cells #[.int .i64 (0), .int .i64 (0)] 108) = V := ⟨_, rfl⟩
  have Kb1 : Hid (Blk Va1 (w.heap.size) 70 #[.int .i64 (x1), .int .i64 (x2), .int .i64 (y1), .int .i64 (y2), .int .i64 (r), .int .i64 (m1), .int .i64 (m2), .int .i64 (p1), .int .i64 (p2)]) := by rw [← hV]; exact ((Blk.new' _ _ _ (by simp)).alloc _).alloc _
  have Kb2 : Hid (Blk Va1 (w.heap.size + 1) 108 #[.int .i64 (q1), .int .i64 (q2)]) := by rw [← hV]; exact (Blk.new' _ _ _ (by simp)).alloc _
  have Kb3 : Hid (Blk Va1 (w.heap.size + 1 + 1) 108 #[.int .i64 (0), .int .i64 (0)]) := by rw [← hV]; exact Blk.new' _ _ _ (by simp)
  have GHB : Hid (Below w.heap.size w Va1) := by rw [← hV]; exact (by repeat (first | exact Below.refl _ _ | assumption | refine Below.drew ?_ | refine Below.drewN' ?_ _ | (refine Below.alloc ?_ (by simp <;> omega) _) | (refine Below.setCell ?_ (by simp <;> omega) _)))
  have HZ : Hid (Below w.heap.size w Va1) := GHB
  rw [hV]
  clear hV HZ
  have HB := GHB
  clear GHB
  obtain ⟨b3, hqb3⟩ : ∃ b, w.heap.size + 1 + 1 = b := ⟨_, rfl⟩
  obtain ⟨b2, hqb2⟩ : ∃ b, w.heap.size + 1 = b := ⟨_, rfl⟩
  obtain ⟨b1, hqb1⟩ : ∃ b, w.heap.size = b := ⟨_, rfl⟩
  have gb1 : w.heap.size ≤ b1 := by omega
  have gb2 : w.heap.size ≤ b2 := by omega
  have nb2b1 : ¬ b2 = b1 := by omega
  have nb1b2 : ¬ b1 = b2 := by omega
  have gb3 : w.heap.size ≤ b3 := by omega
  have nb3b1 : ¬ b3 = b1 := by omega
  have nb1b3 : ¬ b1 = b3 := by omega
  have nb3b2 : ¬ b3 = b2 := by omega
  have nb2b3 : ¬ b2 = b3 := by omega
  rw [hqb3] at Kb3 ⊢
  clear hqb3
  rw [hqb2] at Kb2 ⊢
  clear hqb2
  have HN : Hid (w.heap.size = b1) := hqb1
  rw [hqb1] at Kb1 ⊢
  clear hqb1
  have Hb1 := Kb1
  clear Kb1
  have Hb2 := Kb2
  clear Kb2
  have Hb3 := Kb3
  clear Kb3
  have HSV : Hid (∀ U, Below Va1.heap.size Va1 U → U.cell? ⟨b1, 0, none⟩ = some (.int .i64 (x1)) ∧ U.cell? ⟨b1, 1, none⟩ = some (.int .i64 (x2)) ∧ U.cell? ⟨b1, 2, none⟩ = some (.int .i64 (y1)) ∧ U.cell? ⟨b1, 3, none⟩ = some (.int .i64 (y2)) ∧ U.cell? ⟨b1, 4, none⟩ = some (.int .i64 (r)) ∧ U.cell? ⟨b1, 5, none⟩ = some (.int .i64 (m1)) ∧ U.cell? ⟨b1, 6, none⟩ = some (.int .i64 (m2)) ∧ U.cell? ⟨b1, 7, none⟩ = some (.int .i64 (p1)) ∧ U.cell? ⟨b1, 8, none⟩ = some (.int .i64 (p2)) ∧ U.cell? ⟨b2, 0, none⟩ = some (.int .i64 (q1)) ∧ U.cell? ⟨b2, 1, none⟩ = some (.int .i64 (q2))) := fun U hU => by
   have kb1 := Hb1.out.below hU Hb1.out.lt
   have kb2 := Hb2.out.below hU Hb2.out.lt
   exact ⟨kb1.cell 0, kb1.cell 1, kb1.cell 2, kb1.cell 3, kb1.cell 4, kb1.cell 5, kb1.cell 6, kb1.cell 7, kb1.cell 8, kb2.cell 0, kb2.cell 1⟩
  have k0 := HSV.out _ (Below.drew (Below.refl Va1.heap.size Va1))
  refine wp_region_noPanic ?_
  refine wp_region_held_drew (S := (fun w' => w'.cell? ⟨b1, 0, none⟩ = some (.int .i64 (x1)) ∧ w'.cell? ⟨b1, 1, none⟩ = some (.int .i64 (x2)) ∧ w'.cell? ⟨b1, 2, none⟩ = some (.int .i64 (y1)) ∧ w'.cell? ⟨b1, 3, none⟩ = some (.int .i64 (y2)) ∧ w'.cell? ⟨b1, 4, none⟩ = some (.int .i64 (r)) ∧ w'.cell? ⟨b1, 5, none⟩ = some (.int .i64 (m1)) ∧ w'.cell? ⟨b1, 6, none⟩ = some (.int .i64 (m2)) ∧ w'.cell? ⟨b1, 7, none⟩ = some (.int .i64 (p1)) ∧ w'.cell? ⟨b1, 8, none⟩ = some (.int .i64 (p2)) ∧ w'.cell? ⟨b2, 0, none⟩ = some (.int .i64 (q1)) ∧ w'.cell? ⟨b2, 1, none⟩ = some (.int .i64 (q2)))) (by kernel_rfl) ?_ (fun hHeld => ?_)
  · (try dsimp only); (exact k0)
  refine tH 0 Z5a ?_ ?_ ?_
  rotate_left
  · ((intro w hSw; delta Z5a; (try dsimp only at hSw); go_simp) <;> with_reducible rfl)
  try simp only [Z5a, ksz]
  refine tH 1 Z5b ?_ ?_ ?_
  rotate_left
  · ((intro w hSw; delta Z5b; (try dsimp only at hSw); go_simp) <;> with_reducible rfl)
  try simp only [Z5b, ksz]
  refine tH 4 Z5e ?_ ?_ ?_
  rotate_left
  · ((intro w hSw; delta Z5e; (try dsimp only at hSw); go_simp) <;> with_reducible rfl)
  try simp only [Z5e, ksz]
  refine tH 8 Z5i ?_ ?_ ?_
  rotate_left
  · ((intro w hSw; delta Z5i; (try dsimp only at hSw); go_simp) <;> with_reducible rfl)
  try simp only [Z5i, ksz]
  refine tH 9 Z5j ?_ ?_ ?_
  rotate_left
  · ((intro w hSw; delta Z5j; (try dsimp only at hSw); go_simp) <;> with_reducible rfl)
  try simp only [Z5j, ksz]
  refine tH 12 Z5m ?_ ?_ ?_
  rotate_left
  · ((intro w hSw; delta Z5m; (try dsimp only at hSw); go_simp) <;> with_reducible rfl)
  try simp only [Z5m, ksz]
  refine tH 2 Z5c ?_ ?_ ?_
  rotate_left
  · ((intro w hSw; delta Z5c; (try dsimp only at hSw); go_simp) <;> with_reducible rfl)
  try simp only [Z5c, ksz]
  refine tH 5 Z5f ?_ ?_ ?_
  rotate_left
  · ((intro w hSw; delta Z5f; (try dsimp only at hSw); go_simp) <;> with_reducible rfl)
  try simp only [Z5f, ksz]
  refine tH 10 Z5k ?_ ?_ ?_
  rotate_left
  · ((intro w hSw; delta Z5k; (try dsimp only at hSw); go_simp) <;> with_reducible rfl)
  try simp only [Z5k, ksz]
  refine tH 13 Z5n ?_ ?_ ?_
  rotate_left
  · ((intro w hSw; delta Z5n; (try dsimp only at hSw); go_simp) <;> with_reducible rfl)
  try simp only [Z5n, ksz]
  refine tH 3 Z5d ?_ ?_ ?_
  rotate_left
  · ((intro w hSw; delta Z5d; (try dsimp only at hSw); go_simp) <;> with_reducible rfl)
  try simp only [Z5d, ksz]
  refine tH 6 Z5g ?_ ?_ ?_
  rotate_left
  · ((intro w hSw; delta Z5g; (try dsimp only at hSw); go_simp) <;> with_reducible rfl)
  try simp only [Z5g, ksz]
  refine tH 11 Z5l ?_ ?_ ?_
  rotate_left
  · ((intro w hSw; delta Z5l; (try dsimp only at hSw); go_simp) <;> with_reducible rfl)
  try simp only [Z5l, ksz]
  refine tH 14 Z5o ?_ ?_ ?_
  rotate_left
  · ((intro w hSw; delta Z5o; (try dsimp only at hSw); go_simp) <;> with_reducible rfl)
  try simp only [Z5o, ksz]
  obtain ⟨W0, hW0⟩ : ∃ V, Va1.drew = V := ⟨_, rfl⟩; rw [hW0] at hHeld ⊢; have HB0 : Hid (Below Va1.heap.size Va1 W0) := (by rw [← hW0]; exact Below.drew (Below.refl _ _)); clear hW0
  refine wpAnyH_ready (rs := [7]) (by kernel_rfl) (by simp) ?_
  refine AllReadyH.cons (o := Z5h) rfl (fun K hK => ?_) AllReadyH.nil
  delta Z5h
  go_simp
  (refine (speedDn_any x1 x2 y1 y2 r m1 m2 p1 p2 m1 q1 _ (by omega) (by omega) (by omega)).mono ?_; rintro e W1 ⟨rfl, hb⟩; have HB1 := Lib.hid (HB0.out.trans (hb.mono HB0.out.size)); clear hb; rw [HA1.out])
  refine hK.out _ _ ?_ (fun hHeld => ?_)
  · (try dsimp only); (exact HSV.out _ HB1.out)
  clear hK K
  try simp only [Z5h, ksz]
  refine wpAnyH_ready (rs := [15]) (by kernel_rfl) (by simp) ?_
  refine AllReadyH.cons (o := Z5p) rfl (fun K hK => ?_) AllReadyH.nil
  delta Z5p
  go_simp
  (refine (speedDn_any x1 x2 y1 y2 r m1 m2 p1 p2 m1 q2 _ (by omega) (by omega) (by omega)).mono ?_; rintro e W2 ⟨rfl, hb⟩; have HB2 := Lib.hid (HB1.out.trans (hb.mono HB1.out.size)); clear hb; rw [HA2.out])
  refine hK.out _ _ ?_ (fun hHeld => ?_)
  · (try dsimp only); (exact HSV.out _ HB2.out)
  clear hK K
  try simp only [Z5p, ksz]
  refine wpAnyH_ready (rs := [16]) (by kernel_rfl) (by simp) ?_
  refine AllReadyH.cons (o := Z5q) rfl (fun K hK => ?_) AllReadyH.nil
  delta Z5q
  go_simp
  refine hK.out _ _ ?_ (fun hHeld => ?_)
  · (try dsimp only); (exact HSV.out _ HB2.out)
  clear hK K
  try simp only [Z5q, ksz]
  refine tH 17 Z5r ?_ ?_ ?_
  rotate_left
  · ((intro w hSw; delta Z5r; (try dsimp only at hSw); go_simp) <;> with_reducible rfl)
  try simp only [Z5r, ksz]
  refine wpAnyH_done (by kernel_rfl) ?_ _
  refine NoPanic.normal ?_
  clear HSV k0
  clear hHeld HB0 HB1
  obtain ⟨Va2, hVU⟩ : ∃ V, W2 = V := ⟨_, rfl⟩
  rw [hVU] at HB2 ⊢
  have HZ := HB2
  clear HB2 hVU
  replace Hb1 := kbl Hb1 HZ
  replace Hb2 := kbl Hb2 HZ
  replace Hb3 := kbl Hb3 HZ
  replace HB := ktr' HB HZ
  clear HZ
  have cb10 := kcl0 Hb1
  have cb11 := kcl1 Hb1
  have cb12 := kcl2 Hb1
  have cb13 := kcl3 Hb1
  have cb14 := kcl4 Hb1
  have cb15 := kcl5 Hb1
  have cb16 := kcl6 Hb1
  have cb17 := kcl7 Hb1
  have cb18 := kcl8 Hb1
  have cb20 := kcl0 Hb2
  have cb21 := kcl1 Hb2
  go_wp2_with fail
  refine (has_any q1 q2 r _).mono ?_
  rintro e Va3 ⟨rfl, hb⟩
  have HZ := Lib.hid hb
  clear hb
  rw [HD.out]
  clear cb10 cb11 cb12 cb13 cb14 cb15 cb16 cb17 cb18 cb20 cb21
  replace Hb1 := kbl Hb1 HZ
  replace Hb2 := kbl Hb2 HZ
  replace Hb3 := kbl Hb3 HZ
  replace HB := ktr' HB HZ
  clear HZ
  go_upto_region 4 with (fail)
  have HSV : Hid (∀ U, Below Va3.heap.size Va3 U → U.cell? ⟨b1, 0, none⟩ = some (.int .i64 (x1)) ∧ U.cell? ⟨b1, 1, none⟩ = some (.int .i64 (x2)) ∧ U.cell? ⟨b1, 2, none⟩ = some (.int .i64 (y1)) ∧ U.cell? ⟨b1, 3, none⟩ = some (.int .i64 (y2)) ∧ U.cell? ⟨b1, 4, none⟩ = some (.int .i64 (r)) ∧ U.cell? ⟨b1, 5, none⟩ = some (.int .i64 (m1)) ∧ U.cell? ⟨b1, 6, none⟩ = some (.int .i64 (m2)) ∧ U.cell? ⟨b1, 7, none⟩ = some (.int .i64 (p1)) ∧ U.cell? ⟨b1, 8, none⟩ = some (.int .i64 (p2)) ∧ U.cell? ⟨b2, 0, none⟩ = some (.int .i64 (q1)) ∧ U.cell? ⟨b2, 1, none⟩ = some (.int .i64 (q2))) := fun U hU => by
   have kb1 := Hb1.out.below hU Hb1.out.lt
   have kb2 := Hb2.out.below hU Hb2.out.lt
   exact ⟨kb1.cell 0, kb1.cell 1, kb1.cell 2, kb1.cell 3, kb1.cell 4, kb1.cell 5, kb1.cell 6, kb1.cell 7, kb1.cell 8, kb2.cell 0, kb2.cell 1⟩
  have k0 := HSV.out _ (Below.drew (Below.refl Va3.heap.size Va3))
  refine wp_region_noPanic ?_
  refine wp_region_held_drew (S := (fun w' => w'.cell? ⟨b1, 0, none⟩ = some (.int .i64 (x1)) ∧ w'.cell? ⟨b1, 1, none⟩ = some (.int .i64 (x2)) ∧ w'.cell? ⟨b1, 2, none⟩ = some (.int .i64 (y1)) ∧ w'.cell? ⟨b1, 3, none⟩ = some (.int .i64 (y2)) ∧ w'.cell? ⟨b1, 4, none⟩ = some (.int .i64 (r)) ∧ w'.cell? ⟨b1, 5, none⟩ = some (.int .i64 (m1)) ∧ w'.cell? ⟨b1, 6, none⟩ = some (.int .i64 (m2)) ∧ w'.cell? ⟨b1, 7, none⟩ = some (.int .i64 (p1)) ∧ w'.cell? ⟨b1, 8, none⟩ = some (.int .i64 (p2)) ∧ w'.cell? ⟨b2, 0, none⟩ = some (.int .i64 (q1)) ∧ w'.cell? ⟨b2, 1, none⟩ = some (.int .i64 (q2)))) (by kernel_rfl) ?_ (fun hHeld => ?_)
  · (try dsimp only); (exact k0)
  refine tH 0 Z5s ?_ ?_ ?_
  rotate_left
  · ((intro w hSw; delta Z5s; (try dsimp only at hSw); go_simp) <;> with_reducible rfl)
  try simp only [Z5s, ksz]
  refine tH 1 Z5t ?_ ?_ ?_
  rotate_left
  · ((intro w hSw; delta Z5t; (try dsimp only at hSw); go_simp) <;> with_reducible rfl)
  try simp only [Z5t, ksz]
  refine tH 4 Z5w ?_ ?_ ?_
  rotate_left
  · ((intro w hSw; delta Z5w; (try dsimp only at hSw); go_simp) <;> with_reducible rfl)
  try simp only [Z5w, ksz]
  refine tH 8 Z60 ?_ ?_ ?_
  rotate_left
  · ((intro w hSw; delta Z60; (try dsimp only at hSw); go_simp) <;> with_reducible rfl)
  try simp only [Z60, ksz]
  refine tH 9 Z61 ?_ ?_ ?_
  rotate_left
  · ((intro w hSw; delta Z61; (try dsimp only at hSw); go_simp) <;> with_reducible rfl)
  try simp only [Z61, ksz]
  refine tH 12 Z64 ?_ ?_ ?_
  rotate_left
  · ((intro w hSw; delta Z64; (try dsimp only at hSw); go_simp) <;> with_reducible rfl)
  try simp only [Z64, ksz]
  refine tH 2 Z5u ?_ ?_ ?_
  rotate_left
  · ((intro w hSw; delta Z5u; (try dsimp only at hSw); go_simp) <;> with_reducible rfl)
  try simp only [Z5u, ksz]
  refine tH 5 Z5x ?_ ?_ ?_
  rotate_left
  · ((intro w hSw; delta Z5x; (try dsimp only at hSw); go_simp) <;> with_reducible rfl)
  try simp only [Z5x, ksz]
  refine tH 10 Z62 ?_ ?_ ?_
  rotate_left
  · ((intro w hSw; delta Z62; (try dsimp only at hSw); go_simp) <;> with_reducible rfl)
  try simp only [Z62, ksz]
  refine tH 13 Z65 ?_ ?_ ?_
  rotate_left
  · ((intro w hSw; delta Z65; (try dsimp only at hSw); go_simp) <;> with_reducible rfl)
  try simp only [Z65, ksz]
  refine tH 3 Z5v ?_ ?_ ?_
  rotate_left
  · ((intro w hSw; delta Z5v; (try dsimp only at hSw); go_simp) <;> with_reducible rfl)
  try simp only [Z5v, ksz]
  refine tH 6 Z5y ?_ ?_ ?_
  rotate_left
  · ((intro w hSw; delta Z5y; (try dsimp only at hSw); go_simp) <;> with_reducible rfl)
  try simp only [Z5y, ksz]
  refine tH 11 Z63 ?_ ?_ ?_
  rotate_left
  · ((intro w hSw; delta Z63; (try dsimp only at hSw); go_simp) <;> with_reducible rfl)
  try simp only [Z63, ksz]
  refine tH 14 Z66 ?_ ?_ ?_
  rotate_left
  · ((intro w hSw; delta Z66; (try dsimp only at hSw); go_simp) <;> with_reducible rfl)
  try simp only [Z66, ksz]
  obtain ⟨W0, hW0⟩ : ∃ V, Va3.drew = V := ⟨_, rfl⟩; rw [hW0] at hHeld ⊢; have HB0 : Hid (Below Va3.heap.size Va3 W0) := (by rw [← hW0]; exact Below.drew (Below.refl _ _)); clear hW0
  refine wpAnyH_ready (rs := [7]) (by kernel_rfl) (by simp) ?_
  refine AllReadyH.cons (o := Z5z) rfl (fun K hK => ?_) AllReadyH.nil
  delta Z5z
  go_simp
  (refine (speedUp_any x1 x2 y1 y2 r m1 m2 p1 p2 m2 q1 _ (by omega) (by omega) (by omega)).mono ?_; rintro e W1 ⟨rfl, hb⟩; have HB1 := Lib.hid (HB0.out.trans (hb.mono HB0.out.size)); clear hb; rw [HA3.out])
  refine hK.out _ _ ?_ (fun hHeld => ?_)
  · (try dsimp only); (exact HSV.out _ HB1.out)
  clear hK K
  try simp only [Z5z, ksz]
  refine wpAnyH_ready (rs := [15]) (by kernel_rfl) (by simp) ?_
  refine AllReadyH.cons (o := Z67) rfl (fun K hK => ?_) AllReadyH.nil
  delta Z67
  go_simp
  (refine (speedUp_any x1 x2 y1 y2 r m1 m2 p1 p2 m2 q2 _ (by omega) (by omega) (by omega)).mono ?_; rintro e W2 ⟨rfl, hb⟩; have HB2 := Lib.hid (HB1.out.trans (hb.mono HB1.out.size)); clear hb; rw [HA4.out])
  refine hK.out _ _ ?_ (fun hHeld => ?_)
  · (try dsimp only); (exact HSV.out _ HB2.out)
  clear hK K
  try simp only [Z67, ksz]
  refine wpAnyH_ready (rs := [16]) (by kernel_rfl) (by simp) ?_
  refine AllReadyH.cons (o := Z68) rfl (fun K hK => ?_) AllReadyH.nil
  delta Z68
  go_simp
  refine hK.out _ _ ?_ (fun hHeld => ?_)
  · (try dsimp only); (exact HSV.out _ HB2.out)
  clear hK K
  try simp only [Z68, ksz]
  refine tH 17 Z69 ?_ ?_ ?_
  rotate_left
  · ((intro w hSw; delta Z69; (try dsimp only at hSw); go_simp) <;> with_reducible rfl)
  try simp only [Z69, ksz]
  refine wpAnyH_done (by kernel_rfl) ?_ _
  refine NoPanic.normal ?_
  clear HSV k0
  clear hHeld HB0 HB1
  obtain ⟨Va4, hVU⟩ : ∃ V, W2 = V := ⟨_, rfl⟩
  rw [hVU] at HB2 ⊢
  have HZ := HB2
  clear HB2 hVU
  replace Hb1 := kbl Hb1 HZ
  replace Hb2 := kbl Hb2 HZ
  replace Hb3 := kbl Hb3 HZ
  replace HB := ktr' HB HZ
  clear HZ
  have cb10 := kcl0 Hb1
  have cb11 := kcl1 Hb1
  have cb12 := kcl2 Hb1
  have cb13 := kcl3 Hb1
  have cb14 := kcl4 Hb1
  have cb15 := kcl5 Hb1
  have cb16 := kcl6 Hb1
  have cb17 := kcl7 Hb1
  have cb18 := kcl8 Hb1
  have cb30 := kcl0 Hb3
  have cb31 := kcl1 Hb3
  have zb30 : Va4.frozen? ⟨b3, 0, none⟩ = false := Hb3.out.frozen 0
  have zb31 : Va4.frozen? ⟨b3, 1, none⟩ = false := Hb3.out.frozen 1
  go_wp2
  have hR := fun x y => span_res2 Hb3.out x y
  refine bodyPost_ret (v := .agg #[.int .i64 L, .int .i64 H]) (by simp [results, Tryd.results94, go_sem, hR]) rfl ⟨rfl, ?_⟩
  exact (HB.out.setCell (p := ⟨b3, 0, none⟩) gb3 _).setCell (p := ⟨b3, 1, none⟩) (by exact gb3) _
end Go.Proofs.YtdhcdgfpkjdihaaDoor.Sg

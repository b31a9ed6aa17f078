/-
  Layer 3, the laws: examples, comparisons of lists, works.
-/
import Derived.Test.YtdhcdgfpkjdihaaDoorVP3n
set_option linter.unusedSimpArgs false
set_option linter.unusedVariables false
namespace Go.Proofs.YtdhcdgfpkjdihaaDoor.Sg
open Go.RowKit Go.Shelf
theorem point_any (a : Int) (w : World) :
 Calls Tryd.prog 47 #[.int .i64 a] w fun e w' => e = .returned (.agg #[.int .i64 a, .int .i64 a]) ∧ Below w.heap.size w w' := by
 go_enter Tryd.func47, Tryd.ntmps47
 go_wp2
 refine bodyPost_ret (v := .agg #[.int .i64 a, .int .i64 a]) (by simp [results, Tryd.results47, go_sem]) rfl ⟨rfl, ?_⟩
 exact (by repeat (first | exact Below.refl _ _ | assumption | refine Below.drew ?_ | refine Below.drewN' ?_ _ | (refine Below.alloc ?_ (by simp <;> omega) _) | (refine Below.setCell ?_ (by simp <;> omega) _)))
set_option maxRecDepth 100000 in
set_option maxHeartbeats 1000000 in
theorem M_any (w : World) :
 Calls Tryd.prog 52 #[] w fun e w' => e = .returned (.agg #[.int .i64 (3000), .int .i64 (3000), .int .i64 (512), .int .i64 (512)]) ∧ Below w.heap.size w w' := by
 go_enter Tryd.func52, Tryd.ntmps52
 go_upto_region 1 with (fail)
 obtain ⟨Va1, hV⟩ : ∃ V, w.alloc (.cells #[.int .i64 (0), .int .i64 (0), .int .i64 (0), .int .i64 (0)] 28) = V := ⟨_, rfl⟩
 have Kb0 : Hid (Blk Va1 (w.heap.size) 28 #[.int .i64 (0), .int .i64 (0), .int .i64 (0), .int .i64 (0)]) := by rw [← hV]; exact Blk.new' _ _ _ (by simp)
 have GHB : Hid (Below w.heap.size w Va1) := by rw [← hV]; exact (by repeat (first | exact Below.refl _ _ | assumption | refine Below.drew ?_ | refine Below.drewN' ?_ _ | (refine Below.alloc ?_ (by simp <;> omega) _) | (refine Below.setCell ?_ (by simp <;> omega) _)))
 have HZ : Hid (Below w.heap.size w Va1) := GHB
 rw [hV]
 clear hV HZ
 have HB := GHB
 clear GHB
 obtain ⟨b0, hqb0⟩ : ∃ b, w.heap.size = b := ⟨_, rfl⟩
 have gb0 : w.heap.size ≤ b0 := by omega
 have HN : Hid (w.heap.size = b0) := hqb0
 rw [hqb0] at Kb0 ⊢
 clear hqb0
 have Hb0 := Kb0
 clear Kb0
 go_wp2_with fail
 refine (point_any _ _).mono ?_
 rintro e Va2 ⟨rfl, hb⟩
 have HZ := Lib.hid hb
 clear hb
 replace Hb0 := kbl Hb0 HZ
 replace HB := ktr' HB HZ
 clear HZ
 go_wp2_with fail
 refine (point_any _ _).mono ?_
 rintro e Va3 ⟨rfl, hb⟩
 have HZ := Lib.hid hb
 clear hb
 replace Hb0 := kbl Hb0 HZ
 replace HB := ktr' HB HZ
 clear HZ
 have cb00 := kcl0 Hb0
 have cb01 := kcl1 Hb0
 have cb02 := kcl2 Hb0
 have cb03 := kcl3 Hb0
 have zb00 : Va3.frozen? ⟨b0, 0, none⟩ = false := Hb0.out.frozen 0
 have zb01 : Va3.frozen? ⟨b0, 1, none⟩ = false := Hb0.out.frozen 1
 have zb02 : Va3.frozen? ⟨b0, 2, none⟩ = false := Hb0.out.frozen 2
 have zb03 : Va3.frozen? ⟨b0, 3, none⟩ = false := Hb0.out.frozen 3
 go_wp2
 have MZ := ((((Hb0.out.set_ 0 (.int .i64 (3000))).set_ 1 (.int .i64 (3000))).set_ 2 (.int .i64 (512))).set_ 3 (.int .i64 (512)))
 have rz0 := MZ.cell 0
 have rz1 := MZ.cell 1
 have rz2 := MZ.cell 2
 have rz3 := MZ.cell 3
 simp only [List.setIfInBounds_toArray, List.set_cons_zero, List.set_cons_succ, List.getElem?_toArray, List.getElem?_cons_zero, List.getElem?_cons_succ] at rz0 rz1 rz2 rz3
 refine bodyPost_ret (v := .agg #[.int .i64 (3000), .int .i64 (3000), .int .i64 (512), .int .i64 (512)]) (by simp [results, Tryd.results52, go_sem, rz0, rz1, rz2, rz3]) rfl ⟨rfl, ((((HB.out.setCell (p := ⟨b0, 0, none⟩) gb0 _).setCell (p := ⟨b0, 1, none⟩) gb0 _).setCell (p := ⟨b0, 2, none⟩) gb0 _).setCell (p := ⟨b0, 3, none⟩) gb0 _)⟩
set_option maxRecDepth 100000 in
set_option maxHeartbeats 1000000 in
theorem W_any (dirs low : Int) (w : World) :
 Calls Tryd.prog 53 #[.int .i64 dirs, .int .i64 low] w fun e w' => e = .returned (.agg #[.int .i64 (2000), .int .i64 (2000), .int .i64 (dirs), .int .i64 (low), .int .i64 (low)]) ∧ Below w.heap.size w w' := by
 go_enter Tryd.func53, Tryd.ntmps53
 go_upto_region 1 with (fail)
 obtain ⟨Va1, hV⟩ : ∃ V, w.alloc (.cells #[.int .i64 (0), .int .i64 (0), .int .i64 (0), .int .i64 (0), .int .i64 (0)] 32) = V := ⟨_, rfl⟩
 have Kb4 : Hid (Blk Va1 (w.heap.size) 32 #[.int .i64 (0), .int .i64 (0), .int .i64 (0), .int .i64 (0), .int .i64 (0)]) := by rw [← hV]; exact Blk.new' _ _ _ (by simp)
 have GHB : Hid (Below w.heap.size w Va1) := by rw [← hV]; exact (by repeat (first | exact Below.refl _ _ | assumption | refine Below.drew ?_ | refine Below.drewN' ?_ _ | (refine Below.alloc ?_ (by simp <;> omega) _) | (refine Below.setCell ?_ (by simp <;> omega) _)))
 have HZ : Hid (Below w.heap.size w Va1) := GHB
 rw [hV]
 clear hV HZ
 have HB := GHB
 clear GHB
 obtain ⟨b4, hqb4⟩ : ∃ b, w.heap.size = b := ⟨_, rfl⟩
 have gb4 : w.heap.size ≤ b4 := by omega
 have HN : Hid (w.heap.size = b4) := hqb4
 rw [hqb4] at Kb4 ⊢
 clear hqb4
 have Hb4 := Kb4
 clear Kb4
 go_wp2_with fail
 refine (point_any _ _).mono ?_
 rintro e Va2 ⟨rfl, hb⟩
 have HZ := Lib.hid hb
 clear hb
 replace Hb4 := kbl Hb4 HZ
 replace HB := ktr' HB HZ
 clear HZ
 go_wp2_with fail
 refine (point_any _ _).mono ?_
 rintro e Va3 ⟨rfl, hb⟩
 have HZ := Lib.hid hb
 clear hb
 replace Hb4 := kbl Hb4 HZ
 replace HB := ktr' HB HZ
 clear HZ
 have cb40 := kcl0 Hb4
 have cb41 := kcl1 Hb4
 have cb42 := kcl2 Hb4
 have cb43 := kcl3 Hb4
 have cb44 := kcl4 Hb4
 have zb40 : Va3.frozen? ⟨b4, 0, none⟩ = false := Hb4.out.frozen 0
 have zb41 : Va3.frozen? ⟨b4, 1, none⟩ = false := Hb4.out.frozen 1
 have zb42 : Va3.frozen? ⟨b4, 2, none⟩ = false := Hb4.out.frozen 2
 have zb43 : Va3.frozen? ⟨b4, 3, none⟩ = false := Hb4.out.frozen 3
 have zb44 : Va3.frozen? ⟨b4, 4, none⟩ = false := Hb4.out.frozen 4
 go_wp2
 have MZ := (((((Hb4.out.set_ 0 (.int .i64 (2000))).set_ 1 (.int .i64 (2000))).set_ 2 (.int .i64 (dirs))).set_ 3 (.int .i64 (low))).set_ 4 (.int .i64 (low)))
 have rz0 := MZ.cell 0
 have rz1 := MZ.cell 1
 have rz2 := MZ.cell 2
 have rz3 := MZ.cell 3
 have rz4 := MZ.cell 4
 simp only [List.setIfInBounds_toArray, List.set_cons_zero, List.set_cons_succ, List.getElem?_toArray, List.getElem?_cons_zero, List.getElem?_cons_succ] at rz0 rz1 rz2 rz3 rz4
 refine bodyPost_ret (v := .agg #[.int .i64 (2000), .int .i64 (2000), .int .i64 (dirs), .int .i64 (low), .int .i64 (low)]) (by simp [results, Tryd.results53, go_sem, rz0, rz1, rz2, rz3, rz4]) rfl ⟨rfl, (((((HB.out.setCell (p := ⟨b4, 0, none⟩) gb4 _).setCell (p := ⟨b4, 1, none⟩) gb4 _).setCell (p := ⟨b4, 2, none⟩) gb4 _).setCell (p := ⟨b4, 3, none⟩) gb4 _).setCell (p := ⟨b4, 4, none⟩) gb4 _)⟩
set_option maxRecDepth 100000 in
set_option maxHeartbeats 1000000 in
theorem S_any (w : World) :
 Calls Tryd.prog 54 #[] w fun e w' => e = .returned (.agg #[.int .i64 (0), .int .i64 (0), .int .i64 (-3000), .int .i64 (-3000), .int .i64 (2000), .int .i64 (4000), .int .i64 (4000), .int .i64 (5000), .int .i64 (5000)]) ∧ Below w.heap.size w w' := by
 go_enter Tryd.func54, Tryd.ntmps54
 go_upto_region 1 with (fail)
 obtain ⟨Va1, hV⟩ : ∃ V, w.alloc (.cells #[.int .i64 (0), .int .i64 (0), .int .i64 (0), .int .i64 (0), .int .i64 (0), .int .i64 (0), .int .i64 (0), .int .i64 (0), .int .i64 (0)] 70) = V := ⟨_, rfl⟩
 have Kb0 : Hid (Blk Va1 (w.heap.size) 70 #[.int .i64 (0), .int .i64 (0), .int .i64 (0), .int .i64 (0), .int .i64 (0), .int .i64 (0), .int .i64 (0), .int .i64 (0), .int .i64 (0)]) := by rw [← hV]; exact Blk.new' _ _ _ (by simp)
 have GHB : Hid (Below w.heap.size w Va1) := by rw [← hV]; exact (by repeat (first | exact Below.refl _ _ | assumption | refine Below.drew ?_ | refine Below.drewN' ?_ _ | (refine Below.alloc ?_ (by simp <;> omega) _) | (refine Below.setCell ?_ (by simp <;> omega) _)))
 have HZ : Hid (Below w.heap.size w Va1) := GHB
 rw [hV]
 clear hV HZ
 have HB := GHB
 clear GHB
 obtain ⟨b0, hqb0⟩ : ∃ b, w.heap.size = b := ⟨_, rfl⟩
 have gb0 : w.heap.size ≤ b0 := by omega
 have HN : Hid (w.heap.size = b0) := hqb0
 rw [hqb0] at Kb0 ⊢
 clear hqb0
 have Hb0 := Kb0
 clear Kb0
 go_wp2_with fail
 refine (point_any _ _).mono ?_
 rintro e Va2 ⟨rfl, hb⟩
 have HZ := Lib.hid hb
 clear hb
 replace Hb0 := kbl Hb0 HZ
 replace HB := ktr' HB HZ
 clear HZ
 go_wp2_with fail
 refine (point_any _ _).mono ?_
 rintro e Va3 ⟨rfl, hb⟩
 have HZ := Lib.hid hb
 clear hb
 replace Hb0 := kbl Hb0 HZ
 replace HB := ktr' HB HZ
 clear HZ
 go_wp2_with fail
 refine (point_any _ _).mono ?_
 rintro e Va4 ⟨rfl, hb⟩
 have HZ := Lib.hid hb
 clear hb
 replace Hb0 := kbl Hb0 HZ
 replace HB := ktr' HB HZ
 clear HZ
 have cb00 := kcl0 Hb0
 have cb01 := kcl1 Hb0
 have cb02 := kcl2 Hb0
 have cb03 := kcl3 Hb0
 have cb04 := kcl4 Hb0
 have cb05 := kcl5 Hb0
 have cb06 := kcl6 Hb0
 have cb07 := kcl7 Hb0
 have cb08 := kcl8 Hb0
 have zb00 : Va4.frozen? ⟨b0, 0, none⟩ = false := Hb0.out.frozen 0
 have zb01 : Va4.frozen? ⟨b0, 1, none⟩ = false := Hb0.out.frozen 1
 have zb02 : Va4.frozen? ⟨b0, 2, none⟩ = false := Hb0.out.frozen 2
 have zb03 : Va4.frozen? ⟨b0, 3, none⟩ = false := Hb0.out.frozen 3
 have zb04 : Va4.frozen? ⟨b0, 4, none⟩ = false := Hb0.out.frozen 4
 have zb05 : Va4.frozen? ⟨b0, 5, none⟩ = false := Hb0.out.frozen 5
 have zb06 : Va4.frozen? ⟨b0, 6, none⟩ = false := Hb0.out.frozen 6
 have zb07 : Va4.frozen? ⟨b0, 7, none⟩ = false := Hb0.out.frozen 7
 have zb08 : Va4.frozen? ⟨b0, 8, none⟩ = false := Hb0.out.frozen 8
 go_wp2
 have MZ := (((((((((Hb0.out.set_ 0 (.int .i64 (0))).set_ 1 (.int .i64 (0))).set_ 2 (.int .i64 (-3000))).set_ 3 (.int .i64 (-3000))).set_ 4 (.int .i64 (2000))).set_ 5 (.int .i64 (4000))).set_ 6 (.int .i64 (4000))).set_ 7 (.int .i64 (5000))).set_ 8 (.int .i64 (5000)))
 have rz0 := MZ.cell 0
 have rz1 := MZ.cell 1
 have rz2 := MZ.cell 2
 have rz3 := MZ.cell 3
 have rz4 := MZ.cell 4
 have rz5 := MZ.cell 5
 have rz6 := MZ.cell 6
 have rz7 := MZ.cell 7
 have rz8 := MZ.cell 8
 simp only [List.setIfInBounds_toArray, List.set_cons_zero, List.set_cons_succ, List.getElem?_toArray, List.getElem?_cons_zero, List.getElem?_cons_succ] at rz0 rz1 rz2 rz3 rz4 rz5 rz6 rz7 rz8
 refine bodyPost_ret (v := .agg #[.int .i64 (0), .int .i64 (0), .int .i64 (-3000), .int .i64 (-3000), .int .i64 (2000), .int .i64 (4000), .int .i64 (4000), .int .i64 (5000), .int .i64 (5000)]) (by simp [results, Tryd.results54, go_sem, rz0, rz1, rz2, rz3, rz4, rz5, rz6, rz7, rz8]) rfl ⟨rfl, (((((((((HB.out.setCell (p := ⟨b0, 0, none⟩) gb0 _).setCell (p := ⟨b0, 1, none⟩) gb0 _).setCell (p := ⟨b0, 2, none⟩) gb0 _).setCell (p := ⟨b0, 3, none⟩) gb0 _).setCell (p := ⟨b0, 4, none⟩) gb0 _).setCell (p := ⟨b0, 5, none⟩) gb0 _).setCell (p := ⟨b0, 6, none⟩) gb0 _).setCell (p := ⟨b0, 7, none⟩) gb0 _).setCell (p := ⟨b0, 8, none⟩) gb0 _)⟩
theorem cells_new_blk (w : World) (t : TypeId) (cs : Array Value) (xs : List Value) (hx : cs.toList = xs) : ∀ j u, xs[j]? = some u → (w.alloc (.cells cs t)).cell? ⟨w.heap.size, 0 + j, none⟩ = some u := by
 intro j u hu
 rw [Nat.zero_add, (Blk.new w t cs).cell j, ← Array.getElem?_toList, hx]
 exact hu
theorem spans_new (w : World) (l : List (Int × Int)) (hl : 0 < l.length) (hm : l.length ≤ 1000000 := by simp) : SpansAt (w.alloc (.cells (spanCells l).toArray 26)) (w.alloc (.cells (spanCells l).toArray 26)).heap.size (.slice (some ⟨w.heap.size, 0, none⟩) l.length l.length) l :=
 ⟨spanCells_length l, by omega, _, _, rfl, Nat.le_refl _, fun _ => ⟨w.heap.size, 0, rfl, by simp, cells_new_blk w _ _ _ rfl⟩⟩
theorem winds_new (w : World) (l : List Wi) (hl : 0 < l.length) (hm : l.length ≤ 1000000 := by simp) : WindsAt (w.alloc (.cells (wiCells l).toArray 32)) (w.alloc (.cells (wiCells l).toArray 32)).heap.size (.slice (some ⟨w.heap.size, 0, none⟩) l.length l.length) l :=
 ⟨wiCells_length l, by omega, _, _, rfl, Nat.le_refl _, fun _ => ⟨w.heap.size, 0, rfl, by simp, cells_new_blk w _ _ _ rfl⟩⟩
set_option maxRecDepth 100000 in
set_option maxHeartbeats 1000000 in
theorem G_any (w : World) :
 Calls Tryd.prog 51 #[] w fun e w' => ∃ v, e = .returned (.agg #[.int .i64 4, .int .i64 1, .int .i64 1000, v]) ∧ SpansAt w' w'.heap.size v [(-1000, -1000), (-1000, -1000), (-500, -500), (200, 200)] ∧ Below w.heap.size w w' := by
 go_enter Tryd.func51, Tryd.ntmps51
 go_upto_region 1 with (fail)
 obtain ⟨Va1, hV⟩ : ∃ V, w.alloc (.cells #[.int .i64 (0), .int .i64 (0), .int .i64 (0), .slice none 0 0] 24) = V := ⟨_, rfl⟩
 have Kb0 : Hid (Blk Va1 (w.heap.size) 24 #[.int .i64 (0), .int .i64 (0), .int .i64 (0), .slice none 0 0]) := by rw [← hV]; exact Blk.new' _ _ _ (by simp)
 have GHB : Hid (Below w.heap.size w Va1) := by rw [← hV]; exact (by repeat (first | exact Below.refl _ _ | assumption | refine Below.drew ?_ | refine Below.drewN' ?_ _ | (refine Below.alloc ?_ (by simp <;> omega) _) | (refine Below.setCell ?_ (by simp <;> omega) _)))
 have HZ : Hid (Below w.heap.size w Va1) := GHB
 rw [hV]
 clear hV HZ
 have HB := GHB
 clear GHB
 obtain ⟨b0, hqb0⟩ : ∃ b, w.heap.size = b := ⟨_, rfl⟩
 have gb0 : w.heap.size ≤ b0 := by omega
 have HN : Hid (w.heap.size = b0) := hqb0
 rw [hqb0] at Kb0 ⊢
 clear hqb0
 have Hb0 := Kb0
 clear Kb0
 go_wp2_with fail
 refine (point_any _ _).mono ?_
 rintro e Va2 ⟨rfl, hb⟩
 have HZ := Lib.hid hb
 clear hb
 replace Hb0 := kbl Hb0 HZ
 replace HB := ktr' HB HZ
 clear HZ
 go_wp2_with fail
 refine (point_any _ _).mono ?_
 rintro e Va3 ⟨rfl, hb⟩
 have HZ := Lib.hid hb
 clear hb
 replace Hb0 := kbl Hb0 HZ
 replace HB := ktr' HB HZ
 clear HZ
 go_wp2_with fail
 refine (point_any _ _).mono ?_
 rintro e Va4 ⟨rfl, hb⟩
 have HZ := Lib.hid hb
 clear hb
 replace Hb0 := kbl Hb0 HZ
 replace HB := ktr' HB HZ
 clear HZ
 go_wp2_with fail
 refine (point_any _ _).mono ?_
 rintro e Va5 ⟨rfl, hb⟩
 have HZ := Lib.hid hb
 clear hb
 replace Hb0 := kbl Hb0 HZ
 replace HB := ktr' HB HZ
 clear HZ
 have cb00 := kcl0 Hb0
 have cb01 := kcl1 Hb0
 have cb02 := kcl2 Hb0
 have cb03 := kcl3 Hb0
 have zb00 : Va5.frozen? ⟨b0, 0, none⟩ = false := Hb0.out.frozen 0
 have zb01 : Va5.frozen? ⟨b0, 1, none⟩ = false := Hb0.out.frozen 1
 have zb02 : Va5.frozen? ⟨b0, 2, none⟩ = false := Hb0.out.frozen 2
 have zb03 : Va5.frozen? ⟨b0, 3, none⟩ = false := Hb0.out.frozen 3
 have hl0 := Hb0.out.lt
 go_wp2
 have MZ := (((((Hb0.out.set_ 0 (.int .i64 (4))).set_ 1 (.int .i64 (1))).set_ 2 (.int .i64 (1000))).set_ 3 (.slice (some ⟨Va5.heap.size, 0, none⟩) 4 4)).alloc (.cells #[.int .i64 (-1000), .int .i64 (-1000), .int .i64 (-1000), .int .i64 (-1000), .int .i64 (-500), .int .i64 (-500), .int .i64 (200), .int .i64 (200)] 26))
 have rz0 := MZ.cell 0
 have rz1 := MZ.cell 1
 have rz2 := MZ.cell 2
 have rz3 := MZ.cell 3
 simp only [List.setIfInBounds_toArray, List.set_cons_zero, List.set_cons_succ, List.getElem?_toArray, List.getElem?_cons_zero, List.getElem?_cons_succ] at rz0 rz1 rz2 rz3
 have HS : SpansAt (((((Va5.setCell ⟨b0, 0, none⟩ (.int .i64 (4))).setCell ⟨b0, 1, none⟩ (.int .i64 (1))).setCell ⟨b0, 2, none⟩ (.int .i64 (1000))).setCell ⟨b0, 3, none⟩ (.slice (some ⟨Va5.heap.size, 0, none⟩) 4 4)).alloc (.cells #[.int .i64 (-1000), .int .i64 (-1000), .int .i64 (-1000), .int .i64 (-1000), .int .i64 (-500), .int .i64 (-500), .int .i64 (200), .int .i64 (200)] 26)) (((((Va5.setCell ⟨b0, 0, none⟩ (.int .i64 (4))).setCell ⟨b0, 1, none⟩ (.int .i64 (1))).setCell ⟨b0, 2, none⟩ (.int .i64 (1000))).setCell ⟨b0, 3, none⟩ (.slice (some ⟨Va5.heap.size, 0, none⟩) 4 4)).alloc (.cells #[.int .i64 (-1000), .int .i64 (-1000), .int .i64 (-1000), .int .i64 (-1000), .int .i64 (-500), .int .i64 (-500), .int .i64 (200), .int .i64 (200)] 26)).heap.size (.slice (some ⟨Va5.heap.size, 0, none⟩) 4 4) [(-1000, -1000), (-1000, -1000), (-500, -500), (200, 200)] := by
  have e : ((((Va5.setCell ⟨b0, 0, none⟩ (.int .i64 (4))).setCell ⟨b0, 1, none⟩ (.int .i64 (1))).setCell ⟨b0, 2, none⟩ (.int .i64 (1000))).setCell ⟨b0, 3, none⟩ (.slice (some ⟨Va5.heap.size, 0, none⟩) 4 4)).heap.size = Va5.heap.size := by simp
  have h := spans_new ((((Va5.setCell ⟨b0, 0, none⟩ (.int .i64 (4))).setCell ⟨b0, 1, none⟩ (.int .i64 (1))).setCell ⟨b0, 2, none⟩ (.int .i64 (1000))).setCell ⟨b0, 3, none⟩ (.slice (some ⟨Va5.heap.size, 0, none⟩) 4 4)) [(-1000, -1000), (-1000, -1000), (-500, -500), (200, 200)] (by simp)
  have ec : (spanCells [(-1000, -1000), (-1000, -1000), (-500, -500), (200, 200)]).toArray = #[.int .i64 (-1000), .int .i64 (-1000), .int .i64 (-1000), .int .i64 (-1000), .int .i64 (-500), .int .i64 (-500), .int .i64 (200), .int .i64 (200)] := rfl
  rw [e, ec] at h
  exact h
 refine bodyPost_ret (v := .agg #[.int .i64 (4), .int .i64 (1), .int .i64 (1000), .slice (some ⟨Va5.heap.size, 0, none⟩) 4 4]) (by simp [results, Tryd.results51, go_sem, rz0, rz1, rz2, rz3]) rfl ⟨_, rfl, HS, ?_⟩
 have GB := HB.out
 exact (by repeat (first | exact Below.refl _ _ | assumption | refine Below.drew ?_ | refine Below.drewN' ?_ _ | (refine Below.alloc ?_ (by simp <;> omega) _) | (refine Below.setCell ?_ (by simp <;> omega) _)))
/-! numbers, spans, bools, grids -/
theorem beq_take_snoc {α : Type} [BEq α] [LawfulBEq α] (l m : List α) (k : Nat) (h : k < l.length) (h' : k < m.length) (ht : l.take k = m.take k) (he : l[k] = m[k]) : l.take (k + 1) = m.take (k + 1) := by
 rw [take_snoc l k h, take_snoc m k h', ht, he]
theorem ne_of_get {α : Type} {l m : List α} {k : Nat} {h : k < l.length} {h' : k < m.length} (he : l[k] ≠ m[k]) : l ≠ m := by
 rintro rfl
 exact he rfl
theorem equal_any (a b : Value) (l m : List Int) (w : World) (ha : IntsAt w w.heap.size a l) (hb : IntsAt w w.heap.size b m) :
 Calls Tryd.prog 24 #[a, b] w fun e w' => e = .returned (.bool (decide (l = m))) ∧ Below w.heap.size w w' := by
 obtain ⟨A, c, rfl, hc, hm⟩ := ha.open_
 obtain ⟨A', c', rfl, hc', hm'⟩ := hb.open_
 by_cases hl : l.length = m.length
 case neg =>
  have hne : ((l.length : Int) != m.length) = true := by simp; omega
  have He : Hid (decide (l = m) = false) := by
   simp only [Hid, decide_eq_false_iff_not]
   rintro rfl
   exact hl rfl
  clear hl
  go_enter Tryd.func24, Tryd.ntmps24
  go_wp2
  go_ret
  exact ⟨ret_bool He.out.symm, Below.refl _ _⟩
 have hne : ((l.length : Int) != m.length) = false := by simp; omega
 have Hl := Lib.hid hl
 have hl1 : l.length ≤ m.length := by omega
 have hl2 : m.length ≤ l.length := by omega
 clear hl
 go_enter Tryd.func24, Tryd.ntmps24
 go_wp2
 go_loopw [5] (fun i wr => ∃ k : Nat, k ≤ l.length ∧ i = .int .i64 k ∧ Hid (l.take k = m.take k) ∧ Below w.heap.size w wr) (fun i _ => l.length - (intOf i).toNat)
 case atStart => exact ⟨0, Nat.zero_le _, rfl, by simp [Hid], Below.refl _ _⟩
 case round =>
  obtain ⟨k, hk, rfl, Ht, hBr⟩ := hrel
  by_cases hlt : k < l.length
  · obtain ⟨b1, off1, rfl, hb1, c1⟩ := (ha.below hBr).at_ hlt
    obtain ⟨b2, off2, rfl, hb2, c2⟩ := (hb.below hBr).at_ (k := k) (by omega)
    have hlt' : k < m.length := by omega
    by_cases hx : l[k] = m[k]
    · have hx' : (l[k] != m[k]) = false := by simp [hx]
      have HX := Lib.hid hx
      clear hx
      go_wp2
      go_quiet (fail)
      go_wp2
      go_roundw
      case rel => exact ⟨k + 1, by omega, by go_num, beq_take_snoc l m k hlt hlt' Ht.out HX.out, (by repeat (first | exact Below.refl _ _ | assumption | refine Below.drew ?_ | refine Below.drewN' ?_ _ | (refine Below.alloc ?_ (by simp <;> omega) _) | (refine Below.setCell ?_ (by simp <;> omega) _)))⟩
      case measure => simp [intOf]; omega
    · have hx' : (l[k] != m[k]) = true := by simp [hx]
      have HX : Hid (decide (l = m) = false) := by simpa [Hid] using ne_of_get hx
      clear hx
      go_wp2
      go_quiet (fail)
      go_wp2
      go_ret
      exact ⟨ret_bool HX.out.symm, (by repeat (first | exact Below.refl _ _ | assumption | refine Below.drew ?_ | refine Below.drewN' ?_ _ | (refine Below.alloc ?_ (by simp <;> omega) _) | (refine Below.setCell ?_ (by simp <;> omega) _)))⟩
  · have hk' : k = l.length := by omega
    have Hf : Hid (decide (l = m) = true) := by
     have := Ht.out
     rw [hk', List.take_length, Hl.out, List.take_length] at this
     simpa [Hid] using this
    clear hk'
    go_wp2
    go_ret
    exact ⟨ret_bool Hf.out.symm, hBr⟩
theorem span_stood : Tryd.prog.stoodInHeld 26 = false := by kernel_rfl
theorem span_guard : Tryd.prog.eqGuardType Tryd.prog.depth 26 = false := by kernel_rfl
theorem same_any (a b : Value) (l m : List (Int × Int)) (w : World) (ha : SpansAt w w.heap.size a l) (hb : SpansAt w w.heap.size b m) :
 Calls Tryd.prog 34 #[a, b] w fun e w' => e = .returned (.bool (decide (l = m))) ∧ Below w.heap.size w w' := by
 obtain ⟨A, c, rfl, hc, hm⟩ := ha.open_
 obtain ⟨A', c', rfl, hc', hm'⟩ := hb.open_
 have hp1 := span_stood
 have hp2 := span_guard
 by_cases hl : l.length = m.length
 case neg =>
  have hne : ((l.length : Int) != m.length) = true := by simp; omega
  have He : Hid (decide (l = m) = false) := by
   simp only [Hid, decide_eq_false_iff_not]
   rintro rfl
   exact hl rfl
  clear hl
  go_enter Tryd.func34, Tryd.ntmps34
  go_wp2
  go_ret
  exact ⟨ret_bool He.out.symm, Below.refl _ _⟩
 have hne : ((l.length : Int) != m.length) = false := by simp; omega
 have Hl := Lib.hid hl
 have hl1 : l.length ≤ m.length := by omega
 have hl2 : m.length ≤ l.length := by omega
 clear hl
 go_enter Tryd.func34, Tryd.ntmps34
 go_wp2
 go_loopw [5] (fun i wr => ∃ k : Nat, k ≤ l.length ∧ i = .int .i64 k ∧ Hid (l.take k = m.take k) ∧ Below w.heap.size w wr) (fun i _ => l.length - (intOf i).toNat)
 case atStart => exact ⟨0, Nat.zero_le _, rfl, by simp [Hid], Below.refl _ _⟩
 case round =>
  obtain ⟨k, hk, rfl, Ht, hBr⟩ := hrel
  by_cases hlt : k < l.length
  · obtain ⟨b1, off1, rfl, hb1, c1, c1'⟩ := (ha.below hBr).at_ hlt
    obtain ⟨b2, off2, rfl, hb2, c2, c2'⟩ := (hb.below hBr).at_ (k := k) (by omega)
    have hlt' : k < m.length := by omega
    by_cases hx : l[k] = m[k]
    · have HX := Lib.hid hx
      rw [hx] at c1 c1'
      clear hx
      generalize m[k] = q at c1 c1' c2 c2'
      go_wp2
      go_quiet (fail)
      go_wp2
      go_roundw
      case rel => exact ⟨k + 1, by omega, by go_num, beq_take_snoc l m k hlt hlt' Ht.out HX.out, (by repeat (first | exact Below.refl _ _ | assumption | refine Below.drew ?_ | refine Below.drewN' ?_ _ | (refine Below.alloc ?_ (by simp <;> omega) _) | (refine Below.setCell ?_ (by simp <;> omega) _)))⟩
      case measure => simp [intOf]; omega
    · have HX : Hid (decide (l = m) = false) := by simpa [Hid] using ne_of_get hx
      generalize l[k] = p at *
      generalize m[k] = q at *
      obtain ⟨a, b⟩ := p
      obtain ⟨a', b'⟩ := q
      simp only at c1 c1' c2 c2'
      by_cases h1 : a = a'
      · subst h1
        have h2 : ¬ b = b' := fun h => hx (by rw [h])
        clear hx
        go_wp2
        go_quiet (fail)
        go_wp2
        go_ret
        exact ⟨ret_bool HX.out.symm, (by repeat (first | exact Below.refl _ _ | assumption | refine Below.drew ?_ | refine Below.drewN' ?_ _ | (refine Below.alloc ?_ (by simp <;> omega) _) | (refine Below.setCell ?_ (by simp <;> omega) _)))⟩
      · clear hx
        go_wp2
        go_quiet (fail)
        go_wp2
        go_ret
        exact ⟨ret_bool HX.out.symm, (by repeat (first | exact Below.refl _ _ | assumption | refine Below.drew ?_ | refine Below.drewN' ?_ _ | (refine Below.alloc ?_ (by simp <;> omega) _) | (refine Below.setCell ?_ (by simp <;> omega) _)))⟩
  · have hk' : k = l.length := by omega
    have Hf : Hid (decide (l = m) = true) := by
     have := Ht.out
     rw [hk', List.take_length, Hl.out, List.take_length] at this
     simpa [Hid] using this
    clear hk'
    go_wp2
    go_ret
    exact ⟨ret_bool Hf.out.symm, hBr⟩
theorem wind_stood : Tryd.prog.stoodInHeld 32 = false := by kernel_rfl
theorem wind_guard : Tryd.prog.eqGuardType Tryd.prog.depth 32 = false := by kernel_rfl
theorem ex_setup : setupE ⟨4, 1, 1000, [(-1000, -1000), (-1000, -1000), (-500, -500), (200, 200)]⟩ (0, 0) ⟨(3000, 3000), (512, 512)⟩ 1 0 (2000, 2000) = 0 ∧ setupV ⟨4, 1, 1000, [(-1000, -1000), (-1000, -1000), (-500, -500), (200, 200)]⟩ (0, 0) ⟨(3000, 3000), (512, 512)⟩ 1 0 (2000, 2000) = (-314, -312) := by decide +kernel
theorem ex_run : runAE ⟨4, 1, 1000, [(-1000, -1000), (-1000, -1000), (-500, -500), (200, 200)]⟩ (0, 0) ⟨(3000, 3000), (512, 512)⟩ 2 (0, 0) [⟨(2000, 2000), 1, (0, 0)⟩, ⟨(2000, 2000), 1, (0, 0)⟩] = 0 ∧ runV ⟨4, 1, 1000, [(-1000, -1000), (-1000, -1000), (-500, -500), (200, 200)]⟩ (0, 0) ⟨(3000, 3000), (512, 512)⟩ 2 (0, 0) [⟨(2000, 2000), 1, (0, 0)⟩, ⟨(2000, 2000), 1, (0, 0)⟩] = [(313, 314), (469, 471)] := by decide +kernel
theorem ex_root : rtZ 9000000 = 3000 := rt_of (by omega) (by omega) (by omega)
theorem ex_fars : farsZ ⟨4, 1, 1000, [(-1000, -1000), (-1000, -1000), (-500, -500), (200, 200)]⟩ ⟨(0, 0), (-3000, -3000), 2000, (4000, 4000), (5000, 5000)⟩ 0 = (3000, 3000) := by
 have e : farsZ ⟨4, 1, 1000, [(-1000, -1000), (-1000, -1000), (-500, -500), (200, 200)]⟩ ⟨(0, 0), (-3000, -3000), 2000, (4000, 4000), (5000, 5000)⟩ 0 = (rtZ 9000000, ruZ 9000000) := by rfl
 rw [e]
 unfold ruZ
 rw [ex_root]
 rfl
theorem ex_blow : blowE ⟨4, 1, 1000, [(-1000, -1000), (-1000, -1000), (-500, -500), (200, 200)]⟩ ⟨(0, 0), (-3000, -3000), 2000, (4000, 4000), (5000, 5000)⟩ 0 = 0 ∧ blowV ⟨4, 1, 1000, [(-1000, -1000), (-1000, -1000), (-500, -500), (200, 200)]⟩ ⟨(0, 0), (-3000, -3000), 2000, (4000, 4000), (5000, 5000)⟩ 0 = ⟨(2666, 2667), 16, (0, 5000)⟩ := by
 have h0 : blowE ⟨4, 1, 1000, [(-1000, -1000), (-1000, -1000), (-500, -500), (200, 200)]⟩ ⟨(0, 0), (-3000, -3000), 2000, (4000, 4000), (5000, 5000)⟩ 0 = 0 := by decide +kernel
 refine ⟨h0, ?_⟩
 unfold blowV
 rw [h0, if_pos rfl]
 unfold blowZ
 rw [ex_fars]
 decide +kernel
set_option maxRecDepth 100000 in
set_option maxHeartbeats 4000000 in
theorem works_any (w : World) (HD : DirsAt w) :
 Calls Tryd.prog 16 #[] w fun e w' => e = .returned (.bool true) ∧ Below w.heap.size w w' := by
 have HDR := Lib.hid HD
 clear HD
 have hp1 := span_stood
 have hp2 := span_guard
 have hp3 := wind_stood
 have hp4 := wind_guard
 go_enter Tryd.func16, Tryd.ntmps16
 have HB : Hid (Below w.heap.size w w) := Below.refl _ _
 go_wp2_with fail
 refine (G_any _).mono ?_
 rintro e Va1 ⟨vg1, rfl, hg1, hb⟩
 have HZ := Lib.hid hb
 clear hb
 replace HB := ktr' HB HZ
 replace HDR := Lib.hid (HDR.out.later HZ.out)
 clear HZ
 have HG1 := Lib.hid hg1
 clear hg1
 obtain ⟨ag1, cg1, hvg1, -, -⟩ := HG1.out.open_
 subst hvg1
 go_wp2_with fail
 refine (M_any _).mono ?_
 rintro e Va2 ⟨rfl, hb⟩
 have HZ := Lib.hid hb
 clear hb
 replace HB := ktr' HB HZ
 replace HDR := Lib.hid (HDR.out.later HZ.out)
 replace HG1 := Lib.hid (HG1.out.later HZ.out (Nat.le_refl _))
 clear HZ
 go_wp2_with fail
 refine (point_any _ _).mono ?_
 rintro e Va3 ⟨rfl, hb⟩
 have HZ := Lib.hid hb
 clear hb
 replace HB := ktr' HB HZ
 replace HDR := Lib.hid (HDR.out.later HZ.out)
 replace HG1 := Lib.hid (HG1.out.later HZ.out (Nat.le_refl _))
 clear HZ
 go_wp2_with fail
 refine (Setup_any 4 1 1000 [(-1000, -1000), (-1000, -1000), (-500, -500), (200, 200)] ag1 cg1 0 0 3000 3000 512 512 1 0 2000 2000 _ HDR.out HG1.out).mono ?_
 rintro e Va4 ⟨rfl, hb⟩
 have HZ := Lib.hid hb
 clear hb
 rw [ex_setup.1, ex_setup.2]
 simp only [spV]
 replace HB := ktr' HB HZ
 replace HDR := Lib.hid (HDR.out.later HZ.out)
 replace HG1 := Lib.hid (HG1.out.later HZ.out (Nat.le_refl _))
 clear HZ
 go_upto_region 2 with (fail)
 obtain ⟨Va5, hV⟩ : ∃ X, Va4.alloc (.cells #[.int .i64 (-314), .int .i64 (-312)] 26) = X := ⟨_, rfl⟩
 have hnew : Blk Va5 Va4.heap.size 26 #[.int .i64 (-314), .int .i64 (-312)] := by rw [← hV]; exact (Blk.new' _ _ _ rfl)
 have hz : Below Va4.heap.size Va4 Va5 := by rw [← hV]; exact ((Below.refl _ _).alloc (Nat.le_refl _) _)
 have hgn := HB.out.size
 rw [hV]
 obtain ⟨b1, hbx⟩ : ∃ b, Va4.heap.size = b := ⟨_, rfl⟩
 rw [hbx] at hnew hgn  ⊢
 have gb1 : w.heap.size ≤ b1 := hgn
 have HZ := Lib.hid hz
 clear hV hz hgn hbx
 replace HB := ktr' HB HZ
 replace HDR := Lib.hid (HDR.out.later HZ.out)
 replace HG1 := Lib.hid (HG1.out.later HZ.out (Nat.le_refl _))
 clear HZ
 have Hb1 := Lib.hid hnew
 clear hnew
 clear HG1
 go_wp2_with fail
 refine (G_any _).mono ?_
 rintro e Va6 ⟨vg2, rfl, hg2, hb⟩
 have HZ := Lib.hid hb
 clear hb
 replace Hb1 := kbl Hb1 HZ
 replace HB := ktr' HB HZ
 replace HDR := Lib.hid (HDR.out.later HZ.out)
 clear HZ
 have HG2 := Lib.hid hg2
 clear hg2
 obtain ⟨ag2, cg2, hvg2, -, -⟩ := HG2.out.open_
 subst hvg2
 go_wp2_with fail
 refine (M_any _).mono ?_
 rintro e Va7 ⟨rfl, hb⟩
 have HZ := Lib.hid hb
 clear hb
 replace Hb1 := kbl Hb1 HZ
 replace HB := ktr' HB HZ
 replace HDR := Lib.hid (HDR.out.later HZ.out)
 replace HG2 := Lib.hid (HG2.out.later HZ.out (Nat.le_refl _))
 clear HZ
 go_wp2_with fail
 refine (W_any _ _ _).mono ?_
 rintro e Va8 ⟨rfl, hb⟩
 have HZ := Lib.hid hb
 clear hb
 replace Hb1 := kbl Hb1 HZ
 replace HB := ktr' HB HZ
 replace HDR := Lib.hid (HDR.out.later HZ.out)
 replace HG2 := Lib.hid (HG2.out.later HZ.out (Nat.le_refl _))
 clear HZ
 go_wp2_with fail
 refine (W_any _ _ _).mono ?_
 rintro e Va9 ⟨rfl, hb⟩
 have HZ := Lib.hid hb
 clear hb
 replace Hb1 := kbl Hb1 HZ
 replace HB := ktr' HB HZ
 replace HDR := Lib.hid (HDR.out.later HZ.out)
 replace HG2 := Lib.hid (HG2.out.later HZ.out (Nat.le_refl _))
 clear HZ
 go_wp2_with fail
 have HZ : Hid (Below Va9.heap.size Va9 (Va9.alloc (.cells #[.int .i64 (2000), .int .i64 (2000), .int .i64 (1), .int .i64 (0), .int .i64 (0), .int .i64 (2000), .int .i64 (2000), .int .i64 (1), .int .i64 (0), .int .i64 (0)] 32))) := (Below.refl _ _).alloc (Nat.le_refl _) _
 have HWD := Lib.hid (winds_new Va9 [⟨(2000, 2000), 1, (0, 0)⟩, ⟨(2000, 2000), 1, (0, 0)⟩] (by simp))
 refine (Run_any 4 1 1000 [(-1000, -1000), (-1000, -1000), (-500, -500), (200, 200)] ag2 cg2 0 0 3000 3000 512 512 2 0 0 _ [⟨(2000, 2000), 1, (0, 0)⟩, ⟨(2000, 2000), 1, (0, 0)⟩] _ (HDR.out.later HZ.out) (HG2.out.later HZ.out (Nat.le_refl _)) HWD.out).mono ?_
 rintro e Va10 ⟨vr, rfl, hr, hb⟩
 rw [ex_run.1]
 rw [ex_run.2] at hr
 have HRR := Lib.hid hr
 have HZ2 := Lib.hid (HZ.out.trans (hb.mono HZ.out.size))
 clear hb hr HZ HWD
 have HZ := HZ2
 clear HZ2
 clear HG2
 replace Hb1 := kbl Hb1 HZ
 replace HB := ktr' HB HZ
 replace HDR := Lib.hid (HDR.out.later HZ.out)
 clear HZ
 obtain ⟨ar, cr, hvr, -, -⟩ := HRR.out.open_
 subst hvr
 go_wp2_with fail
 refine (G_any _).mono ?_
 rintro e Va11 ⟨vg3, rfl, hg3, hb⟩
 have HZ := Lib.hid hb
 clear hb
 replace Hb1 := kbl Hb1 HZ
 replace HB := ktr' HB HZ
 replace HDR := Lib.hid (HDR.out.later HZ.out)
 replace HRR := Lib.hid (HRR.out.later HZ.out (Nat.le_refl _))
 clear HZ
 have HG3 := Lib.hid hg3
 clear hg3
 obtain ⟨ag3, cg3, hvg3, -, -⟩ := HG3.out.open_
 subst hvg3
 go_wp2_with fail
 refine (S_any _).mono ?_
 rintro e Va12 ⟨rfl, hb⟩
 have HZ := Lib.hid hb
 clear hb
 replace Hb1 := kbl Hb1 HZ
 replace HB := ktr' HB HZ
 replace HDR := Lib.hid (HDR.out.later HZ.out)
 replace HRR := Lib.hid (HRR.out.later HZ.out (Nat.le_refl _))
 replace HG3 := Lib.hid (HG3.out.later HZ.out (Nat.le_refl _))
 clear HZ
 go_wp2_with fail
 refine (Blow_any 4 1 1000 [(-1000, -1000), (-1000, -1000), (-500, -500), (200, 200)] ag3 cg3 0 0 (-3000) (-3000) 2000 4000 4000 5000 5000 0 _ HG3.out).mono ?_
 rintro e Va13 ⟨rfl, hb⟩
 have HZ := Lib.hid hb
 clear hb
 rw [ex_blow.1, ex_blow.2]
 simp only [wiV]
 replace Hb1 := kbl Hb1 HZ
 replace HB := ktr' HB HZ
 replace HDR := Lib.hid (HDR.out.later HZ.out)
 replace HRR := Lib.hid (HRR.out.later HZ.out (Nat.le_refl _))
 replace HG3 := Lib.hid (HG3.out.later HZ.out (Nat.le_refl _))
 clear HZ
 go_upto_region 4 with (fail)
 obtain ⟨Va14, hV⟩ : ∃ X, Va13.alloc (.cells #[.int .i64 (2666), .int .i64 (2667), .int .i64 (16), .int .i64 (0), .int .i64 (5000)] 32) = X := ⟨_, rfl⟩
 have hnew : Blk Va14 Va13.heap.size 32 #[.int .i64 (2666), .int .i64 (2667), .int .i64 (16), .int .i64 (0), .int .i64 (5000)] := by rw [← hV]; exact (Blk.new' _ _ _ rfl)
 have hz : Below Va13.heap.size Va13 Va14 := by rw [← hV]; exact ((Below.refl _ _).alloc (Nat.le_refl _) _)
 have hgn := HB.out.size
 have lb1 := Hb1.out.lt
 rw [hV]
 obtain ⟨b5, hbx⟩ : ∃ b, Va13.heap.size = b := ⟨_, rfl⟩
 rw [hbx] at hnew hgn lb1 ⊢
 have gb5 : w.heap.size ≤ b5 := hgn
 have HZ := Lib.hid hz
 have nb1b5 : ¬ b1 = b5 := by omega
 have nb5b1 : ¬ b5 = b1 := by omega
 clear hV hz hgn hbx lb1
 replace Hb1 := kbl Hb1 HZ
 replace HB := ktr' HB HZ
 replace HDR := Lib.hid (HDR.out.later HZ.out)
 replace HRR := Lib.hid (HRR.out.later HZ.out (Nat.le_refl _))
 replace HG3 := Lib.hid (HG3.out.later HZ.out (Nat.le_refl _))
 clear HZ
 have Hb5 := Lib.hid hnew
 clear hnew
 clear HG3
 have cb10 := kcl0 Hb1
 have cb11 := kcl1 Hb1
 have cb50 := kcl0 Hb5
 have cb51 := kcl1 Hb5
 have cb52 := kcl2 Hb5
 have cb53 := kcl3 Hb5
 have cb54 := kcl4 Hb5
 go_wp2_with fail
 have HZ : Hid (Below Va14.heap.size Va14 (Va14.alloc (.cells #[.int .i64 313, .int .i64 314, .int .i64 469, .int .i64 471] 26))) := (Below.refl _ _).alloc (Nat.le_refl _) _
 have HSN := Lib.hid (spans_new Va14 [(313, 314), (469, 471)] (by simp))
 refine (same_any _ _ [(313, 314), (469, 471)] [(313, 314), (469, 471)] _ (HRR.out.later HZ.out (Nat.le_refl _)) HSN.out).mono ?_
 rintro e Vz ⟨rfl, hb⟩
 have HY := Lib.hid (HZ.out.trans (hb.mono HZ.out.size))
 have Mb5 := Lib.hid (Hb5.out.below HY.out Hb5.out.lt)
 have HBZ := Lib.hid (HB.out.trans (HY.out.mono HB.out.size))
 clear hb HZ HSN HY
 clear cb10 cb11 cb50 cb51 cb52 cb53 cb54
 have m50 := Mb5.out.cell 0
 have m51 := Mb5.out.cell 1
 have m52 := Mb5.out.cell 2
 have m53 := Mb5.out.cell 3
 have m54 := Mb5.out.cell 4
 simp only [List.getElem?_toArray, List.getElem?_cons_zero, List.getElem?_cons_succ] at m50 m51 m52 m53 m54
 go_wp2
 go_ret
 exact ⟨rfl, HBZ.out⟩
end Go.Proofs.YtdhcdgfpkjdihaaDoor.Sg

/-
  Layer 3, the laws: few, model, some, between.
-/
import Derived.Test.YtdhcdgfpkjdihaaDoorVL3c
set_option linter.unusedSimpArgs false
set_option linter.unusedVariables false
namespace Go.Proofs.YtdhcdgfpkjdihaaDoor.Sg
open Go.RowKit Go.Shelf
set_option maxRecDepth 100000 in
theorem few_any (WW HH SS : Int) (A : Option Addr) (n c : Nat) (sa sb d1 d2 l1 l2 cell dir : Int) (w : World) :
 Calls Tryd.prog 15 #[.agg #[.int .i64 (WW), .int .i64 (HH), .int .i64 (SS), .slice A n c, .int .i64 (sa), .int .i64 (sb), .int .i64 (d1), .int .i64 (d2), .int .i64 (l1), .int .i64 (l2), .int .i64 (cell), .int .i64 (dir)]] w fun e w' => e = .returned (.bool (decide (n ≤ 600))) ∧ Below w.heap.size w w' := by
 have hcast : ((n : Int) ≤ 600) ↔ n ≤ 600 := by omega
 by_cases h : n ≤ 600
 all_goals
  go_enter Tryd.func15, Tryd.ntmps15
  go_wp2
  go_ret
  exact ⟨by simp [h, hcast], (by repeat (first | exact Below.refl _ _ | assumption | refine Below.drew ?_ | refine Below.drewN' ?_ _ | (refine Below.alloc ?_ (by simp <;> omega) _) | (refine Below.setCell ?_ (by simp <;> omega) _)))⟩
set_option maxRecDepth 100000 in
set_option maxHeartbeats 1000000 in
theorem model_any (WW HH SS : Int) (A : Option Addr) (n c : Nat) (sa sb d1 d2 l1 l2 cell dir : Int) (w : World) :
 Calls Tryd.prog 21 #[.agg #[.int .i64 (WW), .int .i64 (HH), .int .i64 (SS), .slice A n c, .int .i64 (sa), .int .i64 (sb), .int .i64 (d1), .int .i64 (d2), .int .i64 (l1), .int .i64 (l2), .int .i64 (cell), .int .i64 (dir)]] w fun e w' => e = .returned (.agg #[.int .i64 (d1), .int .i64 (d2), .int .i64 (l1), .int .i64 (l2)]) ∧ Below w.heap.size w w' := by
 go_enter Tryd.func21, Tryd.ntmps21
 go_upto_region 1 with (fail)
 obtain ⟨Va1, hV⟩ : ∃ V, (w.alloc (.cells #[.int .i64 (WW), .int .i64 (HH), .int .i64 (SS), .slice A n c, .int .i64 (sa), .int .i64 (sb), .int .i64 (d1), .int .i64 (d2), .int .i64 (l1), .int .i64 (l2), .int .i64 (cell), .int .i64 (dir)] 30)).alloc (.cells #[.int .i64 (0), .int .i64 (0), .int .i64 (0), .int .i64 (0)] 40) = V := ⟨_, rfl⟩
 have Kb1 : Hid (Blk Va1 (w.heap.size) 30 #[.int .i64 (WW), .int .i64 (HH), .int .i64 (SS), .slice A n c, .int .i64 (sa), .int .i64 (sb), .int .i64 (d1), .int .i64 (d2), .int .i64 (l1), .int .i64 (l2), .int .i64 (cell), .int .i64 (dir)]) := by rw [← hV]; exact (Blk.new' _ _ _ (by simp)).alloc _
 have Kb2 : Hid (Blk Va1 (w.heap.size + 1) 40 #[.int .i64 (0), .int .i64 (0), .int .i64 (0), .int .i64 (0)]) := by rw [← hV]; exact Blk.new' _ _ _ (by simp)
 have GHB : Hid (Below w.heap.size w Va1) := by rw [← hV]; exact (by repeat (first | exact Below.refl _ _ | assumption | refine Below.drew ?_ | refine Below.drewN' ?_ _ | (refine Below.alloc ?_ (by simp <;> omega) _) | (refine Below.setCell ?_ (by simp <;> omega) _)))
 have HZ : Hid (Below w.heap.size w Va1) := GHB
 rw [hV]
 clear hV HZ
 have HB := GHB
 clear GHB
 obtain ⟨b2, hqb2⟩ : ∃ b, w.heap.size + 1 = b := ⟨_, rfl⟩
 obtain ⟨b1, hqb1⟩ : ∃ b, w.heap.size = b := ⟨_, rfl⟩
 have gb1 : w.heap.size ≤ b1 := by omega
 have gb2 : w.heap.size ≤ b2 := by omega
 have nb2b1 : ¬ b2 = b1 := by omega
 have nb1b2 : ¬ b1 = b2 := by omega
 rw [hqb2] at Kb2 ⊢
 clear hqb2
 have HN : Hid (w.heap.size = b1) := hqb1
 rw [hqb1] at Kb1 ⊢
 clear hqb1
 have Hb1 := Kb1
 clear Kb1
 have Hb2 := Kb2
 clear Kb2
 have cb10 := kcl0 Hb1
 have cb11 := kcl1 Hb1
 have cb12 := kcl2 Hb1
 have cb13 := kcl3 Hb1
 have cb14 := kcl4 Hb1
 have cb15 := kcl5 Hb1
 have cb16 := kcl6 Hb1
 have cb17 := kcl7 Hb1
 have cb18 := kcl8 Hb1
 have cb19 : Va1.cell? ⟨b1, 9, none⟩ = some (.int .i64 (l2)) := Hb1.out.cell 9
 have cb110 : Va1.cell? ⟨b1, 10, none⟩ = some (.int .i64 (cell)) := Hb1.out.cell 10
 have cb111 : Va1.cell? ⟨b1, 11, none⟩ = some (.int .i64 (dir)) := Hb1.out.cell 11
 have cb20 := kcl0 Hb2
 have cb21 := kcl1 Hb2
 have cb22 := kcl2 Hb2
 have cb23 := kcl3 Hb2
 have zb20 : Va1.frozen? ⟨b2, 0, none⟩ = false := Hb2.out.frozen 0
 have zb21 : Va1.frozen? ⟨b2, 1, none⟩ = false := Hb2.out.frozen 1
 have zb22 : Va1.frozen? ⟨b2, 2, none⟩ = false := Hb2.out.frozen 2
 have zb23 : Va1.frozen? ⟨b2, 3, none⟩ = false := Hb2.out.frozen 3
 go_wp2
 have MZ := ((((Hb2.out.set_ 0 (.int .i64 (d1))).set_ 1 (.int .i64 (d2))).set_ 2 (.int .i64 (l1))).set_ 3 (.int .i64 (l2)))
 have rz0 := MZ.cell 0
 have rz1 := MZ.cell 1
 have rz2 := MZ.cell 2
 have rz3 := MZ.cell 3
 simp only [List.setIfInBounds_toArray, List.set_cons_zero, List.set_cons_succ, List.getElem?_toArray, List.getElem?_cons_zero, List.getElem?_cons_succ] at rz0 rz1 rz2 rz3
 refine bodyPost_ret (v := .agg #[.int .i64 (d1), .int .i64 (d2), .int .i64 (l1), .int .i64 (l2)]) (by simp [results, Tryd.results21, go_sem, rz0, rz1, rz2, rz3]) rfl ⟨rfl, ((((HB.out.setCell (p := ⟨b2, 0, none⟩) gb2 _).setCell (p := ⟨b2, 1, none⟩) gb2 _).setCell (p := ⟨b2, 2, none⟩) gb2 _).setCell (p := ⟨b2, 3, none⟩) gb2 _)⟩
def someN (n m : Nat) : Nat := if n &&& m = 0 then n else n &&& m
theorem someN_in (n m : Nat) : someN n m &&& n = someN n m := by
 unfold someN
 split
 · exact Nat.and_self n
 · rw [Nat.and_comm (n &&& m) n, ← Nat.and_assoc, Nat.and_self]
theorem someN_pos {n m : Nat} (h : 1 ≤ n) : 1 ≤ someN n m := by
 unfold someN
 split <;> omega
theorem someN_le (n m : Nat) : someN n m ≤ n := by
 unfold someN
 split
 · exact Nat.le_refl _
 · exact Nat.and_le_left
set_option maxRecDepth 100000 in
theorem some_any (n m : Nat) (w : World) (hn : n < 256) (hm : m < 256) :
 Calls Tryd.prog 45 #[.int .i64 (n : Int), .int .u8 (m : Int)] w fun e w' => e = .returned (.int .i64 ((someN n m : Nat) : Int)) ∧ Below w.heap.size w w' := by
 have hand : bits .and .i64 (n : Int) (m : Int) = ((n &&& m : Nat) : Int) := bits_and_i64 _ _ (by omega) (by omega)
 have hwr : IntKind.i64.wrap (m : Int) = (m : Int) := IntWalk.i64_in _ (by omega)
 by_cases h : n &&& m = 0
 · have e : someN n m = n := if_pos h
   rw [e]
   rw [h] at hand
   have hand2 : bits .and .i64 (n : Int) (m : Int) = 0 := hand
   clear e h hand
   go_enter Tryd.func45, Tryd.ntmps45
   go_wp2
   go_ret
   exact ⟨rfl, (by repeat (first | exact Below.refl _ _ | assumption | refine Below.drew ?_ | refine Below.drewN' ?_ _ | (refine Below.alloc ?_ (by simp <;> omega) _) | (refine Below.setCell ?_ (by simp <;> omega) _)))⟩
 · have e : someN n m = n &&& m := if_neg h
   rw [e]
   obtain ⟨k, hk⟩ : ∃ z, n &&& m = z := ⟨_, rfl⟩
   rw [hk] at hand h ⊢
   have hk0 : ¬ (k : Int) = 0 := by omega
   clear e hk
   go_enter Tryd.func45, Tryd.ntmps45
   go_wp2
   go_ret
   exact ⟨rfl, (by repeat (first | exact Below.refl _ _ | assumption | refine Below.drew ?_ | refine Below.drewN' ?_ _ | (refine Below.alloc ?_ (by simp <;> omega) _) | (refine Below.setCell ?_ (by simp <;> omega) _)))⟩
set_option maxRecDepth 100000 in
theorem between_any (n a b : Int) (w : World) (h : min a b ≤ n ∧ n ≤ max a b) :
 Calls Tryd.prog 48 #[.int .i64 n, .int .i64 a, .int .i64 b] w fun e w' => e = .returned (.bool true) ∧ Below w.heap.size w w' := by
 obtain ⟨h1, h2⟩ := h
 go_enter Tryd.func48, Tryd.ntmps48
 go_wp2
 all_goals
  go_ret
  refine ⟨?_, (by repeat (first | exact Below.refl _ _ | assumption | refine Below.drew ?_ | refine Below.drewN' ?_ _ | (refine Below.alloc ?_ (by simp <;> omega) _) | (refine Below.setCell ?_ (by simp <;> omega) _)))⟩
  have e : ∀ p q : Bool, p = q → Ending.returned (Value.bool p) = .returned (.bool q) := fun p q h => by rw [h]
  refine e _ _ ?_
  simp
  try omega
end Go.Proofs.YtdhcdgfpkjdihaaDoor.Sg

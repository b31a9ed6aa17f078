/-
  The reference: Neighbors, Near, Terrain.
-/
import Derived.Test.YthcenmocnphnmaaGreatDoorMN
set_option linter.unusedSimpArgs false
set_option linter.unusedVariables false
namespace Go.Proofs.YthcenmocnphnmaaGreatDoor
open Go.RowKit Go.Shelf

theorem own_fresh {w : World} {base base' e size n : Nat} {v : Value} {xs : List Value} (h : w.ownsRow base e size v n xs) (hb : base' ≤ base) : Fresh base' v := by
  rintro a m c rfl
  exact Nat.le_trans hb (h.lt a.block rfl).1
theorem ints_step {w0 W w1 : World} {B n : Nat} {v v1 : Value} {l : List Int} {x : Int} {o : Obj} (hn : n = l.length) (ho : W.ownsRow B 3 1 v n (l.map (Value.int .i64))) (hb : Below B w0 W) (hB : B ≤ W.heap.size) (hown1 : w1.ownsRow B 3 1 v1 (n + 1) (l.map (Value.int .i64) ++ [.int .i64 x])) (hg1 : (W.alloc o).grownBy w1 v.ownBlock) :
    Hid (w1.ownsRow B 3 1 v1 (n + 1) ((l ++ [x]).map (Value.int .i64))) ∧ Hid (n + 1 = (l ++ [x]).length) ∧ Hid (Below B w0 w1) ∧ B ≤ w1.heap.size :=
  ⟨by rw [List.map_append]; exact hown1, by simp [Hid, hn], (hb.alloc hB o).grown hg1 (by simp; omega) (fun k e => (ho.lt k e).1), Nat.le_trans (by simp; omega) hg1.size⟩

set_option maxRecDepth 100000 in
set_option maxHeartbeats 4000000 in
theorem rNeighbors_any (x : Value) (g : G) (c : Nat) (w : World) (hg : GridAt w w.heap.size x g) (V : Valid g) (hc : c < g.ss.length) :
    Calls Tryz.prog 54 #[x, .int .i64 c] w fun e w' => ∃ v, e = .returned v ∧ IntsAt w' w'.heap.size v (nearL g c) ∧ Below w.heap.size w w' ∧ Fresh w.heap.size v := by
  obtain ⟨v, rfl, hs⟩ := hg
  obtain ⟨A, k, rfl, hk, hm⟩ := hs.open_
  have hW := V.w1
  have hW' := V.w2
  have hH' := V.h2
  have hsm := V.small
  have hc0 : (0 : Int) ≤ (c : Int) := by omega
  have hc1 : (c : Int) ≤ 576 := by omega
  have hW0 : (g.W == 0) = false := by simp; omega
  have hW1 : (0 : Int) ≤ (c : Int) / g.W := Int.ediv_nonneg hc0 (by omega)
  have hW2 : (c : Int) / g.W ≤ c := Int.ediv_le_self _ hc0
  have hX0 : (0 : Int) ≤ (c : Int) % g.W := Int.emod_nonneg _ (by omega)
  have hX1 : (c : Int) % g.W < g.W := Int.emod_lt_of_pos _ (by omega)
  have Hl : Hid (nearL g c = nbl g.W g.H c ((c : Int) % g.W) ((c : Int) / g.W)) := rfl
  clear hs V
  obtain ⟨i0, hi0, hz0, hz1, hz2⟩ := info_parts int_info
  go_enter Tryz.func54, Tryz.ntmps54
  go_wp2
  go_quiet (fail)
  generalize hX : (c : Int) % g.W = X at *
  generalize hY : (c : Int) / g.W = Y at *
  clear hX hY
  have HBX : Hid (Blk (w.alloc (.cells #[.int .i64 g.W, .int .i64 g.H, .int .i64 g.S, .slice A g.ss.length k] 24)) w.heap.size 24 #[.int .i64 g.W, .int .i64 g.H, .int .i64 g.S, .slice A g.ss.length k]) := Blk.new' _ _ _ rfl
  have HX : Hid (Below w.heap.size w (w.alloc (.cells #[.int .i64 g.W, .int .i64 g.H, .int .i64 g.S, .slice A g.ss.length k] 24))) := (by repeat (first | exact Below.refl _ _ | assumption | refine Below.drew ?_ | refine Below.drewN' ?_ _ | (refine Below.alloc ?_ (by simp <;> omega) _) | (refine Below.setCell ?_ (by simp <;> omega) _)))
  by_cases h0 : X + 1 < g.W
  · skip
    by_cases h1 : Y + 1 < g.H
    · skip
      by_cases h2 : 0 < X
      · skip
        by_cases h3 : 0 < Y
        · skip
          have Hr : Hid (nearL g c = [(c : Int) + 1, (c : Int) + g.W, (c : Int) - 1, (c : Int) - g.W]) := by rw [Hid, Hl.out]; unfold nbl; rw [if_pos h0, if_pos h1, if_pos h2, if_pos h3]; rfl
          clear Hl
          go_wp2_with (first
            | (at_builtin; ((refine wpList_append_own_at _ rfl (.tmp 21) (.tmp 24) 26 rfl (w.heap.size + 1) 3 i0 (.int .i64 0) 1 8 Tryz.underlying26 hi0 hz0 hz1 hz2 rfl (by decide) (.slice none 0 0) 0 [] rfl (World.ownsRow_nil _ _ _ _) ⟨_, 0, none⟩ 1 1 [.int .i64 ((c : Int) + 1)] rfl rfl (cell_one_new' _ _ _ (by simp)) (by simp [Value.oneCell']) (by unfold maxLen; omega) (by omega) (by simp <;> omega) ?_; intro v0 w0 hown1 hg1 _ _; obtain ⟨HO0, s2, HB0, HBs0⟩ := ints_step (l := []) rfl (World.ownsRow_nil _ _ _ _) (by exact Below.drewN' (Below.refl _ _) _) (by simp) hown1 hg1; clear s2 hown1 hg1; have d0 := (HBX.out.below HB0.out (by omega)).cell 0; have d1 := (HBX.out.below HB0.out (by omega)).cell 1; simp only [List.getElem?_toArray, List.getElem?_cons_zero, List.getElem?_cons_succ] at d0 d1)))
            | (at_builtin; ((refine wpList_append_own_at _ rfl (.tmp 31) (.tmp 36) 26 rfl (w.heap.size + 1) 3 i0 (.int .i64 0) 1 8 Tryz.underlying26 hi0 hz0 hz1 hz2 rfl (by decide) v0 1 _ rfl (HO0.out.alloc _) ⟨_, 0, none⟩ 1 1 [.int .i64 ((c : Int) + g.W)] rfl rfl (cell_one_new' _ _ _ (by simp)) (by simp [Value.oneCell']) (by unfold maxLen; omega) (by omega) (by simp <;> omega) ?_; intro v1 w1 hown1 hg1 _ _; obtain ⟨HO1, s2, HB1, HBs1⟩ := ints_step (l := _) rfl HO0.out HB0.out HBs0 hown1 hg1; clear s2 hown1 hg1; have d0 := (HBX.out.below HB1.out (by omega)).cell 0; have d1 := (HBX.out.below HB1.out (by omega)).cell 1; simp only [List.getElem?_toArray, List.getElem?_cons_zero, List.getElem?_cons_succ] at d0 d1)))
            | (at_builtin; ((refine wpList_append_own_at _ rfl (.tmp 40) (.tmp 43) 26 rfl (w.heap.size + 1) 3 i0 (.int .i64 0) 1 8 Tryz.underlying26 hi0 hz0 hz1 hz2 rfl (by decide) v1 2 _ rfl (HO1.out.alloc _) ⟨_, 0, none⟩ 1 1 [.int .i64 ((c : Int) - 1)] rfl rfl (cell_one_new' _ _ _ (by simp)) (by simp [Value.oneCell']) (by unfold maxLen; omega) (by omega) (by simp <;> omega) ?_; intro v2 w2 hown1 hg1 _ _; obtain ⟨HO2, s2, HB2, HBs2⟩ := ints_step (l := _) rfl HO1.out HB1.out HBs1 hown1 hg1; clear s2 hown1 hg1; have d0 := (HBX.out.below HB2.out (by omega)).cell 0; have d1 := (HBX.out.below HB2.out (by omega)).cell 1; simp only [List.getElem?_toArray, List.getElem?_cons_zero, List.getElem?_cons_succ] at d0 d1)))
            | (at_builtin; ((refine wpList_append_own_at _ rfl (.tmp 47) (.tmp 52) 26 rfl (w.heap.size + 1) 3 i0 (.int .i64 0) 1 8 Tryz.underlying26 hi0 hz0 hz1 hz2 rfl (by decide) v2 3 _ rfl (HO2.out.alloc _) ⟨_, 0, none⟩ 1 1 [.int .i64 ((c : Int) - g.W)] rfl rfl (cell_one_new' _ _ _ (by simp)) (by simp [Value.oneCell']) (by unfold maxLen; omega) (by omega) (by simp <;> omega) ?_; intro v3 w3 hown1 hg1 _ _; obtain ⟨HO3, s2, HB3, HBs3⟩ := ints_step (l := _) rfl HO2.out HB2.out HBs2 hown1 hg1; clear s2 hown1 hg1; have d0 := (HBX.out.below HB3.out (by omega)).cell 0; have d1 := (HBX.out.below HB3.out (by omega)).cell 1; simp only [List.getElem?_toArray, List.getElem?_cons_zero, List.getElem?_cons_succ] at d0 d1))))
          go_ret
          exact ⟨_, rfl, by rw [Hr.out]; exact Reads.of_own HO3.out, HX.out.trans (HB3.out.mono (by omega)), own_fresh HO3.out (by omega)⟩
        · skip
          have Hr : Hid (nearL g c = [(c : Int) + 1, (c : Int) + g.W, (c : Int) - 1]) := by rw [Hid, Hl.out]; unfold nbl; rw [if_pos h0, if_pos h1, if_pos h2, if_neg h3]; rfl
          clear Hl
          go_wp2_with (first
            | (at_builtin; ((refine wpList_append_own_at _ rfl (.tmp 21) (.tmp 24) 26 rfl (w.heap.size + 1) 3 i0 (.int .i64 0) 1 8 Tryz.underlying26 hi0 hz0 hz1 hz2 rfl (by decide) (.slice none 0 0) 0 [] rfl (World.ownsRow_nil _ _ _ _) ⟨_, 0, none⟩ 1 1 [.int .i64 ((c : Int) + 1)] rfl rfl (cell_one_new' _ _ _ (by simp)) (by simp [Value.oneCell']) (by unfold maxLen; omega) (by omega) (by simp <;> omega) ?_; intro v0 w0 hown1 hg1 _ _; obtain ⟨HO0, s2, HB0, HBs0⟩ := ints_step (l := []) rfl (World.ownsRow_nil _ _ _ _) (by exact Below.drewN' (Below.refl _ _) _) (by simp) hown1 hg1; clear s2 hown1 hg1; have d0 := (HBX.out.below HB0.out (by omega)).cell 0; have d1 := (HBX.out.below HB0.out (by omega)).cell 1; simp only [List.getElem?_toArray, List.getElem?_cons_zero, List.getElem?_cons_succ] at d0 d1)))
            | (at_builtin; ((refine wpList_append_own_at _ rfl (.tmp 31) (.tmp 36) 26 rfl (w.heap.size + 1) 3 i0 (.int .i64 0) 1 8 Tryz.underlying26 hi0 hz0 hz1 hz2 rfl (by decide) v0 1 _ rfl (HO0.out.alloc _) ⟨_, 0, none⟩ 1 1 [.int .i64 ((c : Int) + g.W)] rfl rfl (cell_one_new' _ _ _ (by simp)) (by simp [Value.oneCell']) (by unfold maxLen; omega) (by omega) (by simp <;> omega) ?_; intro v1 w1 hown1 hg1 _ _; obtain ⟨HO1, s2, HB1, HBs1⟩ := ints_step (l := _) rfl HO0.out HB0.out HBs0 hown1 hg1; clear s2 hown1 hg1; have d0 := (HBX.out.below HB1.out (by omega)).cell 0; have d1 := (HBX.out.below HB1.out (by omega)).cell 1; simp only [List.getElem?_toArray, List.getElem?_cons_zero, List.getElem?_cons_succ] at d0 d1)))
            | (at_builtin; ((refine wpList_append_own_at _ rfl (.tmp 40) (.tmp 43) 26 rfl (w.heap.size + 1) 3 i0 (.int .i64 0) 1 8 Tryz.underlying26 hi0 hz0 hz1 hz2 rfl (by decide) v1 2 _ rfl (HO1.out.alloc _) ⟨_, 0, none⟩ 1 1 [.int .i64 ((c : Int) - 1)] rfl rfl (cell_one_new' _ _ _ (by simp)) (by simp [Value.oneCell']) (by unfold maxLen; omega) (by omega) (by simp <;> omega) ?_; intro v2 w2 hown1 hg1 _ _; obtain ⟨HO2, s2, HB2, HBs2⟩ := ints_step (l := _) rfl HO1.out HB1.out HBs1 hown1 hg1; clear s2 hown1 hg1; have d0 := (HBX.out.below HB2.out (by omega)).cell 0; have d1 := (HBX.out.below HB2.out (by omega)).cell 1; simp only [List.getElem?_toArray, List.getElem?_cons_zero, List.getElem?_cons_succ] at d0 d1))))
          go_ret
          exact ⟨_, rfl, by rw [Hr.out]; exact Reads.of_own HO2.out, HX.out.trans (HB2.out.mono (by omega)), own_fresh HO2.out (by omega)⟩
      · skip
        by_cases h3 : 0 < Y
        · skip
          have Hr : Hid (nearL g c = [(c : Int) + 1, (c : Int) + g.W, (c : Int) - g.W]) := by rw [Hid, Hl.out]; unfold nbl; rw [if_pos h0, if_pos h1, if_neg h2, if_pos h3]; rfl
          clear Hl
          go_wp2_with (first
            | (at_builtin; ((refine wpList_append_own_at _ rfl (.tmp 21) (.tmp 24) 26 rfl (w.heap.size + 1) 3 i0 (.int .i64 0) 1 8 Tryz.underlying26 hi0 hz0 hz1 hz2 rfl (by decide) (.slice none 0 0) 0 [] rfl (World.ownsRow_nil _ _ _ _) ⟨_, 0, none⟩ 1 1 [.int .i64 ((c : Int) + 1)] rfl rfl (cell_one_new' _ _ _ (by simp)) (by simp [Value.oneCell']) (by unfold maxLen; omega) (by omega) (by simp <;> omega) ?_; intro v0 w0 hown1 hg1 _ _; obtain ⟨HO0, s2, HB0, HBs0⟩ := ints_step (l := []) rfl (World.ownsRow_nil _ _ _ _) (by exact Below.drewN' (Below.refl _ _) _) (by simp) hown1 hg1; clear s2 hown1 hg1; have d0 := (HBX.out.below HB0.out (by omega)).cell 0; have d1 := (HBX.out.below HB0.out (by omega)).cell 1; simp only [List.getElem?_toArray, List.getElem?_cons_zero, List.getElem?_cons_succ] at d0 d1)))
            | (at_builtin; ((refine wpList_append_own_at _ rfl (.tmp 31) (.tmp 36) 26 rfl (w.heap.size + 1) 3 i0 (.int .i64 0) 1 8 Tryz.underlying26 hi0 hz0 hz1 hz2 rfl (by decide) v0 1 _ rfl (HO0.out.alloc _) ⟨_, 0, none⟩ 1 1 [.int .i64 ((c : Int) + g.W)] rfl rfl (cell_one_new' _ _ _ (by simp)) (by simp [Value.oneCell']) (by unfold maxLen; omega) (by omega) (by simp <;> omega) ?_; intro v1 w1 hown1 hg1 _ _; obtain ⟨HO1, s2, HB1, HBs1⟩ := ints_step (l := _) rfl HO0.out HB0.out HBs0 hown1 hg1; clear s2 hown1 hg1; have d0 := (HBX.out.below HB1.out (by omega)).cell 0; have d1 := (HBX.out.below HB1.out (by omega)).cell 1; simp only [List.getElem?_toArray, List.getElem?_cons_zero, List.getElem?_cons_succ] at d0 d1)))
            | (at_builtin; ((refine wpList_append_own_at _ rfl (.tmp 47) (.tmp 52) 26 rfl (w.heap.size + 1) 3 i0 (.int .i64 0) 1 8 Tryz.underlying26 hi0 hz0 hz1 hz2 rfl (by decide) v1 2 _ rfl (HO1.out.alloc _) ⟨_, 0, none⟩ 1 1 [.int .i64 ((c : Int) - g.W)] rfl rfl (cell_one_new' _ _ _ (by simp)) (by simp [Value.oneCell']) (by unfold maxLen; omega) (by omega) (by simp <;> omega) ?_; intro v3 w3 hown1 hg1 _ _; obtain ⟨HO3, s2, HB3, HBs3⟩ := ints_step (l := _) rfl HO1.out HB1.out HBs1 hown1 hg1; clear s2 hown1 hg1; have d0 := (HBX.out.below HB3.out (by omega)).cell 0; have d1 := (HBX.out.below HB3.out (by omega)).cell 1; simp only [List.getElem?_toArray, List.getElem?_cons_zero, List.getElem?_cons_succ] at d0 d1))))
          go_ret
          exact ⟨_, rfl, by rw [Hr.out]; exact Reads.of_own HO3.out, HX.out.trans (HB3.out.mono (by omega)), own_fresh HO3.out (by omega)⟩
        · skip
          have Hr : Hid (nearL g c = [(c : Int) + 1, (c : Int) + g.W]) := by rw [Hid, Hl.out]; unfold nbl; rw [if_pos h0, if_pos h1, if_neg h2, if_neg h3]; rfl
          clear Hl
          go_wp2_with (first
            | (at_builtin; ((refine wpList_append_own_at _ rfl (.tmp 21) (.tmp 24) 26 rfl (w.heap.size + 1) 3 i0 (.int .i64 0) 1 8 Tryz.underlying26 hi0 hz0 hz1 hz2 rfl (by decide) (.slice none 0 0) 0 [] rfl (World.ownsRow_nil _ _ _ _) ⟨_, 0, none⟩ 1 1 [.int .i64 ((c : Int) + 1)] rfl rfl (cell_one_new' _ _ _ (by simp)) (by simp [Value.oneCell']) (by unfold maxLen; omega) (by omega) (by simp <;> omega) ?_; intro v0 w0 hown1 hg1 _ _; obtain ⟨HO0, s2, HB0, HBs0⟩ := ints_step (l := []) rfl (World.ownsRow_nil _ _ _ _) (by exact Below.drewN' (Below.refl _ _) _) (by simp) hown1 hg1; clear s2 hown1 hg1; have d0 := (HBX.out.below HB0.out (by omega)).cell 0; have d1 := (HBX.out.below HB0.out (by omega)).cell 1; simp only [List.getElem?_toArray, List.getElem?_cons_zero, List.getElem?_cons_succ] at d0 d1)))
            | (at_builtin; ((refine wpList_append_own_at _ rfl (.tmp 31) (.tmp 36) 26 rfl (w.heap.size + 1) 3 i0 (.int .i64 0) 1 8 Tryz.underlying26 hi0 hz0 hz1 hz2 rfl (by decide) v0 1 _ rfl (HO0.out.alloc _) ⟨_, 0, none⟩ 1 1 [.int .i64 ((c : Int) + g.W)] rfl rfl (cell_one_new' _ _ _ (by simp)) (by simp [Value.oneCell']) (by unfold maxLen; omega) (by omega) (by simp <;> omega) ?_; intro v1 w1 hown1 hg1 _ _; obtain ⟨HO1, s2, HB1, HBs1⟩ := ints_step (l := _) rfl HO0.out HB0.out HBs0 hown1 hg1; clear s2 hown1 hg1; have d0 := (HBX.out.below HB1.out (by omega)).cell 0; have d1 := (HBX.out.below HB1.out (by omega)).cell 1; simp only [List.getElem?_toArray, List.getElem?_cons_zero, List.getElem?_cons_succ] at d0 d1))))
          go_ret
          exact ⟨_, rfl, by rw [Hr.out]; exact Reads.of_own HO1.out, HX.out.trans (HB1.out.mono (by omega)), own_fresh HO1.out (by omega)⟩
    · skip
      by_cases h2 : 0 < X
      · skip
        by_cases h3 : 0 < Y
        · skip
          have Hr : Hid (nearL g c = [(c : Int) + 1, (c : Int) - 1, (c : Int) - g.W]) := by rw [Hid, Hl.out]; unfold nbl; rw [if_pos h0, if_neg h1, if_pos h2, if_pos h3]; rfl
          clear Hl
          go_wp2_with (first
            | (at_builtin; ((refine wpList_append_own_at _ rfl (.tmp 21) (.tmp 24) 26 rfl (w.heap.size + 1) 3 i0 (.int .i64 0) 1 8 Tryz.underlying26 hi0 hz0 hz1 hz2 rfl (by decide) (.slice none 0 0) 0 [] rfl (World.ownsRow_nil _ _ _ _) ⟨_, 0, none⟩ 1 1 [.int .i64 ((c : Int) + 1)] rfl rfl (cell_one_new' _ _ _ (by simp)) (by simp [Value.oneCell']) (by unfold maxLen; omega) (by omega) (by simp <;> omega) ?_; intro v0 w0 hown1 hg1 _ _; obtain ⟨HO0, s2, HB0, HBs0⟩ := ints_step (l := []) rfl (World.ownsRow_nil _ _ _ _) (by exact Below.drewN' (Below.refl _ _) _) (by simp) hown1 hg1; clear s2 hown1 hg1; have d0 := (HBX.out.below HB0.out (by omega)).cell 0; have d1 := (HBX.out.below HB0.out (by omega)).cell 1; simp only [List.getElem?_toArray, List.getElem?_cons_zero, List.getElem?_cons_succ] at d0 d1)))
            | (at_builtin; ((refine wpList_append_own_at _ rfl (.tmp 40) (.tmp 43) 26 rfl (w.heap.size + 1) 3 i0 (.int .i64 0) 1 8 Tryz.underlying26 hi0 hz0 hz1 hz2 rfl (by decide) v0 1 _ rfl (HO0.out.alloc _) ⟨_, 0, none⟩ 1 1 [.int .i64 ((c : Int) - 1)] rfl rfl (cell_one_new' _ _ _ (by simp)) (by simp [Value.oneCell']) (by unfold maxLen; omega) (by omega) (by simp <;> omega) ?_; intro v2 w2 hown1 hg1 _ _; obtain ⟨HO2, s2, HB2, HBs2⟩ := ints_step (l := _) rfl HO0.out HB0.out HBs0 hown1 hg1; clear s2 hown1 hg1; have d0 := (HBX.out.below HB2.out (by omega)).cell 0; have d1 := (HBX.out.below HB2.out (by omega)).cell 1; simp only [List.getElem?_toArray, List.getElem?_cons_zero, List.getElem?_cons_succ] at d0 d1)))
            | (at_builtin; ((refine wpList_append_own_at _ rfl (.tmp 47) (.tmp 52) 26 rfl (w.heap.size + 1) 3 i0 (.int .i64 0) 1 8 Tryz.underlying26 hi0 hz0 hz1 hz2 rfl (by decide) v2 2 _ rfl (HO2.out.alloc _) ⟨_, 0, none⟩ 1 1 [.int .i64 ((c : Int) - g.W)] rfl rfl (cell_one_new' _ _ _ (by simp)) (by simp [Value.oneCell']) (by unfold maxLen; omega) (by omega) (by simp <;> omega) ?_; intro v3 w3 hown1 hg1 _ _; obtain ⟨HO3, s2, HB3, HBs3⟩ := ints_step (l := _) rfl HO2.out HB2.out HBs2 hown1 hg1; clear s2 hown1 hg1; have d0 := (HBX.out.below HB3.out (by omega)).cell 0; have d1 := (HBX.out.below HB3.out (by omega)).cell 1; simp only [List.getElem?_toArray, List.getElem?_cons_zero, List.getElem?_cons_succ] at d0 d1))))
          go_ret
          exact ⟨_, rfl, by rw [Hr.out]; exact Reads.of_own HO3.out, HX.out.trans (HB3.out.mono (by omega)), own_fresh HO3.out (by omega)⟩
        · skip
          have Hr : Hid (nearL g c = [(c : Int) + 1, (c : Int) - 1]) := by rw [Hid, Hl.out]; unfold nbl; rw [if_pos h0, if_neg h1, if_pos h2, if_neg h3]; rfl
          clear Hl
          go_wp2_with (first
            | (at_builtin; ((refine wpList_append_own_at _ rfl (.tmp 21) (.tmp 24) 26 rfl (w.heap.size + 1) 3 i0 (.int .i64 0) 1 8 Tryz.underlying26 hi0 hz0 hz1 hz2 rfl (by decide) (.slice none 0 0) 0 [] rfl (World.ownsRow_nil _ _ _ _) ⟨_, 0, none⟩ 1 1 [.int .i64 ((c : Int) + 1)] rfl rfl (cell_one_new' _ _ _ (by simp)) (by simp [Value.oneCell']) (by unfold maxLen; omega) (by omega) (by simp <;> omega) ?_; intro v0 w0 hown1 hg1 _ _; obtain ⟨HO0, s2, HB0, HBs0⟩ := ints_step (l := []) rfl (World.ownsRow_nil _ _ _ _) (by exact Below.drewN' (Below.refl _ _) _) (by simp) hown1 hg1; clear s2 hown1 hg1; have d0 := (HBX.out.below HB0.out (by omega)).cell 0; have d1 := (HBX.out.below HB0.out (by omega)).cell 1; simp only [List.getElem?_toArray, List.getElem?_cons_zero, List.getElem?_cons_succ] at d0 d1)))
            | (at_builtin; ((refine wpList_append_own_at _ rfl (.tmp 40) (.tmp 43) 26 rfl (w.heap.size + 1) 3 i0 (.int .i64 0) 1 8 Tryz.underlying26 hi0 hz0 hz1 hz2 rfl (by decide) v0 1 _ rfl (HO0.out.alloc _) ⟨_, 0, none⟩ 1 1 [.int .i64 ((c : Int) - 1)] rfl rfl (cell_one_new' _ _ _ (by simp)) (by simp [Value.oneCell']) (by unfold maxLen; omega) (by omega) (by simp <;> omega) ?_; intro v2 w2 hown1 hg1 _ _; obtain ⟨HO2, s2, HB2, HBs2⟩ := ints_step (l := _) rfl HO0.out HB0.out HBs0 hown1 hg1; clear s2 hown1 hg1; have d0 := (HBX.out.below HB2.out (by omega)).cell 0; have d1 := (HBX.out.below HB2.out (by omega)).cell 1; simp only [List.getElem?_toArray, List.getElem?_cons_zero, List.getElem?_cons_succ] at d0 d1))))
          go_ret
          exact ⟨_, rfl, by rw [Hr.out]; exact Reads.of_own HO2.out, HX.out.trans (HB2.out.mono (by omega)), own_fresh HO2.out (by omega)⟩
      · skip
        by_cases h3 : 0 < Y
        · skip
          have Hr : Hid (nearL g c = [(c : Int) + 1, (c : Int) - g.W]) := by rw [Hid, Hl.out]; unfold nbl; rw [if_pos h0, if_neg h1, if_neg h2, if_pos h3]; rfl
          clear Hl
          go_wp2_with (first
            | (at_builtin; ((refine wpList_append_own_at _ rfl (.tmp 21) (.tmp 24) 26 rfl (w.heap.size + 1) 3 i0 (.int .i64 0) 1 8 Tryz.underlying26 hi0 hz0 hz1 hz2 rfl (by decide) (.slice none 0 0) 0 [] rfl (World.ownsRow_nil _ _ _ _) ⟨_, 0, none⟩ 1 1 [.int .i64 ((c : Int) + 1)] rfl rfl (cell_one_new' _ _ _ (by simp)) (by simp [Value.oneCell']) (by unfold maxLen; omega) (by omega) (by simp <;> omega) ?_; intro v0 w0 hown1 hg1 _ _; obtain ⟨HO0, s2, HB0, HBs0⟩ := ints_step (l := []) rfl (World.ownsRow_nil _ _ _ _) (by exact Below.drewN' (Below.refl _ _) _) (by simp) hown1 hg1; clear s2 hown1 hg1; have d0 := (HBX.out.below HB0.out (by omega)).cell 0; have d1 := (HBX.out.below HB0.out (by omega)).cell 1; simp only [List.getElem?_toArray, List.getElem?_cons_zero, List.getElem?_cons_succ] at d0 d1)))
            | (at_builtin; ((refine wpList_append_own_at _ rfl (.tmp 47) (.tmp 52) 26 rfl (w.heap.size + 1) 3 i0 (.int .i64 0) 1 8 Tryz.underlying26 hi0 hz0 hz1 hz2 rfl (by decide) v0 1 _ rfl (HO0.out.alloc _) ⟨_, 0, none⟩ 1 1 [.int .i64 ((c : Int) - g.W)] rfl rfl (cell_one_new' _ _ _ (by simp)) (by simp [Value.oneCell']) (by unfold maxLen; omega) (by omega) (by simp <;> omega) ?_; intro v3 w3 hown1 hg1 _ _; obtain ⟨HO3, s2, HB3, HBs3⟩ := ints_step (l := _) rfl HO0.out HB0.out HBs0 hown1 hg1; clear s2 hown1 hg1; have d0 := (HBX.out.below HB3.out (by omega)).cell 0; have d1 := (HBX.out.below HB3.out (by omega)).cell 1; simp only [List.getElem?_toArray, List.getElem?_cons_zero, List.getElem?_cons_succ] at d0 d1))))
          go_ret
          exact ⟨_, rfl, by rw [Hr.out]; exact Reads.of_own HO3.out, HX.out.trans (HB3.out.mono (by omega)), own_fresh HO3.out (by omega)⟩
        · skip
          have Hr : Hid (nearL g c = [(c : Int) + 1]) := by rw [Hid, Hl.out]; unfold nbl; rw [if_pos h0, if_neg h1, if_neg h2, if_neg h3]; rfl
          clear Hl
          go_wp2_with (first
            | (at_builtin; ((refine wpList_append_own_at _ rfl (.tmp 21) (.tmp 24) 26 rfl (w.heap.size + 1) 3 i0 (.int .i64 0) 1 8 Tryz.underlying26 hi0 hz0 hz1 hz2 rfl (by decide) (.slice none 0 0) 0 [] rfl (World.ownsRow_nil _ _ _ _) ⟨_, 0, none⟩ 1 1 [.int .i64 ((c : Int) + 1)] rfl rfl (cell_one_new' _ _ _ (by simp)) (by simp [Value.oneCell']) (by unfold maxLen; omega) (by omega) (by simp <;> omega) ?_; intro v0 w0 hown1 hg1 _ _; obtain ⟨HO0, s2, HB0, HBs0⟩ := ints_step (l := []) rfl (World.ownsRow_nil _ _ _ _) (by exact Below.drewN' (Below.refl _ _) _) (by simp) hown1 hg1; clear s2 hown1 hg1; have d0 := (HBX.out.below HB0.out (by omega)).cell 0; have d1 := (HBX.out.below HB0.out (by omega)).cell 1; simp only [List.getElem?_toArray, List.getElem?_cons_zero, List.getElem?_cons_succ] at d0 d1))))
          go_ret
          exact ⟨_, rfl, by rw [Hr.out]; exact Reads.of_own HO0.out, HX.out.trans (HB0.out.mono (by omega)), own_fresh HO0.out (by omega)⟩
  · skip
    by_cases h1 : Y + 1 < g.H
    · skip
      by_cases h2 : 0 < X
      · skip
        by_cases h3 : 0 < Y
        · skip
          have Hr : Hid (nearL g c = [(c : Int) + g.W, (c : Int) - 1, (c : Int) - g.W]) := by rw [Hid, Hl.out]; unfold nbl; rw [if_neg h0, if_pos h1, if_pos h2, if_pos h3]; rfl
          clear Hl
          go_wp2_with (first
            | (at_builtin; ((refine wpList_append_own_at _ rfl (.tmp 31) (.tmp 36) 26 rfl (w.heap.size + 1) 3 i0 (.int .i64 0) 1 8 Tryz.underlying26 hi0 hz0 hz1 hz2 rfl (by decide) (.slice none 0 0) 0 [] rfl (World.ownsRow_nil _ _ _ _) ⟨_, 0, none⟩ 1 1 [.int .i64 ((c : Int) + g.W)] rfl rfl (cell_one_new' _ _ _ (by simp)) (by simp [Value.oneCell']) (by unfold maxLen; omega) (by omega) (by simp <;> omega) ?_; intro v1 w1 hown1 hg1 _ _; obtain ⟨HO1, s2, HB1, HBs1⟩ := ints_step (l := []) rfl (World.ownsRow_nil _ _ _ _) (by exact Below.drewN' (Below.refl _ _) _) (by simp) hown1 hg1; clear s2 hown1 hg1; have d0 := (HBX.out.below HB1.out (by omega)).cell 0; have d1 := (HBX.out.below HB1.out (by omega)).cell 1; simp only [List.getElem?_toArray, List.getElem?_cons_zero, List.getElem?_cons_succ] at d0 d1)))
            | (at_builtin; ((refine wpList_append_own_at _ rfl (.tmp 40) (.tmp 43) 26 rfl (w.heap.size + 1) 3 i0 (.int .i64 0) 1 8 Tryz.underlying26 hi0 hz0 hz1 hz2 rfl (by decide) v1 1 _ rfl (HO1.out.alloc _) ⟨_, 0, none⟩ 1 1 [.int .i64 ((c : Int) - 1)] rfl rfl (cell_one_new' _ _ _ (by simp)) (by simp [Value.oneCell']) (by unfold maxLen; omega) (by omega) (by simp <;> omega) ?_; intro v2 w2 hown1 hg1 _ _; obtain ⟨HO2, s2, HB2, HBs2⟩ := ints_step (l := _) rfl HO1.out HB1.out HBs1 hown1 hg1; clear s2 hown1 hg1; have d0 := (HBX.out.below HB2.out (by omega)).cell 0; have d1 := (HBX.out.below HB2.out (by omega)).cell 1; simp only [List.getElem?_toArray, List.getElem?_cons_zero, List.getElem?_cons_succ] at d0 d1)))
            | (at_builtin; ((refine wpList_append_own_at _ rfl (.tmp 47) (.tmp 52) 26 rfl (w.heap.size + 1) 3 i0 (.int .i64 0) 1 8 Tryz.underlying26 hi0 hz0 hz1 hz2 rfl (by decide) v2 2 _ rfl (HO2.out.alloc _) ⟨_, 0, none⟩ 1 1 [.int .i64 ((c : Int) - g.W)] rfl rfl (cell_one_new' _ _ _ (by simp)) (by simp [Value.oneCell']) (by unfold maxLen; omega) (by omega) (by simp <;> omega) ?_; intro v3 w3 hown1 hg1 _ _; obtain ⟨HO3, s2, HB3, HBs3⟩ := ints_step (l := _) rfl HO2.out HB2.out HBs2 hown1 hg1; clear s2 hown1 hg1; have d0 := (HBX.out.below HB3.out (by omega)).cell 0; have d1 := (HBX.out.below HB3.out (by omega)).cell 1; simp only [List.getElem?_toArray, List.getElem?_cons_zero, List.getElem?_cons_succ] at d0 d1))))
          go_ret
          exact ⟨_, rfl, by rw [Hr.out]; exact Reads.of_own HO3.out, HX.out.trans (HB3.out.mono (by omega)), own_fresh HO3.out (by omega)⟩
        · skip
          have Hr : Hid (nearL g c = [(c : Int) + g.W, (c : Int) - 1]) := by rw [Hid, Hl.out]; unfold nbl; rw [if_neg h0, if_pos h1, if_pos h2, if_neg h3]; rfl
          clear Hl
          go_wp2_with (first
            | (at_builtin; ((refine wpList_append_own_at _ rfl (.tmp 31) (.tmp 36) 26 rfl (w.heap.size + 1) 3 i0 (.int .i64 0) 1 8 Tryz.underlying26 hi0 hz0 hz1 hz2 rfl (by decide) (.slice none 0 0) 0 [] rfl (World.ownsRow_nil _ _ _ _) ⟨_, 0, none⟩ 1 1 [.int .i64 ((c : Int) + g.W)] rfl rfl (cell_one_new' _ _ _ (by simp)) (by simp [Value.oneCell']) (by unfold maxLen; omega) (by omega) (by simp <;> omega) ?_; intro v1 w1 hown1 hg1 _ _; obtain ⟨HO1, s2, HB1, HBs1⟩ := ints_step (l := []) rfl (World.ownsRow_nil _ _ _ _) (by exact Below.drewN' (Below.refl _ _) _) (by simp) hown1 hg1; clear s2 hown1 hg1; have d0 := (HBX.out.below HB1.out (by omega)).cell 0; have d1 := (HBX.out.below HB1.out (by omega)).cell 1; simp only [List.getElem?_toArray, List.getElem?_cons_zero, List.getElem?_cons_succ] at d0 d1)))
            | (at_builtin; ((refine wpList_append_own_at _ rfl (.tmp 40) (.tmp 43) 26 rfl (w.heap.size + 1) 3 i0 (.int .i64 0) 1 8 Tryz.underlying26 hi0 hz0 hz1 hz2 rfl (by decide) v1 1 _ rfl (HO1.out.alloc _) ⟨_, 0, none⟩ 1 1 [.int .i64 ((c : Int) - 1)] rfl rfl (cell_one_new' _ _ _ (by simp)) (by simp [Value.oneCell']) (by unfold maxLen; omega) (by omega) (by simp <;> omega) ?_; intro v2 w2 hown1 hg1 _ _; obtain ⟨HO2, s2, HB2, HBs2⟩ := ints_step (l := _) rfl HO1.out HB1.out HBs1 hown1 hg1; clear s2 hown1 hg1; have d0 := (HBX.out.below HB2.out (by omega)).cell 0; have d1 := (HBX.out.below HB2.out (by omega)).cell 1; simp only [List.getElem?_toArray, List.getElem?_cons_zero, List.getElem?_cons_succ] at d0 d1))))
          go_ret
          exact ⟨_, rfl, by rw [Hr.out]; exact Reads.of_own HO2.out, HX.out.trans (HB2.out.mono (by omega)), own_fresh HO2.out (by omega)⟩
      · skip
        by_cases h3 : 0 < Y
        · skip
          have Hr : Hid (nearL g c = [(c : Int) + g.W, (c : Int) - g.W]) := by rw [Hid, Hl.out]; unfold nbl; rw [if_neg h0, if_pos h1, if_neg h2, if_pos h3]; rfl
          clear Hl
          go_wp2_with (first
            | (at_builtin; ((refine wpList_append_own_at _ rfl (.tmp 31) (.tmp 36) 26 rfl (w.heap.size + 1) 3 i0 (.int .i64 0) 1 8 Tryz.underlying26 hi0 hz0 hz1 hz2 rfl (by decide) (.slice none 0 0) 0 [] rfl (World.ownsRow_nil _ _ _ _) ⟨_, 0, none⟩ 1 1 [.int .i64 ((c : Int) + g.W)] rfl rfl (cell_one_new' _ _ _ (by simp)) (by simp [Value.oneCell']) (by unfold maxLen; omega) (by omega) (by simp <;> omega) ?_; intro v1 w1 hown1 hg1 _ _; obtain ⟨HO1, s2, HB1, HBs1⟩ := ints_step (l := []) rfl (World.ownsRow_nil _ _ _ _) (by exact Below.drewN' (Below.refl _ _) _) (by simp) hown1 hg1; clear s2 hown1 hg1; have d0 := (HBX.out.below HB1.out (by omega)).cell 0; have d1 := (HBX.out.below HB1.out (by omega)).cell 1; simp only [List.getElem?_toArray, List.getElem?_cons_zero, List.getElem?_cons_succ] at d0 d1)))
            | (at_builtin; ((refine wpList_append_own_at _ rfl (.tmp 47) (.tmp 52) 26 rfl (w.heap.size + 1) 3 i0 (.int .i64 0) 1 8 Tryz.underlying26 hi0 hz0 hz1 hz2 rfl (by decide) v1 1 _ rfl (HO1.out.alloc _) ⟨_, 0, none⟩ 1 1 [.int .i64 ((c : Int) - g.W)] rfl rfl (cell_one_new' _ _ _ (by simp)) (by simp [Value.oneCell']) (by unfold maxLen; omega) (by omega) (by simp <;> omega) ?_; intro v3 w3 hown1 hg1 _ _; obtain ⟨HO3, s2, HB3, HBs3⟩ := ints_step (l := _) rfl HO1.out HB1.out HBs1 hown1 hg1; clear s2 hown1 hg1; have d0 := (HBX.out.below HB3.out (by omega)).cell 0; have d1 := (HBX.out.below HB3.out (by omega)).cell 1; simp only [List.getElem?_toArray, List.getElem?_cons_zero, List.getElem?_cons_succ] at d0 d1))))
          go_ret
          exact ⟨_, rfl, by rw [Hr.out]; exact Reads.of_own HO3.out, HX.out.trans (HB3.out.mono (by omega)), own_fresh HO3.out (by omega)⟩
        · skip
          have Hr : Hid (nearL g c = [(c : Int) + g.W]) := by rw [Hid, Hl.out]; unfold nbl; rw [if_neg h0, if_pos h1, if_neg h2, if_neg h3]; rfl
          clear Hl
          go_wp2_with (first
            | (at_builtin; ((refine wpList_append_own_at _ rfl (.tmp 31) (.tmp 36) 26 rfl (w.heap.size + 1) 3 i0 (.int .i64 0) 1 8 Tryz.underlying26 hi0 hz0 hz1 hz2 rfl (by decide) (.slice none 0 0) 0 [] rfl (World.ownsRow_nil _ _ _ _) ⟨_, 0, none⟩ 1 1 [.int .i64 ((c : Int) + g.W)] rfl rfl (cell_one_new' _ _ _ (by simp)) (by simp [Value.oneCell']) (by unfold maxLen; omega) (by omega) (by simp <;> omega) ?_; intro v1 w1 hown1 hg1 _ _; obtain ⟨HO1, s2, HB1, HBs1⟩ := ints_step (l := []) rfl (World.ownsRow_nil _ _ _ _) (by exact Below.drewN' (Below.refl _ _) _) (by simp) hown1 hg1; clear s2 hown1 hg1; have d0 := (HBX.out.below HB1.out (by omega)).cell 0; have d1 := (HBX.out.below HB1.out (by omega)).cell 1; simp only [List.getElem?_toArray, List.getElem?_cons_zero, List.getElem?_cons_succ] at d0 d1))))
          go_ret
          exact ⟨_, rfl, by rw [Hr.out]; exact Reads.of_own HO1.out, HX.out.trans (HB1.out.mono (by omega)), own_fresh HO1.out (by omega)⟩
    · skip
      by_cases h2 : 0 < X
      · skip
        by_cases h3 : 0 < Y
        · skip
          have Hr : Hid (nearL g c = [(c : Int) - 1, (c : Int) - g.W]) := by rw [Hid, Hl.out]; unfold nbl; rw [if_neg h0, if_neg h1, if_pos h2, if_pos h3]; rfl
          clear Hl
          go_wp2_with (first
            | (at_builtin; ((refine wpList_append_own_at _ rfl (.tmp 40) (.tmp 43) 26 rfl (w.heap.size + 1) 3 i0 (.int .i64 0) 1 8 Tryz.underlying26 hi0 hz0 hz1 hz2 rfl (by decide) (.slice none 0 0) 0 [] rfl (World.ownsRow_nil _ _ _ _) ⟨_, 0, none⟩ 1 1 [.int .i64 ((c : Int) - 1)] rfl rfl (cell_one_new' _ _ _ (by simp)) (by simp [Value.oneCell']) (by unfold maxLen; omega) (by omega) (by simp <;> omega) ?_; intro v2 w2 hown1 hg1 _ _; obtain ⟨HO2, s2, HB2, HBs2⟩ := ints_step (l := []) rfl (World.ownsRow_nil _ _ _ _) (by exact Below.drewN' (Below.refl _ _) _) (by simp) hown1 hg1; clear s2 hown1 hg1; have d0 := (HBX.out.below HB2.out (by omega)).cell 0; have d1 := (HBX.out.below HB2.out (by omega)).cell 1; simp only [List.getElem?_toArray, List.getElem?_cons_zero, List.getElem?_cons_succ] at d0 d1)))
            | (at_builtin; ((refine wpList_append_own_at _ rfl (.tmp 47) (.tmp 52) 26 rfl (w.heap.size + 1) 3 i0 (.int .i64 0) 1 8 Tryz.underlying26 hi0 hz0 hz1 hz2 rfl (by decide) v2 1 _ rfl (HO2.out.alloc _) ⟨_, 0, none⟩ 1 1 [.int .i64 ((c : Int) - g.W)] rfl rfl (cell_one_new' _ _ _ (by simp)) (by simp [Value.oneCell']) (by unfold maxLen; omega) (by omega) (by simp <;> omega) ?_; intro v3 w3 hown1 hg1 _ _; obtain ⟨HO3, s2, HB3, HBs3⟩ := ints_step (l := _) rfl HO2.out HB2.out HBs2 hown1 hg1; clear s2 hown1 hg1; have d0 := (HBX.out.below HB3.out (by omega)).cell 0; have d1 := (HBX.out.below HB3.out (by omega)).cell 1; simp only [List.getElem?_toArray, List.getElem?_cons_zero, List.getElem?_cons_succ] at d0 d1))))
          go_ret
          exact ⟨_, rfl, by rw [Hr.out]; exact Reads.of_own HO3.out, HX.out.trans (HB3.out.mono (by omega)), own_fresh HO3.out (by omega)⟩
        · skip
          have Hr : Hid (nearL g c = [(c : Int) - 1]) := by rw [Hid, Hl.out]; unfold nbl; rw [if_neg h0, if_neg h1, if_pos h2, if_neg h3]; rfl
          clear Hl
          go_wp2_with (first
            | (at_builtin; ((refine wpList_append_own_at _ rfl (.tmp 40) (.tmp 43) 26 rfl (w.heap.size + 1) 3 i0 (.int .i64 0) 1 8 Tryz.underlying26 hi0 hz0 hz1 hz2 rfl (by decide) (.slice none 0 0) 0 [] rfl (World.ownsRow_nil _ _ _ _) ⟨_, 0, none⟩ 1 1 [.int .i64 ((c : Int) - 1)] rfl rfl (cell_one_new' _ _ _ (by simp)) (by simp [Value.oneCell']) (by unfold maxLen; omega) (by omega) (by simp <;> omega) ?_; intro v2 w2 hown1 hg1 _ _; obtain ⟨HO2, s2, HB2, HBs2⟩ := ints_step (l := []) rfl (World.ownsRow_nil _ _ _ _) (by exact Below.drewN' (Below.refl _ _) _) (by simp) hown1 hg1; clear s2 hown1 hg1; have d0 := (HBX.out.below HB2.out (by omega)).cell 0; have d1 := (HBX.out.below HB2.out (by omega)).cell 1; simp only [List.getElem?_toArray, List.getElem?_cons_zero, List.getElem?_cons_succ] at d0 d1))))
          go_ret
          exact ⟨_, rfl, by rw [Hr.out]; exact Reads.of_own HO2.out, HX.out.trans (HB2.out.mono (by omega)), own_fresh HO2.out (by omega)⟩
      · skip
        by_cases h3 : 0 < Y
        · skip
          have Hr : Hid (nearL g c = [(c : Int) - g.W]) := by rw [Hid, Hl.out]; unfold nbl; rw [if_neg h0, if_neg h1, if_neg h2, if_pos h3]; rfl
          clear Hl
          go_wp2_with (first
            | (at_builtin; ((refine wpList_append_own_at _ rfl (.tmp 47) (.tmp 52) 26 rfl (w.heap.size + 1) 3 i0 (.int .i64 0) 1 8 Tryz.underlying26 hi0 hz0 hz1 hz2 rfl (by decide) (.slice none 0 0) 0 [] rfl (World.ownsRow_nil _ _ _ _) ⟨_, 0, none⟩ 1 1 [.int .i64 ((c : Int) - g.W)] rfl rfl (cell_one_new' _ _ _ (by simp)) (by simp [Value.oneCell']) (by unfold maxLen; omega) (by omega) (by simp <;> omega) ?_; intro v3 w3 hown1 hg1 _ _; obtain ⟨HO3, s2, HB3, HBs3⟩ := ints_step (l := []) rfl (World.ownsRow_nil _ _ _ _) (by exact Below.drewN' (Below.refl _ _) _) (by simp) hown1 hg1; clear s2 hown1 hg1; have d0 := (HBX.out.below HB3.out (by omega)).cell 0; have d1 := (HBX.out.below HB3.out (by omega)).cell 1; simp only [List.getElem?_toArray, List.getElem?_cons_zero, List.getElem?_cons_succ] at d0 d1))))
          go_ret
          exact ⟨_, rfl, by rw [Hr.out]; exact Reads.of_own HO3.out, HX.out.trans (HB3.out.mono (by omega)), own_fresh HO3.out (by omega)⟩
        · skip
          have Hr : Hid (nearL g c = []) := by rw [Hid, Hl.out]; unfold nbl; rw [if_neg h0, if_neg h1, if_neg h2, if_neg h3]; rfl
          clear Hl
          go_wp2
          go_ret
          exact ⟨_, rfl, by rw [Hr.out]; exact ints_nil _ _, Below.drewN' HX.out _, fun _ _ _ e => by cases e⟩
end Go.Proofs.YthcenmocnphnmaaGreatDoor

/-
  Layer 3, the reference: Centimetres.
-/
import Derived.Test.YtdhcdgfpkjdihaaDoorVP3o
set_option linter.unusedSimpArgs false
set_option linter.unusedVariables false
namespace Go.Proofs.YtdhcdgfpkjdihaaDoor.Sg
open Go.RowKit
theorem td256 (a : Int) : (0 ≤ a → 256 * a.tdiv 256 ≤ a ∧ a < 256 * a.tdiv 256 + 256) ∧ (a < 0 → a ≤ 256 * a.tdiv 256 ∧ 256 * a.tdiv 256 - 256 < a) := by
 constructor
 · intro h
   rw [Int.tdiv_eq_ediv_of_nonneg h]
   omega
 · intro h
   have e : a.tdiv 256 = -((-a) / 256) := by
    rw [← Int.tdiv_eq_ediv_of_nonneg (show 0 ≤ -a by omega), Int.neg_tdiv]
    omega
   rw [e]
   omega
set_option maxRecDepth 100000 in
set_option maxHeartbeats 4000000 in
theorem rCentimetres_any (lo hi : Int) (w : World) (h1 : -9223372036854775808 ≤ lo ∧ lo ≤ 9223372036854775807) (h2 : -9223372036854775808 ≤ hi ∧ hi ≤ 9223372036854775807) :
 Calls Tryd.prog 33 #[.agg #[.int .i64 (lo), .int .i64 (hi)]] w fun e w' => e = .returned (.tuple #[.agg #[.int .i64 (cmV (lo, hi)).1, .int .i64 (cmV (lo, hi)).2], .int .i64 (cmE (lo, hi))]) ∧ Below w.heap.size w w' := by
 by_cases hc : hi < lo
 ·
  have hE : cmE (lo, hi) = 3 := by unfold cmE; rw [if_neg]; simp only; omega
  have hV : cmV (lo, hi) = (0, 0) := by unfold cmV; rw [if_neg]; simp only; omega
  rw [hE, hV]
  clear hE hV
  go_enter Tryd.func33, Tryd.ntmps33
  go_upto_region 1 with (fail)
  obtain ⟨Va1, hV⟩ : ∃ V, (w.alloc (.cells #[.int .i64 (lo), .int .i64 (hi)] 26)).alloc (.cells #[.int .i64 (0), .int .i64 (0)] 26) = V := ⟨_, rfl⟩
  have Kb1 : Hid (Blk Va1 (w.heap.size) 26 #[.int .i64 (lo), .int .i64 (hi)]) := by rw [← hV]; exact (Blk.new' _ _ _ (by simp)).alloc _
  have Kb2 : Hid (Blk Va1 (w.heap.size + 1) 26 #[.int .i64 (0), .int .i64 (0)]) := by rw [← hV]; exact Blk.new' _ _ _ (by simp)
  have GHB : Hid (Below w.heap.size w Va1) := by rw [← hV]; exact (by repeat (first | exact Below.refl _ _ | assumption | refine Below.drew ?_ | refine Below.drewN' ?_ _ | (refine Below.alloc ?_ (by simp <;> omega) _) | (refine Below.setCell ?_ (by simp <;> omega) _)))
  have HZ : Hid (Below w.heap.size w Va1) := GHB
  rw [hV]
  clear hV HZ
  have HB := GHB
  clear GHB
  obtain ⟨b2, hqb2⟩ : ∃ b, w.heap.size + 1 = b := ⟨_, rfl⟩
  obtain ⟨b1, hqb1⟩ : ∃ b, w.heap.size = b := ⟨_, rfl⟩
  have gb1 : w.heap.size ≤ b1 := by omega
  have gb2 : w.heap.size ≤ b2 := by omega
  have nb2b1 : ¬ b2 = b1 := by omega
  have nb1b2 : ¬ b1 = b2 := by omega
  rw [hqb2] at Kb2 ⊢
  clear hqb2
  have HN : Hid (w.heap.size = b1) := hqb1
  rw [hqb1] at Kb1 ⊢
  clear hqb1
  have Hb1 := Kb1
  clear Kb1
  have Hb2 := Kb2
  clear Kb2
  have cb10 := kcl0 Hb1
  have cb11 := kcl1 Hb1
  have cb20 := kcl0 Hb2
  have cb21 := kcl1 Hb2
  have zb20 : Va1.frozen? ⟨b2, 0, none⟩ = false := Hb2.out.frozen 0
  have zb21 : Va1.frozen? ⟨b2, 1, none⟩ = false := Hb2.out.frozen 1
  go_wp2
  have hR := fun x y => span_res2 Hb2.out x y
  refine bodyPost_ret (v := .tuple #[.agg #[.int .i64 (0), .int .i64 (0)], .int .i64 3]) (by simp [results, Tryd.results33, go_sem, hR]) rfl ⟨rfl, (HB.out.setCell (p := ⟨b2, 0, none⟩) gb2 _).setCell (p := ⟨b2, 1, none⟩) gb2 _⟩
 ·
  have hE : cmE (lo, hi) = 0 := by unfold cmE; rw [if_pos]; simp only; omega
  have hV : cmV (lo, hi) = (lo / 256, upQ hi 256) := by unfold cmV cmZ; rw [if_pos]; simp only; omega
  rw [hE, hV]
  clear hE hV
  have t1 := td256 lo
  have t2 := td256 hi
  unfold upQ
  obtain ⟨q1, hq1⟩ : ∃ z, lo.tdiv 256 = z := ⟨_, rfl⟩
  obtain ⟨q2, hq2⟩ : ∃ z, hi.tdiv 256 = z := ⟨_, rfl⟩
  rw [hq1] at t1
  rw [hq2] at t2
  obtain ⟨h1a, h1b⟩ := h1
  obtain ⟨h2a, h2b⟩ := h2
  have wa : IntKind.i64.wrap q1 = q1 := IntWalk.i64_in _ (by omega)
  have wb : IntKind.i64.wrap q2 = q2 := IntWalk.i64_in _ (by omega)
  have wc : IntKind.i64.wrap (q1 * 256) = q1 * 256 := IntWalk.i64_in _ (by omega)
  have wd : IntKind.i64.wrap (q2 * 256) = q2 * 256 := IntWalk.i64_in _ (by omega)
  have we : IntKind.i64.wrap (q1 - 1) = q1 - 1 := IntWalk.i64_in _ (by omega)
  have wf : IntKind.i64.wrap (q2 + 1) = q2 + 1 := IntWalk.i64_in _ (by omega)
  by_cases ha : lo < q1 * 256
  all_goals by_cases hb : q2 * 256 < hi
  ·
   have e1 : lo / 256 = q1 - 1 := by omega
   have e2 : -(-hi / 256) = q2 + 1 := by omega
   rw [e1, e2]
   clear e1 e2 t1 t2
   go_enter Tryd.func33, Tryd.ntmps33
   go_upto_region 1 with (fail)
   obtain ⟨Va101, hV⟩ : ∃ V, (w.alloc (.cells #[.int .i64 (lo), .int .i64 (hi)] 26)).alloc (.cells #[.int .i64 (0), .int .i64 (0)] 26) = V := ⟨_, rfl⟩
   have Kb1 : Hid (Blk Va101 (w.heap.size) 26 #[.int .i64 (lo), .int .i64 (hi)]) := by rw [← hV]; exact (Blk.new' _ _ _ (by simp)).alloc _
   have Kb2 : Hid (Blk Va101 (w.heap.size + 1) 26 #[.int .i64 (0), .int .i64 (0)]) := by rw [← hV]; exact Blk.new' _ _ _ (by simp)
   have GHB : Hid (Below w.heap.size w Va101) := by rw [← hV]; exact (by repeat (first | exact Below.refl _ _ | assumption | refine Below.drew ?_ | refine Below.drewN' ?_ _ | (refine Below.alloc ?_ (by simp <;> omega) _) | (refine Below.setCell ?_ (by simp <;> omega) _)))
   have HZ : Hid (Below w.heap.size w Va101) := GHB
   rw [hV]
   clear hV HZ
   have HB := GHB
   clear GHB
   obtain ⟨b2, hqb2⟩ : ∃ b, w.heap.size + 1 = b := ⟨_, rfl⟩
   obtain ⟨b1, hqb1⟩ : ∃ b, w.heap.size = b := ⟨_, rfl⟩
   have gb1 : w.heap.size ≤ b1 := by omega
   have gb2 : w.heap.size ≤ b2 := by omega
   have nb2b1 : ¬ b2 = b1 := by omega
   have nb1b2 : ¬ b1 = b2 := by omega
   rw [hqb2] at Kb2 ⊢
   clear hqb2
   have HN : Hid (w.heap.size = b1) := hqb1
   rw [hqb1] at Kb1 ⊢
   clear hqb1
   have Hb1 := Kb1
   clear Kb1
   have Hb2 := Kb2
   clear Kb2
   have cb10 := kcl0 Hb1
   have cb11 := kcl1 Hb1
   go_upto_region 4 with (fail)
   clear cb10 cb11
   obtain ⟨Va102, hV⟩ : ∃ X, Va101.alloc (.cells #[.int .i64 (q1), .int .i64 (q2)] 26) = X := ⟨_, rfl⟩
   have hnew : Blk Va102 Va101.heap.size 26 #[.int .i64 (q1), .int .i64 (q2)] := by rw [← hV]; exact (Blk.new' _ _ _ rfl)
   have hz : Below Va101.heap.size Va101 Va102 := by rw [← hV]; exact ((Below.refl _ _).alloc (Nat.le_refl _) _)
   have hgn := HB.out.size
   have lb1 := Hb1.out.lt
   have lb2 := Hb2.out.lt
   rw [hV]
   obtain ⟨b4, hbx⟩ : ∃ b, Va101.heap.size = b := ⟨_, rfl⟩
   rw [hbx] at hnew hgn lb1 lb2 ⊢
   have gb4 : w.heap.size ≤ b4 := hgn
   have HZ := Lib.hid hz
   have nb1b4 : ¬ b1 = b4 := by omega
   have nb4b1 : ¬ b4 = b1 := by omega
   have nb2b4 : ¬ b2 = b4 := by omega
   have nb4b2 : ¬ b4 = b2 := by omega
   clear hV hz hgn hbx lb1 lb2
   replace Hb1 := kbl Hb1 HZ
   replace Hb2 := kbl Hb2 HZ
   replace HB := ktr' HB HZ
   clear HZ
   have Hb4 := Lib.hid hnew
   clear hnew
   have cb10 := kcl0 Hb1
   have cb11 := kcl1 Hb1
   have cb20 := kcl0 Hb2
   have cb21 := kcl1 Hb2
   have cb40 := kcl0 Hb4
   have cb41 := kcl1 Hb4
   have zb20 : Va102.frozen? ⟨b2, 0, none⟩ = false := Hb2.out.frozen 0
   have zb21 : Va102.frozen? ⟨b2, 1, none⟩ = false := Hb2.out.frozen 1
   have zb40 : Va102.frozen? ⟨b4, 0, none⟩ = false := Hb4.out.frozen 0
   have zb41 : Va102.frozen? ⟨b4, 1, none⟩ = false := Hb4.out.frozen 1
   go_wp2
   have MZ := ((((Hb2.out.far_ (p := ⟨b4, 0, none⟩) nb2b4 (.int .i64 (q1 - 1))).far_ (p := ⟨b4, 1, none⟩) nb2b4 (.int .i64 (q2 + 1))).set_ 0 (.int .i64 (q1 - 1))).set_ 1 (.int .i64 (q2 + 1)))
   have rz0 := MZ.cell 0
   have rz1 := MZ.cell 1
   simp only [List.setIfInBounds_toArray, List.set_cons_zero, List.set_cons_succ, List.getElem?_toArray, List.getElem?_cons_zero, List.getElem?_cons_succ] at rz0 rz1
   refine bodyPost_ret (v := .tuple #[.agg #[.int .i64 (q1 - 1), .int .i64 (q2 + 1)], .int .i64 0]) (by simp [results, Tryd.results33, go_sem, rz0, rz1]) rfl ⟨rfl, ((((HB.out.setCell (p := ⟨b4, 0, none⟩) gb4 _).setCell (p := ⟨b4, 1, none⟩) gb4 _).setCell (p := ⟨b2, 0, none⟩) gb2 _).setCell (p := ⟨b2, 1, none⟩) gb2 _)⟩
  ·
   have e1 : lo / 256 = q1 - 1 := by omega
   have e2 : -(-hi / 256) = q2 := by omega
   rw [e1, e2]
   clear e1 e2 t1 t2
   go_enter Tryd.func33, Tryd.ntmps33
   go_upto_region 1 with (fail)
   obtain ⟨Va201, hV⟩ : ∃ V, (w.alloc (.cells #[.int .i64 (lo), .int .i64 (hi)] 26)).alloc (.cells #[.int .i64 (0), .int .i64 (0)] 26) = V := ⟨_, rfl⟩
   have Kb1 : Hid (Blk Va201 (w.heap.size) 26 #[.int .i64 (lo), .int .i64 (hi)]) := by rw [← hV]; exact (Blk.new' _ _ _ (by simp)).alloc _
   have Kb2 : Hid (Blk Va201 (w.heap.size + 1) 26 #[.int .i64 (0), .int .i64 (0)]) := by rw [← hV]; exact Blk.new' _ _ _ (by simp)
   have GHB : Hid (Below w.heap.size w Va201) := by rw [← hV]; exact (by repeat (first | exact Below.refl _ _ | assumption | refine Below.drew ?_ | refine Below.drewN' ?_ _ | (refine Below.alloc ?_ (by simp <;> omega) _) | (refine Below.setCell ?_ (by simp <;> omega) _)))
   have HZ : Hid (Below w.heap.size w Va201) := GHB
   rw [hV]
   clear hV HZ
   have HB := GHB
   clear GHB
   obtain ⟨b2, hqb2⟩ : ∃ b, w.heap.size + 1 = b := ⟨_, rfl⟩
   obtain ⟨b1, hqb1⟩ : ∃ b, w.heap.size = b := ⟨_, rfl⟩
   have gb1 : w.heap.size ≤ b1 := by omega
   have gb2 : w.heap.size ≤ b2 := by omega
   have nb2b1 : ¬ b2 = b1 := by omega
   have nb1b2 : ¬ b1 = b2 := by omega
   rw [hqb2] at Kb2 ⊢
   clear hqb2
   have HN : Hid (w.heap.size = b1) := hqb1
   rw [hqb1] at Kb1 ⊢
   clear hqb1
   have Hb1 := Kb1
   clear Kb1
   have Hb2 := Kb2
   clear Kb2
   have cb10 := kcl0 Hb1
   have cb11 := kcl1 Hb1
   go_upto_region 4 with (fail)
   clear cb10 cb11
   obtain ⟨Va202, hV⟩ : ∃ X, Va201.alloc (.cells #[.int .i64 (q1), .int .i64 (q2)] 26) = X := ⟨_, rfl⟩
   have hnew : Blk Va202 Va201.heap.size 26 #[.int .i64 (q1), .int .i64 (q2)] := by rw [← hV]; exact (Blk.new' _ _ _ rfl)
   have hz : Below Va201.heap.size Va201 Va202 := by rw [← hV]; exact ((Below.refl _ _).alloc (Nat.le_refl _) _)
   have hgn := HB.out.size
   have lb1 := Hb1.out.lt
   have lb2 := Hb2.out.lt
   rw [hV]
   obtain ⟨b4, hbx⟩ : ∃ b, Va201.heap.size = b := ⟨_, rfl⟩
   rw [hbx] at hnew hgn lb1 lb2 ⊢
   have gb4 : w.heap.size ≤ b4 := hgn
   have HZ := Lib.hid hz
   have nb1b4 : ¬ b1 = b4 := by omega
   have nb4b1 : ¬ b4 = b1 := by omega
   have nb2b4 : ¬ b2 = b4 := by omega
   have nb4b2 : ¬ b4 = b2 := by omega
   clear hV hz hgn hbx lb1 lb2
   replace Hb1 := kbl Hb1 HZ
   replace Hb2 := kbl Hb2 HZ
   replace HB := ktr' HB HZ
   clear HZ
   have Hb4 := Lib.hid hnew
   clear hnew
   have cb10 := kcl0 Hb1
   have cb11 := kcl1 Hb1
   have cb20 := kcl0 Hb2
   have cb21 := kcl1 Hb2
   have cb40 := kcl0 Hb4
   have cb41 := kcl1 Hb4
   have zb20 : Va202.frozen? ⟨b2, 0, none⟩ = false := Hb2.out.frozen 0
   have zb21 : Va202.frozen? ⟨b2, 1, none⟩ = false := Hb2.out.frozen 1
   have zb40 : Va202.frozen? ⟨b4, 0, none⟩ = false := Hb4.out.frozen 0
   have zb41 : Va202.frozen? ⟨b4, 1, none⟩ = false := Hb4.out.frozen 1
   go_wp2
   have MZ := (((Hb2.out.far_ (p := ⟨b4, 0, none⟩) nb2b4 (.int .i64 (q1 - 1))).set_ 0 (.int .i64 (q1 - 1))).set_ 1 (.int .i64 (q2)))
   have rz0 := MZ.cell 0
   have rz1 := MZ.cell 1
   simp only [List.setIfInBounds_toArray, List.set_cons_zero, List.set_cons_succ, List.getElem?_toArray, List.getElem?_cons_zero, List.getElem?_cons_succ] at rz0 rz1
   refine bodyPost_ret (v := .tuple #[.agg #[.int .i64 (q1 - 1), .int .i64 (q2)], .int .i64 0]) (by simp [results, Tryd.results33, go_sem, rz0, rz1]) rfl ⟨rfl, (((HB.out.setCell (p := ⟨b4, 0, none⟩) gb4 _).setCell (p := ⟨b2, 0, none⟩) gb2 _).setCell (p := ⟨b2, 1, none⟩) gb2 _)⟩
  ·
   have e1 : lo / 256 = q1 := by omega
   have e2 : -(-hi / 256) = q2 + 1 := by omega
   rw [e1, e2]
   clear e1 e2 t1 t2
   go_enter Tryd.func33, Tryd.ntmps33
   go_upto_region 1 with (fail)
   obtain ⟨Va301, hV⟩ : ∃ V, (w.alloc (.cells #[.int .i64 (lo), .int .i64 (hi)] 26)).alloc (.cells #[.int .i64 (0), .int .i64 (0)] 26) = V := ⟨_, rfl⟩
   have Kb1 : Hid (Blk Va301 (w.heap.size) 26 #[.int .i64 (lo), .int .i64 (hi)]) := by rw [← hV]; exact (Blk.new' _ _ _ (by simp)).alloc _
   have Kb2 : Hid (Blk Va301 (w.heap.size + 1) 26 #[.int .i64 (0), .int .i64 (0)]) := by rw [← hV]; exact Blk.new' _ _ _ (by simp)
   have GHB : Hid (Below w.heap.size w Va301) := by rw [← hV]; exact (by repeat (first | exact Below.refl _ _ | assumption | refine Below.drew ?_ | refine Below.drewN' ?_ _ | (refine Below.alloc ?_ (by simp <;> omega) _) | (refine Below.setCell ?_ (by simp <;> omega) _)))
   have HZ : Hid (Below w.heap.size w Va301) := GHB
   rw [hV]
   clear hV HZ
   have HB := GHB
   clear GHB
   obtain ⟨b2, hqb2⟩ : ∃ b, w.heap.size + 1 = b := ⟨_, rfl⟩
   obtain ⟨b1, hqb1⟩ : ∃ b, w.heap.size = b := ⟨_, rfl⟩
   have gb1 : w.heap.size ≤ b1 := by omega
   have gb2 : w.heap.size ≤ b2 := by omega
   have nb2b1 : ¬ b2 = b1 := by omega
   have nb1b2 : ¬ b1 = b2 := by omega
   rw [hqb2] at Kb2 ⊢
   clear hqb2
   have HN : Hid (w.heap.size = b1) := hqb1
   rw [hqb1] at Kb1 ⊢
   clear hqb1
   have Hb1 := Kb1
   clear Kb1
   have Hb2 := Kb2
   clear Kb2
   have cb10 := kcl0 Hb1
   have cb11 := kcl1 Hb1
   go_upto_region 4 with (fail)
   clear cb10 cb11
   obtain ⟨Va302, hV⟩ : ∃ X, Va301.alloc (.cells #[.int .i64 (q1), .int .i64 (q2)] 26) = X := ⟨_, rfl⟩
   have hnew : Blk Va302 Va301.heap.size 26 #[.int .i64 (q1), .int .i64 (q2)] := by rw [← hV]; exact (Blk.new' _ _ _ rfl)
   have hz : Below Va301.heap.size Va301 Va302 := by rw [← hV]; exact ((Below.refl _ _).alloc (Nat.le_refl _) _)
   have hgn := HB.out.size
   have lb1 := Hb1.out.lt
   have lb2 := Hb2.out.lt
   rw [hV]
   obtain ⟨b4, hbx⟩ : ∃ b, Va301.heap.size = b := ⟨_, rfl⟩
   rw [hbx] at hnew hgn lb1 lb2 ⊢
   have gb4 : w.heap.size ≤ b4 := hgn
   have HZ := Lib.hid hz
   have nb1b4 : ¬ b1 = b4 := by omega
   have nb4b1 : ¬ b4 = b1 := by omega
   have nb2b4 : ¬ b2 = b4 := by omega
   have nb4b2 : ¬ b4 = b2 := by omega
   clear hV hz hgn hbx lb1 lb2
   replace Hb1 := kbl Hb1 HZ
   replace Hb2 := kbl Hb2 HZ
   replace HB := ktr' HB HZ
   clear HZ
   have Hb4 := Lib.hid hnew
   clear hnew
   have cb10 := kcl0 Hb1
   have cb11 := kcl1 Hb1
   have cb20 := kcl0 Hb2
   have cb21 := kcl1 Hb2
   have cb40 := kcl0 Hb4
   have cb41 := kcl1 Hb4
   have zb20 : Va302.frozen? ⟨b2, 0, none⟩ = false := Hb2.out.frozen 0
   have zb21 : Va302.frozen? ⟨b2, 1, none⟩ = false := Hb2.out.frozen 1
   have zb40 : Va302.frozen? ⟨b4, 0, none⟩ = false := Hb4.out.frozen 0
   have zb41 : Va302.frozen? ⟨b4, 1, none⟩ = false := Hb4.out.frozen 1
   go_wp2
   have MZ := (((Hb2.out.far_ (p := ⟨b4, 1, none⟩) nb2b4 (.int .i64 (q2 + 1))).set_ 0 (.int .i64 (q1))).set_ 1 (.int .i64 (q2 + 1)))
   have rz0 := MZ.cell 0
   have rz1 := MZ.cell 1
   simp only [List.setIfInBounds_toArray, List.set_cons_zero, List.set_cons_succ, List.getElem?_toArray, List.getElem?_cons_zero, List.getElem?_cons_succ] at rz0 rz1
   refine bodyPost_ret (v := .tuple #[.agg #[.int .i64 (q1), .int .i64 (q2 + 1)], .int .i64 0]) (by simp [results, Tryd.results33, go_sem, rz0, rz1]) rfl ⟨rfl, (((HB.out.setCell (p := ⟨b4, 1, none⟩) gb4 _).setCell (p := ⟨b2, 0, none⟩) gb2 _).setCell (p := ⟨b2, 1, none⟩) gb2 _)⟩
  ·
   have e1 : lo / 256 = q1 := by omega
   have e2 : -(-hi / 256) = q2 := by omega
   rw [e1, e2]
   clear e1 e2 t1 t2
   go_enter Tryd.func33, Tryd.ntmps33
   go_upto_region 1 with (fail)
   obtain ⟨Va401, hV⟩ : ∃ V, (w.alloc (.cells #[.int .i64 (lo), .int .i64 (hi)] 26)).alloc (.cells #[.int .i64 (0), .int .i64 (0)] 26) = V := ⟨_, rfl⟩
   have Kb1 : Hid (Blk Va401 (w.heap.size) 26 #[.int .i64 (lo), .int .i64 (hi)]) := by rw [← hV]; exact (Blk.new' _ _ _ (by simp)).alloc _
   have Kb2 : Hid (Blk Va401 (w.heap.size + 1) 26 #[.int .i64 (0), .int .i64 (0)]) := by rw [← hV]; exact Blk.new' _ _ _ (by simp)
   have GHB : Hid (Below w.heap.size w Va401) := by rw [← hV]; exact (by repeat (first | exact Below.refl _ _ | assumption | refine Below.drew ?_ | refine Below.drewN' ?_ _ | (refine Below.alloc ?_ (by simp <;> omega) _) | (refine Below.setCell ?_ (by simp <;> omega) _)))
   have HZ : Hid (Below w.heap.size w Va401) := GHB
   rw [hV]
   clear hV HZ
   have HB := GHB
   clear GHB
   obtain ⟨b2, hqb2⟩ : ∃ b, w.heap.size + 1 = b := ⟨_, rfl⟩
   obtain ⟨b1, hqb1⟩ : ∃ b, w.heap.size = b := ⟨_, rfl⟩
   have gb1 : w.heap.size ≤ b1 := by omega
   have gb2 : w.heap.size ≤ b2 := by omega
   have nb2b1 : ¬ b2 = b1 := by omega
   have nb1b2 : ¬ b1 = b2 := by omega
   rw [hqb2] at Kb2 ⊢
   clear hqb2
   have HN : Hid (w.heap.size = b1) := hqb1
   rw [hqb1] at Kb1 ⊢
   clear hqb1
   have Hb1 := Kb1
   clear Kb1
   have Hb2 := Kb2
   clear Kb2
   have cb10 := kcl0 Hb1
   have cb11 := kcl1 Hb1
   go_upto_region 4 with (fail)
   clear cb10 cb11
   obtain ⟨Va402, hV⟩ : ∃ X, Va401.alloc (.cells #[.int .i64 (q1), .int .i64 (q2)] 26) = X := ⟨_, rfl⟩
   have hnew : Blk Va402 Va401.heap.size 26 #[.int .i64 (q1), .int .i64 (q2)] := by rw [← hV]; exact (Blk.new' _ _ _ rfl)
   have hz : Below Va401.heap.size Va401 Va402 := by rw [← hV]; exact ((Below.refl _ _).alloc (Nat.le_refl _) _)
   have hgn := HB.out.size
   have lb1 := Hb1.out.lt
   have lb2 := Hb2.out.lt
   rw [hV]
   obtain ⟨b4, hbx⟩ : ∃ b, Va401.heap.size = b := ⟨_, rfl⟩
   rw [hbx] at hnew hgn lb1 lb2 ⊢
   have gb4 : w.heap.size ≤ b4 := hgn
   have HZ := Lib.hid hz
   have nb1b4 : ¬ b1 = b4 := by omega
   have nb4b1 : ¬ b4 = b1 := by omega
   have nb2b4 : ¬ b2 = b4 := by omega
   have nb4b2 : ¬ b4 = b2 := by omega
   clear hV hz hgn hbx lb1 lb2
   replace Hb1 := kbl Hb1 HZ
   replace Hb2 := kbl Hb2 HZ
   replace HB := ktr' HB HZ
   clear HZ
   have Hb4 := Lib.hid hnew
   clear hnew
   have cb10 := kcl0 Hb1
   have cb11 := kcl1 Hb1
   have cb20 := kcl0 Hb2
   have cb21 := kcl1 Hb2
   have cb40 := kcl0 Hb4
   have cb41 := kcl1 Hb4
   have zb20 : Va402.frozen? ⟨b2, 0, none⟩ = false := Hb2.out.frozen 0
   have zb21 : Va402.frozen? ⟨b2, 1, none⟩ = false := Hb2.out.frozen 1
   have zb40 : Va402.frozen? ⟨b4, 0, none⟩ = false := Hb4.out.frozen 0
   have zb41 : Va402.frozen? ⟨b4, 1, none⟩ = false := Hb4.out.frozen 1
   go_wp2
   have MZ := ((Hb2.out.set_ 0 (.int .i64 (q1))).set_ 1 (.int .i64 (q2)))
   have rz0 := MZ.cell 0
   have rz1 := MZ.cell 1
   simp only [List.setIfInBounds_toArray, List.set_cons_zero, List.set_cons_succ, List.getElem?_toArray, List.getElem?_cons_zero, List.getElem?_cons_succ] at rz0 rz1
   refine bodyPost_ret (v := .tuple #[.agg #[.int .i64 (q1), .int .i64 (q2)], .int .i64 0]) (by simp [results, Tryd.results33, go_sem, rz0, rz1]) rfl ⟨rfl, ((HB.out.setCell (p := ⟨b2, 0, none⟩) gb2 _).setCell (p := ⟨b2, 1, none⟩) gb2 _)⟩
end Go.Proofs.YtdhcdgfpkjdihaaDoor.Sg

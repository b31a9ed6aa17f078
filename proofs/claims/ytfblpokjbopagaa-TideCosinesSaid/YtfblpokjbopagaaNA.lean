/-
  TideCosines returns true.
-/
import Derived.Test.YtfblpokjbopagaaMP
import Derived.Test.YtfblpokjbopagaaMQ
set_option linter.unusedSimpArgs false
set_option linter.unusedVariables false
namespace Go.Proofs.Ytfblpokjbopagaa
open Go.RowKit

set_option maxHeartbeats 2000000 in
theorem TideCosines_any (lo hi : Int) (w : World) :
    Calls Try.prog 3 #[.agg #[.int .i64 lo, .int .i64 hi]] w fun e w' => e = .returned (.bool true) ∧ Below w.heap.size w w' := by
  go_enter Try.func3, Try.ntmps3
  go_wp2_with fail
  refine (tCos_any lo hi _).mono ?_
  rintro e w1 ⟨rfl, hb⟩
  have I1 : Hid (Blk w1 w.heap.size 23 #[.int .i64 lo, .int .i64 hi]) := Blk.below (Blk.new' _ _ _ rfl) hb (by simp)
  have IB : Hid (Below w.heap.size w w1) := Below.trans (by exact (by repeat (first | exact Below.refl _ _ | assumption | refine Below.drew ?_ | refine Below.drewN' ?_ _ | (refine Below.alloc ?_ (by simp <;> omega) _) | (refine Below.setCell ?_ (by simp <;> omega) _)))) (hb.mono (by simp))
  clear hb
  obtain ⟨c0, c1, -, -⟩ := span_parts I1.out
  have l1 := I1.out.lt
  go_upto_region 2 with (fail)
  obtain ⟨V1, hV1⟩ : ∃ V, w1.alloc (.cells #[.int .i64 (cosV (lo, hi)).1, .int .i64 (cosV (lo, hi)).2] 23) = V := ⟨_, rfl⟩
  have J3 : Hid (Blk V1 w1.heap.size 23 #[.int .i64 (cosV (lo, hi)).1, .int .i64 (cosV (lo, hi)).2]) := by rw [← hV1]; exact Blk.new' _ _ _ rfl
  have hB1 : Below w1.heap.size w1 V1 := by rw [← hV1]; exact (Below.refl _ _).alloc (Nat.le_refl _) _
  rw [hV1]
  have J1 := Lib.hid (I1.out.below hB1 I1.out.lt)
  have JB := Lib.hid (IB.out.trans (hB1.mono IB.out.size))
  clear hV1 hB1 I1 IB c0 c1 l1
  obtain ⟨c0, c1, -, -⟩ := span_parts J1.out
  go_wp2_with fail
  refine (rCos_any lo hi _).mono ?_
  rintro e w2 ⟨rfl, hb⟩
  have I3 := Lib.hid (J3.out.below hb J3.out.lt)
  have IB := Lib.hid (JB.out.trans (hb.mono JB.out.size))
  clear J1 J3 JB hb c0 c1
  obtain ⟨c0, c1, -, -⟩ := span_parts I3.out
  have l3 := I3.out.lt
  generalize w1.heap.size = b3 at *
  go_upto_region 3 with (fail)
  obtain ⟨V2, hV2⟩ : ∃ V, w2.alloc (.cells #[.int .i64 (cosV (lo, hi)).1, .int .i64 (cosV (lo, hi)).2] 23) = V := ⟨_, rfl⟩
  have J5 : Hid (Blk V2 w2.heap.size 23 #[.int .i64 (cosV (lo, hi)).1, .int .i64 (cosV (lo, hi)).2]) := by rw [← hV2]; exact Blk.new' _ _ _ rfl
  have hB2 : Below w2.heap.size w2 V2 := by rw [← hV2]; exact (Below.refl _ _).alloc (Nat.le_refl _) _
  rw [hV2]
  have J3 := Lib.hid (I3.out.below hB2 I3.out.lt)
  have JB := Lib.hid (IB.out.trans (hB2.mono IB.out.size))
  clear hV2 hB2 I3 IB c0 c1 l3
  obtain ⟨c0, c1, -, -⟩ := span_parts J3.out
  obtain ⟨d0, d1, -, -⟩ := span_parts J5.out
  go_wp2_with fail
  refine (works2_any _).mono ?_
  rintro e w3 ⟨rfl, hb⟩
  have IB := JB.out.trans (hb.mono JB.out.size)
  go_wp2
  go_ret
  exact ⟨rfl, IB⟩
end Go.Proofs.Ytfblpokjbopagaa
/-
  The law TideCosines returns true at every input, and its argument reads afterwards as before: at every span.
-/
namespace Go.Proofs.Ytfblpokjbopagaa.TideCosines
open Go.ChangeShapes Go.WideShapes Go.ChangeAt Go.WideMaps Go.WideElems Go.RowKit

set_option maxRecDepth 100000 in
theorem lifted (os : Os) (started : os.Started) (H : Type) (enc : TypeId × Value → H) :
    ReturnsInHanded {} Try.checked os 3 .any (Rows.tideCosinesSpec.pre6 enc Try.prog Try.f3 Rows.tideCosinesRow.domain false) (Rows.tideCosinesSpec.post enc Try.prog Try.f3 false true false false) := by
  refine returnsInHanded_of_change (C := Try.checked) own_ started (by kernel_rfl) Try.func3
    (ChangeSpec.witness6 (enc := enc) (C := Try.checked) false ⟨#[], #[.agg #[.int .i64 0, .int .i64 0]], []⟩ 8 (by kernel_rfl) (by kernel_rfl) (by kernel_rfl) (by kernel_rfl)) ?_
  intro W base args ds gs before hval0 hW hcnd _
  have hval : ∀ (j : Nat) t v, Try.f3.params[j]? = some t → args[j]? = some v → Value.okWide Try.prog W .any base t v := hval0
  have hW' := hW
  obtain ⟨p, q, hA0, hV, rfl, hfz, hnd⟩ := hW
  have hA : DataW.TrodAll enc Try.prog W 0 (fun _ => true) true Try.f3.params.toList args.toList ds p := hA0
  rw [Try.params3] at hA hval
  obtain ⟨v0, vs0, d0, ds0, p0, q0, hargs, rfl, rfl, h0, r0⟩ := trodAll_cons hA
  obtain ⟨rfl, rfl, rfl⟩ := trodAll_nil r0
  obtain rfl : args = #[v0] := by cases args; simp_all
  obtain ⟨rfl, rfl⟩ := trodVars_none hV
  obtain ⟨lo0, hi0, rfl⟩ := span_open (hval 0 23 v0 rfl rfl) h0
  clear hA0 hval0
  simp only [List.append_nil] at hW'
  have hlt : ∀ x ∈ p0, x.block < W.heap.size := fun x hx => by simpa using hW'.lt x (by simpa using hx)
  have k0 : ∀ x ∈ p0, x.block < W.heap.size := fun x hx => hlt x (by simp [hx])
  refine (TideCosines_any lo0 hi0 W).mono ?_
  rintro e W' ⟨rfl, bel⟩
  refine ⟨_, rfl, _, _, _, [], (p0 ++ []), [], hW', ?_, ?_, ?_, bel.frame _, fun h => by cases h⟩
  · exact trodAll_mk1 (shut_bool Try.underlying4 true)
  · exact (trodAll_cons_mk (Below.trod laid_out (by kernel_rfl) (of_decide_eq_true (by kernel_rfl)) h0 bel k0) trodAll_mk0)
  · rfl
set_option maxRecDepth 100000 in
theorem over : Rows.tideCosinesRow.holds Try.pinned (OpenSpec.ofChange Rows.tideCosinesSpec) :=
  OpenClaim.holds_of_wide 3 Try.f3 rfl rfl rfl rfl rfl rfl rfl ⟨rfl, rfl, rfl, rfl, rfl⟩ rfl rfl rfl rfl rfl (by kernel_rfl) Try.func3 (by kernel_rfl)
    (of_decide_eq_true (by kernel_rfl)) (by unfold Func.isWrapper; first | (rw [if_pos (by decide +kernel)]; kernel_rfl) | (rw [if_neg (by decide +kernel)]; exact ⟨rfl, rfl⟩))
    (fun os started H enc _ => lifted os started H enc)
end Go.Proofs.Ytfblpokjbopagaa.TideCosines
namespace Go.Proofs.Ytfblpokjbopagaa
theorem TideCosines_row : Rows.TideCosinesSaid := TideCosines.over
#print axioms TideCosines_row
end Go.Proofs.Ytfblpokjbopagaa

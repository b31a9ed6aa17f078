/-
  SurgePoints: steady levels of points are narrow, opposite setups are opposite, and without wind they are 0.
-/
import Derived.Test.YtdhcdgfpkjdihaaDoorYL3j
import Derived.Test.YtdhcdgfpkjdihaaDoorYW3d
import Derived.Test.YtdhcdgfpkjdihaaDoorTie
import Derived.Test.YtdhcdgfpkjdihaaDoorCards
set_option linter.unusedSimpArgs false
set_option linter.unusedVariables false
namespace Go.Proofs.YtdhcdgfpkjdihaaDoor.Sg
open Go.ChangeShapes Go.WideShapes Go.ChangeAt Go.WideMaps Go.WideElems Go.RowKit Go.Shelf
namespace SurgePoints
set_option maxRecDepth 100000 in
theorem lifted (os : Os) (started : os.Started) (H : Type) (enc : TypeId × Value → H) :
 ReturnsInHanded {} Tryd.checked os 10 .any (fun w args => (Rows.surgePointsSpec.pre enc Tryd.prog Tryd.f10 [] false w args ∧ laidMetH Tryd.prog laidL w) ∧ sizedMet enc Tryd.prog Tryd.f10 (OpenSpec.ofChange Rows.surgePointsSpec) false w args)
  (Rows.surgePointsSpec.post enc Tryd.prog Tryd.f10 false true false false) := by
 refine ret_shaped (s := Rows.surgePointsSpec) (conds := []) started (by kernel_rfl) Tryd.func10 #[.agg #[.int .i64 0, .int .i64 0, .int .i64 0, .slice none 0 0, .int .i64 0, .int .i64 0, .int .i64 0, .int .i64 0, .int .i64 0, .int .i64 0, .int .i64 0, .int .i64 0], .agg #[.int .i64 0, .int .i64 0], .agg #[.int .i64 0, .int .i64 0], .int .i64 0] (by kernel_rfl) (by kernel_rfl) (by kernel_rfl) ?_
 intro W base args ds gs before hval0 hW hlv
 have hval : ∀ (j : Nat) t v, Tryd.f10.params[j]? = some t → args[j]? = some v → Value.okWide Tryd.prog W .any base t v := hval0
 have hW' := hW
 obtain ⟨p, q, hA0, hV, rfl, _, _⟩ := hW
 have hA : DataW.TrodAll enc Tryd.prog W 0 (fun _ => true) true Tryd.f10.params.toList args.toList ds p := hA0
 rw [Tryd.params10] at hA hval
 obtain ⟨v0, v1, v2, v3, d0, d1, d2, d3, p0, p1, p2, p3, rfl, rfl, rfl, h0, h1, h2, h3⟩ := trodAll_four hA
 obtain ⟨rfl, rfl⟩ := trodVars_none hV
 obtain ⟨lo1, hi1, rfl⟩ := span_open (hval 1 26 v1 rfl rfl) h1
 obtain ⟨lo2, hi2, rfl⟩ := span_open (hval 2 26 v2 rfl rfl) h2
 obtain ⟨c3, rfl, _, _, _⟩ := open_int Tryd.underlying3 (hval 3 3 v3 rfl rfl) h3
 obtain ⟨W0, H0, S0, A0, c0, ss0, sa0, sb0, x01, x02, l01, l02, cell0, dir0, rfl, hs0⟩ := place_open (hval 0 30 v0 rfl rfl) h0
 clear hA0 hval0 hA
 simp only [List.append_nil] at hW'
 have hlt : ∀ x ∈ p0 ++ p1 ++ p2 ++ p3, x.block < W.heap.size := fun x hx => by simpa using hW'.lt x hx
 have k0 : ∀ x ∈ p0, x.block < W.heap.size := fun x hx => hlt x (by simp [hx])
 have k1 : ∀ x ∈ p1, x.block < W.heap.size := fun x hx => hlt x (by simp [hx])
 have k2 : ∀ x ∈ p2, x.block < W.heap.size := fun x hx => hlt x (by simp [hx])
 have k3 : ∀ x ∈ p3, x.block < W.heap.size := fun x hx => hlt x (by simp [hx])
 refine (SurgePoints_any W0 H0 S0 ss0 A0 c0 sa0 sb0 x01 x02 l01 l02 cell0 dir0 lo1 hi1 lo2 hi2 c3 W hlv hs0).mono ?_
 rintro e W' ⟨rfl, bel⟩
 refine ⟨_, rfl, _, _, _, [], (p0 ++ (p1 ++ (p2 ++ p3))), [], hW', ?_, ?_, ?_, bel.frame _, fun h => by cases h⟩
 · exact trodAll_mk1 (shut_bool Tryd.underlying4 true)
 · exact trodAll_mk4 (Below.trod laid_out (by kernel_rfl) (of_decide_eq_true (by kernel_rfl)) h0 bel k0) (Below.trod laid_out (by kernel_rfl) (of_decide_eq_true (by kernel_rfl)) h1 bel k1) (Below.trod laid_out (by kernel_rfl) (of_decide_eq_true (by kernel_rfl)) h2 bel k2) (Below.trod laid_out (by kernel_rfl) (of_decide_eq_true (by kernel_rfl)) h3 bel k3)
 · rfl
set_option maxRecDepth 100000 in
theorem bare : Rows.SurgePointsSaid :=
 OpenClaim.holds_of_wide 10 Tryd.f10 rfl rfl rfl rfl rfl rfl rfl ⟨rfl, rfl, rfl, rfl, rfl⟩ rfl rfl rfl rfl rfl (by kernel_rfl) Tryd.func10 (by kernel_rfl)
  (of_decide_eq_true (by kernel_rfl)) (by unfold Func.isWrapper; first | (rw [if_pos (by decide +kernel)]; kernel_rfl) | (rw [if_neg (by decide +kernel)]; exact ⟨rfl, rfl⟩))
  (fun os started H enc _ => lifted os started H enc)
end SurgePoints
set_option maxRecDepth 100000 in
theorem SurgePoints_tied : Rows.SurgePointsCardSaid :=
 Claim7.holds_tied_plain_at .later [] [.data] true _ false
  SurgePoints.bare (fun _ h => by cases h) (by kernel_rfl) (fun _ h => by cases h) surgePoints_row_tie rfl ⟨rfl, rfl⟩ (by kernel_rfl) rfl
  (fun f fn hf hfn => by
   obtain rfl : f = 10 := Option.some.inj ((show Tryd.prog.funcNamed "tidewall/tidewalllaw03.SurgePoints" = some 10 by kernel_rfl).symm.trans hf) |>.symm
   obtain rfl : fn = Tryd.f10 := (Option.some.inj (Tryd.func10.symm.trans hfn)).symm
   exact ⟨by kernel_rfl, fun j t ht => by
    rw [Tryd.params10] at ht
    have hm : t ∈ [30, 26, 26, 3] := by simpa using Array.mem_of_getElem? ht
    have hall : ([30, 26, 26, 3].all fun u => !Tryd.prog.wantsStandIn u) = true := by kernel_rfl
    exact (show Tryd.prog.wantsStandIn t = false by simpa using List.all_eq_true.1 hall t hm)⟩)
  (by kernel_rfl)
end Go.Proofs.YtdhcdgfpkjdihaaDoor.Sg
namespace Go.Proofs.YtdhcdgfpkjdihaaDoor
theorem SurgePoints_card : Rows.SurgePointsCardSaid := Sg.SurgePoints_tied
#print axioms SurgePoints_card
end Go.Proofs.YtdhcdgfpkjdihaaDoor

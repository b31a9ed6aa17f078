/-
  SurgeRuns: Run and Centimetres return what the document says.
-/
import Derived.Test.YtdhcdgfpkjdihaaDoorVL4c
import Derived.Test.YtdhcdgfpkjdihaaDoorVW3d
import Derived.Test.YtdhcdgfpkjdihaaDoorTie
import Derived.Test.YtdhcdgfpkjdihaaDoorCards
set_option linter.unusedSimpArgs false
set_option linter.unusedVariables false
namespace Go.Proofs.YtdhcdgfpkjdihaaDoor.Sg
open Go.ChangeShapes Go.WideShapes Go.ChangeAt Go.WideMaps Go.WideElems Go.RowKit Go.Shelf
namespace SurgeRuns
set_option maxRecDepth 100000 in
theorem lifted (os : Os) (started : os.Started) (H : Type) (enc : TypeId × Value → H) :
 ReturnsInHanded {} Tryd.checked os 5 .any (fun w args => (Rows.surgeRunsSpec.pre enc Tryd.prog Tryd.f5 [] false w args ∧ laidMetH Tryd.prog laidL w) ∧ sizedMet enc Tryd.prog Tryd.f5 (OpenSpec.ofChange Rows.surgeRunsSpec) false w args)
  (Rows.surgeRunsSpec.post enc Tryd.prog Tryd.f5 false true false false) := by
 refine ret_shaped (s := Rows.surgeRunsSpec) (conds := []) started (by kernel_rfl) Tryd.func5 #[.agg #[.int .i64 0, .int .i64 0, .int .i64 0, .slice none 0 0, .int .i64 0, .int .i64 0, .int .i64 0, .int .i64 0, .int .i64 0, .int .i64 0, .int .i64 0, .int .i64 0], .agg #[.int .i64 0, .int .i64 0], .slice none 0 0] (by kernel_rfl) (by kernel_rfl) (by kernel_rfl) ?_
 intro W base args ds gs before hval0 hW hlv
 have hval : ∀ (j : Nat) t v, Tryd.f5.params[j]? = some t → args[j]? = some v → Value.okWide Tryd.prog W .any base t v := hval0
 have hW' := hW
 obtain ⟨p, q, hA0, hV, rfl, _, _⟩ := hW
 have hA : DataW.TrodAll enc Tryd.prog W 0 (fun _ => true) true Tryd.f5.params.toList args.toList ds p := hA0
 rw [Tryd.params5] at hA hval
 obtain ⟨v0, v1, v2, d0, d1, d2, p0, p1, p2, rfl, rfl, rfl, h0, h1, h2⟩ := trodAll_three hA
 obtain ⟨rfl, rfl⟩ := trodVars_none hV
 obtain ⟨lo1, hi1, rfl, lb1, hb1⟩ := span_openB (hval 1 26 v1 rfl rfl) h1
 obtain ⟨W0, H0, S0, A0, c0, ss0, sa0, sb0, x01, x02, l01, l02, cell0, dir0, rfl, hs0⟩ := place_open (hval 0 30 v0 rfl rfl) h0
 obtain ⟨A2, c2, l2, rfl, hl2⟩ := winds_open (hval 2 52 v2 rfl rfl) h2
 clear hA0 hval0 hA
 simp only [List.append_nil] at hW'
 have hlt : ∀ x ∈ p0 ++ p1 ++ p2, x.block < W.heap.size := fun x hx => by simpa using hW'.lt x hx
 have k0 : ∀ x ∈ p0, x.block < W.heap.size := fun x hx => hlt x (by simp [hx])
 have k1 : ∀ x ∈ p1, x.block < W.heap.size := fun x hx => hlt x (by simp [hx])
 have k2 : ∀ x ∈ p2, x.block < W.heap.size := fun x hx => hlt x (by simp [hx])
 refine (SurgeRuns_any W0 H0 S0 ss0 A0 c0 sa0 sb0 x01 x02 l01 l02 cell0 dir0 lo1 hi1 A2 c2 l2 W hlv hs0 hl2 lb1 hb1).mono ?_
 rintro e W' ⟨rfl, bel⟩
 refine ⟨_, rfl, _, _, _, [], (p0 ++ (p1 ++ p2)), [], hW', ?_, ?_, ?_, bel.frame _, fun h => by cases h⟩
 · exact trodAll_mk1 (shut_bool Tryd.underlying4 true)
 · exact trodAll_mk3 (Below.trod laid_out (by kernel_rfl) (of_decide_eq_true (by kernel_rfl)) h0 bel k0) (Below.trod laid_out (by kernel_rfl) (of_decide_eq_true (by kernel_rfl)) h1 bel k1) (Below.trod laid_out (by kernel_rfl) (of_decide_eq_true (by kernel_rfl)) h2 bel k2)
 · rfl
set_option maxRecDepth 100000 in
theorem bare : Rows.SurgeRunsSaid :=
 OpenClaim.holds_of_wide 5 Tryd.f5 rfl rfl rfl rfl rfl rfl rfl ⟨rfl, rfl, rfl, rfl, rfl⟩ rfl rfl rfl rfl rfl (by kernel_rfl) Tryd.func5 (by kernel_rfl)
  (of_decide_eq_true (by kernel_rfl)) (by unfold Func.isWrapper; first | (rw [if_pos (by decide +kernel)]; kernel_rfl) | (rw [if_neg (by decide +kernel)]; exact ⟨rfl, rfl⟩))
  (fun os started H enc _ => lifted os started H enc)
end SurgeRuns
set_option maxRecDepth 100000 in
theorem SurgeRuns_tied : Rows.SurgeRunsCardSaid :=
 Claim7.holds_tied_plain_at .later [] [.data] true _ false
  SurgeRuns.bare (fun _ h => by cases h) (by kernel_rfl) (fun _ h => by cases h) surgeRuns_row_tie rfl ⟨rfl, rfl⟩ (by kernel_rfl) rfl
  (fun f fn hf hfn => by
   obtain rfl : f = 5 := Option.some.inj ((show Tryd.prog.funcNamed "tidewall/tidewalllaw03.SurgeRuns" = some 5 by kernel_rfl).symm.trans hf) |>.symm
   obtain rfl : fn = Tryd.f5 := (Option.some.inj (Tryd.func5.symm.trans hfn)).symm
   exact ⟨by kernel_rfl, fun j t ht => by
    rw [Tryd.params5] at ht
    have hm : t ∈ [30, 26, 52] := by simpa using Array.mem_of_getElem? ht
    have hall : ([30, 26, 52].all fun u => !Tryd.prog.wantsStandIn u) = true := by kernel_rfl
    exact (show Tryd.prog.wantsStandIn t = false by simpa using List.all_eq_true.1 hall t hm)⟩)
  (by kernel_rfl)
end Go.Proofs.YtdhcdgfpkjdihaaDoor.Sg
namespace Go.Proofs.YtdhcdgfpkjdihaaDoor
theorem SurgeRuns_card : Rows.SurgeRunsCardSaid := Sg.SurgeRuns_tied
#print axioms SurgeRuns_card
end Go.Proofs.YtdhcdgfpkjdihaaDoor

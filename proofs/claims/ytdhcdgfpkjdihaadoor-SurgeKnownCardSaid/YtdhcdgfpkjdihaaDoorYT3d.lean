/-
  SurgeKnown: the examples of the chapter come out as the chapter says.
-/
import Derived.Test.YtdhcdgfpkjdihaaDoorYL3i
import Derived.Test.YtdhcdgfpkjdihaaDoorYW3a
import Derived.Test.YtdhcdgfpkjdihaaDoorTie
import Derived.Test.YtdhcdgfpkjdihaaDoorCards
set_option linter.unusedSimpArgs false
set_option linter.unusedVariables false
namespace Go.Proofs.YtdhcdgfpkjdihaaDoor.Sg
open Go.ChangeShapes Go.WideShapes Go.ChangeAt Go.WideMaps Go.WideElems Go.RowKit Go.Shelf
namespace SurgeKnown
set_option maxRecDepth 100000 in
theorem lifted (os : Os) (started : os.Started) (H : Type) (enc : TypeId × Value → H) :
 ReturnsInHanded {} Tryd.checked os 14 .any (fun w args => (Rows.surgeKnownSpec.pre enc Tryd.prog Tryd.f14 [] false w args ∧ laidMetH Tryd.prog laidL w) ∧ sizedMet enc Tryd.prog Tryd.f14 (OpenSpec.ofChange Rows.surgeKnownSpec) false w args)
  (Rows.surgeKnownSpec.post enc Tryd.prog Tryd.f14 false true false false) := by
 refine ret_shaped (s := Rows.surgeKnownSpec) (conds := []) started (by kernel_rfl) Tryd.func14 #[] (by kernel_rfl) (by kernel_rfl) (by kernel_rfl) ?_
 intro W base args ds gs before hval0 hW hlv
 have hval : ∀ (j : Nat) t v, Tryd.f14.params[j]? = some t → args[j]? = some v → Value.okWide Tryd.prog W .any base t v := hval0
 have hW' := hW
 obtain ⟨p, q, hA0, hV, rfl, _, _⟩ := hW
 have hA : DataW.TrodAll enc Tryd.prog W 0 (fun _ => true) true Tryd.f14.params.toList args.toList ds p := hA0
 rw [Tryd.params14] at hA hval
 obtain ⟨rfl, rfl, rfl⟩ := trodAll_none hA
 obtain ⟨rfl, rfl⟩ := trodVars_none hV
 clear hA0 hval0 hA
 simp only [List.append_nil] at hW'
 refine (SurgeKnown_any W hlv).mono ?_
 rintro e W' ⟨rfl, bel⟩
 refine ⟨_, rfl, _, _, _, [], [], [], hW', ?_, ?_, ?_, bel.frame _, fun h => by cases h⟩
 · exact trodAll_mk1 (shut_bool Tryd.underlying4 true)
 · exact trodAll_mk0
 · rfl
set_option maxRecDepth 100000 in
theorem bare : Rows.SurgeKnownSaid :=
 OpenClaim.holds_of_wide 14 Tryd.f14 rfl rfl rfl rfl rfl rfl rfl ⟨rfl, rfl, rfl, rfl, rfl⟩ rfl rfl rfl rfl rfl (by kernel_rfl) Tryd.func14 (by kernel_rfl)
  (of_decide_eq_true (by kernel_rfl)) (by unfold Func.isWrapper; first | (rw [if_pos (by decide +kernel)]; kernel_rfl) | (rw [if_neg (by decide +kernel)]; exact ⟨rfl, rfl⟩))
  (fun os started H enc _ => lifted os started H enc)
end SurgeKnown
set_option maxRecDepth 100000 in
theorem SurgeKnown_tied : Rows.SurgeKnownCardSaid :=
 Claim7.holds_tied_plain_at .later [] [.data] true _ false
  SurgeKnown.bare (fun _ h => by cases h) (by kernel_rfl) (fun _ h => by cases h) surgeKnown_row_tie rfl ⟨rfl, rfl⟩ (by kernel_rfl) rfl
  (fun f fn hf hfn => by
   obtain rfl : f = 14 := Option.some.inj ((show Tryd.prog.funcNamed "tidewall/tidewalllaw03.SurgeKnown" = some 14 by kernel_rfl).symm.trans hf) |>.symm
   obtain rfl : fn = Tryd.f14 := (Option.some.inj (Tryd.func14.symm.trans hfn)).symm
   exact ⟨by kernel_rfl, fun j t ht => by
    rw [Tryd.params14] at ht
    exact absurd ht (by simp)⟩)
  (by kernel_rfl)
end Go.Proofs.YtdhcdgfpkjdihaaDoor.Sg
namespace Go.Proofs.YtdhcdgfpkjdihaaDoor
theorem SurgeKnown_card : Rows.SurgeKnownCardSaid := Sg.SurgeKnown_tied
#print axioms SurgeKnown_card
end Go.Proofs.YtdhcdgfpkjdihaaDoor
